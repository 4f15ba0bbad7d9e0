package trade

import (
	"math"
	"math/big"
	"math/rand/v2"
	"slices"
	"testing"

	"cambist/api"
)

const (
	least = math.MinInt
	most  = math.MaxInt
)

// some is a right roll with members of all states and gaps in its numbers.
func some() api.Roll {
	return api.Roll{
		Members: []api.Member{{No: 1, State: api.Active}, {No: 2, State: api.Active, Need: 7}, {No: 4, State: api.Defaulted}, {No: 5, State: api.Defaulted}, {No: 7, State: api.Closed}, {No: 8, State: api.Closed}, {No: 16, State: api.Active}},
		Insts:   []api.Inst{{No: 1, Mult: 1}, {No: 3, Cur: 2, Mult: 1024, Set: 5, Price: 6}, {No: 8, Mult: 2}},
		Assets:  []api.Asset{{No: 6, Price: 1}},
	}
}

// good is a trade that some permits.
func good() api.Trade { return api.Trade{Buyer: 1, Seller: 2, Inst: 3, Qty: 5, Price: 10} }

// wrong are rolls that are not right, each in one thing only.
func wrong() []api.Roll {
	rolls := make([]api.Roll, 7)
	for k := range rolls {
		rolls[k] = some()
	}
	rolls[0].Members[6].State = 4
	rolls[1].Members[0], rolls[1].Members[1] = rolls[1].Members[1], rolls[1].Members[0]
	rolls[2].Members = slices.Insert(rolls[2].Members, 1, rolls[2].Members[0])
	rolls[3].Insts[1].Mult = 0
	rolls[4].Insts[2].Shifts[5] = 1<<30 + 1
	rolls[5].Insts[1], rolls[5].Insts[2] = rolls[5].Insts[2], rolls[5].Insts[1]
	rolls[6].Assets[0].Cut = 10001
	return rolls
}

// qtys and prices are quantities and prices at the ends between which they may
// be, and beyond them: the ends of int, and what is right but for its upper
// bits.
func qtys() []int {
	return []int{1, 2, 5, 1<<20 - 1, 1 << 20, 0, -1, -5, -1 << 20, 1<<20 + 1, 1 << 21, 1 << 30, 1<<32 + 1, 1<<63 - 1<<32 + 5, least + 1, least, most}
}

func prices() []int {
	return []int{1, 2, 10, 1 << 20, 1<<30 - 1, 1 << 30, 0, -1, -10, -1 << 30, 1<<30 + 1, 1 << 31, 1<<32 + 1, 1<<63 - 1<<32 + 10, least + 1, least, most}
}

// numbers are all numbers of members and instruments, and others.
func numbers() []int {
	l := []int{least, least + 1, -1 << 32, 1<<32 + 1, 1<<32 + 3, most}
	for no := -2; no <= 18; no++ {
		l = append(l, no)
	}
	return l
}

// sized reports whether Qty and Price are what they may be.
func sized(t api.Trade) bool {
	return t.Qty >= 1 && t.Qty <= 1048576 && t.Price >= 1 && t.Price <= 1073741824
}

// exactCheck is P12.1, word by word, for a right roll.
func exactCheck(r api.Roll, t api.Trade) api.Errno {
	states, listed := map[int]int{}, map[int]bool{}
	for _, m := range r.Members {
		states[m.No] = m.State
	}
	for _, i := range r.Insts {
		listed[i.No] = true
	}
	switch {
	case !sized(t):
		return api.ErrArg
	case !listed[t.Inst] || states[t.Buyer] == 0 || states[t.Seller] == 0:
		return api.ErrNone
	case t.Buyer == t.Seller:
		return api.ErrSelf
	case states[t.Buyer] != 1 || states[t.Seller] != 1:
		return api.ErrState
	}
	return api.OK
}

// TestCheckByHand is P12.1: trades with the answers written out.
func TestCheckByHand(t *testing.T) {
	for i, x := range []struct {
		turn func(*api.Trade)
		e    api.Errno
	}{
		{func(x *api.Trade) {}, api.OK},
		{func(x *api.Trade) { x.Buyer, x.Seller = 2, 1 }, api.OK},
		{func(x *api.Trade) { x.Seller, x.Inst = 16, 8 }, api.OK},
		{func(x *api.Trade) { x.Qty, x.Price = 1, 1 }, api.OK},
		{func(x *api.Trade) { x.Qty, x.Price = 1<<20, 1<<30 }, api.OK},
		{func(x *api.Trade) { x.Qty = 0 }, api.ErrArg},
		{func(x *api.Trade) { x.Qty = -5 }, api.ErrArg},
		{func(x *api.Trade) { x.Qty = 1<<20 + 1 }, api.ErrArg},
		{func(x *api.Trade) { x.Price = 0 }, api.ErrArg},
		{func(x *api.Trade) { x.Price = -10 }, api.ErrArg},
		{func(x *api.Trade) { x.Price = 1<<30 + 1 }, api.ErrArg},
		{func(x *api.Trade) { x.Inst = 2 }, api.ErrNone},
		{func(x *api.Trade) { x.Inst = 0 }, api.ErrNone},
		{func(x *api.Trade) { x.Buyer = 3 }, api.ErrNone},
		{func(x *api.Trade) { x.Seller = 0 }, api.ErrNone},
		{func(x *api.Trade) { x.Seller = 1 }, api.ErrSelf},
		{func(x *api.Trade) { x.Buyer = 4 }, api.ErrState},
		{func(x *api.Trade) { x.Seller = 4 }, api.ErrState},
		{func(x *api.Trade) { x.Buyer = 7 }, api.ErrState},
		{func(x *api.Trade) { x.Seller = 7 }, api.ErrState},
		{func(x *api.Trade) { x.Buyer, x.Seller = 4, 8 }, api.ErrState},
	} {
		y := good()
		x.turn(&y)
		if e := Check(some(), y); e != x.e {
			t.Errorf("%d: Check of %v = %d, not %d", i, y, e, x.e)
		}
	}
}

// TestCheckOrder is P12.1: the errors in their order, each of them with the
// causes of all later ones in the same trade.
func TestCheckOrder(t *testing.T) {
	for _, x := range []struct {
		r api.Roll
		t api.Trade
		e api.Errno
	}{
		{wrong()[3], api.Trade{Buyer: 9, Seller: 9, Inst: 9}, api.ErrState},
		{wrong()[6], api.Trade{Buyer: 1, Seller: 1, Inst: 3, Qty: 5, Price: 10}, api.ErrState},
		{some(), api.Trade{Buyer: 9, Seller: 9, Inst: 9}, api.ErrArg},
		{some(), api.Trade{Buyer: 4, Seller: 4, Inst: 9, Price: 10}, api.ErrArg},
		{some(), api.Trade{Buyer: 4, Seller: 4, Inst: 3, Qty: 5}, api.ErrArg},
		{some(), api.Trade{Buyer: 4, Seller: 4, Inst: 9, Qty: 5, Price: 10}, api.ErrNone},
		{some(), api.Trade{Buyer: 9, Seller: 9, Inst: 3, Qty: 5, Price: 10}, api.ErrNone},
		{some(), api.Trade{Buyer: 4, Seller: 9, Inst: 3, Qty: 5, Price: 10}, api.ErrNone},
		{some(), api.Trade{Buyer: 9, Seller: 7, Inst: 3, Qty: 5, Price: 10}, api.ErrNone},
		{some(), api.Trade{Buyer: 4, Seller: 4, Inst: 3, Qty: 5, Price: 10}, api.ErrSelf},
		{some(), api.Trade{Buyer: 7, Seller: 7, Inst: 3, Qty: 5, Price: 10}, api.ErrSelf},
		{api.Roll{}, api.Trade{}, api.ErrArg},
		{api.Roll{}, good(), api.ErrNone},
	} {
		if e := Check(x.r, x.t); e != x.e {
			t.Errorf("Check(%v, %v) = %d, not %d", x.r, x.t, e, x.e)
		}
	}
}

// TestCheckAll is P12.1: all members, instruments, quantities and prices at
// their edges, with one another.
func TestCheckAll(t *testing.T) {
	for _, buyer := range numbers() {
		for _, seller := range numbers() {
			for _, inst := range numbers() {
				for _, size := range [][2]int{{5, 10}, {0, 10}, {5, 0}} {
					holdCheck(t, some(), api.Trade{Buyer: buyer, Seller: seller, Inst: inst, Qty: size[0], Price: size[1]})
				}
			}
		}
	}
	for _, qty := range qtys() {
		for _, price := range prices() {
			for _, who := range [][2]int{{1, 2}, {1, 1}, {4, 1}, {1, 3}} {
				holdCheck(t, some(), api.Trade{Buyer: who[0], Seller: who[1], Inst: 3, Qty: qty, Price: price})
			}
		}
	}
}

// holdCheck holds Check against the chapter's words.
func holdCheck(t *testing.T, r api.Roll, x api.Trade) {
	t.Helper()
	if e, want := Check(r, x), exactCheck(r, x); e != want {
		t.Errorf("Check of %v = %d, not %d", x, e, want)
	}
}

// TestCheckStates is P12.1: all states of all members, buying and selling.
func TestCheckStates(t *testing.T) {
	for of := range 9 {
		r := api.Roll{Members: []api.Member{{No: 1, State: 1 + of%3}, {No: 2, State: 1 + of/3}}, Insts: []api.Inst{{No: 3, Mult: 1}}}
		e := api.ErrState
		if of == 0 {
			e = api.OK
		}
		turned := good()
		turned.Buyer, turned.Seller = 2, 1
		for _, x := range []api.Trade{good(), turned} {
			if f := Check(r, x); f != e {
				t.Errorf("Check(%v, %v) = %d, not %d", r.Members, x, f, e)
			}
		}
	}
}

// TestCheckRoll is P12.1: a roll that is not right comes before all else, also
// where the trade has nothing to do with what is not right.
func TestCheckRoll(t *testing.T) {
	for _, r := range wrong() {
		for _, x := range []api.Trade{good(), {}, {Buyer: 1, Seller: 1, Inst: 3, Qty: 1, Price: 1}, {Buyer: 9, Seller: 1, Inst: 3, Qty: 1, Price: 1}} {
			if e := Check(r, x); e != api.ErrState {
				t.Errorf("Check(%v, %v) = %d", r, x, e)
			}
		}
	}
}

// TestIgnored is P12.1 and P12.2: No and Off count for nothing.
func TestIgnored(t *testing.T) {
	for _, no := range numbers() {
		for _, off := range []bool{false, true} {
			for _, x := range []api.Trade{good(), {}, {Buyer: 1, Seller: 1, Inst: 3, Qty: 1, Price: 1}, {Buyer: 1, Seller: 4, Inst: 3, Qty: 1, Price: 1}} {
				y := x
				y.No, y.Off = no, off
				if Check(some(), x) != Check(some(), y) || !slices.Equal(Legs(x), Legs(y)) || !slices.Equal(Undo(x), Undo(y)) {
					t.Errorf("%v is not as %v", y, x)
				}
			}
		}
	}
}

// exactLegs is P12.2, word by word; sign is -1 for what takes them back.
func exactLegs(t api.Trade, sign int64) []api.Pos {
	if !sized(t) {
		return nil
	}
	times := func(l ...int64) int {
		n := big.NewInt(1)
		for _, f := range l {
			n.Mul(n, big.NewInt(f))
		}
		return int(n.Int64())
	}
	qty, price := int64(t.Qty), int64(t.Price)
	return []api.Pos{
		{Key: api.Key{Who: t.Buyer, Inst: t.Inst}, Qty: times(sign, qty), Cost: times(sign, qty, price)},
		{Key: api.Key{Who: t.Seller, Inst: t.Inst}, Qty: times(sign, -1, qty), Cost: times(sign, -1, qty, price)},
	}
}

// TestLegsByHand is P12.2: the buyer's leg and then the seller's, at the edges
// written out.
func TestLegsByHand(t *testing.T) {
	pos := func(who, inst, qty, cost int) api.Pos {
		return api.Pos{Key: api.Key{Who: who, Inst: inst}, Qty: qty, Cost: cost}
	}
	for _, x := range []struct {
		t api.Trade
		l []api.Pos
	}{
		{good(), []api.Pos{pos(1, 3, 5, 50), pos(2, 3, -5, -50)}},
		{api.Trade{Buyer: 2, Seller: 1, Inst: 4, Qty: 1, Price: 1}, []api.Pos{pos(2, 4, 1, 1), pos(1, 4, -1, -1)}},
		{api.Trade{Buyer: 16, Seller: 9, Inst: 8, Qty: 1 << 20, Price: 1 << 30}, []api.Pos{pos(16, 8, 1<<20, 1<<50), pos(9, 8, -1<<20, -1<<50)}},
		{api.Trade{Buyer: -7, Seller: -7, Inst: least, Qty: 2, Price: 3}, []api.Pos{pos(-7, least, 2, 6), pos(-7, least, -2, -6)}},
		{api.Trade{Buyer: 1, Seller: 2, Inst: 3, Qty: 5}, nil},
		{api.Trade{Buyer: 1, Seller: 2, Inst: 3, Price: 10}, nil},
		{api.Trade{Buyer: 1, Seller: 2, Inst: 3, Qty: 1<<20 + 1, Price: 10}, nil},
		{api.Trade{Buyer: 1, Seller: 2, Inst: 3, Qty: 5, Price: 1<<30 + 1}, nil},
		{api.Trade{Buyer: 1, Seller: 2, Inst: 3, Qty: -5, Price: 10}, nil},
		{api.Trade{Buyer: 1, Seller: 2, Inst: 3, Qty: -5, Price: -10}, nil},
		{api.Trade{}, nil},
	} {
		if l := Legs(x.t); !slices.Equal(l, x.l) {
			t.Errorf("Legs(%v) = %v, not %v", x.t, l, x.l)
		}
		back := slices.Clone(x.l)
		for k := range back {
			back[k].Qty, back[k].Cost = -back[k].Qty, -back[k].Cost
		}
		if l := Undo(x.t); !slices.Equal(l, back) {
			t.Errorf("Undo(%v) = %v, not %v", x.t, l, back)
		}
	}
}

// TestLegsAll is P12.2 and P12.4: quantities and prices at all edges, whoever
// trades whatever.
func TestLegsAll(t *testing.T) {
	for _, qty := range qtys() {
		for _, price := range prices() {
			for k, who := range numbers() {
				holdLegs(t, api.Trade{Buyer: who, Seller: numbers()[(3*k+qty&7)%27], Inst: numbers()[(5*k+price&7)%27], Qty: qty, Price: price})
			}
		}
	}
}

// TestLegsRandom is P12.2 and P12.4: trades of all sizes.
func TestLegsRandom(t *testing.T) {
	rnd := rand.New(rand.NewPCG(12, 1))
	for range 20000 {
		x := api.Trade{Buyer: rnd.IntN(20) - 2, Seller: rnd.IntN(20) - 2, Inst: rnd.IntN(12) - 2, No: rnd.Int(), Off: rnd.IntN(2) == 0}
		x.Qty, x.Price = rnd.IntN(1<<21>>rnd.IntN(21)), rnd.IntN(1<<31>>rnd.IntN(31))
		holdLegs(t, x)
		holdCheck(t, some(), x)
	}
}

// holdLegs holds Legs and Undo against the chapter's words.
func holdLegs(t *testing.T, x api.Trade) {
	t.Helper()
	legs, back := Legs(x), Undo(x)
	if want := exactLegs(x, 1); !slices.Equal(legs, want) {
		t.Errorf("Legs(%v) = %v, not %v", x, legs, want)
	}
	if want := exactLegs(x, -1); !slices.Equal(back, want) {
		t.Errorf("Undo(%v) = %v, not %v", x, back, want)
	}
	for _, l := range [][]api.Pos{legs, back} {
		if qty, cost, e := Sum(l...); qty != 0 || cost != 0 || e != api.OK {
			t.Errorf("the legs of %v add up to %d, %d, %d", x, qty, cost, e)
		}
	}
	left := map[api.Key][2]int{}
	for _, l := range slices.Concat(legs, back) {
		n := left[l.Key]
		left[l.Key] = [2]int{n[0] + l.Qty, n[1] + l.Cost}
	}
	for k, n := range left {
		if n != [2]int{} {
			t.Errorf("%v has %v left of %v", k, n, x)
		}
	}
}

// exactSum is P12.3, word by word.
func exactSum(legs ...api.Pos) (int, int, api.Errno) {
	bound := new(big.Int).Lsh(big.NewInt(1), 62)
	money := func(n *big.Int) bool { return n.CmpAbs(bound) <= 0 }
	qty, cost := new(big.Int), new(big.Int)
	for _, l := range legs {
		q, c := big.NewInt(int64(l.Qty)), big.NewInt(int64(l.Cost))
		if !money(q) || !money(c) {
			return 0, 0, api.ErrArg
		}
		qty.Add(qty, q)
		cost.Add(cost, c)
	}
	if !money(qty) || !money(cost) {
		return 0, 0, api.ErrBig
	}
	return int(qty.Int64()), int(cost.Int64()), api.OK
}

// holdSum holds Sum against the chapter's words.
func holdSum(t *testing.T, legs ...api.Pos) {
	t.Helper()
	qty, cost, e := Sum(legs...)
	wantQty, wantCost, want := exactSum(legs...)
	if qty != wantQty || cost != wantCost || e != want {
		t.Errorf("Sum(%v) = %d, %d, %d, not %d, %d, %d", legs, qty, cost, e, wantQty, wantCost, want)
	}
}

// of is a leg without a key.
func of(qty, cost int) api.Pos { return api.Pos{Qty: qty, Cost: cost} }

// TestSumByHand is P12.3: sums with the answers written out. A leg that may
// not be comes before a sum that may not, wherever it stands, and a part of a
// sum may be whatever it is.
func TestSumByHand(t *testing.T) {
	const b = 1 << 62
	for _, x := range []struct {
		l         []api.Pos
		qty, cost int
		e         api.Errno
	}{
		{nil, 0, 0, api.OK},
		{[]api.Pos{}, 0, 0, api.OK},
		{[]api.Pos{of(0, 0)}, 0, 0, api.OK},
		{[]api.Pos{of(7, -3)}, 7, -3, api.OK},
		{[]api.Pos{of(1, -3), of(5, 7)}, 6, 4, api.OK},
		{[]api.Pos{of(b, -b)}, b, -b, api.OK},
		{[]api.Pos{of(-b, b), of(0, 0)}, -b, b, api.OK},
		{[]api.Pos{of(b, 1), of(b, 2), of(b, 3), of(-b, 4), of(-b, 5)}, b, 15, api.OK},
		{[]api.Pos{of(1, b), of(2, b), of(3, b), of(4, -b), of(5, -b)}, 15, b, api.OK},
		{[]api.Pos{of(b, 0), of(1, 0)}, 0, 0, api.ErrBig},
		{[]api.Pos{of(0, b), of(0, 1)}, 0, 0, api.ErrBig},
		{[]api.Pos{of(-b, 0), of(-1, 0)}, 0, 0, api.ErrBig},
		{[]api.Pos{of(0, -b), of(0, -1)}, 0, 0, api.ErrBig},
		{[]api.Pos{of(b, b), of(b, b)}, 0, 0, api.ErrBig},
		{[]api.Pos{of(b, 5), of(b, 5), of(b, 5), of(b, 5)}, 0, 0, api.ErrBig},
		{[]api.Pos{of(b+1, 0)}, 0, 0, api.ErrArg},
		{[]api.Pos{of(-b-1, 0)}, 0, 0, api.ErrArg},
		{[]api.Pos{of(0, b+1)}, 0, 0, api.ErrArg},
		{[]api.Pos{of(0, -b-1)}, 0, 0, api.ErrArg},
		{[]api.Pos{of(most, 0), of(least, 0), of(1, 0)}, 0, 0, api.ErrArg},
		{[]api.Pos{of(b, 0), of(1, 0), of(0, least)}, 0, 0, api.ErrArg},
		{[]api.Pos{of(0, b), of(0, 1), of(most, 0)}, 0, 0, api.ErrArg},
		{[]api.Pos{of(b, most), of(b, 0)}, 0, 0, api.ErrArg},
		{[]api.Pos{of(least, b), of(0, b)}, 0, 0, api.ErrArg},
	} {
		qty, cost, e := Sum(x.l...)
		if qty != x.qty || cost != x.cost || e != x.e {
			t.Errorf("Sum(%v) = %d, %d, %d, not %d, %d, %d", x.l, qty, cost, e, x.qty, x.cost, x.e)
		}
		holdSum(t, x.l...)
	}
}

// amounts are numbers at the ends of money and of int.
func amounts() []int {
	return []int{0, 1, -1, 1 << 62, -1 << 62, 1<<62 - 1, 1 - 1<<62, 1<<62 + 1, -1<<62 - 1, 1 << 61, -1 << 61, most, least}
}

// TestSumAll is P12.3: each pair of numbers at their edges, as Qtys and as
// Costs, alone and beside a leg of the other kind.
func TestSumAll(t *testing.T) {
	for _, a := range amounts() {
		for _, b := range amounts() {
			holdSum(t, of(a, b))
			holdSum(t, of(a, 0), of(b, 0))
			holdSum(t, of(0, a), of(0, b))
			for _, c := range amounts() {
				holdSum(t, of(a, c), of(b, 5))
				holdSum(t, of(5, a), of(c, b))
				holdSum(t, of(a, 1), of(b, 1), of(c, -1))
			}
		}
	}
}

// TestSumPlaces is P12.3: one leg among many, at each place; whose leg it is,
// and of what, counts for nothing.
func TestSumPlaces(t *testing.T) {
	for _, n := range amounts() {
		for at := range 9 {
			legs := make([]api.Pos, 9)
			for k := range legs {
				legs[k] = api.Pos{Key: api.Key{Who: numbers()[k], Inst: numbers()[8-k]}, Qty: k, Cost: -k}
			}
			legs[at].Qty = n
			holdSum(t, legs...)
			legs[at].Qty, legs[at].Cost = 3, n
			holdSum(t, legs...)
		}
	}
}

// TestSumRandom is P12.3: rows of legs of all sizes, in any order.
func TestSumRandom(t *testing.T) {
	rnd := rand.New(rand.NewPCG(12, 2))
	for range 20000 {
		legs := make([]api.Pos, rnd.IntN(9))
		for k := range legs {
			legs[k] = of(int(rnd.Int64N(1<<62))-1<<61, int(rnd.Int64N(1<<62))-1<<61)
			legs[k].Qty <<= rnd.IntN(2)
			legs[k].Cost >>= rnd.IntN(60)
		}
		holdSum(t, legs...)
		rnd.Shuffle(len(legs), func(i, j int) { legs[i], legs[j] = legs[j], legs[i] })
		holdSum(t, legs...)
	}
}

// TestSumMany is P12.3, R1 and R5: as many legs as one likes.
func TestSumMany(t *testing.T) {
	ends := []api.Pos{of(1<<62, -1<<62), of(1<<62, -1<<62)}
	legs := slices.Repeat(ends, 300000)
	if qty, cost, e := Sum(legs...); qty != 0 || cost != 0 || e != api.ErrBig {
		t.Errorf("Sum of %d legs = %d, %d, %d", len(legs), qty, cost, e)
	}
	for _, l := range legs[1:] {
		legs = append(legs, of(-l.Qty, -l.Cost))
	}
	if qty, cost, e := Sum(legs...); qty != 1<<62 || cost != -1<<62 || e != api.OK {
		t.Errorf("Sum of %d legs = %d, %d, %d", len(legs), qty, cost, e)
	}
}

// TestArgumentsStay is R2: what is passed in stays as it was, behind the ends
// of its lists too, and what stands there counts for nothing.
func TestArgumentsStay(t *testing.T) {
	r := some()
	r.Members = append(r.Members, api.Member{No: 3, State: api.Active})
	r.Insts = append(r.Insts, api.Inst{No: 2, Mult: 1})
	r.Assets = append(r.Assets, api.Asset{No: 9})
	legs := append(exactLegs(good(), 1), of(5, 5), of(most, most))
	shown := api.Roll{Members: r.Members[:7], Insts: r.Insts[:3], Assets: r.Assets[:1]}
	members, insts, assets, all := slices.Clone(r.Members), slices.Clone(r.Insts), slices.Clone(r.Assets), slices.Clone(legs)
	if e := Check(shown, good()); e != api.OK {
		t.Errorf("Check = %d", e)
	}
	for _, x := range []api.Trade{{Buyer: 3, Seller: 1, Inst: 3, Qty: 1, Price: 1}, {Buyer: 1, Seller: 2, Inst: 2, Qty: 1, Price: 1}} {
		if e := Check(shown, x); e != api.ErrNone {
			t.Errorf("Check of %v = %d", x, e)
		}
	}
	if qty, cost, e := Sum(legs[:3]...); qty != 5 || cost != 5 || e != api.OK {
		t.Errorf("Sum = %d, %d, %d", qty, cost, e)
	}
	if !slices.Equal(r.Members, members) || !slices.Equal(r.Insts, insts) || !slices.Equal(r.Assets, assets) || !slices.Equal(legs, all) {
		t.Errorf("arguments changed")
	}
}

// TestResultsAreNew is R2 and R3: results share no memory, with their spare
// capacity too, and the same call answers the same again.
func TestResultsAreNew(t *testing.T) {
	for _, call := range []func(api.Trade) []api.Pos{Legs, Undo} {
		first := call(good())
		want := slices.Clone(first)
		again := call(good())
		spoil := first[:cap(first)]
		for k := range spoil {
			spoil[k] = of(most, least)
		}
		_ = append(first, of(1, 1))
		if !slices.Equal(again, want) || !slices.Equal(call(good()), want) {
			t.Errorf("a result was changed through another one")
		}
	}
}
