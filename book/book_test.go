package book

import (
	"math"
	"math/big"
	"math/rand/v2"
	"slices"
	"testing"

	"cambist/api"
	"cambist/trade"
)

const (
	bound = 1 << 62
	great = 1 << 40
	least = math.MinInt
	most  = math.MaxInt
)

// pos tells a position.
func pos(who, inst, qty, cost int) api.Pos {
	return api.Pos{Key: api.Key{Who: who, Inst: inst}, Qty: qty, Cost: cost}
}

// poss tells a list of positions.
func poss(l ...api.Pos) []api.Pos { return l }

// deal tells a trade that stands.
func deal(no, buyer, seller, inst, qty, price int) api.Trade {
	return api.Trade{No: no, Buyer: buyer, Seller: seller, Inst: inst, Qty: qty, Price: price}
}

// off is the trade t, cancelled.
func off(t api.Trade) api.Trade {
	t.Off = true
	return t
}

// some is a right book with numbers at their edges and gaps between them.
func some() api.Book {
	return api.Book{
		Next: 12,
		Trades: []api.Trade{
			deal(1, 1, 2, 3, 5, 10), off(deal(3, 16, 1, 8, 1<<20, 1<<30)), deal(4, 2, 16, 1, 1, 1),
			deal(9, 16, 1, 8, 1<<20, 1<<30), off(deal(12, 3, 2, 3, 4, 4)),
		},
		Poss: poss(pos(1, 3, 5, 50), pos(1, 8, great, -bound), pos(2, 1, 0, 1), pos(2, 3, -9, bound), pos(3, 3, 4, -7), pos(16, 7, 0, -1), pos(16, 8, -great, bound)),
	}
}

// full is a right book with as many trades as one can have, all but one off.
func full() api.Book {
	b := api.Book{Next: 500, Poss: poss(pos(1, 1, 1, 1), pos(2, 1, -1, -1))}
	for no := 1; no <= 128; no++ {
		t := deal(no, 1, 2, 1, 1, 1)
		t.Off = no != 6
		b.Trades = append(b.Trades, t)
	}
	return b
}

// odd is a book that is right in nothing.
func odd() api.Book {
	return api.Book{
		Next:   -3,
		Trades: []api.Trade{deal(7, 0, 0, 0, 0, 0), off(deal(7, most, least, 9, -1, most)), deal(least, 1, 1, 1, 1, 1)},
		Poss:   poss(pos(5, 3, 8, 9), pos(-1, 99, 3, bound), pos(5, 3, 1, 1), pos(-1, 99, 4, bound), pos(0, 0, 0, 0), pos(least, most, most, least), pos(1<<32+5, 3, 2, -3), pos(5, 1<<32+3, 11, 12)),
	}
}

// clone is b in memory of its own.
func clone(b api.Book) api.Book {
	return api.Book{Next: b.Next, Trades: append([]api.Trade(nil), b.Trades...), Poss: append([]api.Pos(nil), b.Poss...)}
}

// same reports whether two books have the same in them.
func same(a, b api.Book) bool {
	return a.Next == b.Next && slices.Equal(a.Trades, b.Trades) && slices.Equal(a.Poss, b.Poss)
}

// nothing reports whether b is the zero value.
func nothing(b api.Book) bool { return b.Next == 0 && b.Trades == nil && b.Poss == nil }

// isMoney reports whether n is money.
func isMoney(n *big.Int) bool { return n.CmpAbs(big.NewInt(bound)) <= 0 }

// total is the exact sum of some numbers.
func total(l ...int) *big.Int {
	sum := new(big.Int)
	for _, n := range l {
		sum.Add(sum, big.NewInt(int64(n)))
	}
	return sum
}

// keys are all permitted keys, rising.
func keys() []api.Key {
	var l []api.Key
	for who := 1; who <= 16; who++ {
		for inst := 1; inst <= 8; inst++ {
			l = append(l, api.Key{Who: who, Inst: inst})
		}
	}
	return l
}

// place is where a key stands among the permitted ones, or -1.
func place(k api.Key) int { return slices.Index(keys(), k) }

// evenly reports whether the Qtys add up to 0 in whatever instrument.
func evenly(l []api.Pos) bool {
	sums := map[int]*big.Int{}
	for _, p := range l {
		if sums[p.Inst] == nil {
			sums[p.Inst] = new(big.Int)
		}
		sums[p.Inst].Add(sums[p.Inst], big.NewInt(int64(p.Qty)))
	}
	for _, n := range sums {
		if n.Sign() != 0 {
			return false
		}
	}
	return true
}

// sound reports whether a trade is as in a right book, but for its No.
func sound(t api.Trade) bool {
	return t.Qty >= 1 && t.Qty <= 1048576 && t.Price >= 1 && t.Price <= 1073741824 &&
		t.Buyer >= 1 && t.Buyer <= 16 && t.Seller >= 1 && t.Seller <= 16 && t.Buyer != t.Seller && t.Inst >= 1 && t.Inst <= 8
}

// exactRight is what the chapter calls a right book, word by word.
func exactRight(b api.Book) bool {
	before := -1
	for _, p := range b.Poss {
		at := place(p.Key)
		if at <= before || p.Qty < -great || p.Qty > great || !isMoney(total(p.Cost)) || p.Qty == 0 && p.Cost == 0 {
			return false
		}
		before = at
	}
	no := 0
	for _, t := range b.Trades {
		if t.No <= no || t.No > b.Next || !sound(t) {
			return false
		}
		no = t.No
	}
	return evenly(b.Poss) && len(b.Trades) <= 128 && b.Next >= 0 && b.Next <= great
}

// exactAdd is P13.2, word by word.
func exactAdd(b api.Book, legs []api.Pos) (api.Book, api.Errno) {
	if !exactRight(b) {
		return api.Book{}, api.ErrState
	}
	for _, l := range legs {
		if place(l.Key) < 0 || !isMoney(total(l.Qty)) || !isMoney(total(l.Cost)) {
			return api.Book{}, api.ErrArg
		}
	}
	if !evenly(legs) {
		return api.Book{}, api.ErrSum
	}
	added := clone(b)
	added.Poss = nil
	for _, k := range keys() {
		qty, cost := new(big.Int), new(big.Int)
		for _, p := range slices.Concat(b.Poss, legs) {
			if p.Key == k {
				qty.Add(qty, big.NewInt(int64(p.Qty)))
				cost.Add(cost, big.NewInt(int64(p.Cost)))
			}
		}
		if qty.CmpAbs(big.NewInt(great)) > 0 || !isMoney(cost) {
			return api.Book{}, api.ErrBig
		}
		if qty.Sign() != 0 || cost.Sign() != 0 {
			added.Poss = append(added.Poss, api.Pos{Key: k, Qty: int(qty.Int64()), Cost: int(cost.Int64())})
		}
	}
	return added, api.OK
}

// exactEnter is the first call of P13.3, word by word.
func exactEnter(b api.Book, t api.Trade) (api.Book, int, api.Errno) {
	switch {
	case !exactRight(b):
		return api.Book{}, 0, api.ErrState
	case !sound(t):
		return api.Book{}, 0, api.ErrArg
	case len(b.Trades) == 128:
		return api.Book{}, 0, api.ErrFull
	case b.Next == great:
		return api.Book{}, 0, api.ErrBig
	}
	entered, e := exactAdd(b, trade.Legs(t))
	if e != api.OK {
		return api.Book{}, 0, e
	}
	entered.Next = b.Next + 1
	entered.Trades = append(entered.Trades, deal(b.Next+1, t.Buyer, t.Seller, t.Inst, t.Qty, t.Price))
	return entered, b.Next + 1, api.OK
}

// exactCancel is the second call of P13.3, word by word.
func exactCancel(b api.Book, no int) (api.Book, api.Errno) {
	if !exactRight(b) {
		return api.Book{}, api.ErrState
	}
	for k, t := range b.Trades {
		if t.No != no || t.Off {
			continue
		}
		cancelled, e := exactAdd(b, trade.Undo(t))
		if e == api.OK {
			cancelled.Trades[k].Off = true
		}
		return cancelled, e
	}
	return api.Book{}, api.ErrNone
}

// exactCorrect is the third call of P13.3, word by word.
func exactCorrect(b api.Book, no, qty, price int) (api.Book, int, api.Errno) {
	cancelled, e := exactCancel(b, no)
	if e != api.OK {
		return api.Book{}, 0, e
	}
	for _, t := range b.Trades {
		if t.No == no {
			return exactEnter(cancelled, deal(0, t.Buyer, t.Seller, t.Inst, qty, price))
		}
	}
	return api.Book{}, 0, api.ErrNone
}

// answered holds a book and an error that a call answered against those that
// the chapter's words give.
func answered(t *testing.T, call string, got api.Book, e api.Errno, want api.Book, wantE api.Errno) {
	t.Helper()
	if e != wantE || !same(got, want) || e != api.OK && !nothing(got) {
		t.Errorf("%s = %v, %d, not %v, %d", call, got, e, want, wantE)
	}
	if e == api.OK && (!exactRight(got) || Check(got) != api.OK) {
		t.Errorf("%s = %v, which is not right", call, got)
	}
}

// holdAdd, holdEnter, holdCancel and holdCorrect hold a call against the
// chapter's words, and see that the book that was passed in stays as it was.
func holdAdd(t *testing.T, b api.Book, legs ...api.Pos) (api.Book, api.Errno) {
	t.Helper()
	before := clone(b)
	want, wantE := exactAdd(b, legs)
	got, e := Add(b, legs...)
	answered(t, "Add", got, e, want, wantE)
	if !same(b, before) {
		t.Errorf("Add changed %v to %v", before, b)
	}
	return got, e
}

func holdEnter(t *testing.T, b api.Book, x api.Trade) (api.Book, int, api.Errno) {
	t.Helper()
	before := clone(b)
	want, wantNo, wantE := exactEnter(b, x)
	got, no, e := Enter(b, x)
	answered(t, "Enter", got, e, want, wantE)
	if no != wantNo || !same(b, before) {
		t.Errorf("Enter of %v = %d, not %d; the book %v became %v", x, no, wantNo, before, b)
	}
	return got, no, e
}

func holdCancel(t *testing.T, b api.Book, no int) (api.Book, api.Errno) {
	t.Helper()
	before := clone(b)
	want, wantE := exactCancel(b, no)
	got, e := Cancel(b, no)
	answered(t, "Cancel", got, e, want, wantE)
	if !same(b, before) {
		t.Errorf("Cancel of %d changed %v to %v", no, before, b)
	}
	return got, e
}

func holdCorrect(t *testing.T, b api.Book, no, qty, price int) (api.Book, int, api.Errno) {
	t.Helper()
	before := clone(b)
	want, wantNo, wantE := exactCorrect(b, no, qty, price)
	got, newNo, e := Correct(b, no, qty, price)
	answered(t, "Correct", got, e, want, wantE)
	if newNo != wantNo || !same(b, before) {
		t.Errorf("Correct of %d = %d, not %d; the book %v became %v", no, newNo, wantNo, before, b)
	}
	return got, newNo, e
}

// holdCheck holds Check against the chapter's words, and sees that no call
// takes a book that is not right, whatever else is wrong.
func holdCheck(t *testing.T, b api.Book) {
	t.Helper()
	e := api.OK
	if !exactRight(b) {
		e = api.ErrState
	}
	if f := Check(b); f != e {
		t.Errorf("Check(%v) = %d, not %d", b, f, e)
	}
	if e == api.OK {
		return
	}
	for _, legs := range [][]api.Pos{nil, poss(pos(1, 1, 1, 0)), poss(pos(0, 0, most, 0))} {
		added, e := Add(b, legs...)
		answered(t, "Add", added, e, api.Book{}, api.ErrState)
	}
	for _, x := range []api.Trade{{}, deal(0, 1, 2, 1, 1, 1)} {
		entered, no, e := Enter(b, x)
		answered(t, "Enter", entered, e, api.Book{}, api.ErrState)
		if no != 0 {
			t.Errorf("Enter = %d", no)
		}
	}
	for _, n := range []int{1, 0} {
		cancelled, e := Cancel(b, n)
		corrected, no, f := Correct(b, n, n, n)
		answered(t, "Cancel", cancelled, e, api.Book{}, api.ErrState)
		answered(t, "Correct", corrected, f, api.Book{}, api.ErrState)
		if no != 0 {
			t.Errorf("Correct = %d", no)
		}
	}
}

// TestCheckByHand is P13.1: right books, and books that are not, each in one
// thing.
func TestCheckByHand(t *testing.T) {
	for i, b := range []api.Book{
		{}, {Next: great}, {Next: 1, Trades: []api.Trade{}, Poss: poss()}, some(), full(),
		{Poss: poss(pos(1, 1, great, 0), pos(2, 1, -great, 0))},
		{Poss: poss(pos(1, 1, 0, bound), pos(1, 2, 0, -bound))},
		{Next: great, Trades: []api.Trade{deal(great, 1, 2, 1, 1, 1)}},
		{Next: 1, Trades: []api.Trade{deal(1, 1, 2, 1, 1, 1)}},
	} {
		if e := Check(b); e != api.OK {
			t.Errorf("%d: Check(%v) = %d", i, b, e)
		}
		holdCheck(t, b)
	}
	for i, b := range []api.Book{
		odd(), {Next: -1}, {Next: great + 1}, {Next: least}, {Next: most}, {Next: 1 << 41},
		{Poss: poss(pos(1, 1, 0, 0))},
		{Poss: poss(pos(1, 1, 1, 0))},
		{Poss: poss(pos(1, 1, 1, 0), pos(1, 2, -1, 0))},
		{Poss: poss(pos(1, 1, 1, 0), pos(2, 1, 1, 0), pos(3, 1, -1, 0))},
		{Poss: poss(pos(2, 1, 1, 0), pos(1, 1, -1, 0))},
		{Poss: poss(pos(1, 2, 0, 1), pos(1, 1, 0, 1))},
		{Poss: poss(pos(1, 1, 1, 0), pos(1, 1, -1, 0))},
		{Poss: poss(pos(1, 1, great+1, 0), pos(2, 1, -great-1, 0))},
		{Poss: poss(pos(1, 1, great+1, 0), pos(2, 1, -great, 0), pos(3, 1, -1, 0))},
		{Poss: poss(pos(0, 1, 0, 1))}, {Poss: poss(pos(17, 1, 0, 1))}, {Poss: poss(pos(1, 0, 0, 1))}, {Poss: poss(pos(1, 9, 0, 1))},
		{Poss: poss(pos(1, 1, 0, bound+1))}, {Poss: poss(pos(1, 1, 0, -bound-1))},
		{Trades: []api.Trade{deal(1, 1, 2, 1, 1, 1)}},
		{Next: 5, Trades: []api.Trade{deal(0, 1, 2, 1, 1, 1)}},
		{Next: 5, Trades: []api.Trade{deal(2, 1, 2, 1, 1, 1), deal(2, 1, 2, 1, 1, 1)}},
		{Next: 5, Trades: []api.Trade{deal(3, 1, 2, 1, 1, 1), deal(2, 1, 2, 1, 1, 1)}},
		{Next: 5, Trades: []api.Trade{deal(2, 2, 2, 1, 1, 1)}},
		{Next: 5, Trades: []api.Trade{off(deal(2, 2, 2, 1, 1, 1))}},
	} {
		if e := Check(b); e != api.ErrState {
			t.Errorf("%d: Check(%v) = %d", i, b, e)
		}
		holdCheck(t, b)
	}
}

// edges are numbers at the ends of what may be, one beyond them, the ends of
// int, and what is right but for its upper bits.
func edges() []int {
	l := []int{least, least + 1, least + 5, most, -1 << 32, 1<<32 + 1, 1<<32 + 5}
	for _, n := range []int{0, 8, 16, 1 << 20, 1 << 30, great, bound} {
		l = append(l, n-1, n, n+1, 1-n, -n, -n-1)
	}
	return l
}

// TestCheckPoss is P13.1: each number of each position, and of two of one
// instrument that add up to 0, at all edges.
func TestCheckPoss(t *testing.T) {
	for at := range some().Poss {
		for _, n := range edges() {
			for _, turn := range []func(*api.Pos){
				func(p *api.Pos) { p.Who = n }, func(p *api.Pos) { p.Inst = n },
				func(p *api.Pos) { p.Qty = n }, func(p *api.Pos) { p.Cost = n },
				func(p *api.Pos) { p.Qty, p.Cost = 0, n },
			} {
				b := some()
				turn(&b.Poss[at])
				holdCheck(t, b)
			}
		}
	}
	for _, n := range edges() {
		for _, cost := range edges() {
			holdCheck(t, api.Book{Poss: poss(pos(4, 5, n, cost), pos(5, 5, -n, cost))})
			holdCheck(t, api.Book{Poss: poss(pos(4, 5, n, 1), pos(5, 5, cost, 1))})
		}
	}
}

// TestCheckTrades is P13.1: each number of each trade at all edges, and
// whether it is off counts for nothing.
func TestCheckTrades(t *testing.T) {
	for at := range some().Trades {
		for _, n := range append(edges(), 2, 3, 4, 5, 9, 10, 11, 12, 13) {
			for _, turn := range []func(*api.Trade){
				func(x *api.Trade) { x.No = n }, func(x *api.Trade) { x.Buyer = n }, func(x *api.Trade) { x.Seller = n },
				func(x *api.Trade) { x.Inst = n }, func(x *api.Trade) { x.Qty = n }, func(x *api.Trade) { x.Price = n },
				func(x *api.Trade) { x.Buyer, x.Seller = n, n },
				func(x *api.Trade) { x.Off = !x.Off },
			} {
				b := some()
				turn(&b.Trades[at])
				holdCheck(t, b)
			}
		}
	}
	for _, n := range append(edges(), 9, 11, 12, 13) {
		b := some()
		b.Next = n
		holdCheck(t, b)
		b.Trades = nil
		holdCheck(t, b)
	}
}

// TestCheckOrder is P13.1: any two keys rise in one order only, and any two
// numbers of trades.
func TestCheckOrder(t *testing.T) {
	for i, a := range keys() {
		for k, b := range keys() {
			e := api.OK
			if i >= k {
				e = api.ErrState
			}
			x := api.Book{Poss: poss(pos(a.Who, a.Inst, 0, 1), pos(b.Who, b.Inst, 0, 2))}
			if f := Check(x); f != e {
				t.Errorf("Check(%v) = %d, not %d", x, f, e)
			}
		}
	}
	for first := range 12 {
		for second := range 12 {
			holdCheck(t, api.Book{Next: 10, Trades: []api.Trade{deal(first, 1, 2, 1, 1, 1), deal(second, 1, 2, 1, 1, 1)}})
		}
	}
}

// TestCheckEven is P13.1: what is left over in one instrument is not made up
// for by any other one, or by what is left over in 2^64 of it.
func TestCheckEven(t *testing.T) {
	for a := 1; a <= 8; a++ {
		for b := 1; b <= 8; b++ {
			holdCheck(t, api.Book{Poss: poss(pos(4, a, 3, 1), pos(5, b, -3, 1))})
			holdCheck(t, api.Book{Poss: poss(pos(4, a, 3, 1), pos(5, b, -2, 1), pos(6, a, -1, 1))})
		}
	}
	var l []api.Pos
	for who := 1; who <= 16; who++ {
		l = append(l, pos(who, 1, great, 1))
	}
	holdCheck(t, api.Book{Poss: l})
}

// TestCheckFull is P13.1: as many trades as there may be, one more, and many
// more.
func TestCheckFull(t *testing.T) {
	for _, n := range []int{127, 128, 129, 130, 256, 100000} {
		b := api.Book{Next: n}
		for k := range n {
			b.Trades = append(b.Trades, deal(k+1, 1, 2, 1, 1, 1))
		}
		e := api.OK
		if n > 128 {
			e = api.ErrState
		}
		if f := Check(b); f != e {
			t.Errorf("Check of %d trades = %d, not %d", n, f, e)
		}
	}
	var b api.Book
	for k := range 128 {
		key := keys()[k]
		b.Poss = append(b.Poss, pos(key.Who, key.Inst, 1-key.Who%2*2, k+1))
	}
	if e := Check(b); e != api.OK {
		t.Errorf("Check of all positions = %d", e)
	}
	for at := range b.Poss {
		x := clone(b)
		x.Poss[at].Qty += 2
		holdCheck(t, x)
		x.Poss = slices.Delete(x.Poss, at, at+1)
		holdCheck(t, x)
	}
}

// TestOf is P13.1: the first position with the key, of any book.
func TestOf(t *testing.T) {
	for _, b := range []api.Book{{}, some(), odd(), full()} {
		asked := append(keys(), api.Key{}, api.Key{Who: -1, Inst: 99}, api.Key{Who: least, Inst: most}, api.Key{Who: most, Inst: least}, api.Key{Who: 1<<32 + 5, Inst: 3}, api.Key{Who: 5, Inst: 1<<32 + 3})
		for _, k := range asked {
			want := api.Pos{Key: k}
			for _, p := range slices.Backward(b.Poss) {
				if p.Key == k {
					want = p
				}
			}
			if p := Of(b, k); p != want {
				t.Errorf("Of(%v, %v) = %v, not %v", b, k, p, want)
			}
		}
	}
	if p := Of(odd(), api.Key{Who: 5, Inst: 3}); p != pos(5, 3, 8, 9) {
		t.Errorf("Of = %v", p)
	}
	if p := Of(some(), api.Key{Who: 16, Inst: 6}); p != pos(16, 6, 0, 0) {
		t.Errorf("Of = %v", p)
	}
}

// exactSum is the last call of P13.1, word by word.
func exactSum(b api.Book, inst int) (int, int) {
	qty, cost := new(big.Int), new(big.Int)
	for _, p := range b.Poss {
		if p.Inst != inst {
			continue
		}
		if !isMoney(total(p.Qty)) || !isMoney(total(p.Cost)) {
			return 0, 0
		}
		qty.Add(qty, total(p.Qty))
		cost.Add(cost, total(p.Cost))
	}
	if !isMoney(qty) || !isMoney(cost) {
		return 0, 0
	}
	return int(qty.Int64()), int(cost.Int64())
}

// TestSumByHand is P13.1: sums with the answers written out, in any book.
func TestSumByHand(t *testing.T) {
	for i, x := range []struct {
		l               []api.Pos
		inst, qty, cost int
	}{
		{nil, 1, 0, 0},
		{some().Poss, 3, 0, 0},
		{some().Poss[:2], 3, 5, 50},
		{some().Poss, 8, 0, 0},
		{some().Poss, 7, 0, -1},
		{some().Poss, 2, 0, 0},
		{poss(pos(1, 1, 3, 4), pos(1, 2, 50, 60), pos(2, 1, 5, -9)), 1, 8, -5},
		{poss(pos(1, 1, 3, 4), pos(1, 1, 3, 4)), 1, 6, 8},
		{poss(pos(0, -8, 3, 4), pos(99, -8, 1, 1)), -8, 4, 5},
		{poss(pos(1, most, 3, 4), pos(1, least, 50, 60)), most, 3, 4},
		{poss(pos(1, 1<<32+1, 3, 4), pos(1, 1, 50, 60)), 1, 50, 60},
		{poss(pos(1, 1, bound, -bound)), 1, bound, -bound},
		{poss(pos(1, 1, bound, 7), pos(2, 1, bound, 7), pos(3, 1, bound, 7), pos(4, 1, -bound, 7), pos(5, 1, -bound, 7)), 1, bound, 35},
		{poss(pos(1, 1, bound, 7), pos(2, 1, 1, 7)), 1, 0, 0},
		{poss(pos(1, 1, 7, -bound), pos(2, 1, 7, -1)), 1, 0, 0},
		{poss(pos(1, 1, 7, bound), pos(2, 1, 7, bound), pos(3, 1, 7, bound), pos(4, 1, 7, bound)), 1, 0, 0},
		{poss(pos(1, 1, bound+1, 7)), 1, 0, 0},
		{poss(pos(1, 1, bound+1, 7), pos(2, 1, -bound, 7)), 1, 0, 0},
		{poss(pos(1, 1, 7, bound+1), pos(2, 1, 7, -5)), 1, 0, 0},
		{poss(pos(1, 1, 7, least), pos(2, 1, 7, most)), 1, 0, 0},
		{poss(pos(1, 1, most, most), pos(2, 2, 7, 8)), 2, 7, 8},
	} {
		b := api.Book{Next: -1, Poss: x.l}
		if qty, cost := Sum(b, x.inst); qty != x.qty || cost != x.cost {
			t.Errorf("%d: Sum(%v, %d) = %d, %d, not %d, %d", i, b, x.inst, qty, cost, x.qty, x.cost)
		}
	}
}

// TestSumAll is P13.1: pairs of numbers at all edges, against the document's
// words.
func TestSumAll(t *testing.T) {
	for _, a := range edges() {
		for _, c := range edges() {
			b := api.Book{Poss: poss(pos(1, 3, a, 5), pos(1, 4, c, c), pos(2, 3, 6, c), pos(2, 5, a, 1), pos(3, 5, c, 1), pos(3, 6, 1, c), pos(3, 6, 1, a))}
			for inst := range 8 {
				wantQty, wantCost := exactSum(b, inst)
				if qty, cost := Sum(b, inst); qty != wantQty || cost != wantCost {
					t.Errorf("Sum(%v, %d) = %d, %d, not %d, %d", b, inst, qty, cost, wantQty, wantCost)
				}
			}
		}
	}
}

// TestAddByHand is P13.2: legs that make positions, change them and take them
// away, with the answers written out.
func TestAddByHand(t *testing.T) {
	b := api.Book{Next: 7, Trades: []api.Trade{deal(2, 1, 2, 3, 5, 10)}, Poss: poss(pos(1, 3, 5, 50), pos(2, 3, -5, -50), pos(4, 1, 0, 7))}
	for i, x := range []struct {
		legs, poss []api.Pos
	}{
		{nil, b.Poss},
		{poss(pos(9, 8, 0, 0), pos(1, 3, 0, 0)), b.Poss},
		{poss(pos(1, 3, -5, -50), pos(2, 3, 5, 50)), poss(pos(4, 1, 0, 7))},
		{poss(pos(1, 3, -5, 0), pos(2, 3, 5, 0)), poss(pos(1, 3, 0, 50), pos(2, 3, 0, -50), pos(4, 1, 0, 7))},
		{poss(pos(1, 3, 0, -50), pos(2, 3, 0, 50)), poss(pos(1, 3, 5, 0), pos(2, 3, -5, 0), pos(4, 1, 0, 7))},
		{poss(pos(4, 1, 0, -7)), poss(pos(1, 3, 5, 50), pos(2, 3, -5, -50))},
		{poss(pos(16, 8, -1, 2), pos(1, 1, -1, 3), pos(4, 1, 1, -7), pos(1, 8, 1, -2)), poss(pos(1, 1, -1, 3), pos(1, 3, 5, 50), pos(1, 8, 1, -2), pos(2, 3, -5, -50), pos(4, 1, 1, 0), pos(16, 8, -1, 2))},
		{poss(pos(2, 3, 2, 1), pos(2, 3, 2, 1), pos(3, 3, -4, 6), pos(2, 3, 1, 48)), nil},
		{poss(pos(2, 3, 2, 1), pos(2, 3, 2, 1), pos(3, 3, -5, 6), pos(2, 3, 1, 48)), poss(pos(1, 3, 5, 50), pos(3, 3, -5, 6), pos(4, 1, 0, 7))},
		{poss(pos(1, 3, great-5, bound-50), pos(2, 3, 5-great, 50-bound)), poss(pos(1, 3, great, bound), pos(2, 3, -great, -bound), pos(4, 1, 0, 7))},
		{poss(pos(1, 3, bound, bound), pos(1, 3, bound, bound), pos(1, 3, -bound, -bound), pos(1, 3, -bound, -bound)), b.Poss},
	} {
		want, e := api.Book{Next: 7, Trades: b.Trades, Poss: x.poss}, api.OK
		if x.poss == nil {
			want, e = api.Book{}, api.ErrSum
		}
		if got, f := holdAdd(t, b, x.legs...); !same(got, want) || f != e {
			t.Errorf("%d: Add(%v, %v) = %v, %d, not %v, %d", i, b, x.legs, got, f, want, e)
		}
	}
}

// TestAddErrors is P13.2: each error with the causes of all later ones beside
// it.
func TestAddErrors(t *testing.T) {
	key, sum, big := pos(0, 1, 0, 0), pos(1, 3, 1, 0), pos(2, 3, 0, 1)
	for i, x := range []struct {
		b    api.Book
		legs []api.Pos
		e    api.Errno
	}{
		{odd(), poss(key, sum, big), api.ErrState},
		{api.Book{Next: -1}, nil, api.ErrState},
		{some(), poss(sum, big, key), api.ErrArg},
		{some(), poss(sum, big, pos(17, 1, 0, 0)), api.ErrArg},
		{some(), poss(sum, big, pos(1, 0, 0, 0)), api.ErrArg},
		{some(), poss(sum, big, pos(1, 9, 0, 0)), api.ErrArg},
		{some(), poss(sum, big, pos(1, 1, bound+1, 0)), api.ErrArg},
		{some(), poss(sum, big, pos(1, 1, -bound-1, 0)), api.ErrArg},
		{some(), poss(sum, big, pos(1, 1, 0, bound+1)), api.ErrArg},
		{some(), poss(sum, big, pos(1, 1, 0, -bound-1)), api.ErrArg},
		{some(), poss(pos(1, 1, most, 0), pos(1, 1, least, 0), pos(1, 1, 1, 0)), api.ErrArg},
		{some(), poss(sum), api.ErrSum},
		{some(), poss(sum, big), api.ErrSum},
		{some(), poss(pos(1, 1, 1, 0), pos(1, 2, -1, 0)), api.ErrSum},
		{some(), poss(pos(1, 8, 1, 0), pos(1, 8, -2, 0)), api.ErrSum},
		{some(), poss(pos(1, 8, bound, 0), pos(1, 8, bound, 0), pos(2, 8, bound, 0), pos(2, 8, bound, 0)), api.ErrSum},
		{some(), poss(pos(1, 8, bound, 0), pos(1, 8, bound, 0)), api.ErrSum},
		{some(), poss(pos(1, 1, -bound, 0), pos(1, 1, -1, 0)), api.ErrSum},
		{some(), poss(big), api.ErrBig},
		{some(), poss(pos(1, 8, 1, 0), pos(2, 8, -1, 0)), api.ErrBig},
		{some(), poss(pos(16, 8, -1, 0), pos(2, 8, 1, 0)), api.ErrBig},
		{some(), poss(pos(1, 8, 0, -1)), api.ErrBig},
		{some(), poss(pos(16, 8, 0, 1)), api.ErrBig},
		{api.Book{}, poss(pos(1, 8, great+1, 0), pos(2, 8, -great-1, 0)), api.ErrBig},
		{api.Book{}, poss(pos(1, 8, great+1, 0), pos(2, 8, -great, 0), pos(3, 8, -1, 0)), api.ErrBig},
		{api.Book{}, poss(pos(1, 8, -great-1, 0), pos(2, 8, great, 0), pos(3, 8, 1, 0)), api.ErrBig},
		{api.Book{}, poss(pos(1, 8, bound, 0), pos(2, 8, -bound, 0)), api.ErrBig},
		{api.Book{}, poss(pos(1, 8, 0, bound), pos(1, 8, 0, 1)), api.ErrBig},
		{api.Book{}, slices.Repeat(poss(pos(1, 8, 0, bound)), 4), api.ErrBig},
		{api.Book{}, slices.Concat(slices.Repeat(poss(pos(1, 8, bound, 0)), 4), slices.Repeat(poss(pos(2, 8, -bound, 0)), 4)), api.ErrBig},
	} {
		if got, e := Add(x.b, x.legs...); e != x.e || !nothing(got) {
			t.Errorf("%d: Add(%v, %v) = %v, %d, not %d", i, x.b, x.legs, got, e, x.e)
		}
		holdAdd(t, x.b, x.legs...)
	}
}

// TestAddPlaces is P13.2: a leg of each key, and what may not be in each
// number of a leg at each place.
func TestAddPlaces(t *testing.T) {
	for _, b := range []api.Book{{}, some(), full()} {
		for _, k := range keys() {
			holdAdd(t, b, pos(k.Who, k.Inst, 0, 3))
			holdAdd(t, b, pos(k.Who, k.Inst, 3, 3))
			holdAdd(t, b, pos(k.Who, k.Inst, 3, 3), pos(17-k.Who, k.Inst, -3, -3))
			holdAdd(t, b, pos(k.Who, k.Inst, 3, 3), pos(k.Who, 9-k.Inst, -3, -3))
		}
	}
	legs := poss(pos(5, 3, 2, 4), pos(1, 3, -1, 4), pos(5, 3, -1, 1), pos(7, 1, 0, 3), pos(7, 2, 0, 0))
	for at := range legs {
		for _, n := range edges() {
			for _, turn := range []func(*api.Pos){
				func(p *api.Pos) { p.Who = n }, func(p *api.Pos) { p.Inst = n },
				func(p *api.Pos) { p.Qty = n }, func(p *api.Pos) { p.Cost = n },
			} {
				turned := slices.Clone(legs)
				turn(&turned[at])
				holdAdd(t, some(), turned...)
			}
		}
	}
}

// TestAddSizes is P13.2: positions that come to each edge by one leg or by
// two, from nothing and from a position.
func TestAddSizes(t *testing.T) {
	b := api.Book{Poss: poss(pos(4, 2, 9, -9), pos(5, 2, -9, 9))}
	for _, n := range edges() {
		for _, m := range edges() {
			for _, x := range []api.Book{{}, b} {
				holdAdd(t, x, pos(4, 2, n, m), pos(5, 2, -n, -m))
				holdAdd(t, x, pos(4, 2, n, 0), pos(4, 2, m, 0), pos(5, 2, -n, 0), pos(5, 2, -m, 0))
				holdAdd(t, x, pos(4, 2, 0, n), pos(4, 2, 0, m))
				holdAdd(t, x, pos(4, 2, n, n), pos(4, 2, -n, m), pos(5, 2, 0, -n))
			}
		}
	}
}

// TestAddMany is P13.2, R1 and R5: as many legs as one likes, whose parts are
// beyond all bounds.
func TestAddMany(t *testing.T) {
	legs := slices.Repeat(poss(pos(3, 4, bound, -bound)), 100000)
	if _, e := Add(some(), legs...); e != api.ErrSum {
		t.Errorf("Add of %d legs = %d", len(legs), e)
	}
	legs = append(legs, slices.Repeat(poss(pos(3, 4, -bound, bound)), 100000)...)
	legs = append(legs, pos(3, 4, 1, 5), pos(2, 4, -1, 6))
	got, e := Add(some(), legs...)
	if e != api.OK || Of(got, api.Key{Who: 3, Inst: 4}) != pos(3, 4, 1, 5) || Of(got, api.Key{Who: 2, Inst: 4}) != pos(2, 4, -1, 6) || len(got.Poss) != 9 {
		t.Errorf("Add of %d legs = %v, %d", len(legs), got, e)
	}
}

// TestExample is the chapter's example.
func TestExample(t *testing.T) {
	b, no, e := Enter(api.Book{}, api.Trade{Buyer: 1, Seller: 2, Inst: 3, Qty: 5, Price: 10})
	if no != 1 || e != api.OK || !same(b, api.Book{Next: 1, Trades: []api.Trade{deal(1, 1, 2, 3, 5, 10)}, Poss: poss(pos(1, 3, 5, 50), pos(2, 3, -5, -50))}) {
		t.Errorf("Enter = %v, %d, %d", b, no, e)
	}
	b, e = Cancel(b, 1)
	if e != api.OK || !same(b, api.Book{Next: 1, Trades: []api.Trade{off(deal(1, 1, 2, 3, 5, 10))}}) {
		t.Errorf("Cancel = %v, %d", b, e)
	}
}

// TestEnterByHand is P13.3: trades with the answers written out; what they
// are numbered and whether they are off counts for nothing.
func TestEnterByHand(t *testing.T) {
	b := api.Book{Next: 8, Trades: []api.Trade{deal(2, 1, 2, 3, 5, 10)}, Poss: poss(pos(1, 3, 5, 50), pos(2, 3, -5, -50))}
	for i, x := range []struct {
		t    api.Trade
		poss []api.Pos
	}{
		{deal(0, 2, 1, 3, 5, 10), nil},
		{deal(8, 2, 1, 3, 5, 11), poss(pos(1, 3, 0, -5), pos(2, 3, 0, 5))},
		{off(deal(9, 1, 2, 3, 5, 10)), poss(pos(1, 3, 10, 100), pos(2, 3, -10, -100))},
		{deal(most, 16, 3, 8, 1<<20, 1<<30), poss(pos(1, 3, 5, 50), pos(2, 3, -5, -50), pos(3, 8, -1<<20, -1<<50), pos(16, 8, 1<<20, 1<<50))},
		{off(deal(least, 2, 3, 1, 1, 1)), poss(pos(1, 3, 5, 50), pos(2, 1, 1, 1), pos(2, 3, -5, -50), pos(3, 1, -1, -1))},
	} {
		entered := x.t
		entered.No, entered.Off = 9, false
		want := api.Book{Next: 9, Trades: []api.Trade{b.Trades[0], entered}, Poss: x.poss}
		if got, no, e := holdEnter(t, b, x.t); !same(got, want) || no != 9 || e != api.OK {
			t.Errorf("%d: Enter(%v, %v) = %v, %d, %d, not %v", i, b, x.t, got, no, e, want)
		}
	}
}

// TestEnterErrors is P13.3: each error with the causes of all later ones
// beside it.
func TestEnterErrors(t *testing.T) {
	huge := clone(full())
	huge.Next, huge.Poss = great, poss(pos(1, 1, great, 1), pos(2, 1, -great, -1))
	roomy := clone(huge)
	roomy.Trades = roomy.Trades[1:]
	early := clone(roomy)
	early.Next = great - 1
	dear := api.Book{Poss: poss(pos(1, 1, 0, bound), pos(2, 1, 0, -bound))}
	for i, x := range []struct {
		b api.Book
		t api.Trade
		e api.Errno
	}{
		{odd(), api.Trade{}, api.ErrState},
		{odd(), deal(0, 1, 2, 1, 1, 1), api.ErrState},
		{huge, api.Trade{}, api.ErrArg},
		{huge, deal(0, 1, 1, 1, 1, 1), api.ErrArg},
		{huge, deal(0, 0, 2, 1, 1, 1), api.ErrArg},
		{huge, deal(0, 1, 17, 1, 1, 1), api.ErrArg},
		{huge, deal(0, 1, 2, 0, 1, 1), api.ErrArg},
		{huge, deal(0, 1, 2, 9, 1, 1), api.ErrArg},
		{huge, deal(0, 1, 2, 1, 0, 1), api.ErrArg},
		{huge, deal(0, 1, 2, 1, 1<<20+1, 1), api.ErrArg},
		{huge, deal(0, 1, 2, 1, 1, 0), api.ErrArg},
		{huge, deal(0, 1, 2, 1, 1, 1<<30+1), api.ErrArg},
		{huge, deal(0, 1, 2, 1, 1, 1), api.ErrFull},
		{full(), deal(0, 2, 1, 1, 1, 1), api.ErrFull},
		{roomy, deal(0, 1, 2, 1, 1, 1), api.ErrBig},
		{roomy, deal(0, 2, 1, 1, 1, 1), api.ErrBig},
		{early, deal(0, 1, 2, 1, 1, 1), api.ErrBig},
		{early, deal(0, 3, 2, 1, 1, 1), api.ErrBig},
		{early, deal(0, 1, 3, 1, 1, 1), api.ErrBig},
		{early, deal(0, 2, 1, 1, 1, 1), api.OK},
		{dear, deal(0, 1, 3, 1, 1, 1), api.ErrBig},
		{dear, deal(0, 3, 2, 1, 1, 1), api.ErrBig},
		{dear, deal(0, 2, 1, 1, 1, 1), api.OK},
	} {
		got, no, e := holdEnter(t, x.b, x.t)
		if e != x.e || e != api.OK && (no != 0 || !nothing(got)) {
			t.Errorf("%d: Enter(%v, %v) = %v, %d, %d, not %d", i, x.b, x.t, got, no, e, x.e)
		}
	}
}

// TestEnterAll is P13.3: each number of a trade at all edges, and all pairs of
// members.
func TestEnterAll(t *testing.T) {
	for _, n := range edges() {
		for _, turn := range []func(*api.Trade){
			func(x *api.Trade) { x.No = n }, func(x *api.Trade) { x.Buyer = n }, func(x *api.Trade) { x.Seller = n },
			func(x *api.Trade) { x.Inst = n }, func(x *api.Trade) { x.Qty = n }, func(x *api.Trade) { x.Price = n },
			func(x *api.Trade) { x.Buyer, x.Seller = n, n },
		} {
			x := deal(0, 5, 4, 3, 2, 1)
			turn(&x)
			holdEnter(t, some(), x)
			holdEnter(t, api.Book{}, x)
		}
	}
	for buyer := -1; buyer <= 18; buyer++ {
		for seller := -1; seller <= 18; seller++ {
			for inst := -1; inst <= 10; inst++ {
				holdEnter(t, some(), deal(0, buyer, seller, inst, 7, 9))
			}
		}
	}
}

// TestEnterFull is P13.3: a day's trades, up to the last one for which there
// is room; a cancelled trade keeps its place.
func TestEnterFull(t *testing.T) {
	var b api.Book
	for n := 1; n <= 128; n++ {
		entered, no, e := Enter(b, deal(0, 1+n%16, 1+(n+1)%16, 1+n%8, n, n))
		if no != n || e != api.OK {
			t.Fatalf("Enter of trade %d = %d, %d", n, no, e)
		}
		b = entered
		if n%3 == 0 {
			b, _ = Cancel(b, n-1)
		}
	}
	if _, _, e := holdEnter(t, b, deal(0, 1, 2, 1, 1, 1)); e != api.ErrFull {
		t.Errorf("Enter of one too many = %d", e)
	}
	if _, _, e := holdCorrect(t, b, 1, 1, 1); e != api.ErrFull {
		t.Errorf("Correct where it is full = %d", e)
	}
	if _, no, e := holdEnter(t, Clear(b), deal(0, 1, 2, 1, 1, 1)); no != 129 || e != api.OK {
		t.Errorf("Enter on the next day = %d, %d", no, e)
	}
}

// TestCancelByHand is P13.3: a trade that stands is taken back and stays in
// its place, whatever has become of the positions; no other one is.
func TestCancelByHand(t *testing.T) {
	got, e := holdCancel(t, some(), 4)
	want := some()
	want.Trades[2].Off = true
	want.Poss = slices.Insert(want.Poss, 2, pos(2, 1, -1, 0))
	want.Poss = slices.Delete(want.Poss, 3, 4)
	want.Poss = slices.Insert(want.Poss, 5, pos(16, 1, 1, 1))
	if e != api.OK || !same(got, want) {
		t.Errorf("Cancel of 4 = %v, %d, not %v", got, e, want)
	}
	b := some()
	for _, no := range []int{3, 12, 0, 2, 5, 11, 13, -1, -4, 1<<32 + 1, least, most} {
		if got, e := holdCancel(t, b, no); e != api.ErrNone || !nothing(got) {
			t.Errorf("Cancel of %d = %v, %d", no, got, e)
		}
		if got, newNo, e := holdCorrect(t, b, no, 0, 0); e != api.ErrNone || newNo != 0 || !nothing(got) {
			t.Errorf("Correct of %d = %v, %d, %d", no, got, newNo, e)
		}
	}
	again, e := holdCancel(t, got, 4)
	if e != api.ErrNone || !nothing(again) {
		t.Errorf("Cancel of 4 again = %v, %d", again, e)
	}
}

// TestCancelErrors is P13.3: what would be too great when a trade is taken
// back.
func TestCancelErrors(t *testing.T) {
	for i, x := range []struct {
		poss []api.Pos
		e    api.Errno
	}{
		{nil, api.OK},
		{poss(pos(1, 1, 7-great, 0), pos(2, 1, great-7, 0)), api.OK},
		{poss(pos(1, 1, 6-great, 0), pos(3, 1, great-6, 0)), api.ErrBig},
		{poss(pos(2, 1, great-6, 0), pos(3, 1, 6-great, 0)), api.ErrBig},
		{poss(pos(1, 1, 0, 21-bound), pos(2, 1, 0, bound-21)), api.OK},
		{poss(pos(1, 1, 0, 20-bound)), api.ErrBig},
		{poss(pos(2, 1, 0, bound-20)), api.ErrBig},
		{poss(pos(1, 2, 0, -bound), pos(2, 2, 0, bound)), api.OK},
	} {
		b := api.Book{Next: 3, Trades: []api.Trade{deal(2, 1, 2, 1, 7, 3)}, Poss: x.poss}
		if _, e := holdCancel(t, b, 2); e != x.e {
			t.Errorf("%d: Cancel in %v = %d, not %d", i, b, e, x.e)
		}
		f := x.e
		if f == api.OK {
			f = api.ErrArg
		}
		if _, _, e := holdCorrect(t, b, 2, 0, 1); e != f {
			t.Errorf("%d: Correct in %v = %d, not %d", i, b, e, f)
		}
	}
}

// TestCorrectByHand is P13.3: the trade is cancelled in its place, and stands
// anew behind all others, with its own buyer, seller and instrument.
func TestCorrectByHand(t *testing.T) {
	b := api.Book{Next: 9, Trades: []api.Trade{deal(2, 1, 2, 3, 5, 10), deal(7, 2, 4, 3, 2, 8)}, Poss: poss(pos(1, 3, 5, 50), pos(2, 3, -3, -34), pos(4, 3, -2, -16))}
	got, no, e := holdCorrect(t, b, 2, 7, 9)
	want := api.Book{Next: 10, Trades: []api.Trade{off(b.Trades[0]), b.Trades[1], deal(10, 1, 2, 3, 7, 9)}, Poss: poss(pos(1, 3, 7, 63), pos(2, 3, -5, -47), pos(4, 3, -2, -16))}
	if no != 10 || e != api.OK || !same(got, want) {
		t.Errorf("Correct = %v, %d, %d, not %v", got, no, e, want)
	}
	got, no, e = holdCorrect(t, got, 10, 7, 9)
	want.Next, want.Trades = 11, append(want.Trades, deal(11, 1, 2, 3, 7, 9))
	want.Trades[2].Off = true
	if no != 11 || e != api.OK || !same(got, want) {
		t.Errorf("Correct of the corrected one = %v, %d, %d, not %v", got, no, e, want)
	}
	if _, _, e := holdCorrect(t, got, 2, 7, 9); e != api.ErrNone {
		t.Errorf("Correct of what is off = %d", e)
	}
}

// TestCorrectErrors is P13.3: Cancel's errors come before Enter's, and each
// error with the causes of all later ones beside it.
func TestCorrectErrors(t *testing.T) {
	huge := full()
	huge.Next, huge.Poss = great, poss(pos(1, 1, -great, 1), pos(2, 1, great, -1))
	last := api.Book{Next: great, Trades: []api.Trade{deal(6, 1, 2, 1, 1, 1)}, Poss: poss(pos(1, 1, great, bound), pos(2, 1, -great, -bound))}
	room := clone(last)
	room.Next = great - 1
	for i, x := range []struct {
		b              api.Book
		no, qty, price int
		e              api.Errno
	}{
		{odd(), 0, 0, 0, api.ErrState},
		{huge, 5, 0, 0, api.ErrNone},
		{huge, 6, 0, 0, api.ErrBig},
		{full(), 6, 0, 1, api.ErrArg},
		{full(), 6, 1, 0, api.ErrArg},
		{full(), 6, 1<<20 + 1, 1, api.ErrArg},
		{full(), 6, 1, 1<<30 + 1, api.ErrArg},
		{full(), 6, -1, -1, api.ErrArg},
		{full(), 6, 1, 1, api.ErrFull},
		{last, 6, 0, 1, api.ErrArg},
		{last, 6, 1, 1, api.ErrBig},
		{room, 6, 1, 1, api.OK},
		{room, 6, 2, 1, api.ErrBig},
		{room, 6, 1, 2, api.ErrBig},
	} {
		got, no, e := holdCorrect(t, x.b, x.no, x.qty, x.price)
		if e != x.e || e != api.OK && (no != 0 || !nothing(got)) {
			t.Errorf("%d: Correct(%v, %d, %d, %d) = %v, %d, %d, not %d", i, x.b, x.no, x.qty, x.price, got, no, e, x.e)
		}
	}
	for _, no := range []int{1, 4, 9} {
		for _, n := range edges() {
			holdCorrect(t, some(), no, n, 3)
			holdCorrect(t, some(), no, 3, n)
		}
	}
}

// TestClear is P13.4: any book without its trades, and nothing else gone.
func TestClear(t *testing.T) {
	for _, b := range []api.Book{{}, some(), full(), odd()} {
		before := clone(b)
		got := Clear(b)
		if got.Next != b.Next || len(got.Trades) != 0 || !slices.Equal(got.Poss, b.Poss) || !same(b, before) {
			t.Errorf("Clear(%v) = %v", b, got)
		}
	}
	b := Clear(some())
	if e := Check(b); e != api.OK {
		t.Errorf("Check of a cleared book = %d", e)
	}
	for _, x := range some().Trades {
		if _, e := holdCancel(t, b, x.No); e != api.ErrNone {
			t.Errorf("Cancel of %d in a cleared book = %d", x.No, e)
		}
	}
}

// step makes one random change of b, held against the chapter's words, and
// returns what it has led to.
func step(t *testing.T, rnd *rand.Rand, b api.Book) (api.Book, api.Errno) {
	t.Helper()
	size := func(most int) int { return 1 + rnd.IntN(most>>rnd.IntN(20)) - rnd.IntN(20)/19 }
	x := deal(rnd.Int(), 1+rnd.IntN(4), 1+rnd.IntN(4), 1+rnd.IntN(3)*rnd.IntN(4), size(1<<20), size(1<<30))
	no := b.Next - rnd.IntN(6)
	if rnd.IntN(2) == 0 {
		no = 1 + rnd.IntN(b.Next+2)
	}
	var got api.Book
	var e api.Errno
	switch rnd.IntN(12) {
	case 0:
		return Clear(b), api.OK
	case 1, 2, 3:
		got, e = holdCancel(t, b, no)
	case 4, 5, 6:
		got, _, e = holdCorrect(t, b, no, x.Qty, x.Price)
	case 7, 8:
		legs := poss(pos(x.Buyer, x.Inst, x.Qty<<rnd.IntN(32), x.Price<<rnd.IntN(34)), pos(x.Seller, x.Inst, 0, -x.Price))
		legs = append(legs, pos(x.Seller, x.Inst, rnd.IntN(9)/8-legs[0].Qty, 0))
		got, e = holdAdd(t, b, legs...)
	default:
		got, _, e = holdEnter(t, b, x)
	}
	return got, e
}

// TestRows is P13.1 to P13.5: long rows of changes, against the document's
// words; what is refused leaves all as it was, and what is left is right.
func TestRows(t *testing.T) {
	rnd := rand.New(rand.NewPCG(13, 1))
	told := map[api.Errno]int{}
	for range 100 {
		var b api.Book
		for range 100 {
			got, e := step(t, rnd, b)
			told[e]++
			if e == api.OK {
				b = got
			}
			if !exactRight(b) {
				t.Fatalf("the book %v is not right", b)
			}
			for inst := range 10 {
				wantQty, wantCost := exactSum(b, inst)
				if qty, cost := Sum(b, inst); qty != 0 || wantQty != 0 || cost != wantCost {
					t.Errorf("Sum(%v, %d) = %d, %d, not %d, %d", b, inst, qty, cost, wantQty, wantCost)
				}
			}
		}
	}
	for _, e := range []api.Errno{api.OK, api.ErrArg, api.ErrSum, api.ErrBig, api.ErrNone} {
		if told[e] < 20 {
			t.Errorf("the error %d came %d times", e, told[e])
		}
	}
}

// TestThereAndBack is P13.5: to enter a trade and to cancel it leaves the
// positions as they were, whatever they are; and so does a correction that is
// cancelled, if the trade was.
func TestThereAndBack(t *testing.T) {
	rnd := rand.New(rand.NewPCG(13, 2))
	var b api.Book
	done := 0
	for range 3000 {
		if got, e := step(t, rnd, b); e == api.OK {
			b = got
		}
		entered, no, e := Enter(b, deal(0, 1+rnd.IntN(16), 1+rnd.IntN(16), 1+rnd.IntN(8), 1+rnd.IntN(1<<20), 1+rnd.IntN(1<<30)))
		if e != api.OK {
			continue
		}
		back, e := Cancel(entered, no)
		if e != api.OK || !slices.Equal(back.Poss, b.Poss) || back.Next != b.Next+1 {
			t.Errorf("%v entered and cancelled = %v, %d, not %v", entered.Trades[len(b.Trades)], back.Poss, e, b.Poss)
		}
		corrected, no, e := Correct(entered, no, 1, 1)
		if e != api.OK {
			continue
		}
		back, e = Cancel(corrected, no)
		if e != api.OK || !slices.Equal(back.Poss, b.Poss) {
			t.Errorf("corrected and cancelled = %v, %d, not %v", back.Poss, e, b.Poss)
		}
		done++
	}
	if done < 1000 {
		t.Errorf("%d trades were made", done)
	}
}

// TestArgumentsStay is R2: what is passed in stays as it was, behind the ends
// of its lists too, and what stands there counts for nothing.
func TestArgumentsStay(t *testing.T) {
	b := some()
	b.Trades = append(b.Trades, deal(13, 0, 0, 0, 0, 0), deal(2, 1, 2, 1, 1, 1))
	b.Poss = append(b.Poss, pos(1, 1, 5, 5), pos(99, 3, 1, 1))
	legs := poss(pos(1, 3, 1, 1), pos(9, 3, -1, 3), pos(1, 1, 1, 1), pos(0, 0, most, least))
	before, legsBefore := clone(b), slices.Clone(legs)
	shown := api.Book{Next: 12, Trades: b.Trades[:5], Poss: b.Poss[:7]}
	holdCheck(t, shown)
	holdAdd(t, shown, legs[:2]...)
	holdAdd(t, shown, legs...)
	holdEnter(t, shown, deal(0, 1, 2, 3, 4, 5))
	holdEnter(t, shown, deal(0, 0, 2, 3, 4, 5))
	holdCancel(t, shown, 4)
	holdCancel(t, shown, 2)
	holdCorrect(t, shown, 4, 7, 8)
	holdCorrect(t, shown, 4, 0, 8)
	Clear(shown)
	if p := Of(shown, api.Key{Who: 1, Inst: 1}); p != pos(1, 1, 0, 0) {
		t.Errorf("Of = %v", p)
	}
	if qty, cost := Sum(shown, 1); qty != 0 || cost != 1 {
		t.Errorf("Sum = %d, %d", qty, cost)
	}
	if !same(b, before) || !slices.Equal(legs, legsBefore) {
		t.Errorf("the arguments became %v, %v", b, legs)
	}
}

// spoil writes into the lists of a book, and behind their ends.
func spoil(b api.Book) {
	for k := range b.Trades[:cap(b.Trades)] {
		b.Trades[:cap(b.Trades)][k] = deal(9, 9, 9, 9, 9, 9)
	}
	for k := range b.Poss[:cap(b.Poss)] {
		b.Poss[:cap(b.Poss)][k] = pos(9, 9, 9, 9)
	}
}

// TestResultsAreNew is R2 and R3: what is written into a result, and into the
// memory behind it, is seen in no argument and in no other result.
func TestResultsAreNew(t *testing.T) {
	for k, call := range []func(api.Book) (api.Book, api.Errno){
		func(b api.Book) (api.Book, api.Errno) { return Add(b) },
		func(b api.Book) (api.Book, api.Errno) { return Add(b, pos(1, 1, 0, 3)) },
		func(b api.Book) (api.Book, api.Errno) { return Cancel(b, 4) },
		func(b api.Book) (api.Book, api.Errno) { b, _, e := Enter(b, deal(0, 1, 2, 3, 4, 5)); return b, e },
		func(b api.Book) (api.Book, api.Errno) { b, _, e := Correct(b, 4, 5, 6); return b, e },
		func(b api.Book) (api.Book, api.Errno) { return Clear(b), api.OK },
	} {
		b := some()
		before := clone(b)
		first, e := call(b)
		second, _ := call(b)
		want := clone(second)
		if e != api.OK || !same(first, want) {
			t.Fatalf("%d: %v, %d, and then %v", k, first, e, want)
		}
		spoil(first)
		third, _ := call(b)
		if !same(second, want) || !same(third, want) || !same(b, before) {
			t.Errorf("%d: after a write into a result: %v, %v, not %v; the book became %v", k, second, third, want, b)
		}
	}
}

// TestResultsHideNothing is R2 and R6: behind the ends of a result's lists
// there is nothing of what was passed in.
func TestResultsHideNothing(t *testing.T) {
	b := some()
	b.Trades = append(b.Trades, deal(77, 7, 7, 7, 7, 7))[:5]
	b.Poss = append(b.Poss, pos(77, 7, 7, 7))[:7]
	added, _ := Add(b)
	cancelled, _ := Cancel(b, 4)
	for _, x := range []api.Book{added, cancelled, Clear(b)} {
		for _, y := range x.Trades[:cap(x.Trades)] {
			if y.No == 77 {
				t.Errorf("behind the end there is %v", y)
			}
		}
		for _, p := range x.Poss[:cap(x.Poss)] {
			if p.Who == 77 {
				t.Errorf("behind the end there is %v", p)
			}
		}
	}
}
