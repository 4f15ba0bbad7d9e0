package mark

import (
	"math"
	"math/big"
	"math/rand/v2"
	"slices"
	"testing"

	"cambist/api"
	"cambist/book"
	"cambist/roll"
)

const (
	bound = 1 << 62
	great = 1 << 40
	least = math.MinInt
	most  = math.MaxInt
)

// pos tells a position.
func pos(who, inst, qty, cost int) api.Pos {
	return api.Pos{Key: api.Key{Who: who, Inst: inst}, Qty: qty, Cost: cost}
}

// held tells a book with these positions.
func held(poss ...api.Pos) api.Book { return api.Book{Poss: poss} }

// with tells a roll with these instruments.
func with(insts ...api.Inst) api.Roll { return api.Roll{Insts: insts} }

// due tells a due.
func due(who, cur, amount int) api.Due { return api.Due{Who: who, Cur: cur, Amount: amount} }

// someRoll is a right roll: an instrument with both prices, one with the last
// price alone, one with the told price alone, and one without any.
func someRoll() api.Roll {
	return api.Roll{
		Members: []api.Member{{No: 1, State: api.Active}, {No: 2, State: api.Defaulted, Need: 7}, {No: 3, State: api.Closed}},
		Insts: []api.Inst{
			{No: 1, Cur: 2, Mult: 10, Set: 12, Price: 9}, {No: 3, Mult: 1, Add: 5, Price: 4, Shifts: [6]int{1, -2}},
			{No: 4, Cur: 1, Mult: 1024, Set: 1 << 30}, {No: 8, Cur: 1, Mult: 3},
		},
		Assets: []api.Asset{{No: 6, Price: 1}},
	}
}

// someBook is a right book that someRoll marks, with a position in each of its
// instruments, and such as have a Cost and nothing else.
func someBook() api.Book {
	return api.Book{
		Next: 12,
		Trades: []api.Trade{
			{No: 1, Buyer: 1, Seller: 2, Inst: 3, Qty: 5, Price: 10}, {No: 7, Buyer: 16, Seller: 1, Inst: 8, Qty: 1 << 20, Price: 1 << 30, Off: true},
			{No: 12, Buyer: 2, Seller: 16, Inst: 5, Qty: 1, Price: 1},
		},
		Poss: []api.Pos{
			pos(1, 1, 5, 50), pos(1, 3, 0, 7), pos(2, 1, -5, -61), pos(2, 3, 6, 24), pos(2, 4, 3, -9),
			pos(5, 8, 0, -5), pos(16, 3, -6, 0), pos(16, 4, -3, 9), pos(16, 8, 0, 2),
		},
	}
}

// someDues are the dues of someBook by someRoll, written out.
func someDues() []api.Due {
	return []api.Due{
		due(1, 2, 100), due(1, 0, -7), due(2, 2, 10), due(2, 0, 0), due(2, 1, 1024*(3<<30+9)),
		due(5, 1, 15), due(16, 0, -24), due(16, 1, -1024*(3<<30+9)), due(16, 1, -6),
	}
}

// somePoss are the positions of someBook, marked by someRoll, written out.
func somePoss() []api.Pos {
	return []api.Pos{pos(1, 1, 5, 60), pos(2, 1, -5, -60), pos(2, 3, 6, 24), pos(2, 4, 3, 3<<30), pos(16, 3, -6, -24), pos(16, 4, -3, -3<<30)}
}

// cloneRoll and cloneBook are what they are given, in memory of their own.
func cloneRoll(r api.Roll) api.Roll {
	return api.Roll{
		Members: append([]api.Member(nil), r.Members...),
		Insts:   append([]api.Inst(nil), r.Insts...),
		Assets:  append([]api.Asset(nil), r.Assets...),
	}
}

func cloneBook(b api.Book) api.Book {
	return api.Book{Next: b.Next, Trades: append([]api.Trade(nil), b.Trades...), Poss: append([]api.Pos(nil), b.Poss...)}
}

// sameRoll and sameBook report whether two have the same in them.
func sameRoll(a, b api.Roll) bool {
	return slices.Equal(a.Members, b.Members) && slices.Equal(a.Insts, b.Insts) && slices.Equal(a.Assets, b.Assets)
}

func sameBook(a, b api.Book) bool {
	return a.Next == b.Next && slices.Equal(a.Trades, b.Trades) && slices.Equal(a.Poss, b.Poss)
}

// nothing reports whether b is the zero value.
func nothing(b api.Book) bool { return b.Next == 0 && b.Trades == nil && b.Poss == nil }

// exact is n with as many bits as it takes.
func exact(n int) *big.Int { return big.NewInt(int64(n)) }

// isMoney says it from the document's words: from -2^62 to 2^62.
func isMoney(n *big.Int) bool { return n.CmpAbs(exact(bound)) <= 0 }

// formula is mult (qty price - cost), with as many bits as it takes.
func formula(qty, cost, mult, price int) *big.Int {
	n := new(big.Int).Mul(exact(qty), exact(price))
	n.Sub(n, exact(cost))
	return n.Mul(n, exact(mult))
}

// exactWorth is the first call of P14.1, word by word.
func exactWorth(p api.Pos, mult, price int) (int, api.Errno) {
	if p.Qty < -great || p.Qty > great || !isMoney(exact(p.Cost)) || mult < 1 || mult > 1024 || price < 0 || price > 1073741824 {
		return 0, api.ErrArg
	}
	n := formula(p.Qty, p.Cost, mult, price)
	if !isMoney(n) {
		return 0, api.ErrBig
	}
	return int(n.Int64()), api.OK
}

// exactOne is what P14.2 says of one position.
func exactOne(r api.Roll, p api.Pos) (cost, amount, cur int, e api.Errno) {
	at := slices.IndexFunc(r.Insts, func(i api.Inst) bool { return i.No == p.Inst })
	if at < 0 {
		return 0, 0, 0, api.ErrNone
	}
	i := r.Insts[at]
	price := i.Set
	if price == 0 {
		price = i.Price
	}
	if price == 0 && p.Qty != 0 {
		return 0, 0, 0, api.ErrPrice
	}
	worth, after := formula(p.Qty, p.Cost, i.Mult, price), formula(p.Qty, 0, 1, price)
	if !isMoney(worth) || !isMoney(after) {
		return 0, 0, 0, api.ErrBig
	}
	return int(after.Int64()), int(worth.Int64()), i.Cur, api.OK
}

// exactRun is P14.2, word by word.
func exactRun(r api.Roll, b api.Book) (api.Book, []api.Due, api.Errno) {
	if e := roll.Check(r); e != api.OK {
		return api.Book{}, nil, e
	}
	if e := book.Check(b); e != api.OK {
		return api.Book{}, nil, e
	}
	marked, dues := cloneBook(b), []api.Due(nil)
	marked.Poss = nil
	for _, p := range b.Poss {
		cost, amount, cur, e := exactOne(r, p)
		if e != api.OK {
			return api.Book{}, nil, e
		}
		dues = append(dues, due(p.Who, cur, amount))
		if p.Qty != 0 || cost != 0 {
			marked.Poss = append(marked.Poss, pos(p.Who, p.Inst, p.Qty, cost))
		}
	}
	return marked, dues, api.OK
}

// holdWorth holds Worth against the chapter's words.
func holdWorth(t *testing.T, p api.Pos, mult, price int) api.Errno {
	t.Helper()
	n, e := Worth(p, mult, price)
	if m, f := exactWorth(p, mult, price); n != m || e != f {
		t.Errorf("Worth(%v, %d, %d) = %d, %d, not %d, %d", p, mult, price, n, e, m, f)
	}
	return e
}

// holdRun holds Run against the chapter's words, and sees that what was passed
// in stays as it was.
func holdRun(t *testing.T, r api.Roll, b api.Book) (api.Book, []api.Due, api.Errno) {
	t.Helper()
	rBefore, bBefore := cloneRoll(r), cloneBook(b)
	want, wantDues, wantE := exactRun(r, b)
	got, dues, e := Run(r, b)
	if e != wantE || !sameBook(got, want) || !slices.Equal(dues, wantDues) {
		t.Errorf("Run(%v, %v) = %v, %v, %d, not %v, %v, %d", r, b, got, dues, e, want, wantDues, wantE)
	}
	if e != api.OK && (!nothing(got) || dues != nil) {
		t.Errorf("Run(%v, %v) = %v, %v beside error %d", r, b, got, dues, e)
	}
	if e == api.OK && (book.Check(got) != api.OK || len(dues) != len(b.Poss)) {
		t.Errorf("Run(%v, %v) = %v, %v", r, b, got, dues)
	}
	if !sameRoll(r, rBefore) || !sameBook(b, bBefore) {
		t.Errorf("Run changed %v, %v to %v, %v", rBefore, bBefore, r, b)
	}
	return got, dues, e
}

// TestWorthByHand is P14.1: gains and losses of both sides, at the bound and
// one beyond it, with parts beyond money and a sum within it.
func TestWorthByHand(t *testing.T) {
	for _, x := range []struct {
		qty, cost, mult, price, n int
		e                         api.Errno
	}{
		{5, 50, 10, 12, 100, api.OK},
		{-5, -50, 10, 12, -100, api.OK},
		{5, 50, 10, 10, 0, api.OK},
		{5, 50, 1, 0, -50, api.OK},
		{-5, -50, 1024, 0, 51200, api.OK},
		{5, -50, 2, 12, 220, api.OK},
		{-5, 50, 2, 12, -220, api.OK},
		{0, 7, 3, 99, -21, api.OK},
		{0, 0, 1, 0, 0, api.OK},
		{1, 0, 1024, 1 << 30, 1 << 40, api.OK},
		{great, 0, 1, 1 << 22, bound, api.OK},
		{-great, 0, 1, 1 << 22, -bound, api.OK},
		{great, -1, 1, 1 << 22, 0, api.ErrBig},
		{-great, 1, 1, 1 << 22, 0, api.ErrBig},
		{great, 0, 1024, 1 << 12, bound, api.OK},
		{great, -1, 1024, 1 << 12, 0, api.ErrBig},
		{great, bound, 1, 1 << 23, bound, api.OK},
		{-great, -bound, 1, 1 << 23, -bound, api.OK},
		{great, bound, 1, 1<<23 + 1, 0, api.ErrBig},
		{great, bound, 1024, 1 << 22, 0, api.OK},
		{-great, -bound, 1024, 1 << 22, 0, api.OK},
		{great, bound - 3, 1024, 1 << 22, 3072, api.OK},
		{0, bound, 1, 5, -bound, api.OK},
		{0, -bound, 1, 5, bound, api.OK},
		{0, bound, 2, 5, 0, api.ErrBig},
		{0, -bound, 1024, 5, 0, api.ErrBig},
		{0, bound / 1024, 1024, 5, -bound, api.OK},
		{0, bound/1024 + 1, 1024, 5, 0, api.ErrBig},
		{great, 0, 1, 1 << 24, 0, api.ErrBig},
		{great, 0, 1024, 1 << 30, 0, api.ErrBig},
		{-great, bound, 1024, 1 << 30, 0, api.ErrBig},
	} {
		n, e := Worth(pos(1, 3, x.qty, x.cost), x.mult, x.price)
		if n != x.n || e != x.e {
			t.Errorf("%v: Worth = %d, %d", x, n, e)
		}
	}
}

// TestWorthArg is P14.1: each number beyond its ends, on both sides, alone and
// where the result would not be money either.
func TestWorthArg(t *testing.T) {
	for _, x := range []struct{ qty, cost, mult, price int }{
		{great + 1, 1, 1, 1}, {-great - 1, 1, 1, 1}, {most, 1, 1, 1}, {least, 1, 1, 1},
		{1, bound + 1, 1, 1}, {1, -bound - 1, 1, 1}, {1, most, 1, 1}, {1, least, 1, 1},
		{1, 1, 0, 1}, {1, 1, -1, 1}, {1, 1, 1025, 1}, {1, 1, 1<<32 + 1, 1}, {1, 1, most, 1}, {1, 1, least, 1},
		{1, 1, 1, -1}, {1, 1, 1, 1<<30 + 1}, {1, 1, 1, 1<<32 + 1}, {1, 1, 1, most}, {1, 1, 1, least},
		{great + 1, 0, 1024, 1 << 30}, {-great - 1, 0, 1024, 1 << 30},
		{0, bound + 1, 1024, 0}, {0, -bound - 1, 1024, 0},
		{great, 0, 1025, 1 << 30}, {great, 0, 1024, 1<<30 + 1}, {0, bound, 1024, -1},
		{least, least, least, least}, {most, most, most, most}, {0, 0, 0, 0},
	} {
		if n, e := Worth(pos(1, 3, x.qty, x.cost), x.mult, x.price); n != 0 || e != api.ErrArg {
			t.Errorf("%v: Worth = %d, %d", x, n, e)
		}
	}
}

// around are numbers and those next to them, with both signs.
func around(l ...int) []int {
	var all []int
	for _, n := range l {
		all = append(all, n-1, n, n+1, -n-1, -n, -n+1)
	}
	all = append(all, least, most)
	slices.Sort(all)
	return slices.Compact(all)
}

// TestWorthAtEdges is P14.1: all edges of all four numbers with one another,
// exactly. Each of the three answers comes often.
func TestWorthAtEdges(t *testing.T) {
	seen := map[api.Errno]int{}
	for _, qty := range around(0, 7, 1<<20, great-1, great) {
		for _, cost := range around(0, 50, 1<<52, bound/2, bound) {
			for _, mult := range around(1, 10, 1024) {
				for _, price := range around(0, 9, 1<<12, 1<<22, 1<<23, 1<<30) {
					seen[holdWorth(t, pos(1, 1, qty, cost), mult, price)]++
				}
			}
		}
	}
	if seen[api.OK] < 1000 || seen[api.ErrArg] < 1000 || seen[api.ErrBig] < 1000 {
		t.Errorf("the answers were %v", seen)
	}
}

// TestWorthRandom is P14.1: numbers whose result lies about the bound, exactly.
func TestWorthRandom(t *testing.T) {
	g := rand.New(rand.NewPCG(14, 1))
	seen := map[api.Errno]int{}
	for range 200000 {
		qty, mult, price := g.IntN(2*great+1)-great, 1+g.IntN(1024)>>g.IntN(11), g.IntN(1<<30+1)>>g.IntN(31)
		// A Cost that brings the result near an end, where it is money itself.
		end := new(big.Int).Quo(exact(bound), exact(mult))
		near := new(big.Int).Mul(exact(qty), exact(price))
		if g.IntN(2) == 0 {
			end.Neg(end)
		}
		near.Sub(near, end)
		cost := g.IntN(bound) - bound/2
		if isMoney(near) {
			cost = min(max(int(near.Int64())+g.IntN(7)-3, -bound), bound)
		}
		seen[holdWorth(t, pos(1, 1, qty, cost), mult, price)]++
	}
	if seen[api.OK] < 10000 || seen[api.ErrBig] < 10000 {
		t.Errorf("the answers were %v", seen)
	}
}

// TestWorthOfAnyKey is P14.1: whose the position is, and in what, counts for
// nothing.
func TestWorthOfAnyKey(t *testing.T) {
	for _, who := range []int{least, -1, 0, 1, 17, most} {
		for _, inst := range []int{least, -1, 0, 3, 9, most} {
			if n, e := Worth(pos(who, inst, 5, 50), 10, 12); n != 100 || e != api.OK {
				t.Errorf("Worth for %d, %d = %d, %d", who, inst, n, e)
			}
		}
	}
}

// TestPrice is P14.1: the told price goes before the last one, and only where
// both are 0 there is none; the other numbers count for nothing.
func TestPrice(t *testing.T) {
	for _, other := range []api.Inst{{}, {No: 3, Cur: 2, Mult: 10, Add: 77, Shifts: [6]int{1, 2, 3, 4, 5, 6}}, {No: -1, Cur: most, Mult: least}} {
		for _, set := range []int{0, 1, 7, 1 << 30, 1<<30 + 1, 1 << 32, -1, least, most} {
			for _, price := range []int{0, 1, 5, 1 << 30, 1<<30 + 1, 1 << 32, -1, least, most} {
				i := other
				i.Set, i.Price = set, price
				want, wantE := set, api.OK
				if set == 0 {
					want = price
				}
				if want == 0 {
					wantE = api.ErrPrice
				}
				if n, e := Price(i); n != want || e != wantE {
					t.Errorf("Price(%v) = %d, %d, not %d, %d", i, n, e, want, wantE)
				}
			}
		}
	}
}

// TestRunByHand is P14.2: the example of the chapter, and a book with all that
// a position can be, with the answers written out.
func TestRunByHand(t *testing.T) {
	r := with(api.Inst{No: 3, Mult: 10, Set: 12})
	got, dues, e := holdRun(t, r, held(pos(1, 3, 5, 50), pos(2, 3, -5, -50)))
	if !slices.Equal(got.Poss, []api.Pos{pos(1, 3, 5, 60), pos(2, 3, -5, -60)}) || !slices.Equal(dues, []api.Due{due(1, 0, 100), due(2, 0, -100)}) || e != api.OK {
		t.Errorf("Run = %v, %v, %d", got, dues, e)
	}
	b := someBook()
	got, dues, e = holdRun(t, someRoll(), b)
	if !slices.Equal(got.Poss, somePoss()) || got.Next != 12 || !slices.Equal(got.Trades, b.Trades) || e != api.OK {
		t.Errorf("Run = %v, %d", got, e)
	}
	if !slices.Equal(dues, someDues()) {
		t.Errorf("the dues are %v", dues)
	}
}

// TestRunOfNothing is P14.2: without positions there are no dues, and the
// trades and their last number stay.
func TestRunOfNothing(t *testing.T) {
	for _, r := range []api.Roll{{}, someRoll()} {
		for _, b := range []api.Book{{}, {Next: 12, Trades: someBook().Trades}, {Next: great}} {
			got, dues, e := holdRun(t, r, b)
			if !sameBook(got, b) || len(dues) != 0 || e != api.OK {
				t.Errorf("Run of %v = %v, %v, %d", b, got, dues, e)
			}
		}
	}
}

// TestRunPrices is P14.2: a position is marked at the told price if there is
// one, else at the last one, and at 0 only if it holds nothing.
func TestRunPrices(t *testing.T) {
	for _, x := range []struct{ set, price, at int }{{7, 5, 7}, {7, 0, 7}, {0, 5, 5}, {5, 7, 5}, {1, 1 << 30, 1}, {1 << 30, 1, 1 << 30}} {
		r := with(api.Inst{No: 2, Cur: 1, Mult: 3, Set: x.set, Price: x.price})
		got, dues, e := holdRun(t, r, held(pos(4, 2, 2, 9), pos(7, 2, 0, -4), pos(9, 2, -2, 0)))
		want := []api.Due{due(4, 1, 3*(2*x.at-9)), due(7, 1, 12), due(9, 1, -6*x.at)}
		if !slices.Equal(dues, want) || !slices.Equal(got.Poss, []api.Pos{pos(4, 2, 2, 2*x.at), pos(9, 2, -2, -2*x.at)}) || e != api.OK {
			t.Errorf("%v: Run = %v, %v, %d", x, got, dues, e)
		}
	}
	r := with(api.Inst{No: 2, Cur: 1, Mult: 3})
	if got, dues, e := holdRun(t, r, held(pos(7, 2, 0, -4))); len(got.Poss) != 0 || !slices.Equal(dues, []api.Due{due(7, 1, 12)}) || e != api.OK {
		t.Errorf("Run without a price = %v, %v, %d", got, dues, e)
	}
	if _, _, e := holdRun(t, r, held(pos(4, 2, 1, 0), pos(7, 2, -1, 0))); e != api.ErrPrice {
		t.Errorf("Run without a price = %d", e)
	}
}

// TestRunDuesOfNought is P14.2: a position that has gained nothing gives its
// due as any other, and dues of one member and currency stand by themselves.
func TestRunDuesOfNought(t *testing.T) {
	r := with(api.Inst{No: 1, Mult: 2, Price: 10}, api.Inst{No: 2, Mult: 2, Price: 10})
	b := held(pos(1, 1, 3, 30), pos(1, 2, 3, 30), pos(2, 1, -3, -30), pos(2, 2, -3, -31))
	got, dues, e := holdRun(t, r, b)
	if !slices.Equal(dues, []api.Due{due(1, 0, 0), due(1, 0, 0), due(2, 0, 0), due(2, 0, 2)}) || len(got.Poss) != 4 || e != api.OK {
		t.Errorf("Run = %v, %v, %d", got, dues, e)
	}
}

// TestRunAsksNoMember is P14.2: it takes positions of whoever, also of those
// that are not members, or not active.
func TestRunAsksNoMember(t *testing.T) {
	inst := api.Inst{No: 1, Mult: 1, Price: 3}
	b := held(pos(1, 1, 4, 0), pos(16, 1, -4, 0))
	for _, members := range [][]api.Member{nil, {{No: 1, State: 1}}, {{No: 1, State: 2}, {No: 16, State: 3}}, {{No: 5, State: 1}}} {
		r := api.Roll{Members: members, Insts: []api.Inst{inst}}
		if _, dues, e := holdRun(t, r, b); !slices.Equal(dues, []api.Due{due(1, 0, 12), due(16, 0, -12)}) || e != api.OK {
			t.Errorf("Run with %v = %v, %d", members, dues, e)
		}
	}
}

// TestRunBig is P14.2: the Worth and the new Cost at the bound and one beyond
// it, each of them alone.
func TestRunBig(t *testing.T) {
	for _, x := range []struct {
		mult, price int
		poss        []api.Pos
		e           api.Errno
	}{
		{1, 1 << 22, []api.Pos{pos(1, 1, great, 0), pos(2, 1, -great, 0)}, api.OK},
		{1, 1<<22 + 1, []api.Pos{pos(1, 1, great, 0), pos(2, 1, -great, 0)}, api.ErrBig},
		{1, 1 << 22, []api.Pos{pos(1, 1, great, bound), pos(2, 1, -great, -bound)}, api.OK},
		{1, 1 << 22, []api.Pos{pos(1, 1, great, -1), pos(2, 1, -great, 0)}, api.ErrBig},
		{1, 1 << 22, []api.Pos{pos(1, 1, great, 0), pos(2, 1, -great, 1)}, api.ErrBig},
		{1, 1 << 22, []api.Pos{pos(1, 1, great, 1), pos(2, 1, -great, -1)}, api.OK},
		{2, 1 << 22, []api.Pos{pos(1, 1, great, bound/2), pos(2, 1, -great, -bound/2)}, api.OK},
		{2, 1 << 22, []api.Pos{pos(1, 1, great, bound/2-1), pos(2, 1, -great, -bound/2)}, api.ErrBig},
		{1024, 1 << 12, []api.Pos{pos(1, 1, great, 0), pos(2, 1, -great, 0)}, api.OK},
		{1024, 1<<12 + 1, []api.Pos{pos(1, 1, great, 0), pos(2, 1, -great, 0)}, api.ErrBig},
		{1, 1 << 23, []api.Pos{pos(1, 1, great, bound), pos(2, 1, -great, -bound)}, api.ErrBig},
		{1, 1<<22 + 1, []api.Pos{pos(1, 1, great, bound), pos(2, 1, -great, -bound)}, api.ErrBig},
		{1024, 1 << 30, []api.Pos{pos(1, 1, great, bound), pos(2, 1, -great, -bound)}, api.ErrBig},
		{1, 5, []api.Pos{pos(1, 1, 0, bound), pos(2, 1, 0, -bound)}, api.OK},
		{2, 5, []api.Pos{pos(1, 1, 0, bound)}, api.ErrBig},
		{2, 5, []api.Pos{pos(2, 1, 0, -bound/2-1)}, api.ErrBig},
		{2, 5, []api.Pos{pos(1, 1, 0, bound/2), pos(2, 1, 0, -bound/2)}, api.OK},
		{1024, 0, []api.Pos{pos(1, 1, 0, bound/1024)}, api.OK},
		{1024, 0, []api.Pos{pos(1, 1, 0, bound/1024+1)}, api.ErrBig},
	} {
		for _, i := range []api.Inst{{No: 1, Mult: x.mult, Set: x.price}, {No: 1, Mult: x.mult, Price: x.price}} {
			if _, _, e := holdRun(t, with(i), held(x.poss...)); e != x.e {
				t.Errorf("Run of %v at %d, times %d = %d, not %d", x.poss, x.price, x.mult, e, x.e)
			}
		}
	}
}

// TestRunState is P14.2: a roll or a book that is not right goes before all
// that can be wrong with a position, and also where there is none.
func TestRunState(t *testing.T) {
	wrongRolls := []api.Roll{
		with(api.Inst{}), with(api.Inst{No: 1, Mult: 0}), with(api.Inst{No: 1, Mult: 1, Price: -1}), with(api.Inst{No: 1, Mult: 1, Set: 1<<30 + 1}),
		with(api.Inst{No: 2, Mult: 1}, api.Inst{No: 1, Mult: 1}), with(api.Inst{No: 1, Mult: 1}, api.Inst{No: 1, Mult: 1}),
		{Members: []api.Member{{No: 17, State: 1}}}, {Assets: []api.Asset{{No: 1}}},
	}
	wrongBooks := []api.Book{
		{Next: -1}, {Next: great + 1}, {Next: 1, Trades: []api.Trade{{No: 1, Buyer: 1, Seller: 1, Inst: 1, Qty: 1, Price: 1}}},
		held(pos(1, 1, 1, 0)), held(pos(1, 1, 0, 0)), held(pos(17, 1, 0, 1)), held(pos(1, 9, 0, 1)), held(pos(1, 1, 0, bound+1)),
		held(pos(1, 1, great+1, 0), pos(2, 1, -great-1, 0)), held(pos(2, 1, -1, 0), pos(1, 1, 1, 0)), held(pos(1, 1, 0, 1), pos(1, 1, 0, 1)),
	}
	books := append(wrongBooks, api.Book{}, someBook(), held(pos(1, 1, 1, bound), pos(2, 1, -1, -bound)))
	for _, r := range wrongRolls {
		for _, b := range books {
			if _, _, e := holdRun(t, r, b); e != api.ErrState {
				t.Errorf("Run(%v, %v) = %d", r, b, e)
			}
		}
	}
	for _, b := range wrongBooks {
		for _, r := range []api.Roll{{}, someRoll(), with(api.Inst{No: 1, Mult: 1}), with(api.Inst{No: 1, Mult: 1024, Set: 1 << 30})} {
			if _, _, e := holdRun(t, r, b); e != api.ErrState {
				t.Errorf("Run(%v, %v) = %d", r, b, e)
			}
		}
	}
}

// TestRunErrorsOfOne is P14.2: what goes first where more than one thing is
// wrong with a position.
func TestRunErrorsOfOne(t *testing.T) {
	both := func(qty, cost int) api.Book { return held(pos(3, 2, qty, cost), pos(4, 2, -qty, -cost)) }
	for _, x := range []struct {
		r api.Roll
		b api.Book
		e api.Errno
	}{
		{api.Roll{}, both(great, bound), api.ErrNone},
		{with(api.Inst{No: 1, Mult: 1, Price: 1}, api.Inst{No: 3, Mult: 1, Price: 1}), both(1, 0), api.ErrNone},
		{with(api.Inst{No: 1, Mult: 1, Price: 1}, api.Inst{No: 3, Mult: 1, Price: 1}), both(0, 1), api.ErrNone},
		{with(api.Inst{No: 2, Mult: 1024}), both(great, bound), api.ErrPrice},
		{with(api.Inst{No: 2, Mult: 1024}), both(1, 0), api.ErrPrice},
		{with(api.Inst{No: 2, Mult: 1024}), both(0, bound), api.ErrBig},
		{with(api.Inst{No: 2, Mult: 1024, Set: 1}), both(1, bound), api.ErrBig},
		{with(api.Inst{No: 2, Mult: 1024}), both(0, 1), api.OK},
	} {
		if _, _, e := holdRun(t, x.r, x.b); e != x.e {
			t.Errorf("Run(%v, %v) = %d, not %d", x.r, x.b, e, x.e)
		}
	}
}

// faulty makes a roll and a book in which, behind a position that is right,
// others are wrong by kinds, in their order: those of one member by rising
// instruments, or those of rising members by falling instruments.
func faulty(kinds []api.Errno, byWho bool) (api.Roll, api.Book) {
	r := with(api.Inst{No: 1, Mult: 1, Price: 1})
	var first, second []api.Pos
	for at, kind := range kinds {
		inst := at + 2
		who := 2
		if byWho {
			who, inst = at+2, len(kinds)+1-at
		}
		switch kind {
		case api.ErrNone:
			first = append(first, pos(who, inst, 0, 1))
		case api.ErrPrice:
			r.Insts = append(r.Insts, api.Inst{No: inst, Mult: 1})
			first, second = append(first, pos(who, inst, 1, 0)), append(second, pos(16, inst, -1, 0))
		case api.ErrBig:
			r.Insts = append(r.Insts, api.Inst{No: inst, Mult: 2, Set: 1})
			first = append(first, pos(who, inst, 0, bound))
		}
	}
	slices.SortFunc(r.Insts, func(a, b api.Inst) int { return a.No - b.No })
	slices.SortFunc(second, func(a, b api.Pos) int { return a.Inst - b.Inst })
	return r, held(slices.Concat([]api.Pos{pos(1, 1, 0, 5)}, first, second)...)
}

// TestRunErrorsInOrder is P14.2: of more than one wrong position the first one
// counts, whatever is wrong with it, by its Who and then by its Inst.
func TestRunErrorsInOrder(t *testing.T) {
	all := []api.Errno{api.ErrNone, api.ErrPrice, api.ErrBig}
	for _, a := range all {
		for _, b := range all {
			for _, c := range all {
				for _, byWho := range []bool{false, true} {
					r, wrong := faulty([]api.Errno{a, b, c}, byWho)
					if _, _, e := holdRun(t, r, wrong); e != a {
						t.Errorf("Run(%v, %v) = %d, not %d", r, wrong, e, a)
					}
				}
			}
		}
	}
}

// TestRunPlaces is P14.2: one wrong position is enough, wherever it stands in
// a book that is full of them.
func TestRunPlaces(t *testing.T) {
	var r api.Roll
	var b api.Book
	for no := 1; no <= 8; no++ {
		r.Insts = append(r.Insts, api.Inst{No: no, Cur: no % 3, Mult: 2, Price: no})
	}
	for who := 1; who <= 16; who++ {
		for no := 1; no <= 8; no++ {
			b.Poss = append(b.Poss, pos(who, no, no*(2*(who%2)-1), who))
		}
	}
	if _, _, e := holdRun(t, r, b); e != api.OK {
		t.Fatalf("Run = %d", e)
	}
	for at := range b.Poss {
		wrong := cloneBook(b)
		wrong.Poss[at].Cost = bound
		if _, _, e := holdRun(t, r, wrong); e != api.ErrBig {
			t.Errorf("Run of a wrong one at %d = %d", at, e)
		}
	}
	for no := range r.Insts {
		unlisted, unpriced := cloneRoll(r), cloneRoll(r)
		unlisted.Insts = slices.Delete(unlisted.Insts, no, no+1)
		unpriced.Insts[no].Price = 0
		if _, _, e := holdRun(t, unlisted, b); e != api.ErrNone {
			t.Errorf("Run without instrument %d = %d", no+1, e)
		}
		if _, _, e := holdRun(t, unpriced, b); e != api.ErrPrice {
			t.Errorf("Run without a price of %d = %d", no+1, e)
		}
	}
}

// anyRoll is a right roll with most of the instruments, most with a price; far
// tells whether there are numbers at their ends among them.
func anyRoll(g *rand.Rand, far bool) api.Roll {
	prices := []int{0, 1, 2, 7, 100}
	mults := []int{1, 2, 10}
	if far {
		prices = append(prices, 1<<12, 1<<22, 1<<23, 1<<30)
		mults = append(mults, 1023, 1024)
	}
	var r api.Roll
	for no := 1; no <= 8; no++ {
		if g.IntN(40) > 0 {
			i := api.Inst{No: no, Cur: g.IntN(3), Mult: mults[g.IntN(len(mults))]}
			i.Set, i.Price = prices[g.IntN(len(prices))], prices[g.IntN(len(prices))]
			if g.IntN(3) > 0 {
				i.Price = max(i.Price, 1)
			}
			r.Insts = append(r.Insts, i)
		}
	}
	return r
}

// anyBook is a right book with up to 6 pairs of positions, and some with a
// Cost alone; far tells the same as for anyRoll.
func anyBook(g *rand.Rand, far bool) api.Book {
	qtys := []int{0, 1, 5, 1 << 20}
	costs := []int{0, 1, -1, 50, -50, 12345}
	if far {
		qtys = append(qtys, great)
		costs = append(costs, bound, -bound, bound/2, -bound/2, bound/1024)
	}
	of := map[api.Key]api.Pos{}
	for range g.IntN(7) {
		a, b, inst := 1+g.IntN(16), 1+g.IntN(16), 1+g.IntN(8)
		p, q := pos(a, inst, 0, costs[g.IntN(len(costs))]), pos(b, inst, 0, costs[g.IntN(len(costs))])
		_, taken := of[p.Key]
		_, alsoTaken := of[q.Key]
		if taken || alsoTaken || a == b {
			continue
		}
		p.Qty = qtys[g.IntN(len(qtys))]
		q.Qty = -p.Qty
		of[p.Key], of[q.Key] = p, q
	}
	b := api.Book{Next: g.IntN(9)}
	for who := 1; who <= 16; who++ {
		for inst := 1; inst <= 8; inst++ {
			if p := of[api.Key{Who: who, Inst: inst}]; p.Qty != 0 || p.Cost != 0 {
				b.Poss = append(b.Poss, p)
			}
		}
	}
	return b
}

// TestRunRandom is P14.2: many rolls and books, held against the words. Each
// answer comes often.
func TestRunRandom(t *testing.T) {
	g := rand.New(rand.NewPCG(14, 2))
	seen := map[api.Errno]int{}
	for k := range 40000 {
		_, _, e := holdRun(t, anyRoll(g, k%2 == 0), anyBook(g, k%2 == 0))
		seen[e]++
	}
	for _, e := range []api.Errno{api.OK, api.ErrNone, api.ErrPrice, api.ErrBig} {
		if seen[e] < 500 {
			t.Errorf("the answers were %v", seen)
		}
	}
}

// sums are the exact sums by instrument, of the dues and of the Costs of the
// positions that gave them.
func sums(b api.Book, dues []api.Due) (dueSums, costSums [9]*big.Int) {
	for inst := range dueSums {
		dueSums[inst], costSums[inst] = new(big.Int), new(big.Int)
	}
	for at, p := range b.Poss {
		dueSums[p.Inst].Add(dueSums[p.Inst], exact(dues[at].Amount))
		costSums[p.Inst].Add(costSums[p.Inst], exact(p.Cost))
	}
	return dueSums, costSums
}

// TestDuesAddUp is P14.3: the dues in each instrument add up to the negated
// sum of the Costs, times the multiplier, whatever the price is.
func TestDuesAddUp(t *testing.T) {
	g := rand.New(rand.NewPCG(14, 3))
	uneven := 0
	for range 20000 {
		r, b := anyRoll(g, false), anyBook(g, false)
		_, dues, e := Run(r, b)
		if e != api.OK {
			continue
		}
		dueSums, costSums := sums(b, dues)
		for _, i := range r.Insts {
			want := new(big.Int).Mul(costSums[i.No], exact(-i.Mult))
			if want.Cmp(dueSums[i.No]) != 0 {
				t.Errorf("Run(%v, %v): the dues %v add up to %d in %d, not %d", r, b, dues, dueSums[i.No], i.No, want)
			}
			if want.Sign() != 0 {
				uneven++
			}
		}
	}
	if uneven < 1000 {
		t.Errorf("only %d sums were not 0", uneven)
	}
}

// TestDuesOfTradesAddUp is P14.3: positions that trades have made have Costs
// that add up to 0, and so do their dues in each instrument.
func TestDuesOfTradesAddUp(t *testing.T) {
	g := rand.New(rand.NewPCG(14, 4))
	r := someRoll()
	r.Insts[3].Price = 77
	gained := 0
	for range 500 {
		b := api.Book{}
		for range 1 + g.IntN(20) {
			buyer := 1 + g.IntN(16)
			x := api.Trade{Buyer: buyer, Seller: 1 + (buyer+g.IntN(15))%16, Inst: r.Insts[g.IntN(4)].No, Qty: 1 + g.IntN(1<<10), Price: 1 + g.IntN(1<<10)}
			next, _, e := book.Enter(b, x)
			if e != api.OK {
				t.Fatalf("Enter of %v = %d", x, e)
			}
			b = next
		}
		got, dues, e := holdRun(t, r, b)
		if e != api.OK || !slices.Equal(got.Trades, b.Trades) {
			t.Errorf("Run of %v = %v, %d", b, got, e)
		}
		dueSums, costSums := sums(b, dues)
		for inst := range dueSums {
			if dueSums[inst].Sign() != 0 || costSums[inst].Sign() != 0 {
				t.Errorf("Run of %v: the dues %v add up to %d in %d", b, dues, dueSums[inst], inst)
			}
		}
		if slices.ContainsFunc(dues, func(d api.Due) bool { return d.Amount > 0 }) {
			gained++
		}
	}
	if gained < 400 {
		t.Errorf("there were gains only %d times", gained)
	}
}

// TestRunTwice is P14.3: a second run at the same prices gives dues of 0 only
// and changes nothing, also when what was told has become the last price.
func TestRunTwice(t *testing.T) {
	g := rand.New(rand.NewPCG(14, 5))
	done := 0
	for k := range 20000 {
		r, b := anyRoll(g, k%2 == 0), anyBook(g, k%2 == 0)
		once, _, e := Run(r, b)
		if e != api.OK || len(once.Poss) == 0 {
			continue
		}
		for _, same := range []api.Roll{r, roll.Turn(r)} {
			twice, dues, e := holdRun(t, same, once)
			if e != api.OK || !sameBook(twice, once) || slices.ContainsFunc(dues, func(d api.Due) bool { return d.Amount != 0 }) {
				t.Errorf("Run(%v, %v) = %v, %v, %d", same, once, twice, dues, e)
			}
		}
		done++
	}
	if done < 5000 {
		t.Errorf("only %d were run twice", done)
	}
}

// TestWorthInSteps is P14.3, for one position: what it gains from one price
// to a later one is what it gains in the steps between them.
func TestWorthInSteps(t *testing.T) {
	prices := []int{0, 1, 2, 9, 10, 1 << 20, 1<<30 - 1, 1 << 30}
	for _, qty := range []int{0, 1, -1, 5, -5, 1 << 20, -1 << 20} {
		for _, cost := range []int{0, 50, -50, 1 << 50} {
			for _, mult := range []int{1, 10, 1024} {
				for _, middle := range prices {
					for _, end := range prices {
						p := pos(1, 1, qty, cost)
						whole, e := Worth(p, mult, end)
						first, f := Worth(p, mult, middle)
						p.Cost = qty * middle
						second, g := Worth(p, mult, end)
						if e+f+g != api.OK || first+second != whole {
							t.Errorf("%d, %d, %d: by %d to %d: %d, %d, not %d", qty, cost, mult, middle, end, first, second, whole)
						}
					}
				}
			}
		}
	}
}

// TestRunInSteps is P14.3, for books: the dues of a row of runs add up to
// those of one run at the last price, for each position, and leave the same.
func TestRunInSteps(t *testing.T) {
	g := rand.New(rand.NewPCG(14, 6))
	done := 0
	for range 5000 {
		r, b := anyRoll(g, false), anyBook(g, false)
		gained, now := map[api.Key]int{}, b
		steps, failed := 1+g.IntN(5), false
		for range steps {
			for at := range r.Insts {
				r.Insts[at].Set = 1 + g.IntN(200)
			}
			next, dues, e := Run(r, now)
			if failed = e != api.OK; failed {
				break
			}
			for at, p := range now.Poss {
				gained[p.Key] += dues[at].Amount
			}
			now, r = next, roll.Turn(r)
		}
		if failed {
			continue
		}
		direct, dues, e := holdRun(t, r, b)
		if e != api.OK || !sameBook(direct, now) {
			t.Errorf("Run(%v, %v) = %v, %d, but by steps %v", r, b, direct, e, now)
		}
		for at, p := range b.Poss {
			if gained[p.Key] != dues[at].Amount {
				t.Errorf("Run(%v, %v): %v gains %d, but by steps %d", r, b, p, dues[at].Amount, gained[p.Key])
			}
		}
		done++
	}
	if done < 1000 {
		t.Errorf("only %d went by steps", done)
	}
}

// TestArgumentsStay is R2: what is passed in stays as it was, behind the ends
// of its lists too, and what stands there counts for nothing.
func TestArgumentsStay(t *testing.T) {
	r, b := someRoll(), someBook()
	r.Insts = append(r.Insts, api.Inst{No: 5, Mult: 1, Price: 1}, api.Inst{})
	b.Trades = append(b.Trades, api.Trade{No: 13}, api.Trade{No: 2})
	b.Poss = append(b.Poss, pos(1, 1, 5, 5), pos(99, 5, 1, 1))
	rBefore, bBefore := cloneRoll(r), cloneBook(b)
	shownRoll := api.Roll{Members: r.Members, Insts: r.Insts[:4], Assets: r.Assets}
	shown := api.Book{Next: 12, Trades: b.Trades[:3], Poss: b.Poss[:9]}
	if got, dues, e := holdRun(t, shownRoll, shown); e != api.OK || len(dues) != 9 || len(got.Trades) != 3 {
		t.Errorf("Run = %v, %v, %d", got, dues, e)
	}
	holdRun(t, api.Roll{Insts: r.Insts[:2]}, shown)
	holdRun(t, r, shown)
	holdRun(t, shownRoll, b)
	if !sameRoll(r, rBefore) || !sameBook(b, bBefore) {
		t.Errorf("the arguments became %v, %v", r, b)
	}
}

// spoil writes into the lists of what Run answered, and behind their ends.
func spoil(b api.Book, dues []api.Due) {
	for k := range b.Trades[:cap(b.Trades)] {
		b.Trades[:cap(b.Trades)][k] = api.Trade{No: 9, Buyer: 9, Seller: 9, Inst: 9}
	}
	for k := range b.Poss[:cap(b.Poss)] {
		b.Poss[:cap(b.Poss)][k] = pos(9, 9, 9, 9)
	}
	for k := range dues[:cap(dues)] {
		dues[:cap(dues)][k] = due(9, 9, 9)
	}
}

// TestResultsAreNew is R2 and R3: what is written into a result, and into the
// memory behind it, is seen in no argument and in no other result.
func TestResultsAreNew(t *testing.T) {
	// A book that is marked already: nothing of it changes.
	marked := someBook()
	marked.Poss = somePoss()
	for _, b := range []api.Book{someBook(), marked} {
		r, before := someRoll(), cloneBook(b)
		first, firstDues, _ := Run(r, b)
		second, secondDues, _ := Run(r, b)
		want, wantDues := cloneBook(second), slices.Clone(secondDues)
		if !sameBook(first, want) || !slices.Equal(firstDues, wantDues) {
			t.Errorf("Run = %v, %v, and then %v, %v", first, firstDues, want, wantDues)
		}
		spoil(first, firstDues)
		third, thirdDues, _ := Run(r, b)
		for _, x := range []api.Book{second, third} {
			if !sameBook(x, want) || !sameBook(b, before) || !sameRoll(r, someRoll()) {
				t.Errorf("after a write into a result: %v, not %v; the arguments became %v, %v", x, want, r, b)
			}
		}
		if !slices.Equal(secondDues, wantDues) || !slices.Equal(thirdDues, wantDues) {
			t.Errorf("after a write into a result: %v, %v, not %v", secondDues, thirdDues, wantDues)
		}
		// And what is written into an argument is seen in no result.
		spoil(b, nil)
		if !sameBook(second, want) || !sameBook(third, want) {
			t.Errorf("after a write into an argument: %v, %v, not %v", second, third, want)
		}
	}
}

// TestResultsHideNothing is R2 and R6: behind the ends of a result's lists
// there is nothing of what was passed in.
func TestResultsHideNothing(t *testing.T) {
	b := someBook()
	b.Trades = append(b.Trades, api.Trade{No: 77})[:3]
	b.Poss = append(b.Poss, pos(77, 7, 7, 7))[:9]
	got, dues, _ := Run(someRoll(), b)
	for _, x := range got.Trades[3:cap(got.Trades)] {
		if x != (api.Trade{}) {
			t.Errorf("behind the end there is %v", x)
		}
	}
	for _, p := range got.Poss[len(got.Poss):cap(got.Poss)] {
		if p != (api.Pos{}) {
			t.Errorf("behind the end there is %v", p)
		}
	}
	for _, d := range dues[len(dues):cap(dues)] {
		if d != (api.Due{}) {
			t.Errorf("behind the end there is %v", d)
		}
	}
}
