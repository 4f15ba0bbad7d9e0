package auction

import (
	"math"
	"math/big"
	"math/rand/v2"
	"slices"
	"testing"

	"cambist/api"
	"cambist/book"
)

const (
	bound = 1 << 62
	great = 1 << 40
	least = math.MinInt
	most  = math.MaxInt
)

// bid tells a bid, for a position that no call asks about.
func bid(from, qty, price int) api.Bid {
	return api.Bid{Key: api.Key{Who: 5, Inst: 6}, From: from, Qty: qty, Price: price}
}

// bids tells a list of bids.
func bids(l ...api.Bid) []api.Bid { return l }

// fill tells a fill.
func fill(from, qty, price int) api.Fill { return api.Fill{From: from, Qty: qty, Price: price} }

// fills tells a list of fills.
func fills(l ...api.Fill) []api.Fill { return l }

// key tells a key.
func key(who, inst int) api.Key { return api.Key{Who: who, Inst: inst} }

// pos tells a position.
func pos(who, inst, qty, cost int) api.Pos {
	return api.Pos{Key: key(who, inst), Qty: qty, Cost: cost}
}

// held tells a book of positions.
func held(poss ...api.Pos) api.Book { return api.Book{Poss: poss} }

// notPos, notQty, notPrice, notPieces and notValue are numbers that may not be:
// the size of a position, the Qty and the Price of a bid, how many pieces are
// torn up or filled, and the Price of a fill. They are one beyond an edge,
// further ones, and such that are right but for their upper bits.
var (
	notPos    = []int{great + 1, -great - 1, great + 7, great << 1, -great << 1, bound, -bound, most, least, least + 1}
	notQty    = []int{0, -1, 1<<20 + 1, 1 << 21, -5, -1 << 20, 1<<32 + 5, great, bound + 1, most, least, least + 1}
	notPrice  = []int{0, -1, 1<<30 + 1, 1 << 31, -5, -1 << 30, 1<<32 + 5, great, bound + 1, most, least, least + 1}
	notPieces = []int{-1, great + 1, -5, -great, great << 1, bound, bound + 1, most, least, least + 1}
	notValue  = []int{-1, 1<<30 + 1, 1 << 31, -5, -1 << 30, 1 << 32, 1<<32 + 5, great, bound, most, least, least + 1}
)

// ends are numbers of all kinds, for lists in which any may be.
var ends = []int{0, 1, 2, 3, 9, -1, -2, 1 << 20, 1<<20 + 1, 1 << 30, 1<<30 + 1, great, great + 1, -great, bound, bound + 1, most, most - 1, least, least + 1}

// exactOrder is P19.1, word by word: again and again the first one of those
// that are left with the best price, and of them with the least From.
func exactOrder(long bool, l []api.Bid) []api.Bid {
	left := slices.Clone(l)
	var ordered []api.Bid
	for len(left) > 0 {
		best := 0
		for at, b := range left {
			a := left[best]
			if long && b.Price > a.Price || !long && b.Price < a.Price || b.Price == a.Price && b.From < a.From {
				best = at
			}
		}
		ordered = append(ordered, left[best])
		left = slices.Delete(left, best, best+1)
	}
	return ordered
}

// exactFill is P19.2, word by word. It deals out a bid as a whole, or the rest.
func exactFill(qty int, l []api.Bid) (got []api.Fill, rest int, e api.Errno) {
	if qty < -1099511627776 || qty > 1099511627776 {
		return nil, 0, api.ErrArg
	}
	for _, b := range l {
		if b.Qty < 1 || b.Qty > 1048576 || b.Price < 1 || b.Price > 1073741824 {
			return nil, 0, api.ErrArg
		}
	}
	rest = qty
	if qty < 0 {
		rest = -qty
	}
	for _, b := range exactOrder(qty > 0, l) {
		if rest == 0 {
			break
		}
		if b.Qty > rest {
			b.Qty = rest
		}
		got = append(got, fill(b.From, b.Qty, b.Price))
		rest -= b.Qty
	}
	return got, rest, api.OK
}

// exactSplit is P3.1 for weights that are not all 0, or a total of 0.
func exactSplit(total int, weights []int) []int {
	whole := new(big.Int)
	for _, w := range weights {
		whole.Add(whole, big.NewInt(int64(w)))
	}
	parts, rests := make([]int, len(weights)), make([]*big.Int, len(weights))
	if total == 0 {
		return parts
	}
	left := total
	for i, w := range weights {
		product := new(big.Int).Mul(big.NewInt(int64(total)), big.NewInt(int64(w)))
		part, rest := product.DivMod(product, whole, new(big.Int))
		parts[i], rests[i] = int(part.Int64()), rest
		left -= parts[i]
	}
	for ; left > 0; left-- {
		first := 0
		for i := range rests {
			if rests[i].Cmp(rests[first]) > 0 {
				first = i
			}
		}
		parts[first]++
		rests[first] = big.NewInt(-1)
	}
	return parts
}

// exactTear is P19.3, word by word.
func exactTear(b api.Book, k api.Key, n int) ([]api.Fill, api.Errno) {
	if e := book.Check(b); e != api.OK {
		return nil, e
	}
	if n < 0 || n > 1099511627776 {
		return nil, api.ErrArg
	}
	var whos, weights []int
	sum := 0
	for who := 1; who <= 16; who++ {
		qty, other := book.Of(b, k).Qty, book.Of(b, key(who, k.Inst)).Qty
		if qty > 0 && other < 0 {
			whos, weights = append(whos, who), append(weights, -other)
			sum -= other
		}
		if qty < 0 && other > 0 {
			whos, weights = append(whos, who), append(weights, other)
			sum += other
		}
	}
	if n > sum {
		return nil, api.ErrFloor
	}
	var torn []api.Fill
	for i, part := range exactSplit(n, weights) {
		if part > 0 {
			torn = append(torn, fill(whos[i], part, 0))
		}
	}
	return torn, api.OK
}

// exactLegs is P19.4, word by word.
func exactLegs(k api.Key, long bool, l []api.Fill) ([]api.Pos, api.Errno) {
	for _, f := range l {
		if f.Qty < 0 || f.Qty > 1099511627776 || f.Price < 0 || f.Price > 1073741824 {
			return nil, api.ErrArg
		}
	}
	var legs []api.Pos
	for _, f := range l {
		product := new(big.Int).Mul(big.NewInt(int64(f.Qty)), big.NewInt(int64(f.Price)))
		if product.Cmp(big.NewInt(bound)) > 0 {
			return nil, api.ErrBig
		}
		cost := int(product.Int64())
		if long {
			legs = append(legs, pos(f.From, k.Inst, f.Qty, cost), pos(k.Who, k.Inst, -f.Qty, -cost))
		} else {
			legs = append(legs, pos(f.From, k.Inst, -f.Qty, -cost), pos(k.Who, k.Inst, f.Qty, cost))
		}
	}
	return legs, api.OK
}

// holdOrder holds Order against the chapter's words.
func holdOrder(t *testing.T, long bool, l ...api.Bid) []api.Bid {
	t.Helper()
	before := slices.Clone(l)
	ordered := Order(long, l...)
	if want := exactOrder(long, l); !slices.Equal(ordered, want) {
		t.Errorf("Order(%t, %v) = %v, not %v", long, l, ordered, want)
	}
	if !slices.Equal(l, before) {
		t.Errorf("Order: %v became %v", before, l)
	}
	return ordered
}

// holdFill holds Fill against the chapter's words.
func holdFill(t *testing.T, qty int, l ...api.Bid) ([]api.Fill, int, api.Errno) {
	t.Helper()
	before := slices.Clone(l)
	got, rest, e := Fill(qty, l...)
	if want, left, f := exactFill(qty, l); !slices.Equal(got, want) || rest != left || e != f {
		t.Errorf("Fill(%d, %v) = %v, %d, %d, not %v, %d, %d", qty, l, got, rest, e, want, left, f)
	}
	if !slices.Equal(l, before) {
		t.Errorf("Fill: %v became %v", before, l)
	}
	return got, rest, e
}

// holdTear holds Tear against the chapter's words.
func holdTear(t *testing.T, b api.Book, k api.Key, n int) ([]api.Fill, api.Errno) {
	t.Helper()
	poss, trades := slices.Clone(b.Poss), slices.Clone(b.Trades)
	torn, e := Tear(b, k, n)
	if want, f := exactTear(b, k, n); !slices.Equal(torn, want) || e != f {
		t.Errorf("Tear(%v, %v, %d) = %v, %d, not %v, %d", b, k, n, torn, e, want, f)
	}
	if !slices.Equal(b.Poss, poss) || !slices.Equal(b.Trades, trades) {
		t.Errorf("Tear: %v and %v became %v", poss, trades, b)
	}
	return torn, e
}

// holdLegs holds Legs against the chapter's words.
func holdLegs(t *testing.T, k api.Key, long bool, l ...api.Fill) ([]api.Pos, api.Errno) {
	t.Helper()
	before := slices.Clone(l)
	legs, e := Legs(k, long, l...)
	if want, f := exactLegs(k, long, l); !slices.Equal(legs, want) || e != f {
		t.Errorf("Legs(%v, %t, %v) = %v, %d, not %v, %d", k, long, l, legs, e, want, f)
	}
	if !slices.Equal(l, before) {
		t.Errorf("Legs: %v became %v", before, l)
	}
	return legs, e
}

// some is a right book: in instrument 3 positions on both sides, in 4 some with
// a cost alone, in 6 the greatest two, in 8 one against all the others.
func some() api.Book {
	b := held(
		pos(1, 3, 5, 60), pos(1, 8, -15, 3),
		pos(2, 3, -4, 0), pos(2, 8, 1, 0),
		pos(3, 3, 2, -9), pos(3, 4, 0, 7), pos(3, 8, 1, 0),
		pos(4, 3, -2, bound), pos(4, 4, 0, -7), pos(4, 8, 1, 0),
		pos(5, 3, -1, 0), pos(5, 8, 1, 0),
		pos(6, 3, 0, 9), pos(6, 8, 1, 0),
		pos(7, 6, great, 1), pos(7, 8, 1, 0),
		pos(8, 6, -great, 1), pos(8, 8, 1, 0))
	for who := 9; who <= 16; who++ {
		b.Poss = append(b.Poss, pos(who, 8, 1, 0))
	}
	b.Next = 9
	b.Trades = []api.Trade{{No: 4, Buyer: 1, Seller: 2, Inst: 3, Qty: 4, Price: 15}}
	return b
}

// TestExample is the document's example.
func TestExample(t *testing.T) {
	got, rest, e := Fill(5, bid(2, 3, 9), bid(3, 4, 10))
	if !slices.Equal(got, fills(fill(3, 4, 10), fill(2, 1, 9))) || rest != 0 || e != api.OK {
		t.Errorf("Fill = %v, %d, %d", got, rest, e)
	}
}

// TestOrderByHand is P19.1: by price, the highest or the lowest first, then by
// From, and then as they came.
func TestOrderByHand(t *testing.T) {
	l := bids(bid(3, 1, 9), bid(2, 2, 9), bid(5, 3, 4), bid(1, 4, 20), bid(2, 5, 9), bid(16, 6, 20))
	for _, x := range []struct {
		long    bool
		l       []api.Bid
		ordered []api.Bid
	}{
		{true, l, bids(l[3], l[5], l[1], l[4], l[0], l[2])},
		{false, l, bids(l[2], l[1], l[4], l[0], l[3], l[5])},
		{true, nil, nil},
		{false, bids(), nil},
		{true, l[:1], l[:1]},
		{false, l[:1], l[:1]},
		{true, bids(bid(1, 1, 1), bid(1, 1, 2)), bids(bid(1, 1, 2), bid(1, 1, 1))},
		{false, bids(bid(1, 1, 2), bid(1, 1, 1)), bids(bid(1, 1, 1), bid(1, 1, 2))},
		{true, bids(bid(2, 1, 1), bid(1, 1, 1)), bids(bid(1, 1, 1), bid(2, 1, 1))},
		{false, bids(bid(2, 1, 1), bid(1, 1, 1)), bids(bid(1, 1, 1), bid(2, 1, 1))},
		{true, bids(bid(1, 2, 1), bid(1, 1, 1), bid(1, 3, 1)), bids(bid(1, 2, 1), bid(1, 1, 1), bid(1, 3, 1))},
		{false, bids(bid(1, 2, 1), bid(1, 1, 1), bid(1, 3, 1)), bids(bid(1, 2, 1), bid(1, 1, 1), bid(1, 3, 1))},
		{true, bids(bid(10, 1, 9), bid(9, 1, 10)), bids(bid(9, 1, 10), bid(10, 1, 9))},
		{false, bids(bid(10, 1, 10), bid(9, 1, 9)), bids(bid(9, 1, 9), bid(10, 1, 10))},
	} {
		if ordered := holdOrder(t, x.long, x.l...); !slices.Equal(ordered, x.ordered) {
			t.Errorf("Order(%t, %v) = %v, not %v", x.long, x.l, ordered, x.ordered)
		}
	}
}

// TestOrderKeyAndQty is P19.1: neither the key of a bid nor its Qty counts, and
// both go with it.
func TestOrderKeyAndQty(t *testing.T) {
	var l []api.Bid
	for i, k := range []api.Key{key(9, 1), key(1, 9), key(0, 0), key(16, 8), key(least, most)} {
		l = append(l, api.Bid{Key: k, From: 4, Qty: 10 - 3*i, Price: 7})
	}
	for _, long := range []bool{true, false} {
		if ordered := holdOrder(t, long, l...); !slices.Equal(ordered, l) {
			t.Errorf("Order(%t) of bids that are equally good = %v", long, ordered)
		}
	}
}

// TestOrderAnyNumbers is P19.1: prices and Froms of any size, against each other.
func TestOrderAnyNumbers(t *testing.T) {
	for _, a := range ends {
		for _, b := range ends {
			for _, long := range []bool{true, false} {
				holdOrder(t, long, bid(1, -5, a), bid(0, 0, b))
				holdOrder(t, long, bid(a, 1, 7), bid(b, least, 7))
				holdOrder(t, long, bid(a, 1, b), bid(b, 2, a), bid(a, 3, a), bid(b, 4, b), bid(a, 5, b))
			}
		}
	}
}

// TestOrderEachOrder is P19.1: bids that all differ come in one order, however
// they were passed in.
func TestOrderEachOrder(t *testing.T) {
	l := bids(bid(1, 1, 20), bid(5, 2, 20), bid(3, 3, 9), bid(2, 4, 4), bid(16, 5, 4), bid(17, 6, 4))
	var each func(done, left []api.Bid)
	count := 0
	each = func(done, left []api.Bid) {
		if len(left) == 0 {
			count++
			if ordered := holdOrder(t, true, done...); !slices.Equal(ordered, l) {
				t.Errorf("Order(true, %v) = %v", done, ordered)
			}
			if ordered := holdOrder(t, false, done...); !slices.Equal(ordered, bids(l[3], l[4], l[5], l[2], l[0], l[1])) {
				t.Errorf("Order(false, %v) = %v", done, ordered)
			}
		}
		for i, b := range left {
			each(append(slices.Clone(done), b), slices.Concat(left[:i], left[i+1:]))
		}
	}
	each(nil, l)
	if count != 720 {
		t.Errorf("there were %d orders", count)
	}
}

// TestOrderRandom is P19.1: long lists, with few prices and few bidders.
func TestOrderRandom(t *testing.T) {
	g := rand.New(rand.NewPCG(19, 1))
	for range 2000 {
		l := make([]api.Bid, g.IntN(60))
		for i := range l {
			l[i] = bid(g.IntN(4), i, 1+g.IntN(4))
		}
		holdOrder(t, g.IntN(2) == 0, l...)
	}
}

// TestFillByHand is P19.2: long and short positions, of less, of as much and of
// more than is bid for.
func TestFillByHand(t *testing.T) {
	l := bids(bid(2, 3, 9), bid(3, 4, 10), bid(4, 2, 9), bid(2, 1, 1))
	edge := bids(bid(1, 1, 1), bid(0, 1<<20, 1<<30), bid(-1, 1<<20, 1))
	for _, x := range []struct {
		qty  int
		l    []api.Bid
		got  []api.Fill
		rest int
	}{
		{0, l, nil, 0},
		{1, l, fills(fill(3, 1, 10)), 0},
		{3, l, fills(fill(3, 3, 10)), 0},
		{4, l, fills(fill(3, 4, 10)), 0},
		{5, l, fills(fill(3, 4, 10), fill(2, 1, 9)), 0},
		{7, l, fills(fill(3, 4, 10), fill(2, 3, 9)), 0},
		{8, l, fills(fill(3, 4, 10), fill(2, 3, 9), fill(4, 1, 9)), 0},
		{9, l, fills(fill(3, 4, 10), fill(2, 3, 9), fill(4, 2, 9)), 0},
		{10, l, fills(fill(3, 4, 10), fill(2, 3, 9), fill(4, 2, 9), fill(2, 1, 1)), 0},
		{11, l, fills(fill(3, 4, 10), fill(2, 3, 9), fill(4, 2, 9), fill(2, 1, 1)), 1},
		{great, l, fills(fill(3, 4, 10), fill(2, 3, 9), fill(4, 2, 9), fill(2, 1, 1)), great - 10},
		{-1, l, fills(fill(2, 1, 1)), 0},
		{-2, l, fills(fill(2, 1, 1), fill(2, 1, 9)), 0},
		{-5, l, fills(fill(2, 1, 1), fill(2, 3, 9), fill(4, 1, 9)), 0},
		{-10, l, fills(fill(2, 1, 1), fill(2, 3, 9), fill(4, 2, 9), fill(3, 4, 10)), 0},
		{-11, l, fills(fill(2, 1, 1), fill(2, 3, 9), fill(4, 2, 9), fill(3, 4, 10)), 1},
		{-great, l, fills(fill(2, 1, 1), fill(2, 3, 9), fill(4, 2, 9), fill(3, 4, 10)), great - 10},
		{0, nil, nil, 0},
		{7, nil, nil, 7},
		{-7, bids(), nil, 7},
		{great, nil, nil, great},
		{-great, nil, nil, great},
		{great, edge, fills(fill(0, 1<<20, 1<<30), fill(-1, 1<<20, 1), fill(1, 1, 1)), great - 1<<21 - 1},
		{-great, edge, fills(fill(-1, 1<<20, 1), fill(1, 1, 1), fill(0, 1<<20, 1<<30)), great - 1<<21 - 1},
		{1 << 20, edge, fills(fill(0, 1<<20, 1<<30)), 0},
		{-1 << 20, edge, fills(fill(-1, 1<<20, 1)), 0},
		{-1<<20 - 1, edge, fills(fill(-1, 1<<20, 1), fill(1, 1, 1)), 0},
		{6, bids(bid(2, 1, 5), bid(2, 2, 5), bid(2, 3, 5)), fills(fill(2, 1, 5), fill(2, 2, 5), fill(2, 3, 5)), 0},
		{-4, bids(bid(2, 3, 5), bid(1, 2, 5)), fills(fill(1, 2, 5), fill(2, 2, 5)), 0},
	} {
		got, rest, e := holdFill(t, x.qty, x.l...)
		if !slices.Equal(got, x.got) || rest != x.rest || e != api.OK {
			t.Errorf("Fill(%d, %v) = %v, %d, %d, not %v, %d", x.qty, x.l, got, rest, e, x.got, x.rest)
		}
	}
}

// TestFillAnyBidder is P19.2: neither a From nor a key is asked about.
func TestFillAnyBidder(t *testing.T) {
	for _, from := range ends {
		for _, who := range ends {
			b := api.Bid{Key: key(who, from), From: from, Qty: 5, Price: 7}
			got, rest, e := holdFill(t, -6, b)
			if !slices.Equal(got, fills(fill(from, 5, 7))) || rest != 1 || e != api.OK {
				t.Errorf("Fill(-6, %v) = %v, %d, %d", b, got, rest, e)
			}
		}
	}
}

// TestFillMany is P19.2: no number of bids is too great.
func TestFillMany(t *testing.T) {
	var l []api.Bid
	for i := range 3000 {
		l = append(l, bid(i%7, 1+i%3, 1+i%11))
	}
	for _, qty := range []int{5990, -5990, 5999, 6000, -6001, great} {
		if _, _, e := holdFill(t, qty, l...); e != api.OK {
			t.Errorf("Fill(%d) of %d bids: %d", qty, len(l), e)
		}
	}
}

// TestFillArg is P19.2: each number that may not be, of the position and of a
// bid at each place, also where the bid would get nothing.
func TestFillArg(t *testing.T) {
	l := bids(bid(2, 3, 9), bid(3, 1<<20, 1<<30), bid(4, 1, 1))
	for _, qty := range notPos {
		for _, with := range [][]api.Bid{nil, l[:1], l, {bid(1, 0, 1)}} {
			if got, rest, e := holdFill(t, qty, with...); len(got) != 0 || rest != 0 || e != api.ErrArg {
				t.Errorf("Fill(%d, %v) = %v, %d, %d", qty, with, got, rest, e)
			}
		}
	}
	var wrongs []api.Bid
	for _, qty := range notQty {
		wrongs = append(wrongs, bid(1, qty, 5), bid(1, qty, 0))
	}
	for _, price := range notPrice {
		wrongs = append(wrongs, bid(1, 5, price))
	}
	for _, b := range wrongs {
		for _, qty := range []int{0, 1, -1, 5, great, -great} {
			for at := range 4 {
				with := slices.Insert(slices.Clone(l), at, b)
				if got, rest, e := holdFill(t, qty, with...); len(got) != 0 || rest != 0 || e != api.ErrArg {
					t.Errorf("Fill(%d, %v) = %v, %d, %d", qty, with, got, rest, e)
				}
			}
			holdFill(t, qty, b)
		}
	}
}

// TestFillEdges is P19.2: all numbers at and around their edges together.
func TestFillEdges(t *testing.T) {
	right := 0
	for _, qty := range []int{-great - 1, -great, -1, 0, 1, great - 1, great, great + 1, least, most} {
		for _, of := range []int{-1, 0, 1, 2, 1<<20 - 1, 1 << 20, 1<<20 + 1, least, most} {
			for _, price := range []int{-1, 0, 1, 2, 1<<30 - 1, 1 << 30, 1<<30 + 1, least, most} {
				if _, _, e := holdFill(t, qty, bid(1, of, price)); e == api.OK {
					right++
				}
			}
		}
	}
	if right != 6*4*4 {
		t.Errorf("%d of them were right", right)
	}
}

// anyBids are bids of few bidders at few prices.
func anyBids(g *rand.Rand) []api.Bid {
	l := make([]api.Bid, g.IntN(9))
	for i := range l {
		l[i] = bid(1+g.IntN(4), 1+g.IntN(9), 1+g.IntN(5))
	}
	return l
}

// TestFillAddsUp is P19.5: the fills and the rest add up to the position, none
// is more than its bid, each is at its bid's price, and no bid gets nothing, or
// less than it bids for, while a worse one gets something.
func TestFillAddsUp(t *testing.T) {
	g := rand.New(rand.NewPCG(19, 2))
	full, left := 0, 0
	for range 20000 {
		l, qty := anyBids(g), g.IntN(81)-40
		got, rest, e := holdFill(t, qty, l...)
		sum := rest
		ordered := Order(qty > 0, l...)
		for i, f := range got {
			b := ordered[i]
			sum += f.Qty
			if f.From != b.From || f.Price != b.Price || f.Qty < 1 || f.Qty > b.Qty || f.Qty < b.Qty && i+1 < len(got) {
				t.Fatalf("of %v the fill %d of %d is %v", ordered, i, qty, f)
			}
		}
		if sum != max(qty, -qty) || rest < 0 || e != api.OK || rest > 0 && len(got) < len(l) {
			t.Fatalf("Fill(%d, %v) = %v, %d, %d", qty, l, got, rest, e)
		}
		if rest > 0 {
			left++
		} else {
			full++
		}
	}
	if full < 5000 || left < 5000 {
		t.Errorf("%d were sold in whole, and of %d something was left", full, left)
	}
}

// TestTearByHand is P19.3: positions on both sides, parts of them, all of them
// and too many of them, in their own instrument alone.
func TestTearByHand(t *testing.T) {
	var each, nine []api.Fill
	for who := 2; who <= 16; who++ {
		each = append(each, fill(who, 1, 0))
	}
	nine = each[:9]
	for _, x := range []struct {
		k    api.Key
		n    int
		torn []api.Fill
		e    api.Errno
	}{
		{key(1, 3), 0, nil, api.OK},
		{key(1, 3), 1, fills(fill(2, 1, 0)), api.OK},
		{key(1, 3), 2, fills(fill(2, 1, 0), fill(4, 1, 0)), api.OK},
		{key(1, 3), 3, fills(fill(2, 2, 0), fill(4, 1, 0)), api.OK},
		{key(1, 3), 5, fills(fill(2, 3, 0), fill(4, 1, 0), fill(5, 1, 0)), api.OK},
		{key(1, 3), 6, fills(fill(2, 3, 0), fill(4, 2, 0), fill(5, 1, 0)), api.OK},
		{key(1, 3), 7, fills(fill(2, 4, 0), fill(4, 2, 0), fill(5, 1, 0)), api.OK},
		{key(1, 3), 8, nil, api.ErrFloor},
		{key(1, 3), great, nil, api.ErrFloor},
		{key(3, 3), 2, fills(fill(2, 1, 0), fill(4, 1, 0)), api.OK},
		{key(3, 3), 7, fills(fill(2, 4, 0), fill(4, 2, 0), fill(5, 1, 0)), api.OK},
		{key(2, 3), 1, fills(fill(1, 1, 0)), api.OK},
		{key(2, 3), 4, fills(fill(1, 3, 0), fill(3, 1, 0)), api.OK},
		{key(5, 3), 7, fills(fill(1, 5, 0), fill(3, 2, 0)), api.OK},
		{key(5, 3), 8, nil, api.ErrFloor},
		{key(6, 3), 0, nil, api.OK},
		{key(6, 3), 1, nil, api.ErrFloor},
		{key(3, 4), 0, nil, api.OK},
		{key(4, 4), 1, nil, api.ErrFloor},
		{key(7, 6), great, fills(fill(8, great, 0)), api.OK},
		{key(8, 6), great, fills(fill(7, great, 0)), api.OK},
		{key(8, 6), great - 1, fills(fill(7, great-1, 0)), api.OK},
		{key(1, 8), 15, each, api.OK},
		{key(1, 8), 9, nine, api.OK},
		{key(1, 8), 16, nil, api.ErrFloor},
		{key(16, 8), 1, fills(fill(1, 1, 0)), api.OK},
		{key(16, 8), 15, fills(fill(1, 15, 0)), api.OK},
		{key(9, 3), 0, nil, api.OK},
		{key(9, 3), 1, nil, api.ErrFloor},
		{key(1, 1), 0, nil, api.OK},
		{key(1, 1), 1, nil, api.ErrFloor},
	} {
		if torn, e := holdTear(t, some(), x.k, x.n); !slices.Equal(torn, x.torn) || e != x.e {
			t.Errorf("Tear(%v, %d) = %v, %d, not %v, %d", x.k, x.n, torn, e, x.torn, x.e)
		}
	}
}

// TestTearAnyKey is P19.3: a key that no position can have stands for nothing.
func TestTearAnyKey(t *testing.T) {
	var keys []api.Key
	for _, who := range []int{0, 17, -1, 1<<32 + 1, most, least} {
		keys = append(keys, key(who, 3), key(who, 8), key(who, who))
	}
	for _, inst := range []int{0, 9, -1, 1<<32 + 3, most, least} {
		keys = append(keys, key(1, inst), key(7, inst))
	}
	for _, k := range keys {
		for _, b := range []api.Book{some(), {}} {
			if torn, e := holdTear(t, b, k, 0); len(torn) != 0 || e != api.OK {
				t.Errorf("Tear(%v, 0) = %v, %d", k, torn, e)
			}
			for _, n := range []int{1, 5, great} {
				if torn, e := holdTear(t, b, k, n); len(torn) != 0 || e != api.ErrFloor {
					t.Errorf("Tear(%v, %d) = %v, %d", k, n, torn, e)
				}
			}
		}
	}
}

// TestTearArg is P19.3: each n that may not be, also where nothing is held.
func TestTearArg(t *testing.T) {
	for _, n := range notPieces {
		for _, k := range []api.Key{key(1, 3), key(7, 6), key(6, 3), key(9, 9), key(least, most)} {
			for _, b := range []api.Book{some(), {}} {
				if torn, e := holdTear(t, b, k, n); len(torn) != 0 || e != api.ErrArg {
					t.Errorf("Tear(%v, %d) = %v, %d", k, n, torn, e)
				}
			}
		}
	}
}

// TestTearState is P19.3 and R4: a book that is not right goes before all else.
func TestTearState(t *testing.T) {
	long := api.Book{Next: 200}
	for no := 1; no <= 129; no++ {
		long.Trades = append(long.Trades, api.Trade{No: no, Buyer: 1, Seller: 2, Inst: 3, Qty: 1, Price: 1})
	}
	for i, b := range []api.Book{
		{Next: -1},
		{Next: great + 1},
		held(pos(1, 3, 5, 0)),
		held(pos(1, 3, 5, 0), pos(2, 3, -4, 0)),
		held(pos(1, 3, 5, 0), pos(2, 4, -5, 0)),
		held(pos(2, 3, 5, 0), pos(1, 3, -5, 0)),
		held(pos(1, 3, 5, 0), pos(1, 3, 5, 0), pos(2, 3, -10, 0)),
		held(pos(1, 3, great+1, 0), pos(2, 3, -great-1, 0)),
		held(pos(0, 3, 5, 0), pos(1, 3, -5, 0)),
		held(pos(1, 3, 5, 0), pos(17, 3, -5, 0)),
		held(pos(1, 9, 5, 0), pos(2, 9, -5, 0)),
		held(pos(1, 3, 5, bound+1), pos(2, 3, -5, 0)),
		held(pos(1, 3, 0, 0)),
		{Poss: some().Poss, Next: 3, Trades: some().Trades},
		long,
	} {
		for _, k := range []api.Key{key(1, 3), key(2, 3), key(1, 1), key(0, 0), key(least, most)} {
			for _, n := range []int{0, 1, 5, great, -1, great + 1} {
				if torn, e := holdTear(t, b, k, n); len(torn) != 0 || e != api.ErrState {
					t.Errorf("book %d: Tear(%v, %d) = %v, %d", i, k, n, torn, e)
				}
			}
		}
	}
}

// anyBook is a right book with positions of any size up to most on each side of
// its instruments, and some that are a cost alone.
func anyBook(g *rand.Rand, most int) api.Book {
	var poss []api.Pos
	left := [9]int{}
	for who := 1; who <= 16; who++ {
		for inst := 1; inst <= 8; inst++ {
			qty := g.IntN(2*most+1) - most
			switch {
			case g.IntN(3) == 0:
				qty = 0
			case who > 8:
				qty = max(-most, min(most, -left[inst]))
			}
			left[inst] += qty
			poss = append(poss, pos(who, inst, qty, g.IntN(3)))
		}
	}
	b := held()
	for _, p := range poss {
		if left[p.Inst] == 0 && p != pos(p.Who, p.Inst, 0, 0) {
			b.Poss = append(b.Poss, p)
		}
	}
	return b
}

// TestTearRandom is P19.3 and P19.5: the parts add up to n, no position on the
// other side becomes greater or changes its side, and the whole of each position
// can be torn up, after which nothing of it is left.
func TestTearRandom(t *testing.T) {
	g := rand.New(rand.NewPCG(19, 3))
	seen := map[api.Errno]int{}
	for round := range 60 {
		b := anyBook(g, []int{1, 3, 20, 1 << 20, great}[round%5])
		if book.Check(b) != api.OK {
			t.Fatalf("%v is not right", b)
		}
		for _, p := range b.Poss {
			n := max(p.Qty, -p.Qty)
			for _, n := range []int{0, 1, n / 2, n, min(n+1, great), min(3*n, great), g.IntN(great)} {
				torn, e := holdTear(t, b, p.Key, n)
				seen[e]++
				if e == api.OK {
					holdTorn(t, b, p, n, torn)
				}
			}
			if _, e := Tear(b, p.Key, n); e != api.OK {
				t.Fatalf("Tear(%v, %v, %d): %d", b, p.Key, n, e)
			}
		}
	}
	if seen[api.OK] < 5000 || seen[api.ErrFloor] < 1000 {
		t.Errorf("the answers were %v", seen)
	}
}

// smaller reports whether a position of a pieces is on the side of one of b, and
// not greater.
func smaller(a, b int) bool { return a >= 0 && a <= b || a <= 0 && a >= b }

// holdTorn holds what was torn up of p against what follows for it.
func holdTorn(t *testing.T, b api.Book, p api.Pos, n int, torn []api.Fill) {
	t.Helper()
	sum, before := 0, 0
	for _, f := range torn {
		sum += f.Qty
		q := book.Of(b, key(f.From, p.Inst)).Qty
		if f.Qty < 1 || f.Price != 0 || f.From <= before || f.Qty > max(q, -q) || (p.Qty > 0) != (q < 0) {
			t.Fatalf("of %d the fill is %v", q, f)
		}
		before = f.From
	}
	if sum != n {
		t.Fatalf("of %v %d are torn up, not %d: %v", b, sum, n, torn)
	}
	if n > max(p.Qty, -p.Qty) {
		return
	}
	legs, e := Legs(p.Key, p.Qty > 0, torn...)
	if e != api.OK {
		t.Fatalf("Legs(%v, %v): %d", p, torn, e)
	}
	// What was torn up of a long position comes off the short ones: they get it.
	after, e := book.Add(b, legs...)
	if e != api.OK {
		t.Fatalf("Add(%v, %v): %d", b, legs, e)
	}
	for _, q := range b.Poss {
		left := book.Of(after, q.Key)
		if left.Cost != q.Cost || !smaller(left.Qty, q.Qty) {
			t.Fatalf("%v became %v", q, left)
		}
	}
	if left := book.Of(after, p.Key).Qty; max(left, -left) != max(p.Qty, -p.Qty)-n {
		t.Fatalf("of %v %d are left after %d", p, left, n)
	}
}

// TestTearEach is P19.3: every number of pieces, among one that has twice as
// many as the other: each gets its thirds, rounded to the nearest.
func TestTearEach(t *testing.T) {
	for _, side := range []int{1, -1} {
		b := held(pos(1, 1, 30*side, 0), pos(2, 1, -20*side, 0), pos(9, 1, -10*side, 5))
		for n := range 31 {
			var want []api.Fill
			for _, f := range fills(fill(2, (2*n+1)/3, 0), fill(9, (n+1)/3, 0)) {
				if f.Qty > 0 {
					want = append(want, f)
				}
			}
			if torn, e := holdTear(t, b, key(1, 1), n); !slices.Equal(torn, want) || e != api.OK {
				t.Errorf("Tear(%d) = %v, %d, not %v", n, torn, e, want)
			}
		}
	}
}

// TestTearEqual is P19.3: of equal positions the first ones come first.
func TestTearEqual(t *testing.T) {
	b := held(pos(1, 1, 5, 0), pos(2, 1, 5, 0), pos(3, 1, -9, 0), pos(4, 1, 5, 0), pos(8, 1, -11, 0), pos(16, 1, 5, 0))
	for n, want := range [][]api.Fill{
		nil,
		fills(fill(1, 1, 0)),
		fills(fill(1, 1, 0), fill(2, 1, 0)),
		fills(fill(1, 1, 0), fill(2, 1, 0), fill(4, 1, 0)),
		fills(fill(1, 1, 0), fill(2, 1, 0), fill(4, 1, 0), fill(16, 1, 0)),
		fills(fill(1, 2, 0), fill(2, 1, 0), fill(4, 1, 0), fill(16, 1, 0)),
		fills(fill(1, 2, 0), fill(2, 2, 0), fill(4, 1, 0), fill(16, 1, 0)),
	} {
		if torn, e := holdTear(t, b, key(8, 1), n); !slices.Equal(torn, want) || e != api.OK {
			t.Errorf("Tear(%d) = %v, %d, not %v", n, torn, e, want)
		}
	}
}

// TestLegsByHand is P19.4: two legs for each fill, in order, of a long position
// and of a short one.
func TestLegsByHand(t *testing.T) {
	k := key(4, 7)
	for _, x := range []struct {
		k    api.Key
		long bool
		l    []api.Fill
		legs []api.Pos
	}{
		{k, true, nil, nil},
		{k, false, fills(), nil},
		{k, true, fills(fill(2, 3, 10)), []api.Pos{pos(2, 7, 3, 30), pos(4, 7, -3, -30)}},
		{k, false, fills(fill(2, 3, 10)), []api.Pos{pos(2, 7, -3, -30), pos(4, 7, 3, 30)}},
		{k, true, fills(fill(2, 3, 0)), []api.Pos{pos(2, 7, 3, 0), pos(4, 7, -3, 0)}},
		{k, false, fills(fill(2, 3, 0)), []api.Pos{pos(2, 7, -3, 0), pos(4, 7, 3, 0)}},
		{k, true, fills(fill(2, 0, 9)), []api.Pos{pos(2, 7, 0, 0), pos(4, 7, 0, 0)}},
		{k, false, fills(fill(2, 0, 0)), []api.Pos{pos(2, 7, 0, 0), pos(4, 7, 0, 0)}},
		{k, true, fills(fill(9, 1, 1), fill(2, 2, 2), fill(9, 1, 1)), []api.Pos{pos(9, 7, 1, 1), pos(4, 7, -1, -1), pos(2, 7, 2, 4), pos(4, 7, -2, -4), pos(9, 7, 1, 1), pos(4, 7, -1, -1)}},
		{k, false, fills(fill(9, 1, 1), fill(2, 2, 2)), []api.Pos{pos(9, 7, -1, -1), pos(4, 7, 1, 1), pos(2, 7, -2, -4), pos(4, 7, 2, 4)}},
		{k, true, fills(fill(4, 5, 6)), []api.Pos{pos(4, 7, 5, 30), pos(4, 7, -5, -30)}},
		{key(-3, 77), true, fills(fill(0, 5, 6)), []api.Pos{pos(0, 77, 5, 30), pos(-3, 77, -5, -30)}},
		{key(least, most), false, fills(fill(most, 5, 6)), []api.Pos{pos(most, most, -5, -30), pos(least, most, 5, 30)}},
		{k, true, fills(fill(2, great, 1<<22)), []api.Pos{pos(2, 7, great, bound), pos(4, 7, -great, -bound)}},
		{k, false, fills(fill(2, great, 1<<22)), []api.Pos{pos(2, 7, -great, -bound), pos(4, 7, great, bound)}},
		{k, true, fills(fill(2, 1<<32, 1<<30)), []api.Pos{pos(2, 7, 1<<32, bound), pos(4, 7, -1<<32, -bound)}},
		{k, true, fills(fill(2, 1<<20, 1<<30)), []api.Pos{pos(2, 7, 1<<20, 1<<50), pos(4, 7, -1<<20, -1<<50)}},
		{k, false, fills(fill(2, great, 0), fill(3, 0, 1<<30)), []api.Pos{pos(2, 7, -great, 0), pos(4, 7, great, 0), pos(3, 7, 0, 0), pos(4, 7, 0, 0)}},
	} {
		if legs, e := holdLegs(t, x.k, x.long, x.l...); !slices.Equal(legs, x.legs) || e != api.OK {
			t.Errorf("Legs(%v, %t, %v) = %v, %d, not %v", x.k, x.long, x.l, legs, e, x.legs)
		}
	}
}

// TestLegsErrors is P19.4: each number that may not be, and products that are
// too great, at each place, long and short, the wrong number first wherever it
// is.
func TestLegsErrors(t *testing.T) {
	l := fills(fill(2, 3, 10), fill(9, great, 1<<22), fill(1, 0, 0))
	bigs := fills(fill(1, great, 1<<22+1), fill(1, great, 1<<30), fill(1, 1<<32+1, 1<<30), fill(1, great-1, 1<<30), fill(1, great, 1<<24), fill(1, great, 1<<25))
	var wrongs []api.Fill
	for _, qty := range notPieces {
		wrongs = append(wrongs, fill(1, qty, 0), fill(1, qty, 5), fill(1, qty, 1<<30), fill(1, qty, -1))
	}
	for _, price := range notValue {
		wrongs = append(wrongs, fill(1, 0, price), fill(1, 5, price), fill(1, great, price))
	}
	for _, long := range []bool{true, false} {
		for at := range 4 {
			for _, f := range wrongs {
				if legs, e := holdLegs(t, key(4, 7), long, slices.Insert(slices.Clone(l), at, f)...); len(legs) != 0 || e != api.ErrArg {
					t.Errorf("Legs with %v at %d = %v, %d", f, at, legs, e)
				}
				for _, big := range bigs {
					for _, two := range [][]api.Fill{{f, big}, {big, f}, {big, l[0], f}} {
						if legs, e := holdLegs(t, key(4, 7), long, two...); len(legs) != 0 || e != api.ErrArg {
							t.Errorf("Legs(%v) = %v, %d", two, legs, e)
						}
					}
				}
			}
			for _, f := range bigs {
				if legs, e := holdLegs(t, key(4, 7), long, slices.Insert(slices.Clone(l), at, f)...); len(legs) != 0 || e != api.ErrBig {
					t.Errorf("Legs with %v at %d = %v, %d", f, at, legs, e)
				}
			}
		}
	}
}

// TestLegsEdges is P19.4: all numbers at and around their edges together.
func TestLegsEdges(t *testing.T) {
	seen := map[api.Errno]int{}
	for _, qty := range []int{-1, 0, 1, 1 << 32, 1<<32 + 1, great - 1, great, great + 1, least, most} {
		for _, price := range []int{-1, 0, 1, 1<<22 - 1, 1 << 22, 1<<22 + 1, 1<<30 - 1, 1 << 30, 1<<30 + 1, least, most} {
			for _, long := range []bool{true, false} {
				_, e := holdLegs(t, key(4, 7), long, fill(2, qty, price))
				seen[e]++
			}
		}
	}
	if seen[api.OK]+seen[api.ErrBig] != 2*6*7 || seen[api.ErrBig] != 2*(1+3+3) {
		t.Errorf("the answers were %v", seen)
	}
}

// TestLegsAddUp is P19.4 and P19.5: what is sold of a position is what the
// bidders have then, and what is torn up of it after that leaves nothing of it.
func TestLegsAddUp(t *testing.T) {
	g := rand.New(rand.NewPCG(19, 4))
	torn := 0
	for round := range 3000 {
		b := anyBook(g, []int{1, 3, 20}[round%3])
		if len(b.Poss) == 0 {
			continue
		}
		p := b.Poss[g.IntN(len(b.Poss))]
		got, rest, e := holdFill(t, p.Qty, anyBids(g)...)
		if e != api.OK {
			t.Fatalf("Fill: %d", e)
		}
		legs, e := holdLegs(t, p.Key, p.Qty > 0, got...)
		if e != api.OK {
			t.Fatalf("Legs: %d", e)
		}
		qty, cost := 0, 0
		for _, l := range legs {
			qty, cost = qty+l.Qty, cost+l.Cost
		}
		sold, e := book.Add(b, legs...)
		if qty != 0 || cost != 0 || e != api.OK {
			t.Fatalf("the legs %v add up to %d and %d: %d", legs, qty, cost, e)
		}
		if left := book.Of(sold, p.Key).Qty; !bidsFor(got, p.Who) && (max(left, -left) != rest || !smaller(left, p.Qty)) {
			t.Fatalf("of %v %d are left, not %d", p, left, rest)
		}
		left := book.Of(sold, p.Key).Qty
		fills, e := holdTear(t, sold, p.Key, max(left, -left))
		if e != api.OK {
			t.Fatalf("Tear(%v, %v): %d", sold, p.Key, e)
		}
		legs, _ = holdLegs(t, p.Key, left > 0, fills...)
		after, e := book.Add(sold, legs...)
		if n := book.Of(after, p.Key).Qty; n != 0 || e != api.OK {
			t.Fatalf("%d are left at last: %d", n, e)
		}
		torn += len(fills)
	}
	if torn < 500 {
		t.Errorf("%d were torn up", torn)
	}
}

// bidsFor reports whether one of the fills is of who.
func bidsFor(l []api.Fill, who int) bool {
	return slices.ContainsFunc(l, func(f api.Fill) bool { return f.From == who })
}

// TestAnyArguments is R1 and P19.1 to P19.4: numbers of all kinds, of which
// most may not be.
func TestAnyArguments(t *testing.T) {
	g := rand.New(rand.NewPCG(19, 5))
	pick := func() int { return ends[g.IntN(len(ends))] }
	seen := map[api.Errno]int{}
	for range 20000 {
		l := make([]api.Bid, g.IntN(4))
		for i := range l {
			l[i] = api.Bid{Key: key(pick(), pick()), From: pick(), Qty: pick(), Price: pick()}
		}
		holdOrder(t, g.IntN(2) == 0, l...)
		holdFill(t, pick(), l...)
		few := make([]api.Fill, g.IntN(4))
		for i := range few {
			few[i] = fill(pick(), pick(), pick())
			if g.IntN(2) == 0 {
				few[i].Qty, few[i].Price = great, 1<<g.IntN(31)
			}
		}
		_, e := holdLegs(t, key(pick(), pick()), g.IntN(2) == 0, few...)
		seen[e]++
		holdTear(t, held(pos(pick(), pick(), pick(), pick()), pos(pick(), pick(), pick(), pick())), key(pick(), pick()), pick())
	}
	if seen[api.OK] < 1000 || seen[api.ErrBig] < 500 || seen[api.ErrArg] < 1000 {
		t.Errorf("the answers of Legs were %v", seen)
	}
}

// TestArgumentsStay is R2: neither a list nor what lies behind its end is
// changed, and what lies there does not count.
func TestArgumentsStay(t *testing.T) {
	row := bids(bid(2, 3, 9), bid(3, 4, 10), bid(1, 5, 20), bid(0, 0, 0))
	rowBefore := slices.Clone(row)
	for _, long := range []bool{true, false} {
		for n := range 3 {
			holdOrder(t, long, row[:n]...)
			holdFill(t, 9, row[:n]...)
			holdFill(t, -9, row[:n]...)
		}
	}
	if !slices.Equal(row, rowBefore) {
		t.Errorf("the bids became %v", row)
	}
	few := fills(fill(2, 3, 9), fill(3, 4, 10), fill(1, -1, -1))
	fewBefore := slices.Clone(few)
	holdLegs(t, key(1, 2), true, few[:2]...)
	holdLegs(t, key(1, 2), false, few[:0]...)
	if !slices.Equal(few, fewBefore) {
		t.Errorf("the fills became %v", few)
	}
	poss := []api.Pos{pos(1, 1, 3, 0), pos(2, 1, -3, 0), pos(3, 1, -3, 0), pos(0, 0, 0, 0)}
	possBefore := slices.Clone(poss)
	if torn, e := holdTear(t, held(poss[:2]...), key(1, 1), 3); !slices.Equal(torn, fills(fill(2, 3, 0))) || e != api.OK {
		t.Errorf("Tear = %v, %d", torn, e)
	}
	holdTear(t, held(poss[:2]...), key(1, 1), 4)
	holdTear(t, held(poss[:3]...), key(1, 1), 4)
	holdTear(t, held(poss[:0]...), key(1, 1), 0)
	if !slices.Equal(poss, possBefore) {
		t.Errorf("the positions became %v", poss)
	}
}

// spoil writes into a list, and behind its end, where it sees that nothing was.
func spoil[T comparable](t *testing.T, l []T, x T) {
	t.Helper()
	var nothing T
	for _, y := range l[len(l):cap(l)] {
		if y != nothing {
			t.Errorf("behind the end there is %v", y)
		}
	}
	l = l[:cap(l)]
	for i := range l {
		l[i] = x
	}
}

// answers are lists that the calls tell.
type answers struct {
	bids  [][]api.Bid
	fills [][]api.Fill
	poss  [][]api.Pos
}

// asked are the answers to some questions about bids, fills and a book.
func asked(l []api.Bid, few []api.Fill, b api.Book) answers {
	var a answers
	for _, long := range []bool{true, false} {
		legs, _ := Legs(key(1, 2), long, few...)
		a.bids = append(a.bids, Order(long, l...))
		a.poss = append(a.poss, legs)
	}
	for _, qty := range []int{0, 5, -5, great, -great} {
		got, _, _ := Fill(qty, l...)
		a.fills = append(a.fills, got)
	}
	for _, k := range []api.Key{key(1, 3), key(2, 3), key(1, 8), key(9, 9)} {
		for _, n := range []int{0, 1, 4, 7, 15} {
			torn, _ := Tear(b, k, n)
			a.fills = append(a.fills, torn)
		}
	}
	return a
}

// same reports whether two answers say the same.
func same(a, b answers) bool {
	return slices.EqualFunc(a.bids, b.bids, slices.Equal[[]api.Bid]) &&
		slices.EqualFunc(a.fills, b.fills, slices.Equal[[]api.Fill]) &&
		slices.EqualFunc(a.poss, b.poss, slices.Equal[[]api.Pos])
}

// spoilEach writes into one list after the other and sees that those behind it
// are what they were.
func spoilEach(t *testing.T, got, want answers) {
	t.Helper()
	for i := range got.bids {
		if !slices.Equal(got.bids[i], want.bids[i]) {
			t.Errorf("bids %d are %v, not %v", i, got.bids[i], want.bids[i])
		}
		spoil(t, got.bids[i], bid(9, 9, 9))
	}
	for i := range got.fills {
		if !slices.Equal(got.fills[i], want.fills[i]) {
			t.Errorf("fills %d are %v, not %v", i, got.fills[i], want.fills[i])
		}
		spoil(t, got.fills[i], fill(9, 9, 9))
	}
	for i := range got.poss {
		if !slices.Equal(got.poss[i], want.poss[i]) {
			t.Errorf("positions %d are %v, not %v", i, got.poss[i], want.poss[i])
		}
		spoil(t, got.poss[i], pos(9, 9, 9, 9))
	}
}

// TestResultsAreNew is R2 and R3: what is written into a result, and into the
// memory behind it, is seen in no argument and in no other result.
func TestResultsAreNew(t *testing.T) {
	manyBids, manyFills := make([]api.Bid, 33), make([]api.Fill, 33)
	for i := range manyBids {
		manyBids[i], manyFills[i] = bid(i%5, 1+i, 40-i), fill(i, i, i)
	}
	for _, size := range []int{0, 1, 3, 33} {
		l := append(make([]api.Bid, 0, 40), manyBids[:size]...)
		few := append(make([]api.Fill, 0, 40), manyFills[:size]...)
		b := some()
		b.Poss = append(make([]api.Pos, 0, 40), b.Poss...)
		want := asked(manyBids[:size], manyFills[:size], some())
		spoilEach(t, asked(l, few, b), want)
		if !slices.Equal(l, manyBids[:size]) || !slices.Equal(few, manyFills[:size]) || !slices.Equal(b.Poss, some().Poss) || !slices.Equal(b.Trades, some().Trades) {
			t.Errorf("after writes into results the arguments became %v, %v, %v", l, few, b)
		}
		got := asked(l, few, b)
		spoil(t, l, bid(9, 9, 9))
		spoil(t, few, fill(9, 9, 9))
		spoil(t, b.Poss, pos(9, 9, 9, 9))
		if !same(got, want) {
			t.Errorf("after writes into arguments the answers are %v, not %v", got, want)
		}
	}
}

// TestNothingIsKept is R3: a call answers the same whatever was asked between.
func TestNothingIsKept(t *testing.T) {
	l := bids(bid(2, 3, 9), bid(3, 4, 10))
	few := fills(fill(2, 3, 9), fill(3, 4, 10))
	before := asked(l, few, some())
	holdFill(t, 5, bid(7, 0, 0))
	holdLegs(t, key(4, 4), true, fill(1, great, 1<<30))
	l[0].Price, few[1].Qty = 11, 0
	if got, _, e := holdFill(t, 5, l...); !slices.Equal(got, fills(fill(2, 3, 11), fill(3, 2, 10))) || e != api.OK {
		t.Errorf("Fill of other bids = %v, %d", got, e)
	}
	holdLegs(t, key(4, 4), true, few...)
	holdTear(t, held(pos(1, 3, 2, 0), pos(2, 3, -2, 0)), key(1, 3), 1)
	l[0].Price, few[1].Qty = 9, 4
	if again := asked(l, few, some()); !same(again, before) {
		t.Errorf("the answers are %v, and before they were %v", again, before)
	}
}
