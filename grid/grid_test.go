package grid

import (
	"math"
	"math/big"
	"math/rand/v2"
	"slices"
	"testing"

	"cambist/api"
	"cambist/roll"
)

const (
	bound = 1 << 62
	great = 1 << 40
	least = math.MinInt
	most  = math.MaxInt
)

// losses is what Losses answers, scenario by scenario.
type losses = [api.Grid]int

// pos tells a position. Its Cost counts for nothing, whatever it is.
func pos(who, inst, qty int) api.Pos {
	return api.Pos{Key: api.Key{Who: who, Inst: inst}, Qty: qty, Cost: least}
}

// with tells a roll with these instruments.
func with(insts ...api.Inst) api.Roll { return api.Roll{Insts: insts} }

// someRoll is a right roll: two instruments of one currency, one of another,
// and one whose numbers are all at their ends.
func someRoll() api.Roll {
	return api.Roll{
		Members: []api.Member{{No: 1, State: api.Active}, {No: 2, State: api.Defaulted, Need: 7}, {No: 3, State: api.Closed}},
		Insts: []api.Inst{
			{No: 1, Mult: 10, Price: 9, Shifts: losses{3, -2}},
			{No: 3, Mult: 1, Add: 4, Shifts: losses{-10, 10, 5, 0, 0, 7}},
			{No: 4, Cur: 1, Mult: 2, Add: 1, Set: 5, Shifts: losses{1, 2, 3, -4, -5, -6}},
			{No: 8, Cur: 2, Mult: 1024, Add: 1 << 30, Shifts: losses{1 << 30, -1 << 30, 1, -1, 0, 1}},
		},
		Assets: []api.Asset{{No: 6, Price: 1}},
	}
}

// cloneRoll is r in memory of its own.
func cloneRoll(r api.Roll) api.Roll {
	return api.Roll{
		Members: append([]api.Member(nil), r.Members...),
		Insts:   append([]api.Inst(nil), r.Insts...),
		Assets:  append([]api.Asset(nil), r.Assets...),
	}
}

// sameRoll reports whether two rolls have the same in them.
func sameRoll(a, b api.Roll) bool {
	return slices.Equal(a.Members, b.Members) && slices.Equal(a.Insts, b.Insts) && slices.Equal(a.Assets, b.Assets)
}

// exact is n with as many bits as it takes.
func exact(n int) *big.Int { return big.NewInt(int64(n)) }

// money says it from the document's words: from -2^62 to 2^62, or ErrBig.
func money(n *big.Int) (int, api.Errno) {
	if n.CmpAbs(exact(bound)) > 0 {
		return 0, api.ErrBig
	}
	return int(n.Int64()), api.OK
}

// counts reports whether p is of who in a listed instrument of the currency
// cur, and tells this instrument.
func counts(r api.Roll, who, cur int, p api.Pos) (api.Inst, bool) {
	for _, i := range r.Insts {
		if i.No == p.Key.Inst {
			return i, p.Key.Who == who && i.Cur == cur
		}
	}
	return api.Inst{}, false
}

// exactLosses is P15.1, word by word.
func exactLosses(r api.Roll, who, cur int, poss []api.Pos) (losses, api.Errno) {
	if e := roll.Check(r); e != api.OK {
		return losses{}, e
	}
	for _, p := range poss {
		if p.Qty < -1099511627776 || p.Qty > 1099511627776 {
			return losses{}, api.ErrArg
		}
	}
	var all losses
	for j := range all {
		sum := new(big.Int)
		for _, p := range poss {
			if i, ok := counts(r, who, cur, p); ok {
				n := new(big.Int).Mul(exact(p.Qty), exact(i.Mult))
				sum.Sub(sum, n.Mul(n, exact(i.Shifts[j])))
			}
		}
		n, e := money(sum)
		if e != api.OK {
			return losses{}, e
		}
		all[j] = n
	}
	return all, api.OK
}

// exactMargin is P15.2, word by word.
func exactMargin(r api.Roll, who, cur int, poss []api.Pos) (int, api.Errno) {
	all, e := exactLosses(r, who, cur, poss)
	if e != api.OK {
		return 0, e
	}
	sum := new(big.Int)
	for _, n := range all {
		if exact(n).Cmp(sum) > 0 {
			sum = exact(n)
		}
	}
	for _, p := range poss {
		if i, ok := counts(r, who, cur, p); ok {
			n := new(big.Int).Mul(exact(i.Add), exact(p.Qty))
			sum.Add(sum, n.Abs(n))
		}
	}
	return money(sum)
}

// hold holds both calls against the chapter's words, and sees that what was
// passed in stays as it was.
func hold(t *testing.T, r api.Roll, who, cur int, poss ...api.Pos) (losses, int, api.Errno, api.Errno) {
	t.Helper()
	rBefore, before := cloneRoll(r), slices.Clone(poss)
	all, e := Losses(r, who, cur, poss...)
	if want, wantE := exactLosses(r, who, cur, poss); all != want || e != wantE {
		t.Errorf("Losses(%v, %d, %d, %v) = %v, %d, not %v, %d", r, who, cur, poss, all, e, want, wantE)
	}
	n, f := Margin(r, who, cur, poss...)
	if want, wantE := exactMargin(r, who, cur, poss); n != want || f != wantE {
		t.Errorf("Margin(%v, %d, %d, %v) = %d, %d, not %d, %d", r, who, cur, poss, n, f, want, wantE)
	}
	if !sameRoll(r, rBefore) || !slices.Equal(poss, before) {
		t.Errorf("%v, %v became %v, %v", rBefore, before, r, poss)
	}
	return all, n, e, f
}

// TestByHand is P15.1 and P15.2: the example of the chapter, both sides of a
// position, several of them, and none, with the answers written out.
func TestByHand(t *testing.T) {
	for _, x := range []struct {
		who, cur int
		poss     []api.Pos
		losses   losses
		margin   int
	}{
		{1, 0, nil, losses{}, 0},
		{1, 0, []api.Pos{}, losses{}, 0},
		{1, 0, []api.Pos{pos(1, 1, 5)}, losses{-150, 100}, 100},
		{1, 0, []api.Pos{pos(1, 1, -5)}, losses{150, -100}, 150},
		{1, 0, []api.Pos{pos(1, 1, 0)}, losses{}, 0},
		{1, 0, []api.Pos{pos(1, 3, 7)}, losses{70, -70, -35, 0, 0, -49}, 98},
		{1, 0, []api.Pos{pos(1, 3, -7)}, losses{-70, 70, 35, 0, 0, 49}, 98},
		{1, 0, []api.Pos{pos(1, 1, 5), pos(1, 3, 7)}, losses{-80, 30, -35, 0, 0, -49}, 58},
		{1, 0, []api.Pos{pos(1, 3, 7), pos(1, 1, 5)}, losses{-80, 30, -35, 0, 0, -49}, 58},
		{1, 0, []api.Pos{pos(1, 1, -5), pos(1, 3, 7)}, losses{220, -170, -35, 0, 0, -49}, 248},
		{1, 0, []api.Pos{pos(1, 1, 1), pos(1, 3, 2)}, losses{-10, 0, -10, 0, 0, -14}, 8},
		{2, 1, []api.Pos{pos(2, 4, 10)}, losses{-20, -40, -60, 80, 100, 120}, 130},
		{2, 1, []api.Pos{pos(2, 4, -10)}, losses{20, 40, 60, -80, -100, -120}, 70},
		{3, 2, []api.Pos{pos(3, 8, 1)}, losses{-1 << 40, 1 << 40, -1024, 1024, 0, -1024}, 1<<40 + 1<<30},
		{3, 2, []api.Pos{pos(3, 8, -2)}, losses{1 << 41, -1 << 41, 2048, -2048, 0, 2048}, 1<<41 + 1<<31},
	} {
		all, n, e, f := hold(t, someRoll(), x.who, x.cur, x.poss...)
		if all != x.losses || n != x.margin || e != api.OK || f != api.OK {
			t.Errorf("%v: %v, %d, %d, %d", x, all, n, e, f)
		}
	}
}

// TestNoLoss is P15.2: where no scenario loses, the margin is what is added
// for the size alone, and 0 if nothing is.
func TestNoLoss(t *testing.T) {
	shifts := losses{1, 2, 3, 1 << 30, 5, 6}
	for _, add := range []int{0, 1, 4, 1 << 30} {
		r := with(api.Inst{No: 1, Mult: 10, Add: add, Shifts: shifts}, api.Inst{No: 2, Mult: 1, Add: add})
		for _, qty := range []int{0, 1, 5, 1 << 20} {
			if all, n, _, f := hold(t, r, 1, 0, pos(1, 1, qty)); slices.Max(all[:]) > 0 || n != add*qty || f != api.OK {
				t.Errorf("Margin of %d with %d = %d, %d, by %v", qty, add, n, f, all)
			}
			// An instrument without shifts loses nothing on either side.
			for _, q := range []int{qty, -qty} {
				if all, n, _, f := hold(t, r, 1, 0, pos(1, 2, q)); all != (losses{}) || n != add*qty || f != api.OK {
					t.Errorf("Margin of %d with %d = %d, %d, by %v", q, add, n, f, all)
				}
			}
		}
	}
}

// TestEachScenario is P15.1 and P15.2: each scenario has its own shift, and
// the margin takes the greatest loss wherever it stands.
func TestEachScenario(t *testing.T) {
	for j := range api.Grid {
		i := api.Inst{No: 1, Mult: 10, Add: 2}
		i.Shifts[j] = -3
		want := losses{}
		want[j] = 150
		if all, n, e, f := hold(t, with(i), 1, 0, pos(1, 1, 5)); all != want || n != 160 || e+f != api.OK {
			t.Errorf("scenario %d: %v, %d, %d, %d", j, all, n, e, f)
		}
		for k := range api.Grid {
			i.Shifts[k] = -4 * (k + 1)
		}
		i.Shifts[j] = -100
		if _, n, _, f := hold(t, with(i), 1, 0, pos(1, 1, 5)); n != 5010 || f != api.OK {
			t.Errorf("scenario %d: %d, %d", j, n, f)
		}
	}
}

// TestWhatCounts is P15.1 and P15.2: positions of others, in instruments that
// are not listed, and in those of another currency are ignored, wherever they
// stand; who and cur can be any numbers.
func TestWhatCounts(t *testing.T) {
	own := pos(1, 1, 5)
	for _, other := range []api.Pos{
		pos(2, 1, 99), pos(0, 1, 99), pos(-1, 1, 99), pos(17, 1, great), pos(least, 1, -great), pos(most, 3, great),
		pos(1, 2, 99), pos(1, 0, 99), pos(1, -1, 99), pos(1, 9, great), pos(1, least, -great), pos(1, most, great),
		pos(1, 4, 99), pos(1, 8, great), pos(2, 4, 99), pos(2, 2, 99), pos(1+1<<32, 1, 9), pos(1, 1+1<<32, 9),
	} {
		for _, poss := range [][]api.Pos{{other, own}, {own, other}, {other, own, other}} {
			if all, n, e, f := hold(t, someRoll(), 1, 0, poss...); all != (losses{-150, 100}) || n != 100 || e+f != api.OK {
				t.Errorf("%v: %v, %d, %d, %d", poss, all, n, e, f)
			}
		}
	}
	for _, who := range []int{least, -1, 0, 2, 16, 17, most} {
		for _, cur := range []int{least, -1, 0, 1, 2, 3, most} {
			want, margin := losses{}, 0
			if cur == 1 {
				want, margin = losses{-20, -40, -60, 80, 100, 120}, 130
			}
			all, n, e, f := hold(t, someRoll(), who, cur, own, pos(who, 4, 10))
			if all != want || n != margin || e+f != api.OK {
				t.Errorf("of %d in %d: %v, %d, %d, %d", who, cur, all, n, e, f)
			}
		}
	}
}

// TestSameKey is P15.1 and P15.2: of two positions with the same key both
// count, for the losses with their signs and for what is added without.
func TestSameKey(t *testing.T) {
	for _, x := range []struct {
		a, b   int
		losses losses
		margin int
	}{
		{5, 2, losses{70, -70, -35, 0, 0, -49}, 98},
		{5, 5, losses{100, -100, -50, 0, 0, -70}, 140},
		{5, -5, losses{}, 40},
		{-5, 2, losses{-30, 30, 15, 0, 0, 21}, 58},
		{great, -great, losses{}, 1 << 43},
	} {
		all, n, e, f := hold(t, someRoll(), 1, 0, pos(1, 3, x.a), pos(2, 3, 1), pos(1, 3, x.b))
		if all != x.losses || n != x.margin || e+f != api.OK {
			t.Errorf("%v: %v, %d, %d, %d", x, all, n, e, f)
		}
	}
}

// TestOtherNumbers is P15.1 and P15.2: the members, the prices and the assets
// of the roll and the Cost of a position count for nothing.
func TestOtherNumbers(t *testing.T) {
	for _, members := range [][]api.Member{nil, {{No: 1, State: api.Closed, Need: bound}}, {{No: 5, State: api.Active}}} {
		for _, price := range []int{0, 1, 1 << 30} {
			for _, cost := range []int{least, -1, 0, 77, bound, most} {
				r := someRoll()
				r.Members, r.Assets = members, nil
				r.Insts[0].Set, r.Insts[0].Price = price, 1<<30-price
				p := api.Pos{Key: api.Key{Who: 1, Inst: 1}, Qty: 5, Cost: cost}
				if all, n, e, f := hold(t, r, 1, 0, p); all != (losses{-150, 100}) || n != 100 || e+f != api.OK {
					t.Errorf("%v, %v: %v, %d, %d, %d", r, p, all, n, e, f)
				}
			}
		}
	}
}

// TestLossesBig is P15.1: a loss and a gain at the bound and one beyond it, in
// each scenario; sums on the way are whatever they are.
func TestLossesBig(t *testing.T) {
	const far = 1 << 30
	for _, x := range []struct {
		mult, shift int
		qtys        []int
		loss        int
		e           api.Errno
	}{
		{1, 1 << 22, []int{great}, -bound, api.OK},
		{1, -1 << 22, []int{great}, bound, api.OK},
		{1, 1 << 22, []int{-great}, bound, api.OK},
		{1, 1<<22 + 1, []int{great}, 0, api.ErrBig},
		{1, 1<<22 + 1, []int{-great}, 0, api.ErrBig},
		{1024, 1 << 12, []int{great}, -bound, api.OK},
		{1024, -1<<12 - 1, []int{great}, 0, api.ErrBig},
		{1, 1, []int{great, great}, -1 << 41, api.OK},
		{1, 1 << 22, []int{great, 1}, 0, api.ErrBig},
		{1, 1 << 22, []int{great, 1, -1}, -bound, api.OK},
		{1, 1 << 22, []int{great, great, -great}, -bound, api.OK},
		{1, 1 << 22, []int{-great, -1}, 0, api.ErrBig},
		{1024, far, []int{1 << 22}, -bound, api.OK},
		{1024, far, []int{-1 << 22}, bound, api.OK},
		{1024, far, []int{1<<22 + 1}, 0, api.ErrBig},
		{1024, far, []int{-1<<22 - 1}, 0, api.ErrBig},
		// 2^64 and 2^80 are 0 for one who computes with 64 bits.
		{1024, far, []int{1 << 24}, 0, api.ErrBig},
		{1024, far, []int{great}, 0, api.ErrBig},
		{1024, -far, []int{great}, 0, api.ErrBig},
		{1024, far, []int{great, -great}, 0, api.OK},
		{1024, far, []int{great, great, great, -great, 3, -great, -great}, -3 << 40, api.OK},
		{1024, -far, []int{great, great, great, -great, 3, -great, -great}, 3 << 40, api.OK},
		{1024, far, []int{great, great, great, -great, 3, -great}, 0, api.ErrBig},
	} {
		for j := range api.Grid {
			i := api.Inst{No: 1, Mult: x.mult}
			i.Shifts[j] = x.shift
			want := losses{}
			want[j] = x.loss
			var poss []api.Pos
			for _, qty := range x.qtys {
				poss = append(poss, pos(1, 1, qty))
			}
			all, n, e, f := hold(t, with(i), 1, 0, poss...)
			if all != want || e != x.e || n != max(0, x.loss) || f != x.e {
				t.Errorf("%v in %d: %v, %d, %d, %d", x, j, all, n, e, f)
			}
		}
	}
}

// TestMarginBig is P15.2: the loss and what is added together at the bound and
// one beyond it, with losses that are money.
func TestMarginBig(t *testing.T) {
	for _, x := range []struct {
		insts  []api.Inst
		poss   []api.Pos
		margin int
		e      api.Errno
	}{
		{[]api.Inst{{No: 1, Mult: 1, Add: 1 << 22}}, []api.Pos{pos(1, 1, great)}, bound, api.OK},
		{[]api.Inst{{No: 1, Mult: 1, Add: 1 << 22}}, []api.Pos{pos(1, 1, -great)}, bound, api.OK},
		{[]api.Inst{{No: 1, Mult: 1, Add: 1 << 22}}, []api.Pos{pos(1, 1, great-1), pos(1, 1, -1)}, bound, api.OK},
		{[]api.Inst{{No: 1, Mult: 1, Add: 1 << 22}}, []api.Pos{pos(1, 1, great), pos(1, 1, -1)}, 0, api.ErrBig},
		{[]api.Inst{{No: 1, Mult: 1, Add: 1<<22 + 1}}, []api.Pos{pos(1, 1, great)}, 0, api.ErrBig},
		{[]api.Inst{{No: 1, Mult: 1, Add: 1 << 22}, {No: 2, Mult: 1, Add: 1}}, []api.Pos{pos(1, 1, great), pos(1, 2, -1)}, 0, api.ErrBig},
		{[]api.Inst{{No: 1, Mult: 1, Add: 1 << 22}, {No: 2, Mult: 1, Add: 1}}, []api.Pos{pos(1, 1, great-1), pos(1, 2, 1<<22)}, bound, api.OK},
		{[]api.Inst{{No: 1, Mult: 1, Add: 1 << 22}, {No: 2, Mult: 1, Shifts: losses{0, -1}}}, []api.Pos{pos(1, 1, great), pos(1, 2, 1)}, 0, api.ErrBig},
		{[]api.Inst{{No: 1, Mult: 1, Add: 1 << 22}, {No: 2, Mult: 1, Shifts: losses{0, -1}}}, []api.Pos{pos(1, 1, great-1), pos(1, 2, 1<<22)}, bound, api.OK},
		{[]api.Inst{{No: 1, Mult: 1, Add: 1 << 22}, {No: 2, Mult: 1, Shifts: losses{0, -1}}}, []api.Pos{pos(1, 1, great-1), pos(1, 2, 1<<22+1)}, 0, api.ErrBig},
		{[]api.Inst{{No: 1, Mult: 1, Shifts: losses{5: 1 << 22}}}, []api.Pos{pos(1, 1, -great)}, bound, api.OK},
		{[]api.Inst{{No: 1, Mult: 1, Shifts: losses{5: 1 << 22}}, {No: 2, Mult: 1, Add: 1}}, []api.Pos{pos(1, 1, -great), pos(1, 2, 1)}, 0, api.ErrBig},
		// What is added does not make a loss greater that is not the greatest one.
		{[]api.Inst{{No: 1, Mult: 1, Add: 1, Shifts: losses{1 << 22, 1 << 21, 1, 1, 1, 1}}}, []api.Pos{pos(1, 1, great)}, great, api.OK},
		{[]api.Inst{{No: 1, Mult: 1, Add: 1 << 30}}, []api.Pos{pos(1, 1, great)}, 0, api.ErrBig},
		{[]api.Inst{{No: 1, Mult: 1, Add: 1 << 24}}, []api.Pos{pos(1, 1, great)}, 0, api.ErrBig},
		{[]api.Inst{{No: 1, Mult: 1, Add: 1 << 30}}, []api.Pos{pos(1, 1, 1<<32), pos(1, 1, 5)}, 0, api.ErrBig},
		{[]api.Inst{{No: 1, Mult: 1, Add: 1 << 30}}, []api.Pos{pos(1, 1, 1<<32)}, bound, api.OK},
	} {
		if _, n, e, f := hold(t, with(x.insts...), 1, 0, x.poss...); n != x.margin || f != x.e || e != api.OK {
			t.Errorf("%v: %d, %d, after %d", x, n, f, e)
		}
	}
}

// TestArg is P15.1 and P15.2: a Qty beyond its ends on either side, wherever it
// stands, and also where the position does not count.
func TestArg(t *testing.T) {
	poss := []api.Pos{pos(1, 1, 5), pos(1, 3, great), pos(2, 1, -great), pos(1, 2, great), pos(1, 4, -7), pos(99, -5, great)}
	if _, _, e, f := hold(t, someRoll(), 1, 0, poss...); e != api.OK || f != api.OK {
		t.Fatalf("with nothing wrong: %d, %d", e, f)
	}
	for at := range poss {
		for _, qty := range []int{great + 1, -great - 1, 1 << 41, bound, 1 << 42, most, least} {
			wrong := slices.Clone(poss)
			wrong[at].Qty = qty
			if _, _, e, f := hold(t, someRoll(), 1, 0, wrong...); e != api.ErrArg || f != api.ErrArg {
				t.Errorf("%v: %d, %d", wrong, e, f)
			}
		}
		for _, qty := range []int{great, -great, great - 1, 0} {
			right := slices.Clone(poss)
			right[at].Qty = qty
			if _, _, e, f := hold(t, someRoll(), 1, 0, right...); e == api.ErrArg || f == api.ErrArg {
				t.Errorf("%v: %d, %d", right, e, f)
			}
		}
	}
	if _, _, e, f := hold(t, api.Roll{}, 1, 0, pos(1, 1, great+1)); e != api.ErrArg || f != api.ErrArg {
		t.Errorf("with nothing listed: %d, %d", e, f)
	}
}

// wrongRolls are rolls with one thing wrong each.
func wrongRolls() []api.Roll {
	inst := func(i api.Inst) api.Roll { return with(i) }
	return []api.Roll{
		inst(api.Inst{}), inst(api.Inst{No: 9, Mult: 1}), inst(api.Inst{No: 1}), inst(api.Inst{No: 1, Mult: 1025}),
		inst(api.Inst{No: 1, Mult: 1, Cur: 3}), inst(api.Inst{No: 1, Mult: 1, Cur: -1}),
		inst(api.Inst{No: 1, Mult: 1, Add: -1}), inst(api.Inst{No: 1, Mult: 1, Add: 1<<30 + 1}),
		inst(api.Inst{No: 1, Mult: 1, Price: -1}), inst(api.Inst{No: 1, Mult: 1, Set: 1<<30 + 1}),
		inst(api.Inst{No: 1, Mult: 1, Shifts: losses{1<<30 + 1}}), inst(api.Inst{No: 1, Mult: 1, Shifts: losses{5: -1<<30 - 1}}),
		with(api.Inst{No: 2, Mult: 1}, api.Inst{No: 1, Mult: 1}), with(api.Inst{No: 1, Mult: 1}, api.Inst{No: 1, Mult: 1}),
		{Members: []api.Member{{No: 17, State: 1}}}, {Members: []api.Member{{No: 1, State: 1, Need: -1}}}, {Assets: []api.Asset{{No: 1}}},
	}
}

// TestErrorsInOrder is P15.1 and P15.2: a roll that is not right goes before a
// Qty that is not permitted, and this before numbers beyond money.
func TestErrorsInOrder(t *testing.T) {
	wide := api.Inst{No: 1, Mult: 1024, Add: 1 << 30, Shifts: losses{1 << 30}}
	arg, big := pos(1, 1, great+1), pos(1, 1, great)
	for _, r := range wrongRolls() {
		for _, poss := range [][]api.Pos{nil, {pos(1, 1, 1)}, {arg}, {big}, {pos(2, 2, least)}, {big, arg}} {
			if _, _, e, f := hold(t, r, 1, 0, poss...); e != api.ErrState || f != api.ErrState {
				t.Errorf("%v, %v: %d, %d", r, poss, e, f)
			}
		}
	}
	// A roll whose wrong instrument stands behind what the positions need.
	behind := with(wide, api.Inst{No: 2, Mult: 0})
	for _, poss := range [][]api.Pos{nil, {big}, {arg}} {
		if _, _, e, f := hold(t, behind, 1, 0, poss...); e != api.ErrState || f != api.ErrState {
			t.Errorf("%v, %v: %d, %d", behind, poss, e, f)
		}
	}
	for _, poss := range [][]api.Pos{{big, arg}, {arg, big}, {big, pos(2, 1, least)}, {big, pos(1, 5, most)}} {
		if _, _, e, f := hold(t, with(wide), 1, 0, poss...); e != api.ErrArg || f != api.ErrArg {
			t.Errorf("%v: %d, %d", poss, e, f)
		}
	}
	if _, _, e, f := hold(t, with(wide), 1, 0, big); e != api.ErrBig || f != api.ErrBig {
		t.Errorf("%v: %d, %d", big, e, f)
	}
}

// around are numbers and those next to them, with both signs.
func around(l ...int) []int {
	var all []int
	for _, n := range l {
		all = append(all, n-1, n, n+1, -n-1, -n, -n+1)
	}
	slices.Sort(all)
	return slices.Compact(all)
}

// TestAtEdges is P15.1 and P15.2: all edges of the four numbers that count
// with one another, exactly. Each of the answers comes often.
func TestAtEdges(t *testing.T) {
	seen, seenMargin := map[api.Errno]int{}, map[api.Errno]int{}
	for _, qty := range append(around(0, 7, 1<<20, 1<<22, 1<<32, great), least, most) {
		for _, mult := range []int{0, 1, 10, 1023, 1024, 1025} {
			for _, shift := range around(0, 3, 1<<12, 1<<22, 1<<30) {
				for _, add := range []int{-1, 0, 1, 1<<22 - 1, 1 << 22, 1<<22 + 1, 1 << 30, 1<<30 + 1} {
					i := api.Inst{No: 1, Mult: mult, Add: add, Shifts: losses{3: shift}}
					_, _, e, f := hold(t, with(i), 1, 0, pos(1, 1, qty))
					seen[e]++
					seenMargin[f]++
				}
			}
		}
	}
	for _, e := range []api.Errno{api.OK, api.ErrState, api.ErrArg, api.ErrBig} {
		if seen[e] < 500 || seenMargin[e] < 500 {
			t.Errorf("the answers were %v, %v", seen, seenMargin)
		}
	}
}

// anyRoll is a right roll with most of the instruments; far tells whether
// there are numbers at their ends among them.
func anyRoll(g *rand.Rand, far bool) api.Roll {
	shifts := []int{0, 1, -1, 3, -2, 100, -100}
	mults, adds := []int{1, 2, 10}, []int{0, 0, 1, 4}
	if far {
		shifts = append(shifts, 1<<12, -1<<12, 1<<22, -1<<22, 1<<30, -1<<30, 1<<30-1)
		mults, adds = append(mults, 1023, 1024), append(adds, 1<<22, 1<<30)
	}
	var r api.Roll
	for no := 1; no <= api.MaxInsts; no++ {
		if g.IntN(4) > 0 {
			i := api.Inst{No: no, Cur: g.IntN(2), Mult: mults[g.IntN(len(mults))], Add: adds[g.IntN(len(adds))]}
			for j := range i.Shifts {
				i.Shifts[j] = shifts[g.IntN(len(shifts))]
			}
			r.Insts = append(r.Insts, i)
		}
	}
	return r
}

// anyPoss are up to n positions, mostly of members 1 and 2; far tells the same
// as for anyRoll.
func anyPoss(g *rand.Rand, n int, far bool) []api.Pos {
	qtys := []int{0, 1, -1, 5, -7, 1 << 20, -1 << 20}
	if far {
		qtys = append(qtys, 1<<22, -1<<22, 1<<32, -1<<32, great, -great)
	}
	var poss []api.Pos
	for range g.IntN(n + 1) {
		p := pos(1+g.IntN(2), 1+g.IntN(api.MaxInsts), qtys[g.IntN(len(qtys))])
		p.Cost = g.IntN(1 << 40)
		if g.IntN(20) == 0 {
			p.Who, p.Inst = g.IntN(20)-1, g.IntN(12)-1
		}
		poss = append(poss, p)
	}
	return poss
}

// TestRandom is P15.1 and P15.2: many rolls and positions, held against the
// words. Each answer comes often.
func TestRandom(t *testing.T) {
	g := rand.New(rand.NewPCG(15, 1))
	seen, onlyMargin, added, netted := map[api.Errno]int{}, 0, 0, 0
	for k := range 60000 {
		r, poss := anyRoll(g, k%2 == 0), anyPoss(g, 12, k%2 == 0)
		if len(poss) > 0 && g.IntN(20) == 0 {
			poss[g.IntN(len(poss))].Qty = great + 1
		}
		all, n, e, f := hold(t, r, 1+g.IntN(2), g.IntN(2), poss...)
		seen[e]++
		if e == api.OK && f == api.ErrBig {
			onlyMargin++
		}
		if f == api.OK && n > slices.Max(all[:]) && slices.Max(all[:]) > 0 {
			added++
		}
		if f == api.OK && slices.Min(all[:]) < 0 && slices.Max(all[:]) > 0 {
			netted++
		}
	}
	if seen[api.OK] < 5000 || seen[api.ErrArg] < 1000 || seen[api.ErrBig] < 1000 || onlyMargin < 100 || added < 1000 || netted < 1000 {
		t.Errorf("the answers were %v, and %d, %d, %d", seen, onlyMargin, added, netted)
	}
}

// TestManyPositions is P15.1 and P15.2: a long list whose sums go beyond 64
// bits and back, and end at the bound.
func TestManyPositions(t *testing.T) {
	const count = 100000
	r := with(api.Inst{No: 1, Mult: 1024, Shifts: losses{1 << 30, -1 << 30}}, api.Inst{No: 2, Mult: 1, Shifts: losses{0, 0, -1 << 22}})
	poss := slices.Concat(slices.Repeat([]api.Pos{pos(1, 1, great)}, count), []api.Pos{pos(1, 2, great)}, slices.Repeat([]api.Pos{pos(1, 1, -great)}, count))
	all, e := Losses(r, 1, 0, poss...)
	n, f := Margin(r, 1, 0, poss...)
	if all != (losses{2: bound}) || n != bound || e+f != api.OK {
		t.Errorf("%v, %d, %d, %d", all, n, e, f)
	}
	for _, wrong := range [][]api.Pos{append(poss, pos(1, 2, 1)), poss[:count], poss[1:]} {
		if all, e := Losses(r, 1, 0, wrong...); all != (losses{}) || e != api.ErrBig {
			t.Errorf("%v, %d", all, e)
		}
	}
}

// TestMarginCovers is P15.3: a margin is not negative, and covers the loss of
// each scenario.
func TestMarginCovers(t *testing.T) {
	g := rand.New(rand.NewPCG(15, 2))
	done := 0
	for k := range 20000 {
		r, poss := anyRoll(g, k%2 == 0), anyPoss(g, 8, k%2 == 0)
		all, e := Losses(r, 1, 0, poss...)
		n, f := Margin(r, 1, 0, poss...)
		if e != api.OK || f != api.OK {
			continue
		}
		if n < 0 || n < slices.Max(all[:]) {
			t.Errorf("Margin(%v, %v) = %d, and the losses are %v", r, poss, n, all)
		}
		done++
	}
	if done < 10000 {
		t.Errorf("only %d had margins", done)
	}
}

// TestMarginsTogether is P15.3: for two lists of positions together the margin
// is not greater than the sum of the margins of both, and often less.
func TestMarginsTogether(t *testing.T) {
	g := rand.New(rand.NewPCG(15, 3))
	done, fewer := 0, 0
	for k := range 20000 {
		far := k%2 == 0
		r, a, b := anyRoll(g, far), anyPoss(g, 6, far), anyPoss(g, 6, far)
		ofA, e := Margin(r, 1, 0, a...)
		ofB, f := Margin(r, 1, 0, b...)
		both, h := Margin(r, 1, 0, slices.Concat(a, b)...)
		if e != api.OK || f != api.OK || h != api.OK {
			continue
		}
		sum := new(big.Int).Add(exact(ofA), exact(ofB))
		if exact(both).Cmp(sum) > 0 {
			t.Errorf("%v: %v has %d, %v has %d, and both %d", r, a, ofA, b, ofB, both)
		}
		if exact(both).Cmp(sum) < 0 {
			fewer++
		}
		done++
	}
	if done < 10000 || fewer < 1000 {
		t.Errorf("only %d had margins, %d less together", done, fewer)
	}
}

// TestReversed is P15.3: reversed positions have the negated losses, and an
// error where the others have one.
func TestReversed(t *testing.T) {
	g := rand.New(rand.NewPCG(15, 4))
	seen := map[api.Errno]int{}
	for k := range 20000 {
		r, poss := anyRoll(g, k%2 == 0), anyPoss(g, 8, k%2 == 0)
		back := slices.Clone(poss)
		for at := range back {
			back[at].Qty = -back[at].Qty
		}
		all, e := Losses(r, 1, 0, poss...)
		negated, f := Losses(r, 1, 0, back...)
		for j := range negated {
			negated[j] = -negated[j]
		}
		if all != negated || e != f {
			t.Errorf("%v, %v: %v, %d, and reversed the negated %v, %d", r, poss, all, e, negated, f)
		}
		seen[e]++
	}
	if seen[api.OK] < 5000 || seen[api.ErrBig] < 500 {
		t.Errorf("the answers were %v", seen)
	}
}

// TestArgumentsStay is R2 and R6: what is passed in stays as it was, behind
// the ends of its lists too, and what stands there counts for nothing.
func TestArgumentsStay(t *testing.T) {
	r := someRoll()
	r.Members = append(r.Members, api.Member{No: 99})
	r.Insts = append(r.Insts, api.Inst{No: 5}, api.Inst{})
	r.Assets = append(r.Assets, api.Asset{})
	poss := []api.Pos{pos(1, 1, 5), pos(1, 3, 7), pos(1, 1, 100), pos(1, 1, most)}
	rBefore, before := cloneRoll(r), slices.Clone(poss)
	shown := api.Roll{Members: r.Members[:3], Insts: r.Insts[:4], Assets: r.Assets[:1]}
	if all, n, e, f := hold(t, shown, 1, 0, poss[:2]...); all != (losses{-80, 30, -35, 0, 0, -49}) || n != 58 || e+f != api.OK {
		t.Errorf("%v, %d, %d, %d", all, n, e, f)
	}
	hold(t, shown, 1, 0, poss...)
	hold(t, r, 1, 0, poss[:2]...)
	if !sameRoll(r, rBefore) || !slices.Equal(poss, before) {
		t.Errorf("the arguments became %v, %v", r, poss)
	}
}

// TestNothingIsKept is R3: a call answers the same whatever was asked between,
// and whatever became of what it was given.
func TestNothingIsKept(t *testing.T) {
	r, poss := someRoll(), []api.Pos{pos(1, 1, 5), pos(1, 3, 7)}
	first, n, _, _ := hold(t, r, 1, 0, poss...)
	hold(t, r, 2, 1, pos(2, 4, 10))
	hold(t, api.Roll{}, 1, 0, pos(1, 1, least))
	poss[0].Qty, r.Insts[0].Mult = 6, 11
	changed, m, _, _ := hold(t, r, 1, 0, poss...)
	if changed == first || n == m {
		t.Errorf("%v, %d for other positions too", changed, m)
	}
	again, k, _, _ := hold(t, someRoll(), 1, 0, pos(1, 1, 5), pos(1, 3, 7))
	if again != first || k != n {
		t.Errorf("%v, %d, and before %v, %d", again, k, first, n)
	}
}
