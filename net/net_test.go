package net

import (
	"math"
	"math/big"
	"math/rand/v2"
	"slices"
	"testing"

	"cambist/api"
	"cambist/entry"
	"cambist/ledger"
)

const (
	bound = 1 << 62
	least = math.MinInt
	most  = math.MaxInt
)

// due tells a due.
func due(who, cur, amount int) api.Due { return api.Due{Who: who, Cur: cur, Amount: amount} }

// dues tells a list of dues.
func dues(l ...api.Due) []api.Due { return l }

// cashLeg tells a leg of a member's Cash account.
func cashLeg(who, cur, amount int) api.Leg {
	return api.Leg{Acct: api.Acct{Kind: api.Cash, Who: who, Cur: cur}, Amount: amount}
}

// varLeg tells a leg of a Var account.
func varLeg(cur, amount int) api.Leg {
	return api.Leg{Acct: api.Acct{Kind: api.Var, Cur: cur}, Amount: amount}
}

// legs tells a list of legs.
func legs(l ...api.Leg) []api.Leg { return l }

// notMoney are the numbers one beyond the bound, further ones, and the ends of
// int.
var notMoney = []int{bound + 1, -bound - 1, bound + 1<<61, most, least, least + 1}

// amounts are money at which an answer may change.
var amounts = []int{0, 1, -1, 2, 5, -7, 1 << 31, -1 << 32, bound / 2, -bound / 2, bound/2 + 1, bound - 1, 1 - bound, bound, -bound}

// numbers can be a Who or a Cur of any due.
var numbers = []int{0, 1, 2, 3, -1, 16, 17, 1 << 32, 1<<32 + 1, -1 << 32, bound, -bound - 1, most, most - 1, least, least + 1}

// notCash are the Who and Cur of no Cash account, each of its own cause, one
// beyond an edge where there is one, or right but for its upper bits.
var notCash = [][2]int{
	{0, 0}, {-1, 0}, {17, 0}, {18, 2}, {1<<32 + 1, 0}, {least, 1}, {most, 2}, {least + 1, 0},
	{1, -1}, {1, 3}, {16, 4}, {1, 1 << 32}, {1, least}, {16, most}, {0, 3}, {17, -1},
}

func isMoney(n int) bool { return n >= -bound && n <= bound }

// exactSum is the sum of the Amounts of those dues that is asks for, without
// an end.
func exactSum(l []api.Due, is func(api.Due) bool) *big.Int {
	sum := new(big.Int)
	for _, d := range l {
		if is(d) {
			sum.Add(sum, big.NewInt(int64(d.Amount)))
		}
	}
	return sum
}

// money says it from the document's words: from -2^62 to 2^62, or ErrBig.
func money(n *big.Int) (int, api.Errno) {
	if n.CmpAbs(big.NewInt(bound)) > 0 {
		return 0, api.ErrBig
	}
	return int(n.Int64()), api.OK
}

// allMoney reports whether each Amount is money.
func allMoney(l []api.Due) bool {
	return !slices.ContainsFunc(l, func(d api.Due) bool { return !isMoney(d.Amount) })
}

// exactGross is the second part of P17.1, word by word.
func exactGross(who, cur int, l []api.Due) (int, api.Errno) {
	if !allMoney(l) {
		return 0, api.ErrArg
	}
	return money(exactSum(l, func(d api.Due) bool { return d.Who == who && d.Cur == cur }))
}

// exactNet is the first part of P17.1, word by word.
func exactNet(l []api.Due) ([]api.Due, api.Errno) {
	if !allMoney(l) {
		return nil, api.ErrArg
	}
	var netted []api.Due
	for at, d := range l {
		same := func(x api.Due) bool { return x.Who == d.Who && x.Cur == d.Cur }
		if slices.ContainsFunc(l[:at], same) {
			continue
		}
		n, e := money(exactSum(l, same))
		if e != api.OK {
			return nil, e
		}
		if n != 0 {
			netted = append(netted, due(d.Who, d.Cur, n))
		}
	}
	slices.SortFunc(netted, func(a, b api.Due) int {
		if a.Who < b.Who || a.Who == b.Who && a.Cur < b.Cur {
			return -1
		}
		return 1
	})
	return netted, api.OK
}

// exactLegs is P17.2, word by word.
func exactLegs(l []api.Due) ([]api.Leg, api.Errno) {
	for _, d := range l {
		if d.Who < 1 || d.Who > 16 || d.Cur < 0 || d.Cur > 2 || !isMoney(d.Amount) {
			return nil, api.ErrArg
		}
	}
	netted, e := exactNet(l)
	if e != api.OK {
		return nil, e
	}
	var all []api.Leg
	for _, d := range netted {
		all = append(all, cashLeg(d.Who, d.Cur, d.Amount))
	}
	for cur := range 3 {
		n, e := money(exactSum(netted, func(d api.Due) bool { return d.Cur == cur }))
		if e != api.OK {
			return nil, e
		}
		if n != 0 {
			all = append(all, varLeg(cur, -n))
		}
	}
	return all, api.OK
}

// few tells the start of a list, for a message.
func few(l []api.Due) []api.Due { return l[:min(len(l), 8)] }

// hold holds the three calls against the chapter's words, and sees that what
// was passed in stays as it was.
func hold(t *testing.T, l ...api.Due) ([]api.Due, []api.Leg, api.Errno, api.Errno) {
	t.Helper()
	before := slices.Clone(l)
	netted, e := Net(l...)
	if want, f := exactNet(l); !slices.Equal(netted, want) || e != f {
		t.Errorf("Net(%v of %d) = %v, %d, not %v, %d", few(l), len(l), netted, e, want, f)
	}
	paid, f := Legs(l...)
	if want, g := exactLegs(l); !slices.Equal(paid, want) || f != g {
		t.Errorf("Legs(%v of %d) = %v, %d, not %v, %d", few(l), len(l), paid, f, want, g)
	}
	for _, d := range slices.Concat(few(l), dues(due(1, 0, 0), due(99, -1, 0))) {
		holdGross(t, d.Who, d.Cur, l...)
	}
	if !slices.Equal(l, before) {
		t.Errorf("%v became %v", few(before), few(l))
	}
	return netted, paid, e, f
}

// holdGross holds Gross against the chapter's words.
func holdGross(t *testing.T, who, cur int, l ...api.Due) (int, api.Errno) {
	t.Helper()
	n, e := Gross(who, cur, l...)
	if want, f := exactGross(who, cur, l); n != want || e != f {
		t.Errorf("Gross(%d, %d, %v of %d) = %d, %d, not %d, %d", who, cur, few(l), len(l), n, e, want, f)
	}
	return n, e
}

// TestNetByHand is P17.1: the document's example, sums of 0, dues in no order,
// and sums at the bound and beyond it.
func TestNetByHand(t *testing.T) {
	for _, x := range []struct {
		l, netted []api.Due
		e         api.Errno
	}{
		{nil, nil, api.OK},
		{dues(), nil, api.OK},
		{dues(due(1, 0, 5), due(2, 0, 3), due(1, 0, -7), due(2, 0, -3)), dues(due(1, 0, -2)), api.OK},
		{dues(due(1, 0, 7)), dues(due(1, 0, 7)), api.OK},
		{dues(due(1, 0, 0)), nil, api.OK},
		{dues(due(1, 0, 0), due(1, 0, 4), due(1, 0, 0)), dues(due(1, 0, 4)), api.OK},
		{dues(due(1, 0, 4), due(1, 1, -4)), dues(due(1, 0, 4), due(1, 1, -4)), api.OK},
		{dues(due(1, 0, 4), due(2, 0, -4)), dues(due(1, 0, 4), due(2, 0, -4)), api.OK},
		{dues(due(10, 0, 1), due(9, 2, 2), due(9, 1, 3), due(2, 0, 4)), dues(due(2, 0, 4), due(9, 1, 3), due(9, 2, 2), due(10, 0, 1)), api.OK},
		{dues(due(1, 2, 1), due(2, 1, 1), due(3, 0, 1)), dues(due(1, 2, 1), due(2, 1, 1), due(3, 0, 1)), api.OK},
		{dues(due(2, 0, 1), due(1, 0, 1), due(2, 0, 1), due(1, 0, 1)), dues(due(1, 0, 2), due(2, 0, 2)), api.OK},
		{dues(due(1, 0, bound-1), due(1, 0, 1)), dues(due(1, 0, bound)), api.OK},
		{dues(due(1, 0, 1-bound), due(1, 0, -1)), dues(due(1, 0, -bound)), api.OK},
		{dues(due(1, 0, bound), due(1, 0, 1)), nil, api.ErrBig},
		{dues(due(1, 0, -bound), due(1, 0, -1)), nil, api.ErrBig},
		{dues(due(1, 0, bound), due(1, 0, 1), due(1, 0, -1)), dues(due(1, 0, bound)), api.OK},
		{dues(due(1, 0, bound), due(1, 0, bound), due(1, 0, bound), due(1, 0, -bound), due(1, 0, -bound)), dues(due(1, 0, bound)), api.OK},
		{dues(due(1, 0, bound), due(2, 0, bound), due(3, 0, bound)), dues(due(1, 0, bound), due(2, 0, bound), due(3, 0, bound)), api.OK},
		{dues(due(1, 0, bound), due(1, 1, bound), due(1, 2, 1)), dues(due(1, 0, bound), due(1, 1, bound), due(1, 2, 1)), api.OK},
		{dues(due(1, 0, 1), due(5, 2, bound), due(5, 2, 1), due(9, 0, 1)), nil, api.ErrBig},
		{dues(due(1, 0, bound+1)), nil, api.ErrArg},
		{dues(due(1, 0, bound+1), due(1, 0, -1)), nil, api.ErrArg},
		{dues(due(1, 0, bound), due(1, 0, 1), due(2, 0, -bound-1)), nil, api.ErrArg},
	} {
		if netted, _, e, _ := hold(t, x.l...); !slices.Equal(netted, x.netted) || e != x.e {
			t.Errorf("Net(%v) = %v, %d, not %v, %d", x.l, netted, e, x.netted, x.e)
		}
	}
	if netted, e := Net(due(1, 0, 5), due(1, 0, -3)); !slices.Equal(netted, dues(due(1, 0, 2))) || e != api.OK {
		t.Errorf("Net of two dues = %v, %d", netted, e)
	}
}

// TestGrossByHand is P17.1: the sum for one Who and Cur alone, whatever the
// others have, and 0 where there is none.
func TestGrossByHand(t *testing.T) {
	l := dues(due(1, 0, 5), due(2, 0, 3), due(1, 0, -7), due(2, 0, -3), due(1, 1, bound), due(1, 1, 1), due(3, 0, bound), due(3, 0, 1), due(3, 0, -1), due(-4, 99, 8), due(4, 2, -bound), due(4, 2, -1))
	for _, x := range []struct {
		who, cur, n int
		e           api.Errno
	}{
		{1, 0, -2, api.OK},
		{2, 0, 0, api.OK},
		{3, 0, bound, api.OK},
		{-4, 99, 8, api.OK},
		{1, 1, 0, api.ErrBig},
		{4, 2, 0, api.ErrBig},
		{2, 1, 0, api.OK},
		{0, 0, 0, api.OK},
		{0, 1, 0, api.OK},
		{1, 99, 0, api.OK},
		{99, -4, 0, api.OK},
		{1 + 1<<32, 0, 0, api.OK},
		{1, 1 << 32, 0, api.OK},
		{least, most, 0, api.OK},
	} {
		if n, e := holdGross(t, x.who, x.cur, l...); n != x.n || e != x.e {
			t.Errorf("Gross(%d, %d) = %d, %d, not %d, %d", x.who, x.cur, n, e, x.n, x.e)
		}
		if n, e := Gross(x.who, x.cur); n != 0 || e != api.OK {
			t.Errorf("Gross(%d, %d) of nothing = %d, %d", x.who, x.cur, n, e)
		}
		if n, e := Gross(x.who, x.cur, append(l, due(7, 7, most))...); n != 0 || e != api.ErrArg {
			t.Errorf("Gross(%d, %d) with what is no money = %d, %d", x.who, x.cur, n, e)
		}
	}
	if n, e := Gross(1, 0, due(1, 0, 5), due(1, 0, -3)); n != 2 || e != api.OK {
		t.Errorf("Gross of two dues = %d, %d", n, e)
	}
}

// TestLegsByHand is P17.2: legs of Cash and of Var, without those of 0, and
// sums at the bound and beyond it.
func TestLegsByHand(t *testing.T) {
	for _, x := range []struct {
		l    []api.Due
		paid []api.Leg
		e    api.Errno
	}{
		{nil, nil, api.OK},
		{dues(due(1, 0, 5)), legs(cashLeg(1, 0, 5), varLeg(0, -5)), api.OK},
		{dues(due(16, 2, -5)), legs(cashLeg(16, 2, -5), varLeg(2, 5)), api.OK},
		{dues(due(1, 0, 0)), nil, api.OK},
		{dues(due(1, 0, 5), due(1, 0, -5)), nil, api.OK},
		{dues(due(1, 0, 5), due(2, 0, 3), due(1, 0, -7), due(2, 0, -3)), legs(cashLeg(1, 0, -2), varLeg(0, 2)), api.OK},
		{dues(due(1, 0, 5), due(2, 0, -5)), legs(cashLeg(1, 0, 5), cashLeg(2, 0, -5)), api.OK},
		{dues(due(1, 0, 5), due(2, 1, -5)), legs(cashLeg(1, 0, 5), cashLeg(2, 1, -5), varLeg(0, -5), varLeg(1, 5)), api.OK},
		{dues(due(1, 0, 5), due(2, 0, 4)), legs(cashLeg(1, 0, 5), cashLeg(2, 0, 4), varLeg(0, -9)), api.OK},
		{dues(due(1, 2, 5), due(1, 1, 4), due(1, 0, -3)), legs(cashLeg(1, 0, -3), cashLeg(1, 1, 4), cashLeg(1, 2, 5), varLeg(0, 3), varLeg(1, -4), varLeg(2, -5)), api.OK},
		{dues(due(2, 1, 3), due(1, 0, 5), due(1, 0, 2), due(2, 0, -7), due(3, 2, 1), due(3, 2, -1)), legs(cashLeg(1, 0, 7), cashLeg(2, 0, -7), cashLeg(2, 1, 3), varLeg(1, -3)), api.OK},
		{dues(due(10, 0, 1), due(9, 0, 1), due(2, 1, -6)), legs(cashLeg(2, 1, -6), cashLeg(9, 0, 1), cashLeg(10, 0, 1), varLeg(0, -2), varLeg(1, 6)), api.OK},
		{dues(due(1, 0, bound)), legs(cashLeg(1, 0, bound), varLeg(0, -bound)), api.OK},
		{dues(due(1, 0, -bound)), legs(cashLeg(1, 0, -bound), varLeg(0, bound)), api.OK},
		{dues(due(1, 0, bound), due(2, 0, 1)), nil, api.ErrBig},
		{dues(due(1, 2, -bound), due(2, 2, -1)), nil, api.ErrBig},
		{dues(due(1, 0, bound), due(2, 1, 1), due(3, 2, bound)), legs(cashLeg(1, 0, bound), cashLeg(2, 1, 1), cashLeg(3, 2, bound), varLeg(0, -bound), varLeg(1, -1), varLeg(2, -bound)), api.OK},
		{dues(due(1, 0, bound), due(2, 0, 1), due(3, 0, -1)), legs(cashLeg(1, 0, bound), cashLeg(2, 0, 1), cashLeg(3, 0, -1), varLeg(0, -bound)), api.OK},
		{dues(due(1, 0, bound), due(2, 0, bound), due(3, 0, bound), due(4, 0, -bound), due(5, 0, -bound), due(6, 0, -bound)), legs(cashLeg(1, 0, bound), cashLeg(2, 0, bound), cashLeg(3, 0, bound), cashLeg(4, 0, -bound), cashLeg(5, 0, -bound), cashLeg(6, 0, -bound)), api.OK},
		// 2^64 is 0 for one who computes with 64 bits.
		{dues(due(1, 0, bound), due(2, 0, bound), due(3, 0, bound), due(4, 0, bound)), nil, api.ErrBig},
		{dues(due(1, 0, bound), due(1, 0, 1)), nil, api.ErrBig},
		{dues(due(1, 0, bound), due(1, 0, 1), due(2, 0, -5)), nil, api.ErrBig},
		{dues(due(0, 0, 5)), nil, api.ErrArg},
		{dues(due(17, 0, 5)), nil, api.ErrArg},
		{dues(due(1, 3, 5)), nil, api.ErrArg},
		{dues(due(1, -1, 5)), nil, api.ErrArg},
		{dues(due(1, 0, bound+1)), nil, api.ErrArg},
		{dues(due(1, 0, -bound-1)), nil, api.ErrArg},
	} {
		if _, paid, _, e := hold(t, x.l...); !slices.Equal(paid, x.paid) || e != x.e {
			t.Errorf("Legs(%v) = %v, %d, not %v, %d", x.l, paid, e, x.paid, x.e)
		}
	}
	if paid, e := Legs(due(1, 0, 5), due(1, 0, -3)); !slices.Equal(paid, legs(cashLeg(1, 0, 2), varLeg(0, -2))) || e != api.OK {
		t.Errorf("Legs of two dues = %v, %d", paid, e)
	}
}

// TestAnyNumbers is P17.1: a Who and a Cur can be any numbers, each pair is one
// of its own, and they rise also over the whole of int.
func TestAnyNumbers(t *testing.T) {
	var falling []api.Due
	rising := slices.Sorted(slices.Values(numbers))
	for _, who := range rising {
		for _, cur := range rising {
			falling = append(falling, due(who, cur, 1+len(falling)))
		}
	}
	want := slices.Clone(falling)
	slices.Reverse(falling)
	if netted, _, e, _ := hold(t, falling...); !slices.Equal(netted, want) || e != api.OK {
		t.Errorf("Net of all pairs = %v, %d", netted, e)
	}
	for at, d := range want {
		if n, e := holdGross(t, d.Who, d.Cur, falling...); n != at+1 || e != api.OK {
			t.Errorf("Gross(%d, %d) = %d, %d", d.Who, d.Cur, n, e)
		}
		without := append(slices.Clone(falling), due(d.Who, d.Cur, -d.Amount))
		if netted, e := Net(without...); !slices.Equal(netted, slices.Delete(slices.Clone(want), at, at+1)) || e != api.OK {
			t.Errorf("Net without %v = %v, %d", d, netted, e)
		}
	}
	for _, a := range want {
		for _, b := range want {
			hold(t, due(a.Who, a.Cur, 5), due(b.Who, b.Cur, -5))
		}
	}
}

// TestArg is P17.1 and P17.2: an Amount that is not money, wherever it stands,
// whosever it is, and also where another one would bring the sum back; it goes
// before a sum that is too great.
func TestArg(t *testing.T) {
	right := dues(due(1, 0, 5), due(2, 2, bound), due(1, 0, -5), due(3, 1, -bound), due(16, 2, 0))
	big := dues(due(1, 0, bound), due(1, 0, bound), due(1, 0, bound), due(1, 0, bound), due(2, 0, 1))
	if _, _, e, f := hold(t, right...); e != api.OK || f != api.OK {
		t.Fatalf("with nothing wrong: %d, %d", e, f)
	}
	for _, n := range notMoney {
		for _, l := range [][]api.Due{right, big, right[:1], nil} {
			for at := 0; at <= len(l); at++ {
				for _, whose := range [][2]int{{1, 0}, {2, 2}, {9, 1}, {0, 0}, {17, 3}, {least, most}} {
					wrong := slices.Insert(slices.Clone(l), at, due(whose[0], whose[1], n))
					if _, _, e, f := hold(t, wrong...); e != api.ErrArg || f != api.ErrArg {
						t.Errorf("%v: %d, %d", wrong, e, f)
					}
					back := append(wrong, due(whose[0], whose[1], -n))
					if _, _, e, f := hold(t, back...); e != api.ErrArg || f != api.ErrArg {
						t.Errorf("%v: %d, %d", back, e, f)
					}
				}
			}
		}
	}
	for _, n := range []int{bound, -bound, bound - 1, 1 - bound, 0} {
		if _, _, e, f := hold(t, due(1, 0, n)); e != api.OK || f != api.OK {
			t.Errorf("%d: %d, %d", n, e, f)
		}
	}
}

// TestNoAccount is P17.2: a Who and Cur of no Cash account, wherever they
// stand, and also of a due that nets to nothing; Net and Gross take them.
func TestNoAccount(t *testing.T) {
	right := dues(due(1, 0, 5), due(2, 2, bound), due(1, 0, -5), due(3, 1, -bound))
	for _, whose := range notCash {
		for _, n := range []int{5, -5, 0, bound} {
			bad := due(whose[0], whose[1], n)
			for at := 0; at <= len(right); at++ {
				l := slices.Insert(slices.Clone(right), at, bad)
				for _, l := range [][]api.Due{l, append(l, due(whose[0], whose[1], -n)), {bad}} {
					if _, paid, e, f := hold(t, l...); len(paid) != 0 || e != api.OK || f != api.ErrArg {
						t.Errorf("%v: %v, %d, %d", l, paid, e, f)
					}
				}
			}
		}
	}
	for who := range 19 {
		for cur := -1; cur <= 3; cur++ {
			want := api.OK
			if who < 1 || who > 16 || cur < 0 || cur > 2 {
				want = api.ErrArg
			}
			if _, _, e, f := hold(t, due(who, cur, 1)); e != api.OK || f != want {
				t.Errorf("of %d in %d: %d, %d", who, cur, e, f)
			}
		}
	}
}

// TestErrorsInOrder is P17.2: what is no account goes before a sum that is too
// great, of a due and of a Var account; and a sum of a due that is too great
// is Net's error, also where the one for the Var account is not.
func TestErrorsInOrder(t *testing.T) {
	tooMuch := dues(due(1, 1, bound), due(1, 1, 1))
	varOnly := dues(due(1, 1, bound), due(2, 1, 1))
	evened := dues(due(1, 1, bound), due(1, 1, 1), due(2, 1, -2))
	for _, x := range []struct {
		l    []api.Due
		e, f api.Errno
	}{{tooMuch, api.ErrBig, api.ErrBig}, {varOnly, api.OK, api.ErrBig}, {evened, api.ErrBig, api.ErrBig}} {
		if _, _, e, f := hold(t, x.l...); e != x.e || f != x.f {
			t.Errorf("%v: %d, %d", x.l, e, f)
		}
		for _, whose := range notCash {
			bad := due(whose[0], whose[1], 0)
			for at := 0; at <= len(x.l); at++ {
				l := slices.Insert(slices.Clone(x.l), at, bad)
				if _, _, e, f := hold(t, l...); e != x.e || f != api.ErrArg {
					t.Errorf("%v: %d, %d", l, e, f)
				}
			}
		}
	}
}

// TestEachPlaceTooGreat is P17.1 and P17.2: one sum at the bound and one beyond
// it among those of all members and currencies, whichever it is.
func TestEachPlaceTooGreat(t *testing.T) {
	all := everyDue()
	for _, d := range all {
		for _, n := range []int{bound, -bound} {
			l := append(slices.Clone(all), due(d.Who, d.Cur, -d.Amount), due(d.Who, d.Cur, n))
			if netted, _, e, _ := hold(t, l...); !slices.Contains(netted, due(d.Who, d.Cur, n)) || e != api.OK {
				t.Errorf("%v brought to %d: %d", d, n, e)
			}
			l = append(l, due(d.Who, d.Cur, n/bound))
			if netted, paid, e, f := hold(t, l...); len(netted)+len(paid) != 0 || e != api.ErrBig || f != api.ErrBig {
				t.Errorf("%v brought beyond %d: %d, %d", d, n, e, f)
			}
		}
	}
}

// everyDue is one due for each Cash account, in no order.
func everyDue() []api.Due {
	var all []api.Due
	for who := api.MaxMembers; who >= 1; who-- {
		for cur := range api.MaxCurs {
			all = append(all, due(who, cur, who*10+cur))
		}
	}
	return all
}

// TestEveryAccount is P17.2 and P17.3: of all members in all currencies there
// are 51 legs, which may be posted.
func TestEveryAccount(t *testing.T) {
	_, paid, _, e := hold(t, append(everyDue(), everyDue()...)...)
	if len(paid) != 51 || e != api.OK || entry.Check(paid...) != api.OK {
		t.Fatalf("%d legs, %d, %d", len(paid), e, entry.Check(paid...))
	}
	for at, l := range paid[:48] {
		who, cur := at/3+1, at%3
		if l != cashLeg(who, cur, 2*(who*10+cur)) {
			t.Errorf("leg %d is %v", at, l)
		}
	}
	for cur, l := range paid[48:] {
		if l != varLeg(cur, -2*(1360+16*cur)) {
			t.Errorf("leg of Var is %v", l)
		}
	}
}

// TestGreatSums is P17.1, P17.2 and R5: sums beyond money and beyond int on the
// way do no harm, and one that is 0 but for its upper bits is too great.
func TestGreatSums(t *testing.T) {
	for _, n := range []int{1, 2, 3, 4, 5, 8, 1 << 10, 1 << 15} {
		up, down := slices.Repeat(dues(due(4, 1, bound)), n), slices.Repeat(dues(due(4, 1, -bound)), n)
		for _, l := range [][]api.Due{slices.Concat(up, down), slices.Concat(down, up)} {
			if netted, paid, e, f := hold(t, l...); len(netted)+len(paid) != 0 || e+f != api.OK {
				t.Errorf("%d times the bound, up and down: %v, %v, %d, %d", n, netted, paid, e, f)
			}
		}
		for _, l := range [][]api.Due{slices.Concat(up, down[1:]), slices.Concat(down[1:], up)} {
			if netted, paid, e, f := hold(t, l...); !slices.Equal(netted, up[:1]) || !slices.Equal(paid, legs(cashLeg(4, 1, bound), varLeg(1, -bound))) || e+f != api.OK {
				t.Errorf("%d times the bound, and down but 1: %v, %v, %d, %d", n, netted, paid, e, f)
			}
		}
		for _, l := range [][]api.Due{append(up, up[0]), append(down, down[0]), append(up, due(4, 1, 1)), append(down, due(4, 1, -1))} {
			if netted, paid, e, f := hold(t, l...); len(netted)+len(paid) != 0 || e != api.ErrBig || f != api.ErrBig {
				t.Errorf("%d dues of %d: %v, %v, %d, %d", len(l), l[0].Amount, netted, paid, e, f)
			}
			if m, e := Gross(4, 1, l...); m != 0 || e != api.ErrBig {
				t.Errorf("Gross of %d dues of %d = %d, %d", len(l), l[0].Amount, m, e)
			}
		}
	}
}

// TestMany is P17.1 and R1: as many dues as one likes, of few and of many.
func TestMany(t *testing.T) {
	const count = 1 << 18
	each, same := make([]api.Due, count), make([]api.Due, count)
	for i := range count {
		each[i] = due(count/2-i, i%7, i+1)
		same[i] = due(3, 1, bound-i)
	}
	netted, e := Net(each...)
	if len(netted) != count || e != api.OK {
		t.Fatalf("Net of %d dues: %d dues, %d", count, len(netted), e)
	}
	for i, d := range netted {
		if d != each[count-1-i] {
			t.Fatalf("due %d is %v", i, d)
		}
	}
	for _, d := range slices.Clone(same) {
		same = append(same, due(3, 1, -d.Amount))
	}
	same = append(same, due(3, 1, -9))
	if netted, e := Net(same...); !slices.Equal(netted, dues(due(3, 1, -9))) || e != api.OK {
		t.Errorf("Net of %d dues = %v, %d", len(same), netted, e)
	}
	if n, e := Gross(3, 1, same...); n != -9 || e != api.OK {
		t.Errorf("Gross of %d dues = %d, %d", len(same), n, e)
	}
	if paid, e := Legs(same...); !slices.Equal(paid, legs(cashLeg(3, 1, -9), varLeg(1, 9))) || e != api.OK {
		t.Errorf("Legs of %d dues = %v, %d", len(same), paid, e)
	}
}

// TestPairs is P17.1 and P17.2: all pairs of some dues at the edges.
func TestPairs(t *testing.T) {
	var l []api.Due
	for _, whose := range [][2]int{{1, 0}, {1, 2}, {16, 0}, {16, 2}, {17, 0}, {-1, -1}} {
		for _, n := range slices.Concat(amounts, notMoney) {
			l = append(l, due(whose[0], whose[1], n))
		}
	}
	for _, a := range l {
		hold(t, a)
		for _, b := range l {
			hold(t, a, b)
		}
	}
}

// some makes up to n dues, mostly of few Cash accounts, many of them with the
// Amount of another one negated, and now and then one that may not be.
func some(g *rand.Rand, n int) []api.Due {
	l := make([]api.Due, g.IntN(n+1))
	whos := 1 + g.IntN(api.MaxMembers)
	for i := range l {
		l[i] = due(1+g.IntN(whos), g.IntN(api.MaxCurs), amounts[g.IntN(len(amounts))])
		if i > 0 && g.IntN(2) == 0 {
			l[i].Amount = -l[g.IntN(i)].Amount
		}
		switch g.IntN(200) {
		case 0:
			l[i].Amount = notMoney[g.IntN(len(notMoney))]
		case 1:
			l[i].Who, l[i].Cur = numbers[g.IntN(len(numbers))], numbers[g.IntN(len(numbers))]
		}
	}
	return l
}

// TestRandom is P17.1 and P17.2: many lists, held against the words. Each
// answer comes often.
func TestRandom(t *testing.T) {
	g := rand.New(rand.NewPCG(17, 1))
	seen, seenLegs, varBig, noAcct, none := map[api.Errno]int{}, map[api.Errno]int{}, 0, 0, 0
	for k := range 20000 {
		l := some(g, 1+k%40)
		netted, _, e, f := hold(t, l...)
		seen[e]++
		seenLegs[f]++
		switch {
		case e == api.OK && f == api.ErrBig:
			varBig++
		case e == api.OK && f == api.ErrArg:
			noAcct++
		case e == api.OK && len(l) > 0 && len(netted) == 0:
			none++
		}
	}
	for _, e := range []api.Errno{api.OK, api.ErrArg, api.ErrBig} {
		if seen[e] < 500 || seenLegs[e] < 500 {
			t.Errorf("the answers were %v, %v", seen, seenLegs)
		}
	}
	if varBig < 500 || noAcct < 200 || none < 200 {
		t.Errorf("the answers were %d, %d, %d", varBig, noAcct, none)
	}
}

// TestInAnyOrder is P17.1 and P17.2: the order of the dues changes no answer.
func TestInAnyOrder(t *testing.T) {
	g := rand.New(rand.NewPCG(17, 2))
	for range 1000 {
		l := some(g, 20)
		netted, paid, e, f := hold(t, l...)
		for range 4 {
			g.Shuffle(len(l), func(i, k int) { l[i], l[k] = l[k], l[i] })
			if again, paidAgain, g, h := hold(t, l...); !slices.Equal(again, netted) || !slices.Equal(paidAgain, paid) || e != g || f != h {
				t.Errorf("%v in another order: %v, %v, %d, %d, not %v, %v, %d, %d", l, again, paidAgain, g, h, netted, paid, e, f)
			}
		}
	}
}

// TestNetAgain is P17.3: netting the result of Net changes nothing, and its
// dues are the Gross of each Who and Cur.
func TestNetAgain(t *testing.T) {
	g := rand.New(rand.NewPCG(17, 3))
	done := 0
	for range 5000 {
		l := some(g, 30)
		netted, e := Net(l...)
		if e != api.OK {
			continue
		}
		if again, e := Net(netted...); !slices.Equal(again, netted) || e != api.OK {
			t.Errorf("Net(%v) = %v, %d", netted, again, e)
		}
		for _, d := range l {
			n, e := Gross(d.Who, d.Cur, l...)
			m, f := Gross(d.Who, d.Cur, netted...)
			if n != m || e != api.OK || f != api.OK || n != 0 && !slices.Contains(netted, due(d.Who, d.Cur, n)) {
				t.Errorf("Gross(%d, %d) = %d, and netted %d, of %v", d.Who, d.Cur, n, m, netted)
			}
		}
		done++
	}
	if done < 1000 {
		t.Errorf("only %d lists were netted", done)
	}
}

// TestNetParts is P17.3: netting parts, and then the results together, gives
// the same as netting everything at once, for dues and for legs.
func TestNetParts(t *testing.T) {
	g := rand.New(rand.NewPCG(17, 4))
	done := 0
	for range 10000 {
		l := some(g, 30)
		a := g.IntN(len(l) + 1)
		b := a + g.IntN(len(l)-a+1)
		var parts []api.Due
		whole := true
		for _, part := range [][]api.Due{l[:a], l[a:b], l[b:]} {
			netted, e := Net(part...)
			whole = whole && e == api.OK
			parts = append(parts, netted...)
		}
		if !whole {
			continue
		}
		once, e := Net(l...)
		twice, f := Net(parts...)
		if !slices.Equal(once, twice) || e != f {
			t.Errorf("Net(%v) = %v, %d, and by parts %v, %d", l, once, e, twice, f)
		}
		paid, e := Legs(l...)
		paidTwice, f := Legs(parts...)
		if e != api.ErrArg && (!slices.Equal(paid, paidTwice) || e != f) {
			t.Errorf("Legs(%v) = %v, %d, and by parts %v, %d", l, paid, e, paidTwice, f)
		}
		done++
	}
	if done < 2000 {
		t.Errorf("only %d lists had parts", done)
	}
}

// TestMayBePosted is P17.3: the legs may be posted, and bring each member what
// the dues tell.
func TestMayBePosted(t *testing.T) {
	g := rand.New(rand.NewPCG(17, 5))
	posted, none := 0, 0
	for range 10000 {
		l := some(g, 30)
		paid, e := Legs(l...)
		if e != api.OK {
			continue
		}
		if len(paid) == 0 {
			none++
			continue
		}
		books, e := ledger.Post(api.Ledger{}, 1, paid...)
		if entry.Check(paid...) != api.OK || e != api.OK {
			t.Errorf("Post of %v, for %v: %d", paid, l, e)
		}
		for who := 1; who <= api.MaxMembers; who++ {
			for cur := range api.MaxCurs {
				n, _ := Gross(who, cur, l...)
				if m := ledger.Of(books, api.Acct{Kind: api.Cash, Who: who, Cur: cur}); m != n {
					t.Errorf("%d has %d in %d, not %d, by %v", who, m, cur, n, paid)
				}
			}
		}
		posted++
	}
	if posted < 1000 || none < 100 {
		t.Errorf("%d were posted, %d had no legs", posted, none)
	}
}

// TestArgumentsStay is R2: neither a list nor what lies behind its end is
// changed, and what lies there does not count.
func TestArgumentsStay(t *testing.T) {
	row := dues(due(2, 0, 4), due(1, 0, -6), due(2, 0, 2), due(1, 0, 99), due(17, 3, bound+1))
	before := slices.Clone(row)
	netted, paid, e, f := hold(t, row[:3]...)
	if !slices.Equal(netted, dues(due(1, 0, -6), due(2, 0, 6))) || !slices.Equal(paid, legs(cashLeg(1, 0, -6), cashLeg(2, 0, 6))) || e+f != api.OK {
		t.Errorf("%v, %v, %d, %d", netted, paid, e, f)
	}
	hold(t, row[:0]...)
	hold(t, row...)
	if n, e := holdGross(t, 1, 0, row[:3]...); n != -6 || e != api.OK {
		t.Errorf("Gross = %d, %d", n, e)
	}
	if !slices.Equal(row, before) {
		t.Errorf("the arguments became %v", row)
	}
}

// spoil writes into a list, and behind its end, where it sees that nothing was.
func spoil[T comparable](t *testing.T, l []T, with T) {
	t.Helper()
	var zero T
	for _, x := range l[len(l):cap(l)] {
		if x != zero {
			t.Errorf("behind the end there is %v", x)
		}
	}
	l = l[:cap(l)]
	for i := range l {
		l[i] = with
	}
}

// TestResultsAreNew is R2 and R3: what is written into a result, and into the
// memory behind it, is seen in no argument and in no other result.
func TestResultsAreNew(t *testing.T) {
	for _, right := range [][]api.Due{
		dues(due(1, 0, 5)),
		dues(due(1, 0, 5), due(2, 0, -5)),
		dues(due(1, 0, 5), due(1, 1, 2), due(3, 2, 3)),
		dues(due(3, 2, 5), due(1, 1, 2), due(3, 2, 3), due(1, 1, -2), due(2, 0, 7)),
	} {
		l := append(make([]api.Due, 0, 20), right...)
		first, paid, _, _ := hold(t, l...)
		second, paidSecond, _, _ := hold(t, l...)
		want, wantPaid := slices.Clone(second), slices.Clone(paidSecond)
		spoil(t, first, due(9, 9, 9))
		spoil(t, paid, varLeg(9, 9))
		third, paidThird, _, _ := hold(t, l...)
		if !slices.Equal(second, want) || !slices.Equal(third, want) || !slices.Equal(l, right) {
			t.Errorf("after a write into a result: %v, %v, not %v; the argument became %v", second, third, want, l)
		}
		if !slices.Equal(paidSecond, wantPaid) || !slices.Equal(paidThird, wantPaid) {
			t.Errorf("after a write into a result: %v, %v, not %v", paidSecond, paidThird, wantPaid)
		}
		spoil(t, l, due(8, 8, 8))
		if !slices.Equal(second, want) || !slices.Equal(paidSecond, wantPaid) {
			t.Errorf("after a write into an argument: %v, %v", second, paidSecond)
		}
	}
}

// TestNothingIsKept is R3: a call answers the same whatever was asked between.
func TestNothingIsKept(t *testing.T) {
	l := dues(due(1, 0, 5), due(2, 0, 3), due(1, 0, -7))
	netted, paid, _, _ := hold(t, l...)
	hold(t, due(1, 0, bound), due(1, 0, 1))
	hold(t, due(1, 0, 99), due(2, 0, 99), due(1, 1, most))
	l[0].Amount = 6
	if changed, _, e, f := hold(t, l...); slices.Equal(changed, netted) || e+f != api.OK {
		t.Errorf("%v for other dues too", changed)
	}
	l[0].Amount = 5
	if again, paidAgain, _, _ := hold(t, l...); !slices.Equal(again, netted) || !slices.Equal(paidAgain, paid) {
		t.Errorf("%v, %v, and before %v, %v", again, paidAgain, netted, paid)
	}
}
