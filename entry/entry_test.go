package entry

import (
	"math"
	"math/big"
	"math/rand/v2"
	"slices"
	"testing"

	"cambist/api"
)

const (
	bound = api.Bound
	least = math.MinInt
	most  = math.MaxInt
)

// of tells a leg by its account's three parts and its amount.
func of(kind, who, cur, amount int) api.Leg {
	return api.Leg{Acct: api.Acct{Kind: kind, Who: who, Cur: cur}, Amount: amount}
}

// legs tells a list of legs.
func legs(l ...api.Leg) []api.Leg { return l }

// notAccts are not accounts, each of its own cause, one beyond an edge where
// there is one, or an account but for the upper bits of a number.
var notAccts = []api.Acct{
	{}, {Kind: 0, Who: 1}, {Kind: -1}, {Kind: 7}, {Kind: 7, Who: 1}, {Kind: 1<<32 + 1}, {Kind: least}, {Kind: most},
	{Kind: api.Bank, Who: 1}, {Kind: api.Bank, Who: -1}, {Kind: api.Skin, Who: 1}, {Kind: api.Var, Who: 16}, {Kind: api.Loss, Who: 1 << 32},
	{Kind: api.Cash}, {Kind: api.Cash, Who: -1}, {Kind: api.Cash, Who: 17}, {Kind: api.Fund}, {Kind: api.Fund, Who: 17}, {Kind: api.Fund, Who: 1<<32 + 1},
	{Kind: api.Bank, Cur: 3}, {Kind: api.Bank, Cur: -1}, {Kind: api.Cash, Who: 1, Cur: 3}, {Kind: api.Fund, Who: 1, Cur: -1}, {Kind: api.Loss, Cur: least}, {Kind: api.Skin, Cur: most},
}

// notMoney are the numbers one beyond the bound and the ends of int.
var notMoney = []int{bound + 1, -bound - 1, most, least}

// amounts are money at which an answer may change.
var amounts = []int{0, 1, -1, 2, 5, -7, 1 << 31, -1 << 32, bound / 2, -bound / 2, bound/2 + 1, bound - 1, 1 - bound, bound, -bound}

// notLegs are legs that may not be: of what is no account, and of what is no
// money. No other cause is found in them.
func notLegs() []api.Leg {
	var l []api.Leg
	for _, a := range notAccts {
		l = append(l, api.Leg{Acct: a}, api.Leg{Acct: a, Amount: 5})
	}
	for _, n := range notMoney {
		l = append(l, of(api.Bank, 0, 0, n), of(api.Cash, 16, 2, n), of(api.Skin, 0, 1, n))
	}
	return l
}

// accts are all accounts, rising, by the document's words.
func accts() []api.Acct {
	var l []api.Acct
	for kind := api.Bank; kind <= api.Loss; kind++ {
		first, last := 0, 0
		if kind == api.Cash || kind == api.Fund {
			first, last = 1, 16
		}
		for who := first; who <= last; who++ {
			for cur := 0; cur <= 2; cur++ {
				l = append(l, api.Acct{Kind: kind, Who: who, Cur: cur})
			}
		}
	}
	return l
}

func isMoney(n int) bool { return n >= -bound && n <= bound }

// exactSum is the sum of the amounts of the legs that is asks for, without an
// end.
func exactSum(l []api.Leg, is func(api.Leg) bool) *big.Int {
	sum := new(big.Int)
	for _, x := range l {
		if is(x) {
			sum.Add(sum, big.NewInt(int64(x.Amount)))
		}
	}
	return sum
}

// allLegs reports whether each leg may be, by the document's words.
func allLegs(l []api.Leg) bool {
	all := accts()
	return !slices.ContainsFunc(l, func(x api.Leg) bool { return !slices.Contains(all, x.Acct) || !isMoney(x.Amount) })
}

// exactCheck is P9.1, word by word.
func exactCheck(l []api.Leg) api.Errno {
	if len(l) == 0 {
		return api.ErrZero
	}
	if len(l) > 64 {
		return api.ErrLong
	}
	if !allLegs(l) {
		return api.ErrArg
	}
	for cur := range 3 {
		if exactSum(l, func(x api.Leg) bool { return x.Cur == cur }).Sign() != 0 {
			return api.ErrSum
		}
	}
	return api.OK
}

// exactJoin is P9.2, word by word.
func exactJoin(l []api.Leg) ([]api.Leg, api.Errno) {
	if !allLegs(l) {
		return nil, api.ErrArg
	}
	var joined []api.Leg
	for _, a := range accts() {
		sum := exactSum(l, func(x api.Leg) bool { return x.Acct == a })
		if sum.CmpAbs(big.NewInt(bound)) > 0 {
			return nil, api.ErrBig
		}
		if sum.Sign() != 0 {
			joined = append(joined, api.Leg{Acct: a, Amount: int(sum.Int64())})
		}
	}
	return joined, api.OK
}

// few tells the start of a list, for a message.
func few(l []api.Leg) []api.Leg { return l[:min(len(l), 8)] }

// check holds Check and Join against the document's words.
func check(t *testing.T, l ...api.Leg) {
	t.Helper()
	if e, f := Check(l...), exactCheck(l); e != f {
		t.Errorf("Check(%v of %d) = %d, not %d", few(l), len(l), e, f)
	}
	joined, e := Join(l...)
	if want, f := exactJoin(l); !slices.Equal(joined, want) || e != f {
		t.Errorf("Join(%v of %d) = %v, %d, not %v, %d", few(l), len(l), few(joined), e, few(want), f)
	}
}

// pairs are n legs that may be posted, in pairs.
func pairs(n int) []api.Leg {
	return slices.Repeat(legs(of(api.Bank, 0, 0, -5), of(api.Cash, 1, 0, 5)), n/2)
}

// TestCheckByHand is P9.1: what may be posted, and each error.
func TestCheckByHand(t *testing.T) {
	for _, x := range []struct {
		l []api.Leg
		e api.Errno
	}{
		{nil, api.ErrZero},
		{legs(), api.ErrZero},
		{legs(of(api.Bank, 0, 0, -5), of(api.Cash, 1, 0, 5)), api.OK},
		{legs(of(api.Cash, 1, 0, 5), of(api.Bank, 0, 0, -5)), api.OK},
		{legs(of(api.Loss, 0, 2, 0)), api.OK},
		{legs(of(api.Cash, 1, 0, 5), of(api.Cash, 1, 0, -5)), api.OK},
		{legs(of(api.Cash, 1, 0, 5), of(api.Cash, 2, 0, 6), of(api.Var, 0, 0, -11)), api.OK},
		{legs(of(api.Fund, 16, 1, -9), of(api.Loss, 0, 1, 9), of(api.Skin, 0, 2, 4), of(api.Loss, 0, 2, -4)), api.OK},
		{legs(of(api.Bank, 0, 0, -5)), api.ErrSum},
		{legs(of(api.Bank, 0, 0, 1)), api.ErrSum},
		{legs(of(api.Bank, 0, 0, -5), of(api.Cash, 1, 0, 4)), api.ErrSum},
		{legs(of(api.Bank, 0, 0, 5), of(api.Cash, 1, 0, 5)), api.ErrSum},
		{legs(of(api.Bank, 0, 0, -5), of(api.Cash, 0, 0, 5)), api.ErrArg},
		{legs(of(api.Bank, 0, 0, -bound-1), of(api.Cash, 1, 0, bound+1)), api.ErrArg},
		{legs(api.Leg{}), api.ErrArg},
		{pairs(62), api.OK},
		{pairs(64), api.OK},
		{pairs(64)[1:], api.ErrSum},
		{append(pairs(64), of(api.Loss, 0, 0, 0)), api.ErrLong},
		{pairs(66), api.ErrLong},
		{pairs(1 << 16), api.ErrLong},
	} {
		if e := Check(x.l...); e != x.e {
			t.Errorf("Check(%v of %d) = %d, not %d", few(x.l), len(x.l), e, x.e)
		}
	}
	if e := Check(of(api.Bank, 0, 0, -5), of(api.Cash, 1, 0, 5)); e != api.OK {
		t.Errorf("Check of two legs = %d", e)
	}
}

// TestCheckEachCurrency is P9.1: what adds up to 0 in all must do so in each
// currency, whichever it is.
func TestCheckEachCurrency(t *testing.T) {
	for a := range 3 {
		for b := range 3 {
			e := api.ErrSum
			if a == b {
				e = api.OK
			}
			if f := Check(of(api.Bank, 0, a, -5), of(api.Bank, 0, b, 5)); f != e {
				t.Errorf("Check(5 from currency %d to %d) = %d", a, b, f)
			}
		}
		l := legs(of(api.Bank, 0, 0, -5), of(api.Var, 0, 0, 5), of(api.Bank, 0, 1, -6), of(api.Var, 0, 1, 6), of(api.Bank, 0, 2, -7), of(api.Var, 0, 2, 7))
		if e := Check(l...); e != api.OK {
			t.Errorf("Check(%v) = %d", l, e)
		}
		l[2*a].Amount++
		if e := Check(l...); e != api.ErrSum {
			t.Errorf("Check(%v) = %d", l, e)
		}
	}
}

// TestCheckErrorsInOrder is P9.1: ErrLong goes before ErrArg, and ErrArg
// before ErrSum, wherever the leg stands that may not be.
func TestCheckErrorsInOrder(t *testing.T) {
	for _, bad := range notLegs() {
		if e := Check(bad); e != api.ErrArg {
			t.Errorf("Check(%v) = %d", bad, e)
		}
		for at := range 64 {
			l := pairs(64)
			l[at] = bad
			if e := Check(l...); e != api.ErrArg {
				t.Errorf("Check with %v at %d = %d", bad, at, e)
			}
			if e := Check(append(l, bad)...); e != api.ErrLong {
				t.Errorf("Check of 65 legs with %v at %d = %d", bad, at, e)
			}
		}
		if e := Check(of(api.Bank, 0, 0, 1), bad); e != api.ErrArg {
			t.Errorf("Check(.., %v) = %d", bad, e)
		}
		turned := api.Leg{Acct: bad.Acct, Amount: -bad.Amount}
		if e := Check(bad, turned); e != api.ErrArg {
			t.Errorf("Check(%v, %v) = %d", bad, turned, e)
		}
	}
}

// TestCheckGreatSums is P9.1 and R5: sums beyond money and beyond int on the
// way do no harm, and a sum that is 0 but for its upper bits is not 0.
func TestCheckGreatSums(t *testing.T) {
	for n := 1; n <= 32; n++ {
		up := slices.Repeat(legs(of(api.Bank, 0, 1, bound)), n)
		down := slices.Repeat(legs(of(api.Cash, 3, 1, -bound)), n)
		for _, l := range [][]api.Leg{slices.Concat(up, down), slices.Concat(down, up)} {
			if e := Check(l...); e != api.OK {
				t.Errorf("Check of %d times the bound, up and down = %d", n, e)
			}
		}
		for _, l := range [][]api.Leg{up, down, slices.Concat(up, up), slices.Concat(down, down), slices.Concat(up, down[1:])} {
			if e := Check(l...); e != api.ErrSum {
				t.Errorf("Check(%v of %d) = %d", few(l), len(l), e)
			}
		}
	}
	// 2^64 and -2^64, of unlike amounts.
	l := legs(of(api.Bank, 0, 0, bound), of(api.Bank, 0, 0, bound), of(api.Bank, 0, 0, bound), of(api.Bank, 0, 0, bound-1), of(api.Bank, 0, 0, 1))
	if e := Check(l...); e != api.ErrSum {
		t.Errorf("Check(%v) = %d", l, e)
	}
	if e := Check(Turn(l...)...); e != api.ErrSum {
		t.Errorf("Check(%v) = %d", Turn(l...), e)
	}
}

// TestJoinByHand is P9.2: the document's example, sums of 0, legs in no order,
// and sums at the bound and beyond it.
func TestJoinByHand(t *testing.T) {
	for _, x := range []struct {
		l, joined []api.Leg
		e         api.Errno
	}{
		{nil, nil, api.OK},
		{legs(of(api.Cash, 1, 0, 5), of(api.Cash, 1, 0, -3), of(api.Bank, 0, 0, -2)), legs(of(api.Bank, 0, 0, -2), of(api.Cash, 1, 0, 2)), api.OK},
		{legs(of(api.Bank, 0, 0, 0)), nil, api.OK},
		{legs(of(api.Bank, 0, 0, 7)), legs(of(api.Bank, 0, 0, 7)), api.OK},
		{legs(of(api.Cash, 2, 1, 4), of(api.Cash, 2, 1, -4)), nil, api.OK},
		{legs(of(api.Cash, 2, 1, 4), of(api.Cash, 2, 2, -4)), legs(of(api.Cash, 2, 1, 4), of(api.Cash, 2, 2, -4)), api.OK},
		{legs(of(api.Cash, 10, 0, 1), of(api.Cash, 9, 0, 1), of(api.Cash, 2, 2, 1), of(api.Cash, 2, 1, 1)), legs(of(api.Cash, 2, 1, 1), of(api.Cash, 2, 2, 1), of(api.Cash, 9, 0, 1), of(api.Cash, 10, 0, 1)), api.OK},
		{legs(of(api.Loss, 0, 0, 1), of(api.Var, 0, 0, 2), of(api.Skin, 0, 0, 3), of(api.Fund, 1, 0, 4), of(api.Cash, 1, 0, 5), of(api.Bank, 0, 0, 6)), legs(of(api.Bank, 0, 0, 6), of(api.Cash, 1, 0, 5), of(api.Fund, 1, 0, 4), of(api.Skin, 0, 0, 3), of(api.Var, 0, 0, 2), of(api.Loss, 0, 0, 1)), api.OK},
		{legs(of(api.Var, 0, 1, -5), of(api.Bank, 0, 1, 1), of(api.Var, 0, 1, 3), of(api.Bank, 0, 1, -1), of(api.Var, 0, 1, 1)), legs(of(api.Var, 0, 1, -1)), api.OK},
		{legs(of(api.Fund, 1, 0, -4), of(api.Skin, 0, 0, -3)), legs(of(api.Fund, 1, 0, -4), of(api.Skin, 0, 0, -3)), api.OK},
		{legs(of(api.Bank, 0, 0, bound-1), of(api.Bank, 0, 0, 1)), legs(of(api.Bank, 0, 0, bound)), api.OK},
		{legs(of(api.Bank, 0, 0, 1-bound), of(api.Bank, 0, 0, -1)), legs(of(api.Bank, 0, 0, -bound)), api.OK},
		{legs(of(api.Bank, 0, 0, bound), of(api.Bank, 0, 0, 1)), nil, api.ErrBig},
		{legs(of(api.Bank, 0, 0, -bound), of(api.Bank, 0, 0, -1)), nil, api.ErrBig},
		{legs(of(api.Bank, 0, 0, bound), of(api.Bank, 0, 0, 1), of(api.Bank, 0, 0, -1)), legs(of(api.Bank, 0, 0, bound)), api.OK},
		{legs(of(api.Bank, 0, 0, bound), of(api.Bank, 0, 1, bound), of(api.Loss, 0, 0, bound)), legs(of(api.Bank, 0, 0, bound), of(api.Bank, 0, 1, bound), of(api.Loss, 0, 0, bound)), api.OK},
		{legs(of(api.Bank, 0, 0, 1), of(api.Loss, 0, 2, bound), of(api.Loss, 0, 2, 1)), nil, api.ErrBig},
		{legs(of(api.Bank, 1, 0, 0)), nil, api.ErrArg},
		{legs(of(api.Bank, 0, 0, bound+1), of(api.Bank, 0, 0, -1)), nil, api.ErrArg},
		{legs(of(api.Bank, 0, 0, bound), of(api.Bank, 0, 0, bound), of(api.Bank, 0, 3, 1)), nil, api.ErrArg},
		{legs(of(api.Cash, 17, 0, 1), of(api.Bank, 0, 0, bound), of(api.Bank, 0, 0, bound)), nil, api.ErrArg},
	} {
		joined, e := Join(x.l...)
		if !slices.Equal(joined, x.joined) || e != x.e {
			t.Errorf("Join(%v) = %v, %d, not %v, %d", x.l, joined, e, x.joined, x.e)
		}
	}
}

// TestJoinErrorsInOrder is P9.2: a leg that may not be, wherever it stands,
// goes before a sum that is too great, and also where its sum would be 0.
func TestJoinErrorsInOrder(t *testing.T) {
	for _, bad := range notLegs() {
		turned := api.Leg{Acct: bad.Acct, Amount: -bad.Amount}
		for at := range 5 {
			l := slices.Repeat(legs(of(api.Skin, 0, 0, bound)), 5)
			l[at] = bad
			for _, l := range [][]api.Leg{legs(bad), legs(bad, turned), l, append(pairs(100), bad)} {
				if joined, e := Join(l...); len(joined) != 0 || e != api.ErrArg {
					t.Errorf("Join(%v of %d) = %v, %d", few(l), len(l), joined, e)
				}
			}
		}
	}
}

// TestJoinGreatSums is P9.2 and R5: sums beyond money and beyond int on the
// way do no harm, and one that is 0 but for its upper bits is too great.
func TestJoinGreatSums(t *testing.T) {
	for _, n := range []int{1, 2, 3, 4, 5, 8, 1 << 10, 1 << 15} {
		up := slices.Repeat(legs(of(api.Fund, 4, 1, bound)), n)
		down := Turn(up...)
		for _, l := range [][]api.Leg{slices.Concat(up, down), slices.Concat(down, up)} {
			if joined, e := Join(l...); len(joined) != 0 || e != api.OK {
				t.Errorf("Join of %d times the bound, up and down = %v, %d", n, joined, e)
			}
		}
		if joined, e := Join(slices.Concat(up, down[1:])...); !slices.Equal(joined, up[:1]) || e != api.OK {
			t.Errorf("Join of %d times the bound, and down but 1 = %v, %d", n, joined, e)
		}
		if joined, e := Join(slices.Concat(down, up[1:])...); !slices.Equal(joined, down[:1]) || e != api.OK {
			t.Errorf("Join of %d times the bound, down, and up but 1 = %v, %d", n, joined, e)
		}
		for _, l := range [][]api.Leg{up, down} {
			if joined, e := Join(append(l, l[0])...); len(joined) != 0 || e != api.ErrBig {
				t.Errorf("Join of %d times %d = %v, %d", n+1, l[0].Amount, joined, e)
			}
		}
	}
}

// TestJoinEachAccount is P9.2: of all accounts, in whatever order, each one
// that has a sum has one leg, and a sum too great is found at each of them.
func TestJoinEachAccount(t *testing.T) {
	all := accts()
	var rising, whole []api.Leg
	for i, a := range all {
		rising = append(rising, api.Leg{Acct: a, Amount: i + 1})
	}
	whole = append(whole, rising...)
	slices.Reverse(whole)
	for range 3 {
		whole = append(whole, rising...)
	}
	joined, e := Join(whole...)
	if e != api.OK || len(joined) != len(all) {
		t.Fatalf("Join of all accounts: %d legs, %d", len(joined), e)
	}
	for i, l := range joined {
		if l.Acct != all[i] || l.Amount != 4*(i+1) {
			t.Errorf("leg %d is %v", i, l)
		}
	}
	for i, a := range all {
		none := append(slices.Clone(whole), api.Leg{Acct: a, Amount: -4 * (i + 1)})
		if l, e := Join(none...); !slices.Equal(l, slices.Delete(slices.Clone(joined), i, i+1)) || e != api.OK {
			t.Errorf("Join where %v has nothing: %d legs, %d", a, len(l), e)
		}
		much := append(slices.Clone(whole), api.Leg{Acct: a, Amount: bound})
		if l, e := Join(much...); len(l) != 0 || e != api.ErrBig {
			t.Errorf("Join where %v has too much: %d legs, %d", a, len(l), e)
		}
	}
}

// TestJoinOfMany is P9.2 and R1: as many legs as one likes, of all accounts.
func TestJoinOfMany(t *testing.T) {
	all := accts()
	many := make([]api.Leg, 1<<18)
	for i := range many {
		many[i] = api.Leg{Acct: all[i*7%len(all)], Amount: i*i%99991 - 50000}
	}
	check(t, many...)
	if joined, e := Join(many...); len(joined) != len(all) || e != api.OK {
		t.Errorf("Join of %d legs: %d legs, %d", len(many), len(joined), e)
	}
	// What is great on the way, and nothing in all, makes no difference.
	for i := range many {
		great := api.Leg{Acct: many[i].Acct, Amount: bound - i}
		many = append(many, great)
	}
	check(t, many...)
	check(t, append(many, Turn(many[len(many)/2:]...)...)...)
}

// some makes a list of up to n legs, now and then of one that may not be.
func some(r *rand.Rand, n int) []api.Leg {
	all, bad := accts(), notLegs()
	few := 1 + r.IntN(len(all))
	l := make([]api.Leg, r.IntN(n+1))
	for i := range l {
		l[i] = api.Leg{Acct: all[r.IntN(few)], Amount: amounts[r.IntN(len(amounts))]}
		if i > 0 && r.IntN(2) == 0 {
			l[i].Amount = -l[r.IntN(i)].Amount
		}
		if r.IntN(200) == 0 {
			l[i] = bad[r.IntN(len(bad))]
		}
	}
	return l
}

// evened is a list with legs behind it that bring each currency to 0, as far
// as the legs may be.
func evened(l []api.Leg) []api.Leg {
	l = slices.Clone(l)
	for cur := range 3 {
		sum := exactSum(l, func(x api.Leg) bool { return x.Cur == cur })
		for sum.Sign() != 0 {
			part := new(big.Int).Set(sum)
			if part.CmpAbs(big.NewInt(bound)) > 0 {
				part.SetInt64(int64(bound * sum.Sign()))
			}
			sum.Sub(sum, part)
			l = append(l, of(api.Loss, 0, cur, -int(part.Int64())))
		}
	}
	return l
}

// TestLists is P9.1 and P9.2: lists of many shapes, against the document's
// words, as they come and brought to 0.
func TestLists(t *testing.T) {
	r := rand.New(rand.NewPCG(9, 1))
	for i := range 4000 {
		l := some(r, 1+i%70)
		check(t, l...)
		check(t, evened(l)...)
	}
}

// TestPairsOfLegs is P9.1 and P9.2: all pairs of some legs at the edges.
func TestPairsOfLegs(t *testing.T) {
	var l []api.Leg
	for _, a := range []api.Acct{{Kind: api.Bank}, {Kind: api.Cash, Who: 16, Cur: 2}, {Kind: api.Fund, Who: 1}, {Kind: api.Loss, Cur: 2}, {Kind: api.Cash, Who: 17}} {
		for _, n := range slices.Concat(amounts, notMoney) {
			l = append(l, api.Leg{Acct: a, Amount: n})
		}
	}
	for _, a := range l {
		check(t, a)
		for _, b := range l {
			check(t, a, b)
		}
	}
}

// TestInAnyOrder is P9.1 and P9.2: the order of the legs changes neither
// whether they may be posted nor what they are joined to.
func TestInAnyOrder(t *testing.T) {
	r := rand.New(rand.NewPCG(9, 2))
	for range 300 {
		l := evened(some(r, 20))
		e := Check(l...)
		joined, f := Join(l...)
		for range 5 {
			r.Shuffle(len(l), func(i, k int) { l[i], l[k] = l[k], l[i] })
			if g := Check(l...); g != e {
				t.Errorf("Check(%v) = %d, and in another order %d", l, g, e)
			}
			if again, g := Join(l...); !slices.Equal(again, joined) || g != f {
				t.Errorf("Join(%v) = %v, %d, and in another order %v, %d", l, again, g, joined, f)
			}
		}
	}
}

// TestMove is P9.3: all amounts between all kinds of accounts, and between
// what are none.
func TestMove(t *testing.T) {
	a, b := api.Acct{Kind: api.Bank, Cur: 2}, api.Acct{Kind: api.Cash, Who: 3}
	if l := Move(a, b, 5); !slices.Equal(l, legs(of(api.Bank, 0, 2, -5), of(api.Cash, 3, 0, 5))) {
		t.Errorf("Move of 5 = %v", l)
	}
	if l := Move(b, b, -bound); !slices.Equal(l, legs(of(api.Cash, 3, 0, bound), of(api.Cash, 3, 0, -bound))) {
		t.Errorf("Move of minus the bound = %v", l)
	}
	ends := append(legs(of(api.Loss, 0, 1, 0), of(api.Fund, 16, 2, 0)), notLegs()...)
	for _, from := range ends {
		for _, to := range ends {
			for _, n := range slices.Concat(amounts, notMoney) {
				m := n
				if !isMoney(n) {
					m = 0
				}
				if l := Move(from.Acct, to.Acct, n); !slices.Equal(l, []api.Leg{{Acct: from.Acct, Amount: -m}, {Acct: to.Acct, Amount: m}}) {
					t.Errorf("Move(%v, %v, %d) = %v", from.Acct, to.Acct, n, l)
				}
			}
		}
	}
}

// TestTurn is P9.3: each leg in its place, its account as it is, whatever
// that is, and 0 for what is no money.
func TestTurn(t *testing.T) {
	if l := Turn(); len(l) != 0 {
		t.Errorf("Turn() = %v", l)
	}
	l := legs(of(api.Var, 0, 1, 4), of(api.Bank, 0, 0, -bound), of(99, -3, 7, bound), of(api.Var, 0, 1, 4), of(api.Var, 0, 1, 0), of(0, 0, 0, 1), of(api.Cash, 1, 0, bound+1), of(api.Cash, 1, 0, -bound-1), of(9, 9, 9, least), of(1, 0, 0, most))
	want := legs(of(api.Var, 0, 1, -4), of(api.Bank, 0, 0, bound), of(99, -3, 7, -bound), of(api.Var, 0, 1, -4), of(api.Var, 0, 1, 0), of(0, 0, 0, -1), of(api.Cash, 1, 0, 0), of(api.Cash, 1, 0, 0), of(9, 9, 9, 0), of(1, 0, 0, 0))
	if turned := Turn(l...); !slices.Equal(turned, want) {
		t.Errorf("Turn(%v) = %v", l, turned)
	}
	var all []api.Leg
	for _, a := range slices.Concat(accts(), notAccts) {
		for _, n := range slices.Concat(amounts, notMoney) {
			all = append(all, api.Leg{Acct: a, Amount: n})
		}
	}
	turned := Turn(all...)
	if len(turned) != len(all) {
		t.Fatalf("Turn of %d legs: %d", len(all), len(turned))
	}
	for i, l := range all {
		m := 0
		if isMoney(l.Amount) {
			m = -l.Amount
		}
		if turned[i].Acct != l.Acct || turned[i].Amount != m {
			t.Errorf("%v is turned to %v", l, turned[i])
		}
	}
}

// TestMovesMayBePosted is P9.4: between all accounts of one currency, of any
// amount; and of two currencies only where nothing is moved.
func TestMovesMayBePosted(t *testing.T) {
	all := accts()
	for _, from := range all {
		for _, to := range all {
			for _, n := range slices.Concat(amounts, notMoney) {
				e := api.OK
				if from.Cur != to.Cur && n != 0 && isMoney(n) {
					e = api.ErrSum
				}
				if f := Check(Move(from, to, n)...); f != e {
					t.Errorf("Check(Move(%v, %v, %d)) = %d, not %d", from, to, n, f, e)
				}
			}
		}
	}
}

// postings goes through lists that may be posted.
func postings(yield func([]api.Leg) bool) {
	r := rand.New(rand.NewPCG(9, 3))
	for found := 0; found < 1000; {
		l := evened(some(r, 55))
		if exactCheck(l) != api.OK {
			continue
		}
		found++
		if !yield(l) {
			return
		}
	}
}

// TestJoinedMayBePosted is P9.4: what Join returns for legs that may be posted
// may be posted itself, and Join changes nothing of it any more.
func TestJoinedMayBePosted(t *testing.T) {
	some, none := 0, 0
	for l := range postings {
		joined, e := Join(l...)
		if e != api.OK || len(joined) == 0 {
			none++
			continue
		}
		some++
		if e := Check(joined...); e != api.OK {
			t.Errorf("Check(%v), which are %v joined, = %d", joined, l, e)
		}
		if again, e := Join(joined...); !slices.Equal(again, joined) || e != api.OK {
			t.Errorf("Join(%v) = %v, %d", joined, again, e)
		}
	}
	if some < 100 || none < 10 {
		t.Errorf("%d postings have joined legs, %d have none", some, none)
	}
}

// TestTurnReverses is P9.4: the turned legs may be posted too, a posting and
// its reversal together leave nothing on any account, and turned again they
// are those of before.
func TestTurnReverses(t *testing.T) {
	for l := range postings {
		turned := Turn(l...)
		if e := Check(turned...); e != api.OK {
			t.Errorf("Check(Turn(%v)) = %d", l, e)
		}
		for _, both := range [][]api.Leg{slices.Concat(l, turned), slices.Concat(turned, l)} {
			if joined, e := Join(both...); len(joined) != 0 || e != api.OK {
				t.Errorf("Join(%v) = %v, %d", both, joined, e)
			}
		}
		if again := Turn(turned...); !slices.Equal(again, l) {
			t.Errorf("Turn(Turn(%v)) = %v", l, again)
		}
	}
}

// TestArgumentsStay is R2: neither a list nor what lies behind its end is
// changed, and what lies there does not count.
func TestArgumentsStay(t *testing.T) {
	row := legs(of(api.Loss, 0, 0, 4), of(api.Loss, 0, 0, -6), of(api.Bank, 0, 0, 2), of(api.Bank, 0, 0, 9), of(9, 9, 9, bound+1))
	before := slices.Clone(row)
	if e := Check(row[:3]...); e != api.OK {
		t.Errorf("Check(%v) = %d", row[:3], e)
	}
	if l, e := Join(row[:3]...); !slices.Equal(l, legs(of(api.Bank, 0, 0, 2), of(api.Loss, 0, 0, -2))) || e != api.OK {
		t.Errorf("Join(%v) = %v, %d", row[:3], l, e)
	}
	if l := Turn(row[:3]...); !slices.Equal(l, legs(of(api.Loss, 0, 0, -4), of(api.Loss, 0, 0, 6), of(api.Bank, 0, 0, -2))) {
		t.Errorf("Turn(%v) = %v", row[:3], l)
	}
	Check(row...)
	Join(row...)
	Turn(row...)
	if !slices.Equal(row, before) {
		t.Errorf("the arguments became %v", row)
	}
}

// TestResultsAreNew is R2 and R3: what is written into a result, and into the
// memory behind it, is seen in no argument and in no other result.
func TestResultsAreNew(t *testing.T) {
	l := legs(of(api.Bank, 0, 0, -5), of(api.Cash, 1, 0, 2), of(api.Cash, 2, 0, 3))
	before := slices.Clone(l)
	results := func() [][]api.Leg {
		joined, _ := Join(l...)
		return [][]api.Leg{joined, Turn(l...), Move(l[0].Acct, l[1].Acct, 5)}
	}
	first, second, want := results(), results(), results()
	for i := range want {
		want[i] = slices.Clone(want[i])
	}
	for _, x := range first {
		x = x[:cap(x)]
		for i := range x {
			x[i] = of(9, 9, 9, 9)
		}
	}
	third := results()
	for i := range want {
		if !slices.Equal(second[i], want[i]) || !slices.Equal(third[i], want[i]) {
			t.Errorf("after a write into a result: %v, and then %v, not %v", second[i], third[i], want[i])
		}
	}
	if !slices.Equal(l, before) {
		t.Errorf("the arguments became %v", l)
	}
}
