package ledger

import (
	"math"
	"math/big"
	"math/rand/v2"
	"slices"
	"testing"

	"cambist/api"
	"cambist/entry"
)

const (
	bound = api.Bound
	least = math.MinInt
	most  = math.MaxInt
)

// of tells a leg by its account's three parts and its amount.
func of(kind, who, cur, amount int) api.Leg {
	return api.Leg{Acct: api.Acct{Kind: kind, Who: who, Cur: cur}, Amount: amount}
}

// has tells a balance by its account's three parts and its sum.
func has(kind, who, cur, sum int) api.Balance {
	return api.Balance{Acct: api.Acct{Kind: kind, Who: who, Cur: cur}, Sum: sum}
}

// legs tells a list of legs.
func legs(l ...api.Leg) []api.Leg { return l }

// with tells a ledger by its last number and its balances.
func with(last int, l ...api.Balance) api.Ledger { return api.Ledger{Last: last, Balances: l} }

// same reports whether two ledgers have the same in them.
func same(a, b api.Ledger) bool { return a.Last == b.Last && slices.Equal(a.Balances, b.Balances) }

// copied is a ledger in memory of its own.
func copied(l api.Ledger) api.Ledger {
	l.Balances = slices.Clone(l.Balances)
	return l
}

// sums are money at which an answer may change.
var sums = []int{1, -1, 2, 5, -7, 1 << 31, -1 << 32, bound / 2, -bound / 2, bound/2 + 1, bound - 1, 1 - bound, bound, -bound}

// notMoney are the numbers one beyond the bound and the ends of int.
var notMoney = []int{bound + 1, -bound - 1, most, least}

// notAccts are not accounts, each of its own cause, one beyond an edge where
// there is one, or an account but for the upper bits of a number.
var notAccts = []api.Acct{
	{}, {Kind: 0, Who: 1}, {Kind: -1}, {Kind: 7}, {Kind: 7, Who: 1}, {Kind: 1<<32 + 1}, {Kind: least}, {Kind: most},
	{Kind: api.Bank, Who: 1}, {Kind: api.Bank, Who: -1}, {Kind: api.Skin, Who: 1}, {Kind: api.Var, Who: 16}, {Kind: api.Loss, Who: 1 << 32},
	{Kind: api.Cash}, {Kind: api.Cash, Who: -1}, {Kind: api.Cash, Who: 17}, {Kind: api.Fund}, {Kind: api.Fund, Who: 17}, {Kind: api.Fund, Who: 1<<32 + 1},
	{Kind: api.Bank, Cur: 3}, {Kind: api.Bank, Cur: -1}, {Kind: api.Cash, Who: 1, Cur: 3}, {Kind: api.Fund, Who: 1, Cur: -1}, {Kind: api.Loss, Cur: least}, {Kind: api.Skin, Cur: most},
}

// accts are all accounts, rising, by the document's words.
func accts() []api.Acct {
	var l []api.Acct
	for kind := api.Bank; kind <= api.Loss; kind++ {
		first, last := 0, 0
		if kind == api.Cash || kind == api.Fund {
			first, last = 1, 16
		}
		for who := first; who <= last; who++ {
			for cur := 0; cur <= 2; cur++ {
				l = append(l, api.Acct{Kind: kind, Who: who, Cur: cur})
			}
		}
	}
	return l
}

// floored reports whether the accounts of a kind have the floor 0.
func floored(kind int) bool { return kind == api.Fund || kind == api.Skin }

func isMoney(n int) bool { return n >= -bound && n <= bound }

// place is where an account stands in the order of accounts, or -1.
func place(a api.Acct) int { return slices.Index(accts(), a) }

// exactRight is what the chapter calls a right ledger, word by word.
func exactRight(l api.Ledger) bool {
	sums := [3]*big.Int{new(big.Int), new(big.Int), new(big.Int)}
	before := -1
	for _, b := range l.Balances {
		at := place(b.Acct)
		if at <= before || b.Sum == 0 || !isMoney(b.Sum) || floored(b.Kind) && b.Sum < 0 {
			return false
		}
		before = at
		sums[b.Cur].Add(sums[b.Cur], big.NewInt(int64(b.Sum)))
	}
	return sums[0].Sign() == 0 && sums[1].Sign() == 0 && sums[2].Sign() == 0 && l.Last >= 0
}

// exactPost is P10.2, word by word.
func exactPost(l api.Ledger, id int, legs []api.Leg) (api.Ledger, api.Errno) {
	switch {
	case !exactRight(l):
		return api.Ledger{}, api.ErrState
	case id < 1 || id > 1<<40:
		return api.Ledger{}, api.ErrArg
	case id <= l.Last:
		return api.Ledger{}, api.ErrStale
	}
	if e := entry.Check(legs...); e != api.OK {
		return api.Ledger{}, e
	}
	posted, low := api.Ledger{Last: id}, false
	for _, a := range accts() {
		sum := big.NewInt(int64(Of(l, a)))
		for _, x := range legs {
			if x.Acct == a {
				sum.Add(sum, big.NewInt(int64(x.Amount)))
			}
		}
		if sum.CmpAbs(big.NewInt(bound)) > 0 {
			return api.Ledger{}, api.ErrBig
		}
		low = low || floored(a.Kind) && sum.Sign() < 0
		if sum.Sign() != 0 {
			posted.Balances = append(posted.Balances, api.Balance{Acct: a, Sum: int(sum.Int64())})
		}
	}
	if low {
		return api.Ledger{}, api.ErrFloor
	}
	return posted, api.OK
}

// exactTotal is P10.3, word by word.
func exactTotal(l api.Ledger, cur int, kinds []int) (int, api.Errno) {
	if !exactRight(l) {
		return 0, api.ErrState
	}
	sum := new(big.Int)
	for _, b := range l.Balances {
		if b.Cur == cur && slices.Contains(kinds, b.Kind) {
			sum.Add(sum, big.NewInt(int64(b.Sum)))
		}
	}
	if sum.CmpAbs(big.NewInt(bound)) > 0 {
		return 0, api.ErrBig
	}
	return int(sum.Int64()), api.OK
}

// wrong are ledgers that are not right, each but for one thing.
func wrong() []api.Ledger {
	bank, cash, fund := has(api.Bank, 0, 0, -5), has(api.Cash, 1, 0, 2), has(api.Fund, 1, 0, 3)
	l := []api.Ledger{
		with(-1), with(least), with(-1 << 32), with(-1, bank, cash, fund),
		with(0, bank), with(0, cash), with(0, bank, cash), with(0, cash, fund),
		with(0, cash, bank, fund), with(0, bank, fund, cash), with(0, fund, cash, bank),
		with(0, has(api.Cash, 2, 0, -5), has(api.Cash, 1, 0, 5)), with(0, has(api.Cash, 1, 1, -5), has(api.Cash, 1, 0, -5), has(api.Loss, 0, 0, 5), has(api.Loss, 0, 1, 5)),
		with(0, bank, cash, cash, has(api.Fund, 1, 0, 1)), with(0, bank, bank, has(api.Cash, 1, 0, 10)), with(0, bank, has(api.Bank, 0, 0, 5)),
		with(0, has(api.Bank, 0, 0, 0)), with(0, bank, cash, fund, has(api.Loss, 0, 2, 0)), with(0, bank, cash, has(api.Cash, 1, 1, 0), fund),
		with(0, has(api.Bank, 0, 0, -5), has(api.Bank, 0, 1, 5)), with(0, has(api.Bank, 0, 1, -5), has(api.Bank, 0, 2, 5)), with(0, has(api.Bank, 0, 0, -5), has(api.Bank, 0, 2, 5)),
		with(0, has(api.Cash, 1, 0, 1), has(api.Fund, 1, 0, -1)), with(0, has(api.Skin, 0, 0, -1), has(api.Var, 0, 0, 1)), with(0, has(api.Cash, 1, 2, bound), has(api.Skin, 0, 2, -bound)),
		// 2^64 and -2^64.
		with(0, has(api.Cash, 1, 0, bound), has(api.Cash, 2, 0, bound), has(api.Cash, 3, 0, bound), has(api.Cash, 4, 0, bound)),
		with(0, has(api.Cash, 1, 0, -bound), has(api.Cash, 2, 0, -bound), has(api.Cash, 3, 0, -bound), has(api.Cash, 4, 0, -bound)),
	}
	for _, n := range notMoney {
		l = append(l, with(0, has(api.Bank, 0, 0, n)), with(0, has(api.Bank, 0, 0, n), has(api.Cash, 1, 0, -n)), with(0, has(api.Bank, 0, 0, -n), has(api.Var, 0, 0, n)))
	}
	for _, a := range notAccts {
		l = append(l, with(0, api.Balance{Acct: a, Sum: 5}), with(0, api.Balance{Acct: a}), with(0, bank, api.Balance{Acct: a, Sum: 5}), with(0, api.Balance{Acct: a, Sum: 5}, has(api.Loss, 0, 0, -5)))
	}
	return l
}

// great is a right ledger whose balances stand at the bound: three of each
// sign, of which no two are neighbours in their kinds.
func great() api.Ledger {
	return with(3, has(api.Bank, 0, 1, -bound), has(api.Cash, 1, 1, -bound), has(api.Cash, 7, 1, bound), has(api.Fund, 2, 1, bound), has(api.Skin, 0, 1, bound), has(api.Loss, 0, 1, -bound))
}

// TestCheckByHand is P10.1: right ledgers, at the edges too.
func TestCheckByHand(t *testing.T) {
	for _, l := range []api.Ledger{
		{},
		with(0, has(api.Bank, 0, 0, -5), has(api.Cash, 1, 0, 5)),
		with(1<<40, has(api.Bank, 0, 0, -5), has(api.Cash, 1, 0, 5)),
		with(most),
		{Balances: []api.Balance{}},
		with(7, has(api.Cash, 1, 0, -1), has(api.Fund, 1, 0, 1)),
		with(7, has(api.Skin, 0, 2, 1), has(api.Loss, 0, 2, -1)),
		with(7, has(api.Bank, 0, 0, 1), has(api.Bank, 0, 1, -2), has(api.Cash, 9, 0, -1), has(api.Cash, 9, 1, 1), has(api.Cash, 10, 1, 1)),
		with(7, has(api.Cash, 2, 2, 9), has(api.Cash, 10, 2, -9)),
		with(7, has(api.Bank, 0, 0, -bound), has(api.Var, 0, 0, bound)),
		great(),
	} {
		if e := Check(l); e != api.OK {
			t.Errorf("Check(%v) = %d", l, e)
		}
	}
}

// TestCheckWrong is P10.1: each thing that makes a ledger not right.
func TestCheckWrong(t *testing.T) {
	for _, l := range wrong() {
		if e := Check(l); e != api.ErrState {
			t.Errorf("Check(%v) = %d", l, e)
		}
	}
}

// whole is a right ledger in which every account has a balance.
func whole() api.Ledger {
	var l api.Ledger
	total := [3]int{}
	for i, a := range accts() {
		sum := 3*i + 1
		if a.Kind == api.Loss {
			sum = -total[a.Cur]
		}
		total[a.Cur] += sum
		l.Balances = append(l.Balances, api.Balance{Acct: a, Sum: sum})
	}
	return l
}

// TestCheckEachPlace is P10.1: in the ledger of all accounts, a fault at any
// place is found, and so is any balance that is not there.
func TestCheckEachPlace(t *testing.T) {
	if e := Check(whole()); e != api.OK {
		t.Fatalf("Check of all accounts = %d", e)
	}
	all := whole().Balances
	for i, b := range all {
		faults := []api.Balance{{Acct: b.Acct}, {Acct: b.Acct, Sum: b.Sum + 1}, {Acct: b.Acct, Sum: b.Sum - 1}, {Acct: b.Acct, Sum: -b.Sum}, {Acct: b.Acct, Sum: most}, {Acct: b.Acct, Sum: least}}
		faults = append(faults, all[(i+1)%len(all)], all[(i+len(all)-1)%len(all)])
		for _, a := range notAccts {
			faults = append(faults, api.Balance{Acct: a, Sum: b.Sum})
		}
		for _, fault := range faults {
			l := whole()
			l.Balances[i] = fault
			if e := Check(l); e != api.ErrState {
				t.Errorf("Check of all accounts with %v at %d = %d", fault, i, e)
			}
		}
		for _, l := range [][]api.Balance{slices.Delete(slices.Clone(all), i, i+1), slices.Insert(slices.Clone(all), i, b)} {
			if e := Check(with(0, l...)); e != api.ErrState {
				t.Errorf("Check of %d balances = %d, at %d", len(l), e, i)
			}
		}
	}
}

// TestCheckNeighbours is P10.1: any two accounts of one currency rise in one
// order only.
func TestCheckNeighbours(t *testing.T) {
	all := accts()
	for i, a := range all {
		for k, b := range all {
			if a.Cur != b.Cur || floored(a.Kind) && floored(b.Kind) {
				continue
			}
			first, second := 5, -5
			if floored(b.Kind) {
				first, second = -5, 5
			}
			e := api.OK
			if i >= k {
				e = api.ErrState
			}
			l := with(0, api.Balance{Acct: a, Sum: first}, api.Balance{Acct: b, Sum: second})
			if f := Check(l); f != e {
				t.Errorf("Check(%v) = %d, not %d", l, f, e)
			}
		}
	}
}

// TestCheckMany is P10.1 and R1: as many balances as one likes.
func TestCheckMany(t *testing.T) {
	all := slices.Repeat(whole().Balances, 1000)
	if e := Check(with(0, all...)); e != api.ErrState {
		t.Errorf("Check of %d balances = %d", len(all), e)
	}
	if n := Of(with(0, all...), api.Acct{}); n != 0 {
		t.Errorf("Of of no account = %d", n)
	}
}

// TestOf is P10.1: the first balance of the account, whatever it is, in
// whatever ledger; and 0 if there is none.
func TestOf(t *testing.T) {
	l := whole()
	for _, b := range l.Balances {
		if n := Of(l, b.Acct); n != b.Sum {
			t.Errorf("Of(%v) = %d, not %d", b.Acct, n, b.Sum)
		}
	}
	for i, b := range l.Balances {
		less := with(-9, slices.Delete(slices.Clone(l.Balances), i, i+1)...)
		if n := Of(less, b.Acct); n != 0 {
			t.Errorf("Of(%v) = %d where there is none", b.Acct, n)
		}
	}
	for _, a := range notAccts {
		if n := Of(l, a); n != 0 {
			t.Errorf("Of(%v) = %d where there is none", a, n)
		}
		for _, sum := range slices.Concat(sums, notMoney, []int{0}) {
			odd := with(-1, has(api.Loss, 0, 0, 4), api.Balance{Acct: a, Sum: sum}, has(api.Bank, 0, 0, 3), api.Balance{Acct: a, Sum: 8})
			if n := Of(odd, a); n != sum {
				t.Errorf("Of(%v) = %d, not %d", a, n, sum)
			}
			if n := Of(odd, api.Acct{Kind: api.Bank}); n != 3 {
				t.Errorf("Of of the bank = %d", n)
			}
		}
	}
	if n := Of(api.Ledger{}, api.Acct{Kind: api.Bank}); n != 0 {
		t.Errorf("Of in no ledger = %d", n)
	}
}

// TestExample is the chapter's example.
func TestExample(t *testing.T) {
	pay := legs(of(api.Bank, 0, 0, -5), of(api.Cash, 1, 0, 5))
	l, e := Post(api.Ledger{}, 1, pay[0], pay[1])
	if e != api.OK || !same(l, with(1, has(api.Bank, 0, 0, -5), has(api.Cash, 1, 0, 5))) {
		t.Errorf("the first posting: %v, %d", l, e)
	}
	if again, e := Post(l, 1, pay...); e != api.ErrStale || !same(again, api.Ledger{}) {
		t.Errorf("the same number again: %v, %d", again, e)
	}
	l, e = Post(l, 2, pay...)
	if e != api.OK || l.Last != 2 || Of(l, pay[1].Acct) != 10 || Of(l, pay[0].Acct) != -10 {
		t.Errorf("the second posting: %v, %d", l, e)
	}
}

// TestPostByHand is P10.2: legs that come to accounts with and without a
// balance, that take one away, and that are several of one account.
func TestPostByHand(t *testing.T) {
	l := with(4, has(api.Bank, 0, 0, -9), has(api.Cash, 2, 0, 5), has(api.Fund, 1, 0, 4))
	for _, x := range []struct {
		id     int
		legs   []api.Leg
		posted api.Ledger
		e      api.Errno
	}{
		{5, legs(of(api.Loss, 0, 0, 0)), with(5, l.Balances...), api.OK},
		{5, legs(of(api.Cash, 2, 0, 3), of(api.Cash, 2, 0, -3)), with(5, l.Balances...), api.OK},
		{5, legs(of(api.Cash, 1, 0, 3), of(api.Cash, 2, 0, -3)), with(5, has(api.Bank, 0, 0, -9), has(api.Cash, 1, 0, 3), has(api.Cash, 2, 0, 2), has(api.Fund, 1, 0, 4)), api.OK},
		{6, legs(of(api.Cash, 3, 0, 5), of(api.Cash, 2, 0, -5)), with(6, has(api.Bank, 0, 0, -9), has(api.Cash, 3, 0, 5), has(api.Fund, 1, 0, 4)), api.OK},
		{7, legs(of(api.Fund, 1, 0, -4), of(api.Bank, 0, 0, 4)), with(7, has(api.Bank, 0, 0, -5), has(api.Cash, 2, 0, 5)), api.OK},
		{7, legs(of(api.Fund, 1, 0, -4), of(api.Cash, 2, 0, -5), of(api.Bank, 0, 0, 9)), with(7), api.OK},
		{7, legs(of(api.Fund, 1, 0, -6), of(api.Fund, 1, 0, 1), of(api.Fund, 1, 0, 1), of(api.Loss, 0, 0, 4)), with(7, has(api.Bank, 0, 0, -9), has(api.Cash, 2, 0, 5), has(api.Loss, 0, 0, 4)), api.OK},
		{7, legs(of(api.Cash, 2, 0, -8), of(api.Var, 0, 0, 8)), with(7, has(api.Bank, 0, 0, -9), has(api.Cash, 2, 0, -3), has(api.Fund, 1, 0, 4), has(api.Var, 0, 0, 8)), api.OK},
		{7, legs(of(api.Skin, 0, 2, 1), of(api.Bank, 0, 2, -1)), with(7, has(api.Bank, 0, 0, -9), has(api.Bank, 0, 2, -1), has(api.Cash, 2, 0, 5), has(api.Fund, 1, 0, 4), has(api.Skin, 0, 2, 1)), api.OK},
		{1 << 40, legs(of(api.Loss, 0, 0, 0)), with(1<<40, l.Balances...), api.OK},
		{7, legs(of(api.Fund, 1, 0, -5), of(api.Bank, 0, 0, 5)), api.Ledger{}, api.ErrFloor},
		{7, legs(of(api.Fund, 2, 0, -1), of(api.Bank, 0, 0, 1)), api.Ledger{}, api.ErrFloor},
		{7, legs(of(api.Fund, 1, 1, -1), of(api.Bank, 0, 1, 1)), api.Ledger{}, api.ErrFloor},
		{7, legs(of(api.Skin, 0, 0, -1), of(api.Bank, 0, 0, 1)), api.Ledger{}, api.ErrFloor},
		{7, legs(of(api.Loss, 0, 0, -9), of(api.Skin, 0, 0, 9), of(api.Fund, 1, 0, -5), of(api.Var, 0, 0, 5)), api.Ledger{}, api.ErrFloor},
		{7, legs(of(api.Bank, 0, 0, 1)), api.Ledger{}, api.ErrSum},
		{7, legs(of(api.Bank, 0, 0, 9), of(api.Cash, 2, 0, -5)), api.Ledger{}, api.ErrSum},
		{7, legs(of(api.Bank, 0, 0, -1), of(api.Cash, 2, 1, 1)), api.Ledger{}, api.ErrSum},
		{7, nil, api.Ledger{}, api.ErrZero},
	} {
		posted, e := Post(l, x.id, x.legs...)
		if !same(posted, x.posted) || e != x.e {
			t.Errorf("Post(%v, %d, %v) = %v, %d, not %v, %d", l, x.id, x.legs, posted, e, x.posted, x.e)
		}
	}
}

// TestPostNumbers is P10.2: a number is from 1 to 2^40 and greater than Last.
func TestPostNumbers(t *testing.T) {
	none := of(api.Bank, 0, 0, 0)
	for _, last := range []int{0, 1, 2, 7, 1<<32 + 1, 1<<40 - 1, 1 << 40, 1<<40 + 1, 1 << 50, most} {
		for _, id := range []int{least, -1 << 40, -1, 0, 1, 2, 3, 6, 7, 8, 1 << 32, 1<<32 + 1, 1<<32 + 2, 1<<40 - 1, 1 << 40, 1<<40 + 1, 1<<40 + 7, 1 << 50, most} {
			want, f := exactPost(with(last), id, legs(none))
			if posted, e := Post(with(last), id, none); !same(posted, want) || e != f {
				t.Errorf("Post after %d with %d = %v, %d, not %v, %d", last, id, posted, e, want, f)
			}
		}
	}
}

// TestPostErrorsInOrder is P10.2: of several errors, the one that is named
// first.
func TestPostErrorsInOrder(t *testing.T) {
	l := with(4, has(api.Bank, 0, 0, -bound), has(api.Cash, 1, 0, bound-3), has(api.Fund, 1, 0, 3))
	bad, odd := of(api.Bank, 1, 0, 1), of(api.Bank, 0, 0, 1)
	low := legs(of(api.Fund, 1, 0, -4), of(api.Loss, 0, 0, 4))
	big := legs(of(api.Bank, 0, 0, -1), of(api.Cash, 1, 0, 1))
	for _, x := range []struct {
		id   int
		legs []api.Leg
		e    api.Errno
	}{
		{0, nil, api.ErrArg},
		{-1, low, api.ErrArg},
		{1<<40 + 1, big, api.ErrArg},
		{0, legs(bad), api.ErrArg},
		{4, nil, api.ErrStale},
		{1, legs(bad), api.ErrStale},
		{3, slices.Repeat(legs(bad), 65), api.ErrStale},
		{4, legs(odd), api.ErrStale},
		{4, low, api.ErrStale},
		{4, big, api.ErrStale},
		{5, nil, api.ErrZero},
		{5, slices.Repeat(legs(bad), 65), api.ErrLong},
		{5, append(slices.Repeat(legs(of(api.Var, 0, 0, 0)), 63), big...), api.ErrLong},
		{5, append(slices.Repeat(legs(of(api.Var, 0, 0, 0)), 62), big...), api.ErrBig},
		{5, legs(bad, odd), api.ErrArg},
		{5, append(legs(bad), big...), api.ErrArg},
		{5, append(legs(bad), low...), api.ErrArg},
		{5, append(legs(odd), big...), api.ErrSum},
		{5, append(legs(odd), low...), api.ErrSum},
		{5, big, api.ErrBig},
		{5, low, api.ErrFloor},
		{5, slices.Concat(low, big), api.ErrBig},
		{5, slices.Concat(big, low), api.ErrBig},
		{5, legs(of(api.Fund, 1, 0, -4), of(api.Loss, 0, 0, bound), of(api.Loss, 0, 0, 4), of(api.Var, 0, 0, -bound)), api.ErrBig},
		{5, legs(of(api.Fund, 2, 0, -bound), of(api.Fund, 2, 0, -bound), of(api.Loss, 0, 0, bound), of(api.Var, 0, 0, bound)), api.ErrBig},
		{5, legs(of(api.Fund, 2, 0, -bound), of(api.Loss, 0, 0, bound)), api.ErrFloor},
	} {
		if posted, e := Post(l, x.id, x.legs...); !same(posted, api.Ledger{}) || e != x.e {
			t.Errorf("Post(.., %d, %v of %d) = %v, %d, not %d", x.id, x.legs[:min(len(x.legs), 4)], len(x.legs), posted, e, x.e)
		}
		for _, l := range wrong() {
			if posted, e := Post(l, x.id, x.legs...); !same(posted, api.Ledger{}) || e != api.ErrState {
				t.Errorf("Post(%v, %d, ..) = %v, %d", l, x.id, posted, e)
			}
		}
	}
}

// TestPostGreat is P10.2 and R5: legs of one account that are beyond money, or
// beyond int, among themselves do no harm where the balance after them is
// money; and one that is not money but for its upper bits is too great.
func TestPostGreat(t *testing.T) {
	for n := 1; n <= 31; n++ {
		up := slices.Repeat(legs(of(api.Cash, 7, 1, bound)), n)
		down := slices.Repeat(legs(of(api.Cash, 7, 1, -bound)), n)
		for _, l := range [][]api.Leg{slices.Concat(up, down), slices.Concat(down, up)} {
			if posted, e := Post(great(), 4, l...); !same(posted, with(4, great().Balances...)) || e != api.OK {
				t.Errorf("Post of %d times the bound, up and down = %v, %d", n, posted, e)
			}
		}
		back := slices.Repeat(legs(of(api.Bank, 0, 1, bound)), n)
		e, want := api.OK, with(4, slices.Delete(great().Balances, 0, 1)...)
		want.Balances = slices.Delete(want.Balances, 1, 2)
		switch {
		case n == 2:
			want = great()
			want.Last, want.Balances[0].Sum, want.Balances[2].Sum = 4, bound, -bound
		case n > 2:
			e, want = api.ErrBig, api.Ledger{}
		}
		if posted, f := Post(great(), 4, slices.Concat(back, down)...); !same(posted, want) || f != e {
			t.Errorf("Post of %d times the bound, back = %v, %d, not %v, %d", n, posted, f, want, e)
		}
	}
}

// TestPostEachAccount is P10.2: at each account, the balance that is found
// there is added to, the edges of the money and the floor are watched, and a
// balance of 0 is left out.
func TestPostEachAccount(t *testing.T) {
	all := whole()
	for i, a := range accts() {
		other := api.Acct{Kind: api.Loss, Cur: a.Cur}
		if a == other {
			other = api.Acct{Kind: api.Bank, Cur: a.Cur}
		}
		has := all.Balances[i].Sum
		for _, amount := range []int{1, -1, -has, -has - 1, 1 - has, bound - has, 1 - bound, -bound, 2 * -has} {
			for _, l := range [][]api.Leg{entry.Move(other, a, amount), entry.Move(a, other, -amount)} {
				want, f := exactPost(all, 9, l)
				if posted, e := Post(all, 9, l...); !same(posted, want) || e != f {
					t.Errorf("Post(.., %v) = %v, %d, not %v, %d", l, posted, e, want, f)
				}
			}
		}
		big := append(entry.Move(other, a, bound), entry.Move(other, a, bound)...)
		if posted, e := Post(all, 9, big...); !same(posted, api.Ledger{}) || e != api.ErrBig {
			t.Errorf("Post(.., %v) = %v, %d", big, posted, e)
		}
	}
}

// TestTotalByHand is P10.3.
func TestTotalByHand(t *testing.T) {
	l := with(0, has(api.Bank, 0, 0, -12), has(api.Bank, 0, 2, -7), has(api.Cash, 1, 0, 5), has(api.Cash, 2, 0, 4), has(api.Cash, 2, 2, -1), has(api.Fund, 1, 0, 3), has(api.Fund, 1, 2, 8))
	for _, x := range []struct {
		cur   int
		kinds []int
		n     int
	}{
		{0, nil, 0},
		{0, []int{}, 0},
		{0, []int{api.Bank}, -12},
		{0, []int{api.Cash}, 9},
		{0, []int{api.Fund}, 3},
		{0, []int{api.Skin, api.Var, api.Loss}, 0},
		{0, []int{api.Cash, api.Fund}, 12},
		{0, []int{api.Fund, api.Cash}, 12},
		{0, []int{api.Cash, api.Cash, api.Cash}, 9},
		{0, []int{api.Bank, api.Cash, api.Fund, api.Skin, api.Var, api.Loss}, 0},
		{1, []int{api.Bank, api.Cash, api.Fund}, 0},
		{2, []int{api.Bank}, -7},
		{2, []int{api.Cash}, -1},
		{2, []int{api.Fund, api.Cash}, 7},
		{3, []int{api.Bank, api.Cash}, 0},
		{-1, []int{api.Bank, api.Cash}, 0},
		{1 << 32, []int{api.Bank, api.Cash}, 0},
		{least, []int{api.Bank}, 0},
		{0, []int{0, 7, -1, 1 << 32, 1<<32 + 1, least, most}, 0},
		{0, []int{0, 7, api.Cash, -1}, 9},
	} {
		if n, e := Total(l, x.cur, x.kinds...); n != x.n || e != api.OK {
			t.Errorf("Total(.., %d, %v) = %d, %d, not %d", x.cur, x.kinds, n, e, x.n)
		}
	}
	if n, e := Total(l, 0, api.Cash, api.Fund); n != 12 || e != api.OK {
		t.Errorf("Total of two kinds = %d, %d", n, e)
	}
	if n, e := Total(l, 0, slices.Repeat([]int{api.Cash}, 1<<20)...); n != 9 || e != api.OK {
		t.Errorf("Total of a kind many times = %d, %d", n, e)
	}
}

// TestTotalErrors is P10.3: what is not right is refused ahead of all else, a
// sum beyond money then; what is beyond money on the way does no harm.
func TestTotalErrors(t *testing.T) {
	for _, l := range wrong() {
		for _, kinds := range [][]int{nil, {api.Cash}, {99}, {api.Bank, api.Cash, api.Fund, api.Skin, api.Var, api.Loss}} {
			for _, cur := range []int{-1, 0, 2, 3} {
				if n, e := Total(l, cur, kinds...); n != 0 || e != api.ErrState {
					t.Errorf("Total(%v, %d, %v) = %d, %d", l, cur, kinds, n, e)
				}
			}
		}
	}
	for set := range 1 << 6 {
		var kinds []int
		for k := range 6 {
			if set>>k&1 != 0 {
				kinds = append(kinds, k+1)
			}
		}
		for cur := range 3 {
			for _, l := range []api.Ledger{great(), whole()} {
				want, f := exactTotal(l, cur, kinds)
				if n, e := Total(l, cur, kinds...); n != want || e != f {
					t.Errorf("Total(.., %d, %v) = %d, %d, not %d, %d", cur, kinds, n, e, want, f)
				}
			}
		}
	}
	if n, e := Total(great(), 1, api.Skin, api.Fund); n != 0 || e != api.ErrBig {
		t.Errorf("Total of twice the bound = %d, %d", n, e)
	}
	if n, e := Total(great(), 1, api.Bank, api.Loss); n != 0 || e != api.ErrBig {
		t.Errorf("Total of minus twice the bound = %d, %d", n, e)
	}
}

// TestTotalGreat is P10.3 and R5: of any number of balances at the bound, each
// sum is exact, and one that is 0 but for its upper bits is too great.
func TestTotalGreat(t *testing.T) {
	for n := 1; n <= 16; n++ {
		var cash, fund []api.Balance
		for who := 1; who <= n; who++ {
			cash = append(cash, has(api.Cash, who, 2, -bound))
			fund = append(fund, has(api.Fund, who, 2, bound))
		}
		l := with(0, slices.Concat(cash, fund)...)
		for _, kinds := range [][]int{{api.Cash}, {api.Fund}, {api.Cash, api.Fund}} {
			want, f := exactTotal(l, 2, kinds)
			if got, e := Total(l, 2, kinds...); got != want || e != f {
				t.Errorf("Total of %d and %d times the bound, %v = %d, %d, not %d, %d", n, -n, kinds, got, e, want, f)
			}
		}
	}
}

// posting makes legs that may be posted, most of the time.
func posting(r *rand.Rand) []api.Leg {
	all := accts()
	few := 1 + r.IntN(len(all))
	var l []api.Leg
	for range 1 + r.IntN(8) {
		from, amount := all[r.IntN(few)], sums[r.IntN(len(sums))]
		to := all[r.IntN(len(all))]
		to.Cur = from.Cur
		if r.IntN(3) > 0 {
			amount = r.IntN(2000) - 1000
		}
		l = append(l, entry.Move(from, to, amount)...)
		if r.IntN(40) == 0 {
			l = append(l, of(r.IntN(8), r.IntN(18), r.IntN(4), r.IntN(3)-1))
		}
	}
	r.Shuffle(len(l), func(i, k int) { l[i], l[k] = l[k], l[i] })
	return l
}

// TestRows is P10.2 to P10.4: long rows of postings, against the document's
// words; what is refused leaves all as it was, and what is left is right.
func TestRows(t *testing.T) {
	r := rand.New(rand.NewPCG(10, 1))
	told := map[api.Errno]int{}
	for range 60 {
		var l api.Ledger
		for range 60 {
			id := l.Last + r.IntN(4) - 1 + r.IntN(2)
			moved := posting(r)
			want, f := exactPost(l, id, moved)
			posted, e := Post(l, id, moved...)
			if !same(posted, want) || e != f {
				t.Fatalf("Post(%v, %d, %v) = %v, %d, not %v, %d", l, id, moved, posted, e, want, f)
			}
			told[e]++
			if e == api.OK {
				l = posted
			}
			if !exactRight(l) || Check(l) != api.OK {
				t.Fatalf("the ledger %v is not right", l)
			}
			cur, kinds := r.IntN(4), []int{r.IntN(8), r.IntN(8), r.IntN(8)}
			sum, f := exactTotal(l, cur, kinds)
			if n, e := Total(l, cur, kinds...); n != sum || e != f {
				t.Errorf("Total(%v, %d, %v) = %d, %d, not %d, %d", l, cur, kinds, n, e, sum, f)
			}
		}
	}
	for _, e := range []api.Errno{api.OK, api.ErrArg, api.ErrStale, api.ErrSum, api.ErrBig, api.ErrFloor} {
		if told[e] < 20 {
			t.Errorf("the error %d came %d times", e, told[e])
		}
	}
}

// TestLedgersInSmall is P10.1: all ledgers of up to three balances out of some
// that stand at the edges, against the document's words.
func TestLedgersInSmall(t *testing.T) {
	var some []api.Balance
	for _, a := range []api.Acct{{Kind: api.Bank}, {Kind: api.Cash, Who: 1}, {Kind: api.Cash, Who: 1, Cur: 1}, {Kind: api.Cash, Who: 2}, {Kind: api.Fund, Who: 1}, {Kind: api.Skin}, {Kind: api.Loss, Cur: 1}, {Kind: api.Loss, Who: 1}} {
		for _, n := range []int{0, 1, -1, 2, -2, bound, -bound, bound + 1, -bound - 1} {
			some = append(some, api.Balance{Acct: a, Sum: n})
		}
	}
	right := 0
	check := func(b ...api.Balance) {
		e := api.ErrState
		if exactRight(with(0, b...)) {
			e = api.OK
			right++
		}
		if f := Check(with(0, b...)); f != e {
			t.Errorf("Check(%v) = %d, not %d", b, f, e)
		}
	}
	for _, a := range some {
		check(a)
		for _, b := range some {
			check(a, b)
			if a.Sum == 0 || b.Sum == 0 {
				continue
			}
			for _, c := range some {
				check(a, b, c)
			}
		}
	}
	if right < 20 {
		t.Errorf("%d ledgers are right", right)
	}
}

// TestNoNumberTwice is P10.4: after a posting neither its number nor one below
// it is posted, and the next one is.
func TestNoNumberTwice(t *testing.T) {
	move := entry.Move(api.Acct{Kind: api.Bank}, api.Acct{Kind: api.Cash, Who: 1}, 1)
	var l api.Ledger
	for _, id := range []int{1, 2, 5, 1 << 20, 1<<40 - 1, 1 << 40} {
		posted, e := Post(l, id, move...)
		if e != api.OK || posted.Last != id {
			t.Fatalf("Post with %d after %d = %v, %d", id, l.Last, posted, e)
		}
		for _, again := range []int{id, id - 1, l.Last, 1} {
			e := api.ErrStale
			if again < 1 {
				e = api.ErrArg
			}
			if _, f := Post(posted, again, move...); f != e {
				t.Errorf("Post with %d after %d = %d", again, id, f)
			}
		}
		l = posted
	}
	if n := Of(l, move[1].Acct); n != 6 {
		t.Errorf("after 6 postings there is %d", n)
	}
}

// TestReversal is P10.4: a posting and its reversal leave all balances as they
// were.
func TestReversal(t *testing.T) {
	r := rand.New(rand.NewPCG(10, 2))
	done := 0
	for _, l := range []api.Ledger{{}, great(), whole()} {
		for range 2000 {
			moved := posting(r)
			posted, e := Post(l, l.Last+1, moved...)
			if e != api.OK {
				continue
			}
			done++
			back, e := Post(posted, l.Last+2, entry.Turn(moved...)...)
			if !same(back, with(l.Last+2, l.Balances...)) || e != api.OK {
				t.Errorf("Post(%v, %v), and then turned = %v, %d", l, moved, back, e)
			}
		}
	}
	if done < 500 {
		t.Errorf("%d postings were made", done)
	}
}

// TestArgumentsStay is R2: neither a list nor what lies behind its end is
// changed, and what lies there does not count.
func TestArgumentsStay(t *testing.T) {
	balances := []api.Balance{has(api.Bank, 0, 0, -5), has(api.Cash, 1, 0, 5), has(api.Cash, 2, 0, 5), has(9, 9, 9, 9)}
	row := legs(of(api.Bank, 0, 0, -1), of(api.Cash, 3, 0, 1), of(api.Loss, 0, 0, 4), of(9, 9, 9, 9))
	kinds := []int{api.Cash, api.Bank, api.Loss}
	before, rowBefore, kindsBefore := slices.Clone(balances), slices.Clone(row), slices.Clone(kinds)
	l := with(1, balances[:2]...)
	if e := Check(l); e != api.OK {
		t.Errorf("Check(%v) = %d", l, e)
	}
	if n := Of(l, balances[2].Acct); n != 0 {
		t.Errorf("Of(%v) = %d", balances[2].Acct, n)
	}
	if n, e := Total(l, 0, kinds[:1]...); n != 5 || e != api.OK {
		t.Errorf("Total(%v) = %d, %d", l, n, e)
	}
	if posted, e := Post(l, 2, row[:2]...); !same(posted, with(2, has(api.Bank, 0, 0, -6), has(api.Cash, 1, 0, 5), has(api.Cash, 3, 0, 1))) || e != api.OK {
		t.Errorf("Post(%v, 2, %v) = %v, %d", l, row[:2], posted, e)
	}
	Post(l, 2, row[:3]...)
	Post(l, 2, row...)
	if !slices.Equal(balances, before) || !slices.Equal(row, rowBefore) || !slices.Equal(kinds, kindsBefore) || l.Last != 1 {
		t.Errorf("the arguments became %v, %v, %v", balances, row, kinds)
	}
}

// TestResultsAreNew is R2 and R3: what is written into a result, and into the
// memory behind it, is seen in no argument and in no other result.
func TestResultsAreNew(t *testing.T) {
	for _, l := range []api.Ledger{{}, with(1, has(api.Bank, 0, 0, -5), has(api.Cash, 1, 0, 5)), great(), whole()} {
		before := copied(l)
		for _, row := range [][]api.Leg{legs(of(api.Var, 0, 0, 0)), entry.Move(api.Acct{Kind: api.Bank}, api.Acct{Kind: api.Cash, Who: 1}, 5)} {
			rowBefore := slices.Clone(row)
			first, _ := Post(l, 4, row...)
			second, _ := Post(l, 4, row...)
			want := copied(second)
			whole := first.Balances[:cap(first.Balances)]
			for i := range whole {
				whole[i] = has(9, 9, 9, 9)
			}
			third, _ := Post(l, 4, row...)
			if !same(second, want) || !same(third, want) {
				t.Errorf("after a write into a result: %v, and then %v, not %v", second, third, want)
			}
			if !same(l, before) || !slices.Equal(row, rowBefore) {
				t.Errorf("the arguments became %v and %v", l, row)
			}
		}
	}
}
