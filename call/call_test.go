package call

import (
	"math"
	"math/rand/v2"
	"slices"
	"testing"

	"cambist/api"
)

const (
	bound = 1 << 62
	great = 1 << 40
	least = math.MinInt
	most  = math.MaxInt
)

// of tells a call.
func of(who, cur, amount, at int) api.Call { return api.Call{Due: due(who, cur, amount), At: at} }

// due tells a due.
func due(who, cur, amount int) api.Due { return api.Due{Who: who, Cur: cur, Amount: amount} }

// calls tells a list of calls.
func calls(l ...api.Call) []api.Call { return l }

// notWho, notCur, notMoney and notTick are numbers that may not be, one beyond
// an edge, further ones, and such that are right but for their upper bits.
var (
	notWho   = []int{0, 17, -1, 18, 1<<32 + 1, bound, most, least, least + 1}
	notCur   = []int{-1, 3, 4, 1 << 32, bound, most, least}
	notMoney = []int{-1, bound + 1, -5, -bound, -bound - 1, bound + 1<<61, most, least, least + 1}
	notTick  = []int{-1, great + 1, -great, great << 1, bound, most, least}
)

// amounts and ticks are those of a right call at which an answer may change.
var (
	amounts = []int{1, 2, 30, 50, 1 << 31, 1 << 32, bound / 2, bound - 1, bound}
	ticks   = []int{0, 1, 7, 9, 1 << 31, 1 << 32, great - 1, great}
)

// ends are numbers of all kinds, for lists in which any may be.
var ends = []int{0, 1, 2, 3, 7, -1, 16, 17, 1 << 32, 1<<32 + 1, great, great + 1, bound, bound + 1, most, most - 1, least, least + 1}

// fullCalls is one right call for each member and currency, all different.
func fullCalls() []api.Call {
	var all []api.Call
	for who := 1; who <= 16; who++ {
		for cur := range 3 {
			all = append(all, of(who, cur, 100*who+cur+1, 1000+10*who+cur))
		}
	}
	return all
}

// rightDue says it from the document's words: a Who and a Cur that are
// permitted in a right call, and an Amount that is money and not negative.
func rightDue(d api.Due) bool {
	return d.Who >= 1 && d.Who <= 16 && d.Cur >= 0 && d.Cur <= 2 && d.Amount >= 0 && d.Amount <= 4611686018427387904
}

// exactCheck is the first call of P18.1, word by word.
func exactCheck(l []api.Call) api.Errno {
	for at, c := range l {
		if !rightDue(c.Due) || c.Amount < 1 || c.At < 0 || c.At > 1099511627776 {
			return api.ErrState
		}
		for _, b := range l[:at] {
			if b.Who > c.Who || b.Who == c.Who && b.Cur >= c.Cur {
				return api.ErrState
			}
		}
	}
	return api.OK
}

// exactOf is the second call of P18.1.
func exactOf(who, cur int, l []api.Call) int {
	at := slices.IndexFunc(l, func(c api.Call) bool { return c.Who == who && c.Cur == cur })
	if at < 0 {
		return 0
	}
	return l[at].Amount
}

// lay lays all calls out anew, each as turn makes it of the one there is, or of
// one of the Amount 0, without those of which nothing is left.
func lay(l []api.Call, turn func(api.Call) api.Call) []api.Call {
	var all []api.Call
	for who := 1; who <= 16; who++ {
		for cur := range 3 {
			c := of(who, cur, 0, 0)
			for _, x := range l {
				if x.Who == who && x.Cur == cur {
					c = x
				}
			}
			if c = turn(c); c.Amount > 0 {
				all = append(all, c)
			}
		}
	}
	return all
}

// exactAsk is the first call of P18.2, word by word.
func exactAsk(l []api.Call, d api.Due, at int) ([]api.Call, api.Errno) {
	if exactCheck(l) != api.OK {
		return nil, api.ErrState
	}
	if !rightDue(d) || at < 0 || at > 1099511627776 {
		return nil, api.ErrArg
	}
	return lay(l, func(c api.Call) api.Call {
		if c.Who != d.Who || c.Cur != d.Cur {
			return c
		}
		if c.Amount == 0 {
			c.At = at
		}
		c.Amount = d.Amount
		return c
	}), api.OK
}

// exactMeet is the second call of P18.2, word by word.
func exactMeet(l []api.Call, d api.Due) ([]api.Call, api.Errno) {
	if exactCheck(l) != api.OK {
		return nil, api.ErrState
	}
	if !rightDue(d) {
		return nil, api.ErrArg
	}
	return lay(l, func(c api.Call) api.Call {
		if c.Who == d.Who && c.Cur == d.Cur {
			c.Amount -= d.Amount
		}
		return c
	}), api.OK
}

// holdCheck holds Check against the chapter's words.
func holdCheck(t *testing.T, l ...api.Call) api.Errno {
	t.Helper()
	before := slices.Clone(l)
	e := Check(l...)
	if want := exactCheck(l); e != want {
		t.Errorf("Check(%v) = %d, not %d", l, e, want)
	}
	if !slices.Equal(l, before) {
		t.Errorf("Check: %v became %v", before, l)
	}
	return e
}

// holdOf holds Of against the chapter's words.
func holdOf(t *testing.T, who, cur int, l ...api.Call) int {
	t.Helper()
	n := Of(who, cur, l...)
	if want := exactOf(who, cur, l); n != want {
		t.Errorf("Of(%d, %d, %v) = %d, not %d", who, cur, l, n, want)
	}
	return n
}

// holdAsk holds Ask against the chapter's words.
func holdAsk(t *testing.T, l []api.Call, d api.Due, at int) ([]api.Call, api.Errno) {
	t.Helper()
	before := slices.Clone(l)
	asked, e := Ask(l, d, at)
	if want, f := exactAsk(l, d, at); !slices.Equal(asked, want) || e != f {
		t.Errorf("Ask(%v, %v, %d) = %v, %d, not %v, %d", l, d, at, asked, e, want, f)
	}
	if !slices.Equal(l, before) {
		t.Errorf("Ask: %v became %v", before, l)
	}
	return asked, e
}

// holdMeet holds Meet against the chapter's words.
func holdMeet(t *testing.T, l []api.Call, d api.Due) ([]api.Call, api.Errno) {
	t.Helper()
	before := slices.Clone(l)
	met, e := Meet(l, d)
	if want, f := exactMeet(l, d); !slices.Equal(met, want) || e != f {
		t.Errorf("Meet(%v, %v) = %v, %d, not %v, %d", l, d, met, e, want, f)
	}
	if !slices.Equal(l, before) {
		t.Errorf("Meet: %v became %v", before, l)
	}
	return met, e
}

// holdLate holds Late against the chapter's words.
func holdLate(t *testing.T, now int, l ...api.Call) (late, left []api.Call) {
	t.Helper()
	before := slices.Clone(l)
	late, left = Late(now, l...)
	wantLate := slices.DeleteFunc(slices.Clone(l), func(c api.Call) bool { return c.At > now })
	wantLeft := slices.DeleteFunc(slices.Clone(l), func(c api.Call) bool { return c.At <= now })
	if !slices.Equal(late, wantLate) || !slices.Equal(left, wantLeft) {
		t.Errorf("Late(%d, %v) = %v, %v, not %v, %v", now, l, late, left, wantLate, wantLeft)
	}
	if !slices.Equal(l, before) {
		t.Errorf("Late: %v became %v", before, l)
	}
	return late, left
}

// holdWithout holds Without against the chapter's words.
func holdWithout(t *testing.T, l []api.Call, whos ...int) []api.Call {
	t.Helper()
	before, whosBefore := slices.Clone(l), slices.Clone(whos)
	left := Without(l, whos...)
	want := slices.Clone(l)
	for _, who := range whos {
		want = slices.DeleteFunc(want, func(c api.Call) bool { return c.Who == who })
	}
	if !slices.Equal(left, want) {
		t.Errorf("Without(%v, %v) = %v, not %v", l, whos, left, want)
	}
	if !slices.Equal(l, before) || !slices.Equal(whos, whosBefore) {
		t.Errorf("Without: %v became %v, %v became %v", before, l, whosBefore, whos)
	}
	return left
}

// TestCheckRight is P18.1: right calls, each of their numbers at both ends.
func TestCheckRight(t *testing.T) {
	for _, l := range [][]api.Call{
		nil,
		{},
		{of(1, 0, 1, 0)},
		{of(16, 2, bound, great)},
		{of(1, 2, bound, 0)},
		{of(16, 0, 1, great)},
		{of(1, 0, 9, 5), of(1, 1, 9, 5)},
		{of(1, 2, 9, 5), of(2, 0, 9, 5)},
		{of(1, 0, 9, 5), of(16, 0, 9, 5)},
		{of(9, 0, 9, 5), of(10, 0, 9, 5)},
		{of(1, 0, 50, 7), of(1, 2, 1, great), of(3, 0, bound, 0)},
		fullCalls(),
	} {
		if e := holdCheck(t, l...); e != api.OK {
			t.Errorf("Check(%v) = %d", l, e)
		}
	}
	if e := Check(of(1, 0, 1, 0), of(1, 1, 1, 0)); e != api.OK {
		t.Errorf("Check of two calls = %d", e)
	}
}

// wrongs are calls in each of which one number may not be.
func wrongs() []api.Call {
	var all []api.Call
	for _, who := range notWho {
		all = append(all, of(who, 1, 5, 7))
	}
	for _, cur := range notCur {
		all = append(all, of(4, cur, 5, 7))
	}
	for _, amount := range append(notMoney, 0) {
		all = append(all, of(4, 1, amount, 7))
	}
	for _, at := range notTick {
		all = append(all, of(4, 1, 5, at))
	}
	return all
}

// TestCheckWrong is P18.1: each number that may not be, in a call alone and at
// each place of a list.
func TestCheckWrong(t *testing.T) {
	for _, c := range wrongs() {
		if e := holdCheck(t, c); e != api.ErrState {
			t.Errorf("Check(%v) = %d", c, e)
		}
		for at := range fullCalls() {
			l := fullCalls()
			l[at] = c
			if e := holdCheck(t, l...); e != api.ErrState {
				t.Errorf("Check with %v at %d = %d", c, at, e)
			}
		}
	}
	for at := range fullCalls() {
		for _, spoil := range []func(*api.Call){
			func(c *api.Call) { c.Amount = 0 },
			func(c *api.Call) { c.Amount = -1 },
			func(c *api.Call) { c.Amount = bound + 1 },
			func(c *api.Call) { c.At = -1 },
			func(c *api.Call) { c.At = great + 1 },
		} {
			l := fullCalls()
			spoil(&l[at])
			if e := holdCheck(t, l...); e != api.ErrState {
				t.Errorf("Check(%v) = %d", l, e)
			}
		}
	}
}

// TestCheckEdges is P18.1: all numbers at and around their edges together.
func TestCheckEdges(t *testing.T) {
	right := 0
	for _, who := range []int{0, 1, 2, 15, 16, 17, least, most} {
		for _, cur := range []int{-1, 0, 1, 2, 3, least, most} {
			for _, amount := range []int{-1, 0, 1, 2, bound - 1, bound, bound + 1, least, most} {
				for _, at := range []int{-1, 0, 1, great - 1, great, great + 1, least, most} {
					if holdCheck(t, of(who, cur, amount, at)) == api.OK {
						right++
					}
				}
			}
		}
	}
	if right != 4*3*4*4 {
		t.Errorf("%d of them were right", right)
	}
}

// TestCheckOrder is P18.1: the calls rise by Who and then by Cur, whatever
// their Amounts and ticks, and none is there twice.
func TestCheckOrder(t *testing.T) {
	all := fullCalls()
	for i, a := range all {
		for k, b := range all {
			want := api.ErrState
			if i < k {
				want = api.OK
			}
			if e := holdCheck(t, a, b); e != want {
				t.Errorf("Check(%v, %v) = %d, not %d", a, b, e, want)
			}
			swapped := fullCalls()
			swapped[i], swapped[k] = b, a
			if e := holdCheck(t, swapped...); (e == api.OK) != (i == k) {
				t.Errorf("Check with %d and %d swapped = %d", i, k, e)
			}
		}
		twice := slices.Insert(fullCalls(), i, a)
		if e := holdCheck(t, twice...); e != api.ErrState {
			t.Errorf("Check with %v twice = %d", a, e)
		}
		twice[i].Amount, twice[i].At = 7, 8
		if e := holdCheck(t, twice...); e != api.ErrState {
			t.Errorf("Check with two of %v = %d", a, e)
		}
	}
}

// TestOf is P18.1: the first call with this Who and Cur of any list, and 0 if
// there is none.
func TestOf(t *testing.T) {
	l := calls(of(3, 1, 5, 7), of(9, 9, -5, 0), of(1, 0, 8, 7), of(1, 0, 9, 7), of(9, 9, 1, 0), of(1, 2, 0, -4), of(1, 2, 6, 1), of(least, most, bound+1, 0))
	for _, x := range []struct{ who, cur, n int }{
		{3, 1, 5}, {9, 9, -5}, {1, 0, 8}, {1, 2, 0}, {least, most, bound + 1},
		{3, 0, 0}, {1, 1, 0}, {2, 0, 0}, {9, 1, 0}, {0, 1, 0}, {1, 3, 0}, {0, 0, 0}, {most, least, 0}, {1 + 1<<32, 0, 0}, {1, 1 << 32, 0},
	} {
		if n := holdOf(t, x.who, x.cur, l...); n != x.n {
			t.Errorf("Of(%d, %d) = %d, not %d", x.who, x.cur, n, x.n)
		}
		if n := Of(x.who, x.cur); n != 0 {
			t.Errorf("Of(%d, %d) of nothing = %d", x.who, x.cur, n)
		}
	}
	for _, c := range fullCalls() {
		if n := holdOf(t, c.Who, c.Cur, fullCalls()...); n != c.Amount {
			t.Errorf("Of(%d, %d) = %d", c.Who, c.Cur, n)
		}
	}
	for _, who := range ends {
		for _, cur := range ends {
			if n := holdOf(t, who, cur, of(who, cur, most, 0), of(who, cur, 1, 0)); n != most {
				t.Errorf("Of(%d, %d) = %d", who, cur, n)
			}
		}
	}
}

// TestExample is the document's example: a call that is asked for twice, and
// met in two parts.
func TestExample(t *testing.T) {
	l, e := Ask(nil, due(1, 0, 50), 7)
	if !slices.Equal(l, calls(of(1, 0, 50, 7))) || e != api.OK {
		t.Fatalf("asked for 50: %v, %d", l, e)
	}
	l, e = Ask(l, due(1, 0, 80), 9)
	if !slices.Equal(l, calls(of(1, 0, 80, 7))) || e != api.OK {
		t.Fatalf("asked for 80: %v, %d", l, e)
	}
	l, e = Meet(l, due(1, 0, 30))
	if !slices.Equal(l, calls(of(1, 0, 50, 7))) || e != api.OK {
		t.Fatalf("met by 30: %v, %d", l, e)
	}
	l, e = Meet(l, due(1, 0, 50))
	if len(l) != 0 || e != api.OK {
		t.Fatalf("met by 50: %v, %d", l, e)
	}
}

// TestAskByHand is P18.2: calls that are changed, added and taken out, at each
// end of a list, and what is asked at the ends of its numbers.
func TestAskByHand(t *testing.T) {
	l := calls(of(1, 0, 50, 7), of(1, 2, 1, great), of(3, 0, bound, 0))
	for _, x := range []struct {
		l     []api.Call
		d     api.Due
		at    int
		asked []api.Call
	}{
		{nil, due(1, 0, 50), 7, calls(of(1, 0, 50, 7))},
		{nil, due(1, 0, 0), 7, nil},
		{calls(), due(16, 2, bound), great, calls(of(16, 2, bound, great))},
		{l, due(1, 0, 80), 9, calls(of(1, 0, 80, 7), l[1], l[2])},
		{l, due(1, 0, 20), 3, calls(of(1, 0, 20, 7), l[1], l[2])},
		{l, due(1, 0, 50), 9, l},
		{l, due(1, 0, 1), 0, calls(of(1, 0, 1, 7), l[1], l[2])},
		{l, due(1, 0, bound), great, calls(of(1, 0, bound, 7), l[1], l[2])},
		{l, due(1, 2, 6), 0, calls(l[0], of(1, 2, 6, great), l[2])},
		{l, due(3, 0, 6), 4, calls(l[0], l[1], of(3, 0, 6, 0))},
		{l, due(1, 0, 0), 9, l[1:]},
		{l, due(1, 2, 0), 9, calls(l[0], l[2])},
		{l, due(3, 0, 0), 9, l[:2]},
		{l[:1], due(1, 0, 0), 9, nil},
		{l, due(2, 0, 0), 0, l},
		{l, due(1, 1, 0), great, l},
		{l, due(1, 1, 5), 9, calls(l[0], of(1, 1, 5, 9), l[1], l[2])},
		{l, due(2, 1, 5), 0, calls(l[0], l[1], of(2, 1, 5, 0), l[2])},
		{l, due(3, 1, 5), great, append(slices.Clone(l), of(3, 1, 5, great))},
		{l, due(16, 2, bound), 0, append(slices.Clone(l), of(16, 2, bound, 0))},
		{l[1:], due(1, 0, 5), 8, calls(of(1, 0, 5, 8), l[1], l[2])},
		{calls(of(10, 0, 1, 1)), due(9, 2, 1), 1, calls(of(9, 2, 1, 1), of(10, 0, 1, 1))},
	} {
		if asked, e := holdAsk(t, x.l, x.d, x.at); !slices.Equal(asked, x.asked) || e != api.OK {
			t.Errorf("Ask(%v, %v, %d) = %v, %d, not %v", x.l, x.d, x.at, asked, e, x.asked)
		}
	}
}

// TestMeetByHand is P18.2: calls that are met in part, in whole and by more
// than is asked for, and dues of which there is no call.
func TestMeetByHand(t *testing.T) {
	l := calls(of(1, 0, 50, 7), of(1, 2, 1, great), of(3, 0, bound, 0))
	for _, x := range []struct {
		l   []api.Call
		d   api.Due
		met []api.Call
	}{
		{nil, due(1, 0, 5), nil},
		{calls(), due(16, 2, bound), nil},
		{l, due(1, 0, 30), calls(of(1, 0, 20, 7), l[1], l[2])},
		{l, due(1, 0, 1), calls(of(1, 0, 49, 7), l[1], l[2])},
		{l, due(1, 0, 49), calls(of(1, 0, 1, 7), l[1], l[2])},
		{l, due(1, 0, 50), l[1:]},
		{l, due(1, 0, 51), l[1:]},
		{l, due(1, 0, bound), l[1:]},
		{l, due(1, 0, 0), l},
		{l, due(1, 2, 1), calls(l[0], l[2])},
		{l, due(1, 2, bound), calls(l[0], l[2])},
		{l, due(3, 0, 1), calls(l[0], l[1], of(3, 0, bound-1, 0))},
		{l, due(3, 0, bound-1), calls(l[0], l[1], of(3, 0, 1, 0))},
		{l, due(3, 0, bound), l[:2]},
		{l[:1], due(1, 0, 50), nil},
		{l, due(5, 0, 9), l},
		{l, due(1, 1, 9), l},
		{l, due(3, 2, bound), l},
		{l, due(16, 2, 0), l},
	} {
		if met, e := holdMeet(t, x.l, x.d); !slices.Equal(met, x.met) || e != api.OK {
			t.Errorf("Meet(%v, %v) = %v, %d, not %v", x.l, x.d, met, e, x.met)
		}
	}
}

// TestEach is P18.2: each Who and Cur, in lists that have all of them, every
// second one, and all but one.
func TestEach(t *testing.T) {
	all := fullCalls()
	var even []api.Call
	for i := 0; i < len(all); i += 2 {
		even = append(even, all[i])
	}
	for i, c := range all {
		for _, l := range [][]api.Call{nil, all, even, slices.Delete(fullCalls(), i, i+1), all[i : i+1], all[:i], all[i+1:]} {
			for _, amount := range []int{0, 1, c.Amount - 1, c.Amount, c.Amount + 1, bound} {
				holdMeet(t, l, due(c.Who, c.Cur, amount))
				for _, at := range []int{0, c.At - 1, c.At, c.At + 1, great} {
					holdAsk(t, l, due(c.Who, c.Cur, amount), at)
				}
			}
		}
	}
}

// wrongDues are dues in each of which one number may not be.
func wrongDues() []api.Due {
	var all []api.Due
	for _, who := range notWho {
		all = append(all, due(who, 0, 5))
	}
	for _, cur := range notCur {
		all = append(all, due(1, cur, 5))
	}
	for _, amount := range notMoney {
		all = append(all, due(1, 0, amount))
	}
	return all
}

// TestArg is P18.2: each number of a due and each tick that may not be, also
// where there would be no call afterwards, or none to be met.
func TestArg(t *testing.T) {
	lists := [][]api.Call{nil, {of(1, 0, 5, 7)}, {of(1, 2, 5, 7), of(2, 0, 5, 7)}, fullCalls()}
	for _, l := range lists {
		for _, d := range wrongDues() {
			for _, at := range []int{0, 7, great, -1} {
				if asked, e := holdAsk(t, l, d, at); len(asked) != 0 || e != api.ErrArg {
					t.Errorf("Ask(%v, %v, %d) = %v, %d", l, d, at, asked, e)
				}
			}
			if met, e := holdMeet(t, l, d); len(met) != 0 || e != api.ErrArg {
				t.Errorf("Meet(%v, %v) = %v, %d", l, d, met, e)
			}
		}
		for _, at := range notTick {
			for _, d := range []api.Due{due(1, 0, 5), due(1, 0, 0), due(9, 1, 5), due(9, 1, 0), due(1, 0, bound)} {
				if asked, e := holdAsk(t, l, d, at); len(asked) != 0 || e != api.ErrArg {
					t.Errorf("Ask(%v, %v, %d) = %v, %d", l, d, at, asked, e)
				}
			}
		}
		for _, who := range notWho {
			for _, cur := range []int{0, 2, 3, -1} {
				holdAsk(t, l, due(who, cur, 0), 7)
				holdMeet(t, l, due(who, cur, 0))
			}
		}
	}
}

// TestErrorsInOrder is P18.2 and R4: calls that are not right go before numbers
// that may not be.
func TestErrorsInOrder(t *testing.T) {
	var lists [][]api.Call
	for _, c := range wrongs() {
		lists = append(lists, calls(c), calls(of(1, 0, 5, 7), c), calls(c, of(16, 2, 5, 7)))
	}
	lists = append(lists,
		calls(of(1, 0, 5, 7), of(1, 0, 5, 7)),
		calls(of(1, 1, 5, 7), of(1, 0, 5, 7)),
		calls(of(2, 0, 5, 7), of(1, 1, 5, 7)),
		append(fullCalls(), of(1, 0, 5, 7)))
	dues := append(wrongDues(), due(1, 0, 5), due(1, 0, 0), due(16, 2, 5), due(4, 1, 5))
	for _, l := range lists {
		for _, d := range dues {
			for _, at := range []int{7, -1, great + 1} {
				if asked, e := holdAsk(t, l, d, at); len(asked) != 0 || e != api.ErrState {
					t.Errorf("Ask(%v, %v, %d) = %v, %d", l, d, at, asked, e)
				}
			}
			if met, e := holdMeet(t, l, d); len(met) != 0 || e != api.ErrState {
				t.Errorf("Meet(%v, %v) = %v, %d", l, d, met, e)
			}
		}
	}
}

// TestLateByHand is P18.3: calls at, before and behind the tick, in order, of
// any list.
func TestLateByHand(t *testing.T) {
	l := calls(of(9, 9, 1, 5), of(1, 0, -4, 7), of(1, 0, 50, 6), of(2, 0, 3, -1), of(1, 0, 0, 7))
	for _, x := range []struct {
		now        int
		late, left []api.Call
	}{
		{4, l[3:4], calls(l[0], l[1], l[2], l[4])},
		{5, calls(l[0], l[3]), calls(l[1], l[2], l[4])},
		{6, calls(l[0], l[2], l[3]), calls(l[1], l[4])},
		{7, l, nil},
		{most, l, nil},
		{0, l[3:4], calls(l[0], l[1], l[2], l[4])},
		{-1, l[3:4], calls(l[0], l[1], l[2], l[4])},
		{-2, nil, l},
		{least, nil, l},
	} {
		if late, left := holdLate(t, x.now, l...); !slices.Equal(late, x.late) || !slices.Equal(left, x.left) {
			t.Errorf("Late(%d) = %v, %v, not %v, %v", x.now, late, left, x.late, x.left)
		}
		if late, left := Late(x.now); len(late)+len(left) != 0 {
			t.Errorf("Late(%d) of nothing = %v, %v", x.now, late, left)
		}
	}
}

// TestLateEdges is P18.3: each tick against each, over the whole of int.
func TestLateEdges(t *testing.T) {
	for _, now := range ends {
		for _, at := range ends {
			late, left := holdLate(t, now, of(1, 0, 5, at))
			if (len(late) == 1) != (at <= now) || len(late)+len(left) != 1 {
				t.Errorf("Late(%d) of one till %d = %v, %v", now, at, late, left)
			}
		}
		var all []api.Call
		for i, at := range ends {
			all = append(all, of(-i, ends[len(ends)-1-i], at, at))
		}
		holdLate(t, now, all...)
	}
}

// TestWithoutByHand is P18.3: calls of some, of all and of nobody, in order, of
// any list.
func TestWithoutByHand(t *testing.T) {
	l := calls(of(9, 9, 1, 5), of(1, 0, -4, 7), of(1, 0, 50, 6), of(2, 0, 3, -1), of(least, 1, 0, 0), of(1, 2, 8, 8))
	for _, x := range []struct {
		whos []int
		left []api.Call
	}{
		{nil, l},
		{[]int{}, l},
		{[]int{3}, l},
		{[]int{0, -1, 17, most, 1 + 1<<32}, l},
		{[]int{1}, calls(l[0], l[3], l[4])},
		{[]int{1, 9, 1}, l[3:5]},
		{[]int{9, 1}, l[3:5]},
		{[]int{2}, calls(l[0], l[1], l[2], l[4], l[5])},
		{[]int{least}, calls(l[0], l[1], l[2], l[3], l[5])},
		{[]int{least, 9, 3, 2}, calls(l[1], l[2], l[5])},
		{[]int{1, 2, 9, least}, nil},
	} {
		if left := holdWithout(t, l, x.whos...); !slices.Equal(left, x.left) {
			t.Errorf("Without(%v) = %v, not %v", x.whos, left, x.left)
		}
		if left := Without(nil, x.whos...); len(left) != 0 {
			t.Errorf("Without(%v) of nothing = %v", x.whos, left)
		}
	}
	for _, who := range ends {
		for _, other := range ends {
			left := holdWithout(t, calls(of(who, 0, 5, 5)), other)
			if (len(left) == 0) != (who == other) {
				t.Errorf("Without(%d) of one of %d = %v", other, who, left)
			}
		}
	}
}

// pick takes one of a list.
func pick(g *rand.Rand, l []int) int { return l[g.IntN(len(l))] }

// TestAnyLists is P18.1 to P18.3: lists of any numbers, with one call often
// there more than once.
func TestAnyLists(t *testing.T) {
	g := rand.New(rand.NewPCG(18, 1))
	for range 20000 {
		l := make([]api.Call, g.IntN(8))
		for i := range l {
			l[i] = of(pick(g, ends), pick(g, ends), pick(g, ends), pick(g, ends))
			if i > 0 && g.IntN(2) == 0 {
				other := l[g.IntN(i)]
				l[i].Who, l[i].Cur = other.Who, other.Cur
			}
		}
		whos := make([]int, g.IntN(4))
		for i := range whos {
			whos[i] = pick(g, ends)
		}
		holdCheck(t, l...)
		holdOf(t, pick(g, ends), pick(g, ends), l...)
		holdLate(t, pick(g, ends), l...)
		holdWithout(t, l, whos...)
		holdAsk(t, l, due(pick(g, ends), pick(g, ends), pick(g, ends)), pick(g, ends))
		holdMeet(t, l, due(pick(g, ends), pick(g, ends), pick(g, ends)))
	}
}

// step does one thing of those that are done with right calls, now and then
// with numbers that may not be, and answers what came of it.
func step(t *testing.T, g *rand.Rand, l []api.Call, seen map[api.Errno]int) []api.Call {
	t.Helper()
	d, at := due(1+g.IntN(5), g.IntN(3), pick(g, amounts)), pick(g, ticks)
	if g.IntN(8) == 0 {
		d = due(1+g.IntN(16), g.IntN(3), 0)
	}
	switch g.IntN(40) {
	case 0:
		d.Who = pick(g, notWho)
	case 1:
		d.Cur = pick(g, notCur)
	case 2:
		d.Amount = pick(g, notMoney)
	case 3:
		at = pick(g, notTick)
	}
	var next []api.Call
	var e api.Errno
	switch g.IntN(20) {
	case 0:
		_, next = holdLate(t, pick(g, ticks), l...)
	case 1:
		next = holdWithout(t, l, 1+g.IntN(5), 16)
	case 2, 3, 4, 5, 6, 7, 8, 9:
		if n := exactOf(d.Who, d.Cur, l); n > 0 && g.IntN(2) == 0 {
			d.Amount = 1 + g.IntN(n)
		}
		next, e = holdMeet(t, l, d)
	default:
		next, e = holdAsk(t, l, d, at)
	}
	seen[e]++
	if e != api.OK {
		return l
	}
	return next
}

// TestStaysRight is P18.2 and P18.4: long rows of changes, each held against
// the words, and the calls are right after each of them.
func TestStaysRight(t *testing.T) {
	g := rand.New(rand.NewPCG(18, 2))
	seen := map[api.Errno]int{}
	longest, emptied := 0, 0
	for range 200 {
		var l []api.Call
		for range 200 {
			before := len(l)
			l = step(t, g, l, seen)
			if e := holdCheck(t, l...); e != api.OK {
				t.Fatalf("%v: %d", l, e)
			}
			longest = max(longest, len(l))
			if before > 0 && len(l) == 0 {
				emptied++
			}
		}
	}
	if seen[api.OK] < 10000 || seen[api.ErrArg] < 1000 || longest < 10 || emptied < 20 {
		t.Errorf("the answers were %v, at most %d calls, %d times none", seen, longest, emptied)
	}
}

// TestPartsOfRightCalls is P18.4: late and left calls, and those without some,
// are right too.
func TestPartsOfRightCalls(t *testing.T) {
	l := fullCalls()
	for now := 1000; now <= 1180; now++ {
		late, left := holdLate(t, now, l...)
		if holdCheck(t, late...) != api.OK || holdCheck(t, left...) != api.OK || len(late)+len(left) != len(l) {
			t.Errorf("Late(%d) = %v, %v", now, late, left)
		}
	}
	for a := 0; a <= 17; a++ {
		for b := a; b <= 17; b++ {
			if e := holdCheck(t, holdWithout(t, l, a, b)...); e != api.OK {
				t.Errorf("without %d and %d: %d", a, b, e)
			}
		}
	}
}

// TestDeadlineStays is P18.4: however often a call is asked for and met in
// part, its tick is the first one; after it was met in whole, or asked for with
// 0, the next one has a tick of its own.
func TestDeadlineStays(t *testing.T) {
	g := rand.New(rand.NewPCG(18, 3))
	for _, first := range ticks {
		l, _ := Ask(calls(of(2, 1, 9, 4)), due(2, 2, 1000), first)
		for range 50 {
			if g.IntN(2) == 0 {
				l, _ = holdAsk(t, l, due(2, 2, 1000+g.IntN(1000)), pick(g, ticks))
			} else {
				l, _ = holdMeet(t, l, due(2, 2, g.IntN(Of(2, 2, l...))))
			}
			if len(l) != 2 || l[1].At != first || l[0] != of(2, 1, 9, 4) {
				t.Fatalf("%v, and the first tick was %d", l, first)
			}
		}
		for _, second := range ticks {
			met, _ := holdMeet(t, l, due(2, 2, Of(2, 2, l...)))
			off, _ := holdAsk(t, l, due(2, 2, 0), first)
			for _, none := range [][]api.Call{met, off} {
				if anew, e := holdAsk(t, none, due(2, 2, 8), second); !slices.Equal(anew, calls(of(2, 1, 9, 4), of(2, 2, 8, second))) || e != api.OK {
					t.Errorf("asked for anew: %v, %d", anew, e)
				}
			}
		}
	}
}

// TestInParts is P18.4: a member that delivers the whole amount in parts has no
// call any more, has one till the last part, and other calls stay.
func TestInParts(t *testing.T) {
	g := rand.New(rand.NewPCG(18, 4))
	others := calls(of(3, 0, 7, 1), of(3, 2, 8, 2), of(4, 1, 9, 3))
	for range 500 {
		whole := pick(g, amounts)
		l, _ := Ask(others, due(3, 1, whole), 5)
		for left := whole; left > 0; {
			part := 1 + g.IntN(left)
			left -= part
			l, _ = holdMeet(t, l, due(3, 1, part))
			if n := Of(3, 1, l...); n != left {
				t.Fatalf("%d are asked for, not %d", n, left)
			}
		}
		if !slices.Equal(l, others) {
			t.Fatalf("after all of %d: %v", whole, l)
		}
	}
}

// TestLateLater is P18.4: a call that is late at a tick is late at each later
// one, and none is late before its tick.
func TestLateLater(t *testing.T) {
	l := fullCalls()
	var before []api.Call
	for now := 1000; now <= 1180; now++ {
		late, left := holdLate(t, now, l...)
		for _, c := range before {
			if !slices.Contains(late, c) {
				t.Errorf("%v is not late any more at %d", c, now)
			}
		}
		for _, c := range l {
			if slices.Contains(late, c) != (c.At <= now) || slices.Contains(left, c) != (c.At > now) {
				t.Errorf("at %d late are %v, left %v", now, late, left)
			}
		}
		before = late
	}
	if len(before) != len(l) {
		t.Errorf("at last %v were late", before)
	}
}

// TestArgumentsStay is R2: neither a list nor what lies behind its end is
// changed, and what lies there does not count.
func TestArgumentsStay(t *testing.T) {
	row := calls(of(1, 0, 50, 7), of(1, 2, 6, 9), of(2, 0, 3, 7), of(2, 1, 4, 7), of(0, 9, -1, -1))
	before := slices.Clone(row)
	l := row[:2]
	if e := holdCheck(t, l...); e != api.OK {
		t.Errorf("Check = %d", e)
	}
	if n := holdOf(t, 2, 0, l...); n != 0 {
		t.Errorf("Of = %d", n)
	}
	for _, d := range []api.Due{due(1, 0, 5), due(1, 1, 5), due(2, 0, 5), due(2, 1, 5), due(1, 2, 0), due(1, 0, 50), due(16, 2, 5), due(0, 0, 5)} {
		holdAsk(t, l, d, 8)
		holdMeet(t, l, d)
		holdAsk(t, row[:0], d, 8)
		holdMeet(t, row[:0], d)
	}
	if late, left := holdLate(t, 7, l...); !slices.Equal(late, l[:1]) || !slices.Equal(left, l[1:]) {
		t.Errorf("Late = %v, %v", late, left)
	}
	whos := []int{2, 1, 3}
	if left := holdWithout(t, l, whos[:1]...); !slices.Equal(left, l) || !slices.Equal(whos, []int{2, 1, 3}) {
		t.Errorf("Without = %v, of %v", left, whos)
	}
	if !slices.Equal(row, before) {
		t.Errorf("the arguments became %v", row)
	}
}

// spoil writes into a list, and behind its end, where it sees that nothing was.
func spoil(t *testing.T, l []api.Call) {
	t.Helper()
	for _, x := range l[len(l):cap(l)] {
		if x != (api.Call{}) {
			t.Errorf("behind the end there is %v", x)
		}
	}
	l = l[:cap(l)]
	for i := range l {
		l[i] = of(9, 9, 9, 9)
	}
}

// answers are lists that the calls tell of l.
func answers(l []api.Call) [][]api.Call {
	asked, _ := Ask(l, due(1, 0, 5), 3)
	same, _ := Ask(l, due(9, 0, 0), 3)
	added, _ := Ask(l, due(16, 2, 5), 3)
	met, _ := Meet(l, due(1, 0, 5))
	none, _ := Meet(l, due(9, 0, 5))
	late, left := Late(7, l...)
	never, all := Late(-1, l...)
	ever, nothing := Late(great, l...)
	return [][]api.Call{asked, same, added, met, none, late, left, never, all, ever, nothing, Without(l), Without(l, 1), Without(l, 2, 3)}
}

// TestResultsAreNew is R2 and R3: what is written into a result, and into the
// memory behind it, is seen in no argument and in no other result.
func TestResultsAreNew(t *testing.T) {
	for _, right := range [][]api.Call{
		nil,
		{of(1, 0, 5, 7)},
		{of(1, 0, 6, 7), of(2, 1, 5, 8)},
		{of(1, 0, 50, 7), of(1, 2, 6, 9), of(2, 0, 3, 7), of(2, 1, 4, 8), of(3, 1, 4, 1)},
		fullCalls(),
	} {
		l := append(make([]api.Call, 0, 60), right...)
		want := answers(slices.Clone(right))
		got := answers(l)
		for i := range got {
			if !slices.Equal(got[i], want[i]) {
				t.Errorf("answer %d is %v, not %v", i, got[i], want[i])
			}
			spoil(t, got[i])
		}
		if !slices.Equal(l, right) {
			t.Errorf("after a write into a result the argument became %v", l)
		}
		got = answers(l)
		spoil(t, l)
		for i := range got {
			if !slices.Equal(got[i], want[i]) {
				t.Errorf("after a write into an argument answer %d is %v, not %v", i, got[i], want[i])
			}
		}
	}
}

// TestNothingIsKept is R3: a call answers the same whatever was asked between.
func TestNothingIsKept(t *testing.T) {
	l := calls(of(1, 0, 50, 7), of(2, 1, 5, 8))
	before := answers(l)
	holdAsk(t, nil, due(1, 0, 99), 3)
	holdAsk(t, l, due(1, 0, 80), 9)
	holdMeet(t, l, due(1, 0, 50))
	holdMeet(t, l, due(1, 0, -1))
	l[0].Amount, l[0].At = 51, 8
	if asked, e := holdAsk(t, l, due(1, 0, 6), 3); !slices.Equal(asked, calls(of(1, 0, 6, 8), l[1])) || e != api.OK {
		t.Errorf("Ask of other calls = %v, %d", asked, e)
	}
	l[0].Amount, l[0].At = 50, 7
	for i, a := range answers(l) {
		if !slices.Equal(a, before[i]) {
			t.Errorf("answer %d is %v, and before it was %v", i, a, before[i])
		}
	}
}
