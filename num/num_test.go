package num

import (
	"math"
	"math/big"
	"slices"
	"testing"

	"cambist/api"
)

const bound = api.Bound

// edges are the numbers at which an answer may change: around 0, around the
// bound, around the halves and the roots of the bound, and the ends of int.
func edges() []int {
	l := []int{math.MinInt, math.MinInt + 1, math.MaxInt - 1, math.MaxInt}
	for _, n := range []int{0, 7, 1 << 30, 1 << 31, 1 << 32, 3037000500, bound / 3, bound / 2, bound} {
		for d := -2; d <= 2; d++ {
			l = append(l, n+d, -n+d)
		}
	}
	slices.Sort(l)
	return slices.Compact(l)
}

// isMoney says it from the document's words: from -2^62 to 2^62.
func isMoney(n *big.Int) bool {
	end := new(big.Int).Lsh(big.NewInt(1), 62)
	return n.CmpAbs(end) <= 0
}

func allMoney(l ...int) bool {
	for _, n := range l {
		if !isMoney(big.NewInt(int64(n))) {
			return false
		}
	}
	return true
}

// want is what a call answers whose exact result is n.
func want(n *big.Int, args ...int) (int, api.Errno) {
	if !allMoney(args...) {
		return 0, api.ErrArg
	}
	if !isMoney(n) {
		return 0, api.ErrBig
	}
	return int(n.Int64()), api.OK
}

func exactSum(l ...int) *big.Int {
	sum := new(big.Int)
	for _, n := range l {
		sum.Add(sum, big.NewInt(int64(n)))
	}
	return sum
}

func checkSum(t *testing.T, l ...int) {
	t.Helper()
	n, e := Sum(l...)
	if m, f := want(exactSum(l...), l...); n != m || e != f {
		t.Errorf("Sum(%v) = %d, %d, not %d, %d", l, n, e, m, f)
	}
}

// TestRightOfOne is P1.1: the bound on both sides, and one beyond it.
func TestRightOfOne(t *testing.T) {
	for _, n := range []int{0, 1, -1, bound - 1, bound, 1 - bound, -bound} {
		if !Right(n) {
			t.Errorf("Right(%d) is false", n)
		}
	}
	for _, n := range []int{bound + 1, -bound - 1, math.MaxInt, math.MinInt} {
		if Right(n) {
			t.Errorf("Right(%d) is true", n)
		}
	}
}

// TestRightOfMany is P1.1: each argument counts, wherever it stands.
func TestRightOfMany(t *testing.T) {
	if !Right() || !Right([]int{}...) || !Right(bound, 0, -bound) {
		t.Error("Right is false of nothing, or of money")
	}
	for at := range 5 {
		for _, bad := range []int{bound + 1, -bound - 1, math.MaxInt, math.MinInt} {
			l := []int{1, -1, 0, bound, -bound}
			l[at] = bad
			if Right(l...) {
				t.Errorf("Right(%v) is true", l)
			}
		}
	}
}

// TestSumByHand is P1.1: answers that the document gives or that are plain.
func TestSumByHand(t *testing.T) {
	for _, x := range []struct {
		l []int
		n int
		e api.Errno
	}{
		{nil, 0, api.OK},
		{[]int{}, 0, api.OK},
		{[]int{5}, 5, api.OK},
		{[]int{-5}, -5, api.OK},
		{[]int{3, -4, 1}, 0, api.OK},
		{[]int{bound}, bound, api.OK},
		{[]int{-bound}, -bound, api.OK},
		{[]int{bound - 1, 1}, bound, api.OK},
		{[]int{1 - bound, -1}, -bound, api.OK},
		{[]int{bound, 1}, 0, api.ErrBig},
		{[]int{-bound, -1}, 0, api.ErrBig},
		{[]int{bound, bound}, 0, api.ErrBig},
		{[]int{-bound, -bound}, 0, api.ErrBig},
		{[]int{bound, bound, bound, bound}, 0, api.ErrBig},
		{[]int{bound + 1}, 0, api.ErrArg},
		{[]int{-bound - 1}, 0, api.ErrArg},
		{[]int{math.MinInt, math.MaxInt}, 0, api.ErrArg},
	} {
		if n, e := Sum(x.l...); n != x.n || e != x.e {
			t.Errorf("Sum(%v) = %d, %d, not %d, %d", x.l, n, e, x.n, x.e)
		}
	}
}

// TestSumOfPartsBeyond is P1.1: the partial sums leave the bound, and even
// int, in each direction, while the whole sum is money.
func TestSumOfPartsBeyond(t *testing.T) {
	for _, l := range [][]int{
		{bound, 1, -1},
		{-bound, -1, 1},
		{bound, bound, bound, -bound, -bound},
		{-bound, -bound, -bound, bound, bound},
		{bound, bound, bound, bound, -bound, -bound, -bound, -bound},
		{-bound, -bound, -bound, bound, bound, bound, -bound, 7},
	} {
		checkSum(t, l...)
	}
}

// TestSumArgFirst is P1.1: a wrong argument goes before a sum too great, and
// also where the wrong arguments would make up for one another.
func TestSumArgFirst(t *testing.T) {
	for _, l := range [][]int{
		{bound, bound, bound + 1},
		{bound + 1, bound, bound},
		{bound + 1, -bound - 1},
		{bound + 1, -1},
		{math.MaxInt, -math.MaxInt},
		{math.MinInt, math.MinInt},
	} {
		if n, e := Sum(l...); n != 0 || e != api.ErrArg {
			t.Errorf("Sum(%v) = %d, %d", l, n, e)
		}
	}
}

// TestSumOfMany is P1.1: sums that a wrap-round would make money again.
func TestSumOfMany(t *testing.T) {
	for _, n := range []int{1, 3, 4, 8, 15, 16, 17, 1000, 1 << 16} {
		for _, each := range []int{bound, -bound, bound - 1, 1 - bound, 1, -1, 1<<31 - 1, -1 << 31} {
			l := make([]int, n)
			for i := range l {
				l[i] = each
			}
			m, e := Sum(l...)
			exact := new(big.Int).Mul(big.NewInt(int64(n)), big.NewInt(int64(each)))
			if k, f := want(exact); m != k || e != f {
				t.Errorf("Sum of %d times %d = %d, %d, not %d, %d", n, each, m, e, k, f)
			}
		}
	}
}

// TestSumAtEdges is P1.1 and P1.4: all pairs and threes of edges, exactly,
// and in each order the same.
func TestSumAtEdges(t *testing.T) {
	l := edges()
	for _, a := range l {
		checkSum(t, a)
		for _, b := range l {
			checkSum(t, a, b)
			for _, c := range l {
				checkSum(t, a, b, c)
			}
		}
	}
}

// TestSumInAnyOrder is P1.4: each order of the arguments has the same sum.
func TestSumInAnyOrder(t *testing.T) {
	for _, l := range [][]int{
		{bound, bound, -bound, -1, 0},
		{bound, bound, -bound, 1, 0},
		{-bound, -bound, bound, 1 - bound, bound},
		{bound, 1, -1, bound, -bound},
		{1 << 31, -1 << 31, 1<<31 - 1, 1 - bound, -1 << 31},
		{bound, bound, bound, bound, bound + 1},
	} {
		n, e := Sum(l...)
		for p := range orders(l) {
			if m, f := Sum(p...); m != n || f != e {
				t.Errorf("Sum(%v) = %d, %d, but Sum(%v) = %d, %d", p, m, f, l, n, e)
			}
		}
	}
}

// orders goes through all orders of l.
func orders(l []int) func(func([]int) bool) {
	return func(yield func([]int) bool) { order(slices.Clone(l), 0, yield) }
}

func order(l []int, from int, yield func([]int) bool) bool {
	if from == len(l) {
		return yield(slices.Clone(l))
	}
	for i := from; i < len(l); i++ {
		l[from], l[i] = l[i], l[from]
		if !order(l, from+1, yield) {
			return false
		}
		l[from], l[i] = l[i], l[from]
	}
	return true
}

// TestArgumentsStay is R2: neither the list nor its spare capacity changes,
// and what lies in the spare capacity does not count.
func TestArgumentsStay(t *testing.T) {
	all := []int{bound, 1, -1, math.MaxInt, math.MinInt}
	l := all[:3]
	if n, e := Sum(l...); n != bound || e != api.OK {
		t.Errorf("Sum(%v) = %d, %d", l, n, e)
	}
	if !Right(l...) {
		t.Errorf("Right(%v) is false", l)
	}
	if !slices.Equal(all, []int{bound, 1, -1, math.MaxInt, math.MinInt}) {
		t.Errorf("the arguments became %v", all)
	}
}

// TestTwoByHand is P1.1: differences and products that are plain.
func TestTwoByHand(t *testing.T) {
	for _, x := range []struct {
		a, b, less, times int
		e, f              api.Errno
	}{
		{7, 3, 4, 21, api.OK, api.OK},
		{3, 7, -4, 21, api.OK, api.OK},
		{-3, 7, -10, -21, api.OK, api.OK},
		{-3, -7, 4, 21, api.OK, api.OK},
		{0, 0, 0, 0, api.OK, api.OK},
		{bound, 0, bound, 0, api.OK, api.OK},
		{0, bound, -bound, 0, api.OK, api.OK},
		{0, -bound, bound, 0, api.OK, api.OK},
		{bound, 1, bound - 1, bound, api.OK, api.OK},
		{bound, -1, 0, -bound, api.ErrBig, api.OK},
		{-bound, 1, 0, -bound, api.ErrBig, api.OK},
		{-bound, -1, 1 - bound, bound, api.OK, api.OK},
		{bound, bound, 0, 0, api.OK, api.ErrBig},
		{bound, -bound, 0, 0, api.ErrBig, api.ErrBig},
		{-bound, bound, 0, 0, api.ErrBig, api.ErrBig},
		{-bound, -bound, 0, 0, api.OK, api.ErrBig},
		{1 << 31, 1 << 31, 0, bound, api.OK, api.OK},
		{1 << 31, -1 << 31, 1 << 32, -bound, api.OK, api.OK},
		{-1 << 31, -1 << 31, 0, bound, api.OK, api.OK},
		{1<<31 + 1, 1 << 31, 1, 0, api.OK, api.ErrBig},
		{1<<31 + 1, -1 << 31, 1<<32 + 1, 0, api.OK, api.ErrBig},
		{1 << 32, 1 << 32, 0, 0, api.OK, api.ErrBig},
		{1 << 40, 1 << 40, 0, 0, api.OK, api.ErrBig},
		{bound / 2, 2, bound/2 - 2, bound, api.OK, api.OK},
		{bound/2 + 1, 2, bound/2 - 1, 0, api.OK, api.ErrBig},
	} {
		less, e := Less(x.a, x.b)
		times, f := Times(x.a, x.b)
		if less != x.less || e != x.e {
			t.Errorf("Less(%d, %d) = %d, %d", x.a, x.b, less, e)
		}
		if times != x.times || f != x.f {
			t.Errorf("Times(%d, %d) = %d, %d", x.a, x.b, times, f)
		}
	}
}

// TestTwoArgFirst is P1.1: an argument that is not money, on either side,
// goes before a result too great, and also where the result would be money.
func TestTwoArgFirst(t *testing.T) {
	for _, bad := range []int{bound + 1, -bound - 1, math.MaxInt, math.MinInt} {
		for _, other := range []int{0, 1, -1, bound, -bound, bad} {
			for _, x := range [][2]int{{bad, other}, {other, bad}} {
				if n, e := Less(x[0], x[1]); n != 0 || e != api.ErrArg {
					t.Errorf("Less(%d, %d) = %d, %d", x[0], x[1], n, e)
				}
				if n, e := Times(x[0], x[1]); n != 0 || e != api.ErrArg {
					t.Errorf("Times(%d, %d) = %d, %d", x[0], x[1], n, e)
				}
			}
		}
	}
}

// TestTwoAtEdges is P1.1: all pairs of edges, exactly.
func TestTwoAtEdges(t *testing.T) {
	for _, a := range edges() {
		for _, b := range edges() {
			x, y := big.NewInt(int64(a)), big.NewInt(int64(b))
			n, e := Less(a, b)
			if m, f := want(new(big.Int).Sub(x, y), a, b); n != m || e != f {
				t.Errorf("Less(%d, %d) = %d, %d, not %d, %d", a, b, n, e, m, f)
			}
			n, e = Times(a, b)
			if m, f := want(new(big.Int).Mul(x, y), a, b); n != m || e != f {
				t.Errorf("Times(%d, %d) = %d, %d, not %d, %d", a, b, n, e, m, f)
			}
		}
	}
}

// TestQuoByHand is P1.2: rounded down for each pair of signs, at the bound,
// and the errors in their order.
func TestQuoByHand(t *testing.T) {
	for _, x := range []struct {
		a, b, q, r int
		e          api.Errno
	}{
		{7, 2, 3, 1, api.OK},
		{-7, 2, -4, 1, api.OK},
		{7, -2, -4, -1, api.OK},
		{-7, -2, 3, -1, api.OK},
		{6, 3, 2, 0, api.OK},
		{-6, 3, -2, 0, api.OK},
		{6, -3, -2, 0, api.OK},
		{-6, -3, 2, 0, api.OK},
		{0, 5, 0, 0, api.OK},
		{0, -5, 0, 0, api.OK},
		{bound, 1, bound, 0, api.OK},
		{bound, -1, -bound, 0, api.OK},
		{-bound, 1, -bound, 0, api.OK},
		{-bound, -1, bound, 0, api.OK},
		{bound, bound, 1, 0, api.OK},
		{bound, -bound, -1, 0, api.OK},
		{bound - 1, bound, 0, bound - 1, api.OK},
		{1 - bound, bound, -1, 1, api.OK},
		{-1, bound, -1, bound - 1, api.OK},
		{1, -bound, -1, 1 - bound, api.OK},
		{-1, -bound, 0, -1, api.OK},
		{5, 0, 0, 0, api.ErrZero},
		{0, 0, 0, 0, api.ErrZero},
		{-bound, 0, 0, 0, api.ErrZero},
		{bound + 1, 0, 0, 0, api.ErrArg},
		{math.MinInt, 0, 0, 0, api.ErrArg},
		{math.MinInt, -1, 0, 0, api.ErrArg},
		{bound + 1, 2, 0, 0, api.ErrArg},
		{-bound - 1, 2, 0, 0, api.ErrArg},
		{1, bound + 1, 0, 0, api.ErrArg},
		{1, -bound - 1, 0, 0, api.ErrArg},
		{1, math.MaxInt, 0, 0, api.ErrArg},
		{1, math.MinInt, 0, 0, api.ErrArg},
	} {
		if q, r, e := Quo(x.a, x.b); q != x.q || r != x.r || e != x.e {
			t.Errorf("Quo(%d, %d) = %d, %d, %d", x.a, x.b, q, r, e)
		}
	}
}

// TestQuoAtEdges is P1.2 and P1.4: for all pairs of edges q b + r is a, and
// the remainder lies on the divisor's side of 0.
func TestQuoAtEdges(t *testing.T) {
	for _, a := range edges() {
		for _, b := range edges() {
			checkQuo(t, a, b)
		}
	}
	for a := -50; a <= 50; a++ {
		for b := -12; b <= 12; b++ {
			checkQuo(t, a, b)
		}
	}
}

func checkQuo(t *testing.T, a, b int) {
	t.Helper()
	q, r, e := Quo(a, b)
	if !allMoney(a, b) || b == 0 {
		f := api.ErrZero
		if !allMoney(a, b) {
			f = api.ErrArg
		}
		if q != 0 || r != 0 || e != f {
			t.Errorf("Quo(%d, %d) = %d, %d, %d", a, b, q, r, e)
		}
		return
	}
	back := new(big.Int).Mul(big.NewInt(int64(q)), big.NewInt(int64(b)))
	back.Add(back, big.NewInt(int64(r)))
	inside := b > 0 && 0 <= r && r < b || b < 0 && b < r && r <= 0
	if e != api.OK || !inside || back.Cmp(big.NewInt(int64(a))) != 0 {
		t.Errorf("Quo(%d, %d) = %d, %d, %d", a, b, q, r, e)
	}
}

// TestPart is P1.3: below, at, within, at and above the two ends, ends that
// are the same, and a lower end above the upper one.
func TestPart(t *testing.T) {
	for _, x := range []struct{ l, lo, hi, n int }{
		{0, 1, 9, 1}, {1, 1, 9, 1}, {5, 1, 9, 5}, {9, 1, 9, 9}, {10, 1, 9, 9},
		{-5, -9, -1, -5}, {-10, -9, -1, -9}, {0, -9, -1, -1},
		{2, 3, 3, 3}, {3, 3, 3, 3}, {4, 3, 3, 3},
		{0, 9, 1, 9}, {1, 9, 1, 9}, {5, 9, 1, 9}, {9, 9, 1, 9}, {20, 9, 1, 9},
		{3, 4, 3, 4}, {4, 4, 3, 4},
		{bound + 1, -bound, bound, bound},
		{bound + 1, -bound, bound + 1, bound + 1},
		{math.MinInt, math.MinInt, math.MaxInt, math.MinInt},
		{math.MaxInt, math.MinInt, math.MaxInt, math.MaxInt},
		{math.MinInt, 0, math.MaxInt, 0},
		{math.MaxInt, math.MinInt, 0, 0},
		{0, math.MaxInt, math.MinInt, math.MaxInt},
		{math.MinInt, math.MaxInt, math.MinInt, math.MaxInt},
	} {
		if n := Part(x.l, x.lo, x.hi); n != x.n {
			t.Errorf("Part(%d, %d, %d) = %d, not %d", x.l, x.lo, x.hi, n, x.n)
		}
	}
}

// TestPartAtEdges is P1.3: for all threes of edges the nearest one.
func TestPartAtEdges(t *testing.T) {
	for _, l := range edges() {
		for _, lo := range edges() {
			for _, hi := range edges() {
				m := l
				if lo > hi || l < lo {
					m = lo
				} else if l > hi {
					m = hi
				}
				if n := Part(l, lo, hi); n != m {
					t.Errorf("Part(%d, %d, %d) = %d, not %d", l, lo, hi, n, m)
				}
			}
		}
	}
}
