package wide

import (
	"math"
	"math/big"
	"slices"
	"testing"

	"cambist/api"
)

const (
	bound = api.Bound
	least = math.MinInt
	most  = math.MaxInt
	full  = math.MaxUint64
)

var (
	top  = api.Wide{Hi: most, Lo: full}
	low  = api.Wide{Hi: least, Lo: 0}
	none = api.Wide{}
)

// of tells a wide by its two parts.
func of(hi int, lo uint64) api.Wide { return api.Wide{Hi: hi, Lo: lo} }

// exact is the number that w represents: 2^64 Hi + Lo.
func exact(w api.Wide) *big.Int {
	n := new(big.Int).Lsh(big.NewInt(int64(w.Hi)), 64)
	return n.Add(n, new(big.Int).SetUint64(w.Lo))
}

// isWide says it from the document's words: from -2^127 to 2^127 - 1.
func isWide(n *big.Int) bool {
	end := new(big.Int).Lsh(big.NewInt(1), 127)
	return n.Cmp(end) < 0 && n.Cmp(new(big.Int).Neg(end)) >= 0
}

// isMoney says it from the document's words: from -2^62 to 2^62.
func isMoney(n *big.Int) bool {
	return n.CmpAbs(new(big.Int).Lsh(big.NewInt(1), 62)) <= 0
}

// ints are the numbers at which an answer may change: around 0, the roots and
// the halves of the bound, the bound, and the ends of int.
func ints() []int {
	l := []int{least, least + 1, least + 2, most - 2, most - 1, most}
	for _, n := range []int{0, 7, 10000, 1 << 31, 1 << 32, 3037000500, bound / 3, bound / 2, bound} {
		for d := -2; d <= 2; d++ {
			l = append(l, n+d, -n+d)
		}
	}
	slices.Sort(l)
	return slices.Compact(l)
}

// wides are those with edges in either part.
func wides() []api.Wide {
	var l []api.Wide
	for _, hi := range []int{least, least + 1, -bound, -1 << 60, -1<<60 - 1, -3, -2, -1, 0, 1, 2, 1<<60 - 1, 1 << 60, bound, most - 1, most} {
		for _, lo := range []uint64{0, 1, 2, bound - 1, bound, bound + 1, 1<<63 - 1, 1 << 63, 1<<63 + 1, 3<<62 - 1, 3 << 62, 3<<62 + 1, full - 1, full} {
			l = append(l, of(hi, lo))
		}
	}
	return l
}

// TestOfByHand is P2.1: both signs, and the ends of int.
func TestOfByHand(t *testing.T) {
	for _, x := range []struct {
		n int
		w api.Wide
	}{
		{0, none}, {1, of(0, 1)}, {-1, of(-1, full)}, {bound, of(0, 1<<62)}, {-bound, of(-1, 3<<62)},
		{most, of(0, 1<<63-1)}, {least, of(-1, 1<<63)},
	} {
		if w := Of(x.n); w != x.w {
			t.Errorf("Of(%d) = %v, not %v", x.n, w, x.w)
		}
	}
}

// TestOfAndBack is P2.1: each integer is itself as a wide, and comes back
// where it is money.
func TestOfAndBack(t *testing.T) {
	for _, n := range ints() {
		w := Of(n)
		if exact(w).Cmp(big.NewInt(int64(n))) != 0 {
			t.Errorf("Of(%d) = %v", n, w)
		}
		back, e := Int(w)
		if isMoney(big.NewInt(int64(n))) {
			if back != n || e != api.OK {
				t.Errorf("Int(Of(%d)) = %d, %d", n, back, e)
			}
		} else if back != 0 || e != api.ErrBig {
			t.Errorf("Int(Of(%d)) = %d, %d", n, back, e)
		}
	}
}

// TestIntByHand is P2.1: the bound on both sides and one beyond it, and upper
// parts that make the number another one than the lower part tells.
func TestIntByHand(t *testing.T) {
	for _, x := range []struct {
		w api.Wide
		n int
		e api.Errno
	}{
		{none, 0, api.OK},
		{of(0, 5), 5, api.OK},
		{of(-1, full), -1, api.OK},
		{of(0, bound), bound, api.OK},
		{of(0, bound+1), 0, api.ErrBig},
		{of(-1, 3<<62), -bound, api.OK},
		{of(-1, 3<<62-1), 0, api.ErrBig},
		{of(0, 1<<63), 0, api.ErrBig},
		{of(0, full), 0, api.ErrBig},
		{of(-1, 0), 0, api.ErrBig},
		{of(-1, 5), 0, api.ErrBig},
		{of(1, 0), 0, api.ErrBig},
		{of(1, 5), 0, api.ErrBig},
		{of(1, full), 0, api.ErrBig},
		{of(-2, full), 0, api.ErrBig},
		{top, 0, api.ErrBig},
		{low, 0, api.ErrBig},
	} {
		if n, e := Int(x.w); n != x.n || e != x.e {
			t.Errorf("Int(%v) = %d, %d, not %d, %d", x.w, n, e, x.n, x.e)
		}
	}
}

// TestIntAtEdges is P2.1: all wides of edges, exactly.
func TestIntAtEdges(t *testing.T) {
	for _, w := range wides() {
		n, e := Int(w)
		if isMoney(exact(w)) {
			if e != api.OK || exact(w).Cmp(big.NewInt(int64(n))) != 0 {
				t.Errorf("Int(%v) = %d, %d", w, n, e)
			}
		} else if n != 0 || e != api.ErrBig {
			t.Errorf("Int(%v) = %d, %d", w, n, e)
		}
	}
}

// TestTimesByHand is P2.1: the document's products, and the ends of int.
func TestTimesByHand(t *testing.T) {
	for _, x := range []struct {
		a, b int
		w    api.Wide
	}{
		{bound, bound, of(1<<60, 0)},
		{bound, -bound, of(-1<<60, 0)},
		{-1, 1, of(-1, full)},
		{-1, -1, of(0, 1)},
		{0, 0, none}, {0, most, none}, {0, least, none},
		{3, 4, of(0, 12)}, {-3, -4, of(0, 12)},
		{1 << 32, 1 << 32, of(1, 0)},
		{1 << 32, -1 << 32, of(-1, 0)},
		{least, 1, of(-1, 1<<63)},
		{least, -1, of(0, 1<<63)},
		{least, 2, of(-1, 0)},
		{least, least, of(1<<62, 0)},
		{least, most, of(-1<<62, 1<<63)},
		{most, most, of(1<<62-1, 1)},
	} {
		if w := Times(x.a, x.b); w != x.w {
			t.Errorf("Times(%d, %d) = %v, not %v", x.a, x.b, w, x.w)
		}
		if w := Times(x.b, x.a); w != x.w {
			t.Errorf("Times(%d, %d) = %v, not %v", x.b, x.a, w, x.w)
		}
	}
}

// TestTimesAtEdges is P2.1: all pairs of edges, exactly.
func TestTimesAtEdges(t *testing.T) {
	for _, a := range ints() {
		for _, b := range ints() {
			m := new(big.Int).Mul(big.NewInt(int64(a)), big.NewInt(int64(b)))
			if w := Times(a, b); exact(w).Cmp(m) != 0 {
				t.Errorf("Times(%d, %d) = %v, not %d", a, b, w, m)
			}
		}
	}
}

// TestLess is P2.1: all pairs of edges, each with itself among them.
func TestLess(t *testing.T) {
	for _, a := range wides() {
		for _, b := range wides() {
			if is := exact(a).Cmp(exact(b)) < 0; Less(a, b) != is {
				t.Errorf("Less(%v, %v) is not %v", a, b, is)
			}
		}
	}
}

// TestLessByHand is P2.1: a number below 0 is less than one above it, and of
// two with the same upper part the lower one decides, without a sign.
func TestLessByHand(t *testing.T) {
	rising := []api.Wide{low, of(-1, 0), of(-1, full), none, of(0, 1), of(0, 1<<63), of(0, full), of(1, 0), top}
	for i, a := range rising {
		for k, b := range rising {
			if Less(a, b) != (i < k) {
				t.Errorf("Less(%v, %v) is %v", a, b, i >= k)
			}
		}
	}
}

// TestSumByHand is P2.2: sums of nothing, of one, at either end of the wides,
// one beyond them, and with partial sums beyond them.
func TestSumByHand(t *testing.T) {
	for _, x := range []struct {
		l []api.Wide
		w api.Wide
		e api.Errno
	}{
		{nil, none, api.OK},
		{[]api.Wide{}, none, api.OK},
		{[]api.Wide{of(7, 9)}, of(7, 9), api.OK},
		{[]api.Wide{top}, top, api.OK},
		{[]api.Wide{low}, low, api.OK},
		{[]api.Wide{of(0, full), of(0, 1)}, of(1, 0), api.OK},
		{[]api.Wide{of(0, 1<<63), of(0, 1<<63)}, of(1, 0), api.OK},
		{[]api.Wide{of(-1, full), of(0, 1)}, none, api.OK},
		{[]api.Wide{of(-1, full), of(-1, full)}, of(-1, full-1), api.OK},
		{[]api.Wide{top, low}, of(-1, full), api.OK},
		{[]api.Wide{of(most, full-1), of(0, 1)}, top, api.OK},
		{[]api.Wide{of(least, 1), of(-1, full)}, low, api.OK},
		{[]api.Wide{of(bound, 0), of(bound-1, full)}, top, api.OK},
		{[]api.Wide{top, of(0, 1)}, none, api.ErrBig},
		{[]api.Wide{low, of(-1, full)}, none, api.ErrBig},
		{[]api.Wide{top, top}, none, api.ErrBig},
		{[]api.Wide{low, low}, none, api.ErrBig},
		{[]api.Wide{low, low, low, low}, none, api.ErrBig},
		{[]api.Wide{top, of(0, 1), of(-1, full)}, top, api.OK},
		{[]api.Wide{low, of(-1, full), of(0, 1)}, low, api.OK},
		{[]api.Wide{low, low, top, top, of(0, 2)}, none, api.OK},
		{[]api.Wide{top, top, top, low, low, low, of(0, 3)}, none, api.OK},
	} {
		if w, e := Sum(x.l...); w != x.w || e != x.e {
			t.Errorf("Sum(%v) = %v, %d, not %v, %d", x.l, w, e, x.w, x.e)
		}
	}
}

// checkSum holds a sum against the exact one.
func checkSum(t *testing.T, l ...api.Wide) {
	t.Helper()
	sum := new(big.Int)
	for _, w := range l {
		sum.Add(sum, exact(w))
	}
	w, e := Sum(l...)
	if isWide(sum) {
		if e != api.OK || exact(w).Cmp(sum) != 0 {
			t.Errorf("Sum(%v) = %v, %d, not %d", l, w, e, sum)
		}
	} else if w != none || e != api.ErrBig {
		t.Errorf("Sum(%v) = %v, %d, though it is %d", l, w, e, sum)
	}
}

// TestSumAtEdges is P2.2: all pairs of edges, and threes of some.
func TestSumAtEdges(t *testing.T) {
	few := []api.Wide{low, of(least, 1), of(-bound, 0), of(-1, 0), of(-1, 1<<63), of(-1, full), none, of(0, 1), of(0, 1<<63), of(0, full), of(1, 0), of(bound, 0), of(most, 0), of(most, full-1), top}
	for _, a := range wides() {
		checkSum(t, a)
		for _, b := range wides() {
			checkSum(t, a, b)
		}
	}
	for _, a := range few {
		for _, b := range few {
			for _, c := range few {
				checkSum(t, a, b, c)
			}
		}
	}
}

// TestSumOfMany is P2.2: sums that a wrap-round would make wides again.
func TestSumOfMany(t *testing.T) {
	for _, n := range []int{2, 3, 4, 8, 16, 1000, 1 << 16} {
		for _, each := range []api.Wide{top, low, of(-1, full), of(0, full), of(bound, 1), of(-bound, full)} {
			l := make([]api.Wide, n)
			for i := range l {
				l[i] = each
			}
			sum := new(big.Int).Mul(big.NewInt(int64(n)), exact(each))
			w, e := Sum(l...)
			if isWide(sum) != (e == api.OK) || e == api.OK && exact(w).Cmp(sum) != 0 {
				t.Errorf("Sum of %d times %v = %v, %d, not %d", n, each, w, e, sum)
			}
			if e != api.OK && (e != api.ErrBig || w != none) {
				t.Errorf("Sum of %d times %v = %v, %d", n, each, w, e)
			}
		}
	}
}

// TestArgumentsStay is R2: neither the list nor its spare capacity changes,
// and what lies in the spare capacity does not count.
func TestArgumentsStay(t *testing.T) {
	all := []api.Wide{top, of(0, 1), of(-1, full), top, low}
	if w, e := Sum(all[:3]...); w != top || e != api.OK {
		t.Errorf("Sum(%v) = %v, %d", all[:3], w, e)
	}
	if !slices.Equal(all, []api.Wide{top, of(0, 1), of(-1, full), top, low}) {
		t.Errorf("the arguments became %v", all)
	}
}

// TestQuoByHand is P2.3: rounded down on both sides of 0, the bound of the
// quotient and one beyond it, and the errors in their order.
func TestQuoByHand(t *testing.T) {
	for _, x := range []struct {
		w       api.Wide
		n, q, r int
		e       api.Errno
	}{
		{none, 1, 0, 0, api.OK},
		{none, most, 0, 0, api.OK},
		{of(0, 7), 2, 3, 1, api.OK},
		{of(0, 6), 2, 3, 0, api.OK},
		{of(-1, full-6), 2, -4, 1, api.OK},
		{of(-1, full-5), 2, -3, 0, api.OK},
		{of(-1, full), most, -1, most - 1, api.OK},
		{of(-1, 1<<63), most, -2, most - 1, api.OK},
		{of(-1, 0), most, -3, most - 2, api.OK},
		{of(0, full), most, 2, 1, api.OK},
		{of(1, 0), 4, bound, 0, api.OK},
		{of(1, 3), 4, bound, 3, api.OK},
		{of(1, 4), 4, 0, 0, api.ErrBig},
		{of(-1, 0), 4, -bound, 0, api.OK},
		{of(-2, full), 4, 0, 0, api.ErrBig},
		{of(0, bound), 1, bound, 0, api.OK},
		{of(0, bound+1), 1, 0, 0, api.ErrBig},
		{of(-1, 3<<62), 1, -bound, 0, api.OK},
		{of(-1, 3<<62-1), 1, 0, 0, api.ErrBig},
		{of(1<<60, bound-1), bound, bound, bound - 1, api.OK},
		{of(1<<60, bound), bound, 0, 0, api.ErrBig},
		{of(-1<<60, 0), bound, -bound, 0, api.OK},
		{of(-1<<60, 1), bound, -bound, 1, api.OK},
		{of(-1<<60-1, full), bound, 0, 0, api.ErrBig},
		{top, most, 0, 0, api.ErrBig},
		{low, most, 0, 0, api.ErrBig},
		{top, 1, 0, 0, api.ErrBig},
		{low, 1, 0, 0, api.ErrBig},
		{of(most, 0), 1, 0, 0, api.ErrBig},
		{of(0, 5), 0, 0, 0, api.ErrZero},
		{none, 0, 0, 0, api.ErrZero},
		{of(0, 5), -1, 0, 0, api.ErrZero},
		{none, least, 0, 0, api.ErrZero},
		{top, 0, 0, 0, api.ErrZero},
		{low, -1, 0, 0, api.ErrZero},
		{low, least, 0, 0, api.ErrZero},
	} {
		if q, r, e := Quo(x.w, x.n); q != x.q || r != x.r || e != x.e {
			t.Errorf("Quo(%v, %d) = %d, %d, %d, not %d, %d, %d", x.w, x.n, q, r, e, x.q, x.r, x.e)
		}
	}
}

// checkQuo is P2.3 and P2.4: q n + r is w, and r is from 0 to n - 1, where
// that q is money.
func checkQuo(t *testing.T, w api.Wide, n int) {
	t.Helper()
	q, r, e := Quo(w, n)
	if n <= 0 {
		if q != 0 || r != 0 || e != api.ErrZero {
			t.Errorf("Quo(%v, %d) = %d, %d, %d", w, n, q, r, e)
		}
		return
	}
	// The exact quotient by a divisor above 0 is the one rounded down.
	down, rest := new(big.Int).DivMod(exact(w), big.NewInt(int64(n)), new(big.Int))
	if !isMoney(down) {
		if q != 0 || r != 0 || e != api.ErrBig {
			t.Errorf("Quo(%v, %d) = %d, %d, %d", w, n, q, r, e)
		}
		return
	}
	if e != api.OK || down.Cmp(big.NewInt(int64(q))) != 0 || rest.Cmp(big.NewInt(int64(r))) != 0 {
		t.Errorf("Quo(%v, %d) = %d, %d, %d, not %d, %d", w, n, q, r, e, down, rest)
	}
	if back, _ := Sum(Times(q, n), Of(r)); back != w || r < 0 || r >= n {
		t.Errorf("Quo(%v, %d) = %d, %d, which makes %v", w, n, q, r, back)
	}
}

// TestQuoAtEdges is P2.3 and P2.4: all edges by all edges, products of edges
// by their factors, and small numbers.
func TestQuoAtEdges(t *testing.T) {
	for _, n := range ints() {
		for _, w := range wides() {
			checkQuo(t, w, n)
		}
		for _, a := range ints() {
			for d := -2; d <= 2; d++ {
				w, _ := Sum(Times(a, n), Of(d))
				checkQuo(t, w, n)
			}
		}
	}
	for a := -50; a <= 50; a++ {
		for n := -3; n <= 12; n++ {
			checkQuo(t, Of(a), n)
		}
	}
}

// TestShareByHand is P2.3: the document's shares, products beyond money whose
// shares are money, and the errors in their order.
func TestShareByHand(t *testing.T) {
	for _, x := range []struct {
		a, b, c, n int
		e          api.Errno
	}{
		{7, 3, 2, 10, api.OK},
		{-7, 3, 2, -11, api.OK},
		{7, -3, 2, -11, api.OK},
		{-7, -3, 2, 10, api.OK},
		{0, least, 1, 0, api.OK},
		{bound, bound, bound, bound, api.OK},
		{-bound, bound, bound, -bound, api.OK},
		{bound, -1, 1, -bound, api.OK},
		{most, most, most, 0, api.ErrBig},
		{most, bound, most, bound, api.OK},
		{bound + 1, bound, bound, 0, api.ErrBig},
		{least, bound, most, 0, api.ErrBig},
		{-most, bound, most, -bound, api.OK},
		{bound, 2, 1, 0, api.ErrBig},
		{least, least, most, 0, api.ErrBig},
		{1, 1, 0, 0, api.ErrZero},
		{1, 1, -1, 0, api.ErrZero},
		{bound, bound, 0, 0, api.ErrZero},
		{least, most, least, 0, api.ErrZero},
	} {
		if n, e := Share(x.a, x.b, x.c); n != x.n || e != x.e {
			t.Errorf("Share(%d, %d, %d) = %d, %d, not %d, %d", x.a, x.b, x.c, n, e, x.n, x.e)
		}
	}
}

// TestShareAtEdges is P2.3: all threes of edges, exactly.
func TestShareAtEdges(t *testing.T) {
	for _, a := range ints() {
		for _, b := range ints() {
			m := new(big.Int).Mul(big.NewInt(int64(a)), big.NewInt(int64(b)))
			for _, c := range ints() {
				checkShare(t, a, b, c, m)
			}
		}
	}
}

// checkShare holds a share against the exact one of m, which is a b.
func checkShare(t *testing.T, a, b, c int, m *big.Int) {
	t.Helper()
	want, f := big.NewInt(0), api.ErrZero
	if c > 0 {
		f = api.ErrBig
		if q := new(big.Int).Div(m, big.NewInt(int64(c))); isMoney(q) {
			want, f = q, api.OK
		}
	}
	if n, e := Share(a, b, c); e != f || want.Cmp(big.NewInt(int64(n))) != 0 {
		t.Errorf("Share(%d, %d, %d) = %d, %d, not %d, %d", a, b, c, n, e, want, f)
	}
}

// TestTimesDistributes is P2.4: a (b + c) is a b plus a c, wherever b + c is
// an integer.
func TestTimesDistributes(t *testing.T) {
	for _, a := range ints() {
		for _, b := range ints() {
			for _, c := range ints() {
				if (b < 0) == (c < 0) && (b < 0) != (b+c < 0) {
					continue
				}
				if w, e := Sum(Times(a, b), Times(a, c)); e != api.OK || w != Times(a, b+c) {
					t.Errorf("%d times %d and %d is %v, %d", a, b, c, w, e)
				}
			}
		}
	}
}
