package share

import (
	"math"
	"math/big"
	"slices"
	"testing"

	"cambist/api"
)

const bound = api.Bound

// notAmounts are numbers that no total, weight or cap may be: below 0, one
// beyond the bound on both sides, and the ends of int.
var notAmounts = []int{-1, -bound, -bound - 1, bound + 1, math.MinInt, math.MaxInt}

// amounts are the numbers at which a part may change: around 0, the roots and
// the fractions of the bound, and up to the bound.
func amounts() []int {
	l := []int{0, 1, 2, 3, 4, 5, 10, 100, bound - 2, bound - 1, bound}
	for _, n := range []int{1 << 31, 1 << 32, 3037000500, bound / 1024, bound / 3, bound / 2} {
		l = append(l, n-1, n, n+1)
	}
	return l
}

// lists are weights, or caps, of several shapes: none, zeros at either end
// and in the middle, equal ones, many of few sizes, and sums at the bound, one
// beyond it, beyond int and far beyond it.
func lists() [][]int {
	l := [][]int{
		{}, {0}, {0, 0}, {1}, {7}, {bound},
		{1, 1}, {1, 2}, {2, 1}, {0, 1}, {1, 0}, {0, 3, 0, 5, 0},
		{1, 1, 1}, {3, 2, 1}, {1, 2, 3}, {1, 2, 1, 2}, {5, 5, 5, 5, 5, 5, 5},
		{1, bound - 1}, {1, bound}, {bound, 1}, {bound, 0, bound}, {bound / 2, bound / 2, 1},
		{bound, bound}, {bound, bound - 1}, {bound, bound - 1, 1, 1}, {bound, bound, 1}, {bound, bound, bound},
		{bound - 1, 3, bound - 2, bound, 0, 1, bound / 3, bound / 3},
		{bound, bound, bound, bound, 1}, {bound, bound, bound, bound - 1},
		{1 << 31, 1<<31 + 1, 1<<31 - 1}, {3, 5, 7, 11, 13, 17, 19},
	}
	rising, mixed, great := make([]int, 1024), make([]int, 200), make([]int, 200)
	for i := range rising {
		rising[i] = bound/1024*i + i%7
	}
	// These have few different remainders, each in many places.
	for i := range mixed {
		mixed[i], great[i] = i*i%5, bound-i*i%5
	}
	return append(l, rising, mixed, great, same(1024, 0), same(1024, 1), same(1024, bound))
}

// same is n times each.
func same(n, each int) []int {
	l := make([]int, n)
	for i := range l {
		l[i] = each
	}
	return l
}

// splits goes through the totals and weights at the edges that have a split.
func splits(yield func(int, []int) bool) {
	for _, l := range lists() {
		for _, total := range amounts() {
			if total != 0 && exactSum(l).Sign() == 0 {
				continue
			}
			if !yield(total, l) {
				return
			}
		}
	}
}

func exactSum(l []int) *big.Int {
	sum := new(big.Int)
	for _, n := range l {
		sum.Add(sum, big.NewInt(int64(n)))
	}
	return sum
}

// exactSplit is P3.1 word by word, in whole numbers without an end: each time
// it looks for the first one of the greatest remainders that has got nothing.
func exactSplit(total int, l []int) []int {
	sum := exactSum(l)
	parts, rests := make([]int, len(l)), make([]*big.Int, len(l))
	left := total
	for i, n := range l {
		rests[i] = new(big.Int)
		if sum.Sign() != 0 {
			q := new(big.Int).Mul(big.NewInt(int64(total)), big.NewInt(int64(n)))
			q.DivMod(q, sum, rests[i])
			parts[i] = int(q.Int64())
		}
		left -= parts[i]
	}
	for ; left > 0; left-- {
		best := 0
		for i, r := range rests {
			if r.Cmp(rests[best]) > 0 {
				best = i
			}
		}
		parts[best]++
		rests[best] = big.NewInt(-1)
	}
	return parts
}

// few tells the start of a list, for a message.
func few(l []int) []int { return l[:min(len(l), 8)] }

// TestSplitByHand is P3.1: the document's splits, units to the greatest
// remainders, to the first of equal ones, and sums of weights beyond money.
func TestSplitByHand(t *testing.T) {
	for _, x := range []struct {
		total int
		l     []int
		parts []int
	}{
		{10, []int{1, 1, 1}, []int{4, 3, 3}},
		{11, []int{1, 1, 1}, []int{4, 4, 3}},
		{12, []int{1, 1, 1}, []int{4, 4, 4}},
		{5, []int{0, 2, 1}, []int{0, 3, 2}},
		{0, nil, nil},
		{0, []int{0}, []int{0}},
		{0, []int{0, 0, 0}, []int{0, 0, 0}},
		{0, []int{3, 4}, []int{0, 0}},
		{0, []int{bound, bound}, []int{0, 0}},
		{7, []int{3}, []int{7}},
		{7, []int{0, 3, 0}, []int{0, 7, 0}},
		{1, []int{1, 2}, []int{0, 1}},
		{1, []int{2, 1}, []int{1, 0}},
		{2, []int{1, 1, 1, 1}, []int{1, 1, 0, 0}},
		{1, []int{1, 2, 1, 2}, []int{0, 1, 0, 0}},
		{3, []int{1, 2, 1, 2}, []int{1, 1, 0, 1}},
		{10, []int{30, 10, 0}, []int{8, 2, 0}},
		{10, []int{10, 30}, []int{3, 7}},
		{6, []int{1, 2, 3}, []int{1, 2, 3}},
		{bound, []int{1}, []int{bound}},
		{bound, []int{bound}, []int{bound}},
		{bound, []int{bound, 0}, []int{bound, 0}},
		{bound, []int{1, bound}, []int{1, bound - 1}},
		{bound, []int{bound, 1}, []int{bound - 1, 1}},
		{bound, []int{bound, bound}, []int{bound / 2, bound / 2}},
		{bound - 1, []int{bound, bound}, []int{bound / 2, bound/2 - 1}},
		{bound, []int{bound, bound, bound}, []int{bound/3 + 1, bound / 3, bound / 3}},
		{5, []int{bound, 1}, []int{5, 0}},
		{5, []int{bound, bound, bound}, []int{2, 2, 1}},
		{1, []int{bound - 1, bound}, []int{0, 1}},
		{1, []int{bound, bound - 1}, []int{1, 0}},
		{1, []int{bound, bound}, []int{1, 0}},
		{3, []int{bound - 1, bound, bound - 1, bound}, []int{1, 1, 0, 1}},
	} {
		parts, e := Split(x.total, x.l...)
		if !slices.Equal(parts, x.parts) || e != api.OK {
			t.Errorf("Split(%d, %v) = %v, %d, not %v", x.total, x.l, parts, e, x.parts)
		}
	}
	if parts, e := Split(10, 1, 1, 1); !slices.Equal(parts, []int{4, 3, 3}) || e != api.OK {
		t.Errorf("Split(10, 1, 1, 1) = %v, %d", parts, e)
	}
	if parts, e := Split(0); len(parts) != 0 || e != api.OK {
		t.Errorf("Split(0) = %v, %d", parts, e)
	}
}

// TestSplitAtEdges is P3.1: all edges, exactly.
func TestSplitAtEdges(t *testing.T) {
	for total, l := range splits {
		parts, e := Split(total, l...)
		if want := exactSplit(total, l); !slices.Equal(parts, want) || e != api.OK {
			t.Errorf("Split(%d, %v of %d) = %v, %d, not %v", total, few(l), len(l), few(parts), e, few(want))
		}
	}
}

// TestSplitOfSmall is P3.1: all threes of small weights, exactly.
func TestSplitOfSmall(t *testing.T) {
	for n := range 7 * 7 * 7 {
		l := []int{n % 7, n / 7 % 7, n / 49}
		for total := range 30 {
			if n == 0 && total != 0 {
				continue
			}
			parts, e := Split(total, l...)
			if want := exactSplit(total, l); !slices.Equal(parts, want) || e != api.OK {
				t.Errorf("Split(%d, %v) = %v, %d, not %v", total, l, parts, e, want)
			}
		}
	}
}

// TestSplitErrors is P3.1: each error, and each before those named after it.
func TestSplitErrors(t *testing.T) {
	for _, x := range []struct {
		total int
		l     []int
		e     api.Errno
	}{
		{1, nil, api.ErrZero},
		{bound, []int{}, api.ErrZero},
		{1, []int{0}, api.ErrZero},
		{5, []int{0, 0, 0}, api.ErrZero},
		{5, same(1024, 0), api.ErrZero},
		{5, same(1025, 1), api.ErrLong},
		{5, same(1025, bound), api.ErrLong},
		{0, same(1025, 1), api.ErrLong},
		{0, same(1025, 0), api.ErrLong},
		{5, same(1025, 0), api.ErrLong},
		{5, same(5000, 1), api.ErrLong},
		{5, same(1025, -1), api.ErrArg},
		{-1, same(1025, 0), api.ErrArg},
		{bound + 1, same(1025, 1), api.ErrArg},
		{5, append(same(1024, 1), -1), api.ErrArg},
		{5, append(same(1024, 1), bound+1), api.ErrArg},
		{5, append([]int{-1}, same(2000, 0)...), api.ErrArg},
	} {
		if parts, e := Split(x.total, x.l...); len(parts) != 0 || e != x.e {
			t.Errorf("Split(%d, %v of %d) = %v, %d, not %d", x.total, few(x.l), len(x.l), few(parts), e, x.e)
		}
	}
	if parts, e := Split(5, same(1024, 1)...); len(parts) != 1024 || e != api.OK {
		t.Errorf("Split of 1024 weights: %d parts, %d", len(parts), e)
	}
}

// TestNotAmounts is P3.1 and P3.2: a total, a weight and a cap that is not an
// amount, wherever it stands, goes before all else.
func TestNotAmounts(t *testing.T) {
	for _, bad := range notAmounts {
		for _, l := range [][]int{nil, {0}, {1, 2}, {bound, bound}, {bad}, same(1025, 0)} {
			refused(t, bad, l)
		}
		for at := range 4 {
			l := []int{0, 3, 0, bound}
			l[at] = bad
			refused(t, 0, l)
			refused(t, 5, l)
			refused(t, bound, l)
		}
		refused(t, 5, []int{bad, -bad})
		refused(t, 5, []int{0, bad})
		refused(t, 0, append(same(1024, 0), bad))
	}
}

// refused holds that both calls answer ErrArg and nothing else.
func refused(t *testing.T, total int, l []int) {
	t.Helper()
	if parts, e := Split(total, l...); len(parts) != 0 || e != api.ErrArg {
		t.Errorf("Split(%d, %v of %d) = %v, %d", total, few(l), len(l), few(parts), e)
	}
	if parts, rest, e := Greedy(total, l...); len(parts) != 0 || rest != 0 || e != api.ErrArg {
		t.Errorf("Greedy(%d, %v of %d) = %v, %d, %d", total, few(l), len(l), few(parts), rest, e)
	}
}

// TestSplitPromises is P3.3: the parts add up, each is its exact share rounded
// down or 1 more, a weight of 0 gets nothing, and no part exceeds its weight
// where total does not exceed the weights' sum.
func TestSplitPromises(t *testing.T) {
	for total, l := range splits {
		parts, e := Split(total, l...)
		if e != api.OK || len(parts) != len(l) {
			t.Fatalf("Split(%d, %v of %d) = %d parts, %d", total, few(l), len(l), len(parts), e)
		}
		all := big.NewInt(int64(total))
		if exactSum(parts).Cmp(all) != 0 {
			t.Errorf("Split(%d, %v) = %v, which is not all of it", total, few(l), few(parts))
		}
		sum := exactSum(l)
		for i, n := range l {
			down := new(big.Int)
			if sum.Sign() != 0 {
				down.Div(down.Mul(all, big.NewInt(int64(n))), sum)
			}
			if more := parts[i] - int(down.Int64()); more != 0 && more != 1 {
				t.Errorf("Split(%d, %v): part %d is %d more than its share", total, few(l), i, more)
			}
			if n == 0 && parts[i] != 0 || all.Cmp(sum) <= 0 && parts[i] > n {
				t.Errorf("Split(%d, %v): part %d is %d for %d", total, few(l), i, parts[i], n)
			}
		}
	}
}

// TestGreedyByHand is P3.2: the document's parts, caps of 0, totals that end
// at a cap, one before and one behind it, and the errors in their order.
func TestGreedyByHand(t *testing.T) {
	for _, x := range []struct {
		total int
		l     []int
		parts []int
		rest  int
		e     api.Errno
	}{
		{10, []int{3, 0, 9, 4}, []int{3, 0, 7, 0}, 0, api.OK},
		{0, nil, nil, 0, api.OK},
		{4, nil, nil, 4, api.OK},
		{bound, []int{}, nil, bound, api.OK},
		{0, []int{5, 6}, []int{0, 0}, 0, api.OK},
		{5, []int{0, 0}, []int{0, 0}, 5, api.OK},
		{6, []int{3, 4}, []int{3, 3}, 0, api.OK},
		{7, []int{3, 4}, []int{3, 4}, 0, api.OK},
		{8, []int{3, 4}, []int{3, 4}, 1, api.OK},
		{3, []int{3, 4}, []int{3, 0}, 0, api.OK},
		{2, []int{3, 4}, []int{2, 0}, 0, api.OK},
		{4, []int{3, 0, 4}, []int{3, 0, 1}, 0, api.OK},
		{bound, []int{bound, bound}, []int{bound, 0}, 0, api.OK},
		{bound, []int{bound - 1, bound}, []int{bound - 1, 1}, 0, api.OK},
		{bound, []int{1, bound - 2}, []int{1, bound - 2}, 1, api.OK},
		{bound, []int{0}, []int{0}, bound, api.OK},
		{1, same(1025, 0), nil, 0, api.ErrLong},
		{0, same(1025, 1), nil, 0, api.ErrLong},
		{5, same(5000, bound), nil, 0, api.ErrLong},
		{-1, same(1025, 0), nil, 0, api.ErrArg},
		{1, append(same(1024, 0), -1), nil, 0, api.ErrArg},
		{1, append(same(1024, 0), bound+1), nil, 0, api.ErrArg},
	} {
		parts, rest, e := Greedy(x.total, x.l...)
		if !slices.Equal(parts, x.parts) || rest != x.rest || e != x.e {
			t.Errorf("Greedy(%d, %v of %d) = %v, %d, %d", x.total, few(x.l), len(x.l), few(parts), rest, e)
		}
	}
	if parts, rest, e := Greedy(10, 3, 0, 9, 4); !slices.Equal(parts, []int{3, 0, 7, 0}) || rest != 0 || e != api.OK {
		t.Errorf("Greedy(10, 3, 0, 9, 4) = %v, %d, %d", parts, rest, e)
	}
}

// TestGreedyAtEdges is P3.2 and P3.4: each part is the lesser one of its cap
// and what is left, all add up with rest, and behind a part that is less than
// its cap there is nothing.
func TestGreedyAtEdges(t *testing.T) {
	for _, l := range lists() {
		for _, total := range amounts() {
			parts, rest, e := Greedy(total, l...)
			if e != api.OK || len(parts) != len(l) {
				t.Fatalf("Greedy(%d, %v of %d) = %d parts, %d", total, few(l), len(l), len(parts), e)
			}
			left, short := total, false
			for i, c := range l {
				if parts[i] != min(c, left) || short && parts[i] != 0 {
					t.Errorf("Greedy(%d, %v): part %d is %d", total, few(l), i, parts[i])
				}
				left -= parts[i]
				short = short || parts[i] < c
			}
			if rest != left || short && rest != 0 {
				t.Errorf("Greedy(%d, %v): the rest is %d, not %d", total, few(l), rest, left)
			}
		}
	}
}

// TestArgumentsStay is R2: neither a list nor its spare capacity changes, and
// what lies in the spare capacity does not count.
func TestArgumentsStay(t *testing.T) {
	all := []int{3, 0, bound, 2, -1, math.MaxInt}
	before := slices.Clone(all)
	if parts, e := Split(10, all[:2]...); !slices.Equal(parts, []int{10, 0}) || e != api.OK {
		t.Errorf("Split(10, %v) = %v, %d", all[:2], parts, e)
	}
	if parts, rest, e := Greedy(10, all[:2]...); !slices.Equal(parts, []int{3, 0}) || rest != 7 || e != api.OK {
		t.Errorf("Greedy(10, %v) = %v, %d, %d", all[:2], parts, rest, e)
	}
	Split(bound, all[:4]...)
	Greedy(bound, all[:4]...)
	if !slices.Equal(all, before) {
		t.Errorf("the arguments became %v", all)
	}
}

// TestResultsAreNew is R2: what is written into a result, its spare capacity
// too, is seen in no argument and in no other result.
func TestResultsAreNew(t *testing.T) {
	l := []int{1, 2, 3}
	split, _ := Split(6, l...)
	greedy, _, _ := Greedy(6, l...)
	for _, parts := range [][]int{split, greedy} {
		parts = parts[:cap(parts)]
		for i := range parts {
			parts[i] = 99
		}
	}
	again, _ := Split(6, l...)
	more, _, _ := Greedy(6, l...)
	if !slices.Equal(l, []int{1, 2, 3}) || !slices.Equal(again, l) || !slices.Equal(more, l) {
		t.Errorf("after a write into the results: %v, %v, %v", l, again, more)
	}
}
