package ratio_test

import (
	"math"
	"math/big"
	"math/rand"
	"slices"
	"testing"

	"bellwether/api"
	"bellwether/ratio"
)

// The document's numbers, written out anew.
const (
	greatest = 4611686018427387904 // 2^62
	most     = 1125899906842624    // 2^50
)

// edges: numbers at which something turns, and their neighbours; those below 0, too.
func edges() []int {
	l := []int{math.MinInt, math.MinInt + 1, -greatest, -most, -1 << 32, -434, -2, -1, 0, 1, 2, 3, 5, 7, 10, 434, 1000}
	for _, n := range []int{1 << 16, 1 << 31, 1 << 32, 1 << 40, most, 1 << 61, greatest} {
		l = append(l, n-1, n, n+1)
	}
	return append(l, 3037000499, 3037000500, 6148914691236517205, math.MaxInt-1, math.MaxInt)
}

// from: those of numbers that aren't below low.
func from(l []int, low int) []int {
	return slices.DeleteFunc(slices.Clone(l), func(n int) bool { return n < low })
}

// anything: a number from 0 on, of any size: as often a short one as a long one.
func anything(r *rand.Rand) int {
	return int(r.Uint64()>>1) >> r.Intn(63)
}

func wide(n int) *big.Int {
	return big.NewInt(int64(n))
}

func times(a, b int) *big.Int {
	return new(big.Int).Mul(wide(a), wide(b))
}

// plainMulDiv: a product over a divisor, by numbers of any size.
func plainMulDiv(a, b, c int) (int, api.Errno) {
	if a < 0 || b < 0 || c <= 0 {
		return 0, 1 // ErrArg
	}
	n := times(a, b)
	n.Quo(n, wide(c))
	if n.Cmp(wide(greatest)) > 0 {
		return 0, 8 // ErrFull
	}
	return int(n.Int64()), 0
}

// plainMean: the mean, by numbers of any size.
func plainMean(l []int) int {
	if len(l) == 0 {
		return 0
	}
	sum := new(big.Int)
	for _, n := range l {
		sum.Add(sum, wide(max(0, min(n, most))))
	}
	return int(sum.Quo(sum, wide(len(l))).Int64())
}

// plainCmp: two fractions held against each other, as fractions.
func plainCmp(a, b, c, d int) int {
	if a < 0 || c < 0 || b <= 0 || d <= 0 {
		return 0
	}
	return new(big.Rat).SetFrac(wide(a), wide(b)).Cmp(new(big.Rat).SetFrac(wide(c), wide(d)))
}

func holdMulDiv(t *testing.T, a, b, c int) {
	t.Helper()
	want, wantE := plainMulDiv(a, b, c)
	if got, e := ratio.MulDiv(a, b, c); got != want || e != wantE {
		t.Errorf("%d times %d by %d: %d, %d, not %d, %d", a, b, c, got, e, want, wantE)
	}
}

func holdMean(t *testing.T, l []int) {
	t.Helper()
	was := slices.Clone(l)
	if got, want := ratio.Mean(l), plainMean(l); got != want {
		t.Errorf("the mean of %d numbers: %d, not %d", len(l), got, want)
	}
	if !slices.Equal(l, was) {
		t.Errorf("the mean of %d numbers changed them", len(l))
	}
}

func holdCmp(t *testing.T, a, b, c, d int) {
	t.Helper()
	want := plainCmp(a, b, c, d)
	if got := ratio.Cmp(a, b, c, d); got != want {
		t.Errorf("%d/%d against %d/%d: %d, not %d", a, b, c, d, got, want)
	}
}

// P9.1: the document's example, and those by hand, written out.
func TestMulDivByHand(t *testing.T) {
	for _, x := range []struct {
		a, b, c, want int
		e             api.Errno
	}{
		{1 << 40, 1 << 40, 1 << 30, 1 << 50, api.OK}, // the document's
		{0, 0, 1, 0, api.OK},
		{0, math.MaxInt, math.MaxInt, 0, api.OK},
		{2, 3, 7, 0, api.OK},
		{7, 3, 7, 3, api.OK},
		{20, 1, 7, 2, api.OK},
		{21, 1, 7, 3, api.OK},
		{434, 100, 10, 4340, api.OK},
		// At 2^62, and just above it.
		{greatest, 1, 1, greatest, api.OK},
		{greatest + 1, 1, 1, 0, api.ErrFull},
		{1 << 31, 1 << 31, 1, greatest, api.OK},
		{1 << 40, 1 << 22, 1, greatest, api.OK},
		{1 << 40, 1<<22 + 1, 1, 0, api.ErrFull},
		{greatest + 1, 2, 2, 0, api.ErrFull},
		{math.MaxInt, 1, 2, greatest - 1, api.OK},
		{math.MaxInt, 1, 1, 0, api.ErrFull},
		// What the product is rounded down to is what counts: 2^63 + 1 by 2 is 2^62 and a half.
		{3, 3074457345618258603, 2, greatest, api.OK},
		// Where what would be the answer has 64 bits, or more.
		{1 << 32, 1 << 32, 1, 0, api.ErrFull},
		{1 << 32, 1 << 32, 2, 0, api.ErrFull},
		{1 << 32, 1 << 32, 3, 0, api.ErrFull},
		{1 << 32, 1 << 32, 4, greatest, api.OK},
		{1 << 40, 1 << 40, 1 << 16, 0, api.ErrFull},
		{math.MaxInt, math.MaxInt, 1, 0, api.ErrFull},
		{math.MaxInt, math.MaxInt, math.MaxInt, 0, api.ErrFull},
		{math.MaxInt, greatest, math.MaxInt, greatest, api.OK},
		{math.MaxInt - 1, math.MaxInt - 1, math.MaxInt, 0, api.ErrFull},
		// What isn't let goes first, even where the product is 0 or too great.
		{-1, 1, 1, 0, api.ErrArg},
		{1, -1, 1, 0, api.ErrArg},
		{1, 1, 0, 0, api.ErrArg},
		{1, 1, -1, 0, api.ErrArg},
		{-1, -1, 1, 0, api.ErrArg},
		{-1, 1, -1, 0, api.ErrArg},
		{0, 0, 0, 0, api.ErrArg},
		{0, -1, 1, 0, api.ErrArg},
		{math.MaxInt, math.MaxInt, 0, 0, api.ErrArg},
		{math.MinInt, math.MinInt, math.MinInt, 0, api.ErrArg},
	} {
		if got, e := ratio.MulDiv(x.a, x.b, x.c); got != x.want || e != x.e {
			t.Errorf("%d times %d by %d: %d, %d, not %d, %d", x.a, x.b, x.c, got, e, x.want, x.e)
		}
	}
}

// P9.1: a product over a divisor, of all edges, of all small numbers and of many of any size.
func TestMulDiv(t *testing.T) {
	l := edges()
	for _, a := range l {
		for _, b := range l {
			for _, c := range l {
				holdMulDiv(t, a, b, c)
			}
		}
	}
	for i := range 40 * 40 * 40 {
		holdMulDiv(t, i%40-1, i/40%40-1, i/1600-1)
	}
	r := rand.New(rand.NewSource(9))
	for range 100000 {
		holdMulDiv(t, anything(r), anything(r), anything(r))
	}
}

// P9.1: divisors at which the answer is just 2^62, and just above it.
func TestMulDivFull(t *testing.T) {
	r := rand.New(rand.NewSource(91))
	full := wide(greatest)
	for range 20000 {
		a, b := anything(r), anything(r)
		c := new(big.Int).Quo(times(a, b), full)
		if !c.IsInt64() {
			continue
		}
		for _, near := range []int64{-1, 0, 1, 2} {
			holdMulDiv(t, a, b, int(c.Int64()+near))
		}
	}
}

// P9.2: what is answered times c isn't above the product, and the next one is.
func TestRoundedDown(t *testing.T) {
	r := rand.New(rand.NewSource(92))
	answered, rounded := 0, 0
	hold := func(a, b, c int) {
		n, e := ratio.MulDiv(a, b, c)
		product := times(a, b)
		if e != api.OK {
			// The answer would be above 2^62: that and 1, times c, isn't above the product.
			if times(greatest+1, c).Cmp(product) > 0 {
				t.Errorf("%d times %d by %d: %d", a, b, c, e)
			}
			return
		}
		answered++
		if times(n, c).Cmp(product) != 0 {
			rounded++
		}
		if n < 0 || n > greatest || times(n, c).Cmp(product) > 0 || times(n+1, c).Cmp(product) <= 0 {
			t.Errorf("%d times %d by %d: %d", a, b, c, n)
		}
	}
	for _, a := range from(edges(), 0) {
		for _, b := range from(edges(), 0) {
			for _, c := range from(edges(), 1) {
				hold(a, b, c)
			}
		}
	}
	for range 100000 {
		hold(anything(r), anything(r), anything(r)+1)
	}
	if answered < 10000 || rounded < 10000 {
		t.Error("too few:", answered, rounded)
	}
}

// P9.1: means by hand, written out: each number counts as from 0 to 2^50, and what is halfway is rounded down.
func TestMeanByHand(t *testing.T) {
	for _, x := range []struct {
		l    []int
		want int
	}{
		{nil, 0},
		{[]int{}, 0},
		{[]int{0}, 0},
		{[]int{7}, 7},
		{[]int{1, 2}, 1},
		{[]int{1, 2, 4}, 2},
		{[]int{1, 1, 1, 0}, 0},
		{[]int{3, 10}, 6},
		{[]int{-1}, 0},
		{[]int{math.MinInt}, 0},
		{[]int{-100, 100}, 50},
		{[]int{math.MinInt, 5, math.MinInt, 6}, 2},
		{[]int{most - 1}, most - 1},
		{[]int{most}, most},
		{[]int{most + 1}, most},
		{[]int{math.MaxInt}, most},
		{[]int{math.MaxInt, math.MaxInt, math.MaxInt}, most},
		{[]int{math.MaxInt, math.MinInt}, most / 2},
		{[]int{most + 1, most - 1}, most - 1},
	} {
		if got := ratio.Mean(x.l); got != x.want {
			t.Errorf("the mean of %d: %d, not %d", x.l, got, x.want)
		}
	}
}

// P9.1: means of edges, and of many numbers of any size.
func TestMean(t *testing.T) {
	l := edges()
	holdMean(t, l)
	for _, a := range l {
		holdMean(t, []int{a})
		for _, b := range l {
			holdMean(t, []int{a, b})
			holdMean(t, []int{b, 1, a})
		}
	}
	r := rand.New(rand.NewSource(93))
	for n := range 400 {
		var some []int
		for range n {
			some = append(some, anything(r)-anything(r)%3)
		}
		holdMean(t, some)
	}
}

// P9.1: means of so many great numbers that their sum has 63, 64 or more bits.
func TestMeanOfMany(t *testing.T) {
	for _, n := range []int{1<<13 - 1, 1 << 13, 1<<13 + 1, 1<<14 - 1, 1 << 14, 1<<14 + 1, 1<<15 + 7, 100000, 1 << 18} {
		for _, x := range []int{most, math.MaxInt} {
			l := slices.Repeat([]int{x}, n)
			if got := ratio.Mean(l); got != most {
				t.Errorf("%d of %d: %d", n, x, got)
			}
			l[n/2] = -5
			holdMean(t, l)
			l[0], l[n-1] = most-1, 0
			holdMean(t, l)
		}
	}
}

// P9.1: low goes first, where the two others stand the wrong way round, too.
func TestClamp(t *testing.T) {
	for _, x := range [][4]int{
		{5, 1, 9, 5}, {1, 1, 9, 1}, {9, 1, 9, 9}, {0, 1, 9, 1}, {10, 1, 9, 9},
		{5, 5, 5, 5}, {4, 5, 5, 5}, {6, 5, 5, 5},
		{-5, -9, -1, -5}, {-10, -9, -1, -9}, {0, -9, -1, -1},
		{math.MinInt, 0, 1, 0}, {math.MaxInt, 0, 1, 1},
		{0, math.MinInt, math.MaxInt, 0},
		// The wrong way round: below 9 it is 9, from 9 on it is above 1.
		{5, 9, 1, 9}, {0, 9, 1, 9}, {8, 9, 1, 9}, {9, 9, 1, 1}, {10, 9, 1, 1},
	} {
		if got := ratio.Clamp(x[0], x[1], x[2]); got != x[3] {
			t.Errorf("%d from %d to %d: %d, not %d", x[0], x[1], x[2], got, x[3])
		}
	}
	l := edges()
	for _, n := range l {
		for _, low := range l {
			for _, high := range l {
				want := n
				switch {
				case n < low:
					want = low
				case n > high:
					want = high
				}
				if got := ratio.Clamp(n, low, high); got != want {
					t.Errorf("%d from %d to %d: %d, not %d", n, low, high, got, want)
				}
			}
		}
	}
}

// P9.1: fractions by hand, written out; 0 of what isn't let, even where the products differ.
func TestCmpByHand(t *testing.T) {
	for _, x := range [][5]int{
		{1, 2, 1, 3, 1}, {1, 3, 1, 2, -1}, {2, 4, 1, 2, 0}, {2, 3, 3, 4, -1}, {3, 4, 2, 3, 1},
		{0, 1, 0, math.MaxInt, 0}, {0, 1, 1, math.MaxInt, -1}, {1, math.MaxInt, 0, 1, 1},
		{math.MaxInt, 1, math.MaxInt, 1, 0}, {math.MaxInt, 1, math.MaxInt - 1, 1, 1},
		{math.MaxInt, math.MaxInt, 1, 1, 0},
		// So near each other that nothing but the whole products tells which is greater.
		{math.MaxInt - 1, math.MaxInt, math.MaxInt - 2, math.MaxInt - 1, 1},
		{math.MaxInt - 2, math.MaxInt - 1, math.MaxInt - 1, math.MaxInt, -1},
		// Products that differ by 2^64 and above alone, and below it alone.
		{1 << 33, 1, 0, 1 << 31, 1}, {1 << 32, 1, 0, 1 << 32, 1}, {0, 1 << 32, 1 << 32, 1, -1},
		{1<<40 + 1, 1 << 40, 1 << 40, 1 << 40, 1}, {1 << 40, 1 << 40, 1<<40 + 1, 1 << 40, -1},
		// Where the higher words say otherwise than the lower ones.
		{1 << 40, 1 << 10, 1<<50 - 1, 1 << 40, 1}, {1<<50 - 1, 1 << 40, 1 << 40, 1 << 10, -1},
		// What isn't let.
		{-1, 1, 1, 1, 0}, {1, 1, -1, 1, 0}, {1, 0, 1, 1, 0}, {1, 1, 1, 0, 0}, {1, -1, 1, 1, 0}, {1, 1, 1, -1, 0},
		{-1, -1, 2, 1, 0}, {-2, 1, -1, 1, 0}, {0, 0, 0, 0, 0}, {0, 0, 1, 1, 0}, {5, 1, 0, 0, 0},
		{math.MinInt, math.MinInt, 1, 2, 0}, {5, 1, math.MinInt, 1, 0}, {5, 1, 1, math.MinInt, 0},
	} {
		if got := ratio.Cmp(x[0], x[1], x[2], x[3]); got != x[4] {
			t.Errorf("%d/%d against %d/%d: %d, not %d", x[0], x[1], x[2], x[3], got, x[4])
		}
	}
}

// P9.1: fractions of edges, of all small numbers and of many of any size.
func TestCmp(t *testing.T) {
	l := []int{math.MinInt, -1, 0, 1, 2, 3, 1<<31 - 1, 1 << 31, 1 << 32, 1<<32 + 1, 1 << 40, greatest - 1, greatest, math.MaxInt - 1, math.MaxInt}
	for _, a := range l {
		for _, b := range l {
			for _, c := range l {
				for _, d := range l {
					holdCmp(t, a, b, c, d)
				}
			}
		}
	}
	for i := range 10 * 10 * 10 * 10 {
		holdCmp(t, i%10-1, i/10%10-1, i/100%10-1, i/1000-1)
	}
	r := rand.New(rand.NewSource(94))
	for range 50000 {
		holdCmp(t, anything(r), anything(r), anything(r), anything(r))
	}
}

// P9.1: one fraction told in two ways is the same, and a little more or less isn't.
func TestCmpNear(t *testing.T) {
	r := rand.New(rand.NewSource(95))
	for range 20000 {
		a, b := 1+r.Intn(1<<31), 1+r.Intn(1<<31)
		k, m := 1+r.Intn(1<<31), 1+r.Intn(1<<31)
		if got := ratio.Cmp(a*k, b*k, a*m, b*m); got != 0 {
			t.Errorf("%d/%d, %d and %d times: %d", a, b, k, m, got)
		}
		if more, less := ratio.Cmp(a*k+1, b*k, a*m, b*m), ratio.Cmp(a*k, b*k+1, a*m, b*m); more != 1 || less != -1 {
			t.Errorf("%d/%d, %d and %d times, nearly: %d, %d", a, b, k, m, more, less)
		}
	}
}
