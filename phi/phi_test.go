package phi_test

import (
	"math"
	"math/big"
	"math/rand"
	"slices"
	"testing"

	"bellwether/api"
	"bellwether/phi"
)

// The document's numbers, written out anew.
const (
	maxTime   = 1099511627776 // 2^40, of thresholds and of Bound's means, too
	maxWindow = 16
	greatest  = 4611686018427387904 // 2^62
	errArg    = 1
	errNone   = 7
	errFull   = 8
)

// edges: numbers at which something turns, and their neighbours.
var edges = []int{
	math.MinInt, math.MinInt + 1, -maxTime, -434, -2, -1, 0, 1, 2, 3, 9, 10, 11, 433, 434, 435, 867, 868, 2000,
	1<<31 - 1, 1 << 31, 1 << 32, maxTime - 2, maxTime - 1, maxTime, maxTime + 1, maxTime + 2, greatest - 1, greatest, greatest + 1, math.MaxInt - 1, math.MaxInt,
}

func wide(n int) *big.Int {
	return big.NewInt(int64(n))
}

func times(a, b int) *big.Int {
	return new(big.Int).Mul(wide(a), wide(b))
}

// counted: a number, 2^62 where it would be more.
func counted(n *big.Int) int {
	if n.Cmp(wide(greatest)) > 0 {
		return greatest
	}
	return int(n.Int64())
}

// plainRight: may w be, asked one by one?
func plainRight(w api.Window) bool {
	if w.Last < -1 || w.Last > maxTime || len(w.Gaps) > maxWindow {
		return false
	}
	for _, gap := range w.Gaps {
		if gap <= 0 || gap > maxTime {
			return false
		}
	}
	return true
}

// plainMean: the mean of gaps that may be, step by step (16 of them stay below 2^45).
func plainMean(w api.Window, boot int) int {
	if len(w.Gaps) == 0 {
		return max(1, boot)
	}
	sum := 0
	for _, gap := range w.Gaps {
		sum += gap
	}
	return sum / len(w.Gaps)
}

// plainLevel: the level, by numbers of any size.
func plainLevel(w api.Window, now, boot int) (int, api.Errno) {
	if !plainRight(w) || now < 0 || now < w.Last || now > maxTime {
		return 0, errArg
	}
	if w.Last == -1 {
		return 0, 0
	}
	n := times(434, now-w.Last)
	return counted(n.Quo(n, wide(plainMean(w, boot)))), 0
}

func plainSuspect(w api.Window, now, boot, threshold int) bool {
	level, e := plainLevel(w, now, boot)
	if e != 0 {
		return false
	}
	return level > threshold
}

// plainBound: how long it takes, by numbers of any size: what is left over is asked for.
func plainBound(threshold, mean int) int {
	if threshold < 0 || mean <= 0 || threshold > maxTime || mean > maxTime {
		return 0
	}
	n, left := new(big.Int).QuoRem(times(threshold+1, mean), wide(434), new(big.Int))
	if left.Sign() > 0 {
		n.Add(n, wide(1))
	}
	return counted(n)
}

func plainFirst(w api.Window, boot, threshold int) (int, api.Errno) {
	switch {
	case !plainRight(w):
		return 0, errArg
	case w.Last == -1:
		return 0, errNone
	case threshold < 0 || threshold > maxTime:
		return 0, errArg
	case plainMean(w, boot) > maxTime:
		return 0, errFull
	}
	n := new(big.Int).Add(wide(w.Last), wide(plainBound(threshold, plainMean(w, boot))))
	if n.Cmp(wide(maxTime)) > 0 {
		return 0, errFull
	}
	return int(n.Int64()), 0
}

// some: a number from 1 to 2^40, as often a short one as a long one.
func some(r *rand.Rand) int {
	return 1 + r.Intn(1<<r.Intn(41))
}

// anyWindow: one that may be.
func anyWindow(r *rand.Rand) api.Window {
	w := api.Window{Last: r.Intn(1 << (1 + r.Intn(40)))}
	size := r.Intn(41)
	for range r.Intn(maxWindow + 1) {
		w.Gaps = append(w.Gaps, 1+r.Intn(1<<size))
	}
	switch r.Intn(8) {
	case 0:
		w.Last = -1
	case 1:
		w.Last = maxTime - r.Intn(3)
	}
	return w
}

// rightOnes: windows that may be, at their edges.
func rightOnes() []api.Window {
	var l []api.Window
	for _, last := range []int{-1, 0, 1, 2, 1 << 32, maxTime - 1, maxTime} {
		l = append(l, api.Window{Last: last}, api.Window{Last: last, Gaps: []int{}}, api.Window{Last: last, Gaps: []int{1, 2, 4}})
		for _, gap := range []int{1, 2, 10, 434, 1 << 32, maxTime} {
			l = append(l, api.Window{Last: last, Gaps: []int{gap}}, api.Window{Last: last, Gaps: slices.Repeat([]int{gap}, maxWindow)})
		}
	}
	return l
}

// wrongOnes: windows that may not be, each by one thing alone.
func wrongOnes() []api.Window {
	var l []api.Window
	for _, last := range []int{math.MinInt, -maxTime, -3, -2, maxTime + 1, math.MaxInt} {
		l = append(l, api.Window{Last: last}, api.Window{Last: last, Gaps: []int{1, 2}})
	}
	for _, last := range []int{-1, 0, 5, maxTime} {
		l = append(l, api.Window{Last: last, Gaps: slices.Repeat([]int{3}, maxWindow+1)}, api.Window{Last: last, Gaps: slices.Repeat([]int{3}, 1000)})
		for _, gap := range []int{math.MinInt, -1, 0, maxTime + 1, math.MaxInt} {
			l = append(l, api.Window{Last: last, Gaps: []int{gap}}, api.Window{Last: last, Gaps: []int{3, 3, gap}}, api.Window{Last: last, Gaps: []int{gap, 3, 3}})
		}
	}
	return l
}

// given: a window with spare room behind its gaps, and a check that it, and that room, stay what they were.
func given(t *testing.T, w api.Window) (api.Window, func()) {
	room := append(slices.Clone(w.Gaps), -77)
	g := api.Window{Last: w.Last, Gaps: room[:len(w.Gaps)]}
	return g, func() {
		t.Helper()
		if g.Last != w.Last || !slices.Equal(g.Gaps, w.Gaps) || room[len(w.Gaps)] != -77 {
			t.Errorf("%v: what was handed in isn't what it was", w)
		}
	}
}

// holdAt: Level and Suspect against the plain working-out, at thresholds about the level, too.
func holdAt(t *testing.T, w api.Window, now, boot int) {
	t.Helper()
	g, unchanged := given(t, w)
	want, wantE := plainLevel(w, now, boot)
	if got, e := phi.Level(g, now, boot); got != want || e != wantE {
		t.Errorf("%v at %d, boot %d: %d, %d, not %d, %d", w, now, boot, got, e, want, wantE)
	}
	for _, threshold := range []int{math.MinInt, -1, 0, want - 1, want, want + 1, math.MaxInt} {
		if got := phi.Suspect(g, now, boot, threshold); got != plainSuspect(w, now, boot, threshold) {
			t.Errorf("%v at %d, boot %d, above %d: %t", w, now, boot, threshold, got)
		}
	}
	unchanged()
}

func holdFirst(t *testing.T, w api.Window, boot, threshold int) {
	t.Helper()
	g, unchanged := given(t, w)
	want, wantE := plainFirst(w, boot, threshold)
	if got, e := phi.First(g, boot, threshold); got != want || e != wantE {
		t.Errorf("%v, boot %d, above %d: %d, %d, not %d, %d", w, boot, threshold, got, e, want, wantE)
	}
	unchanged()
}

func holdBound(t *testing.T, threshold, mean int) {
	t.Helper()
	if got, want := phi.Bound(threshold, mean), plainBound(threshold, mean); got != want {
		t.Errorf("above %d at %d: %d, not %d", threshold, mean, got, want)
	}
}

// P11.1: the document's example, and levels by hand, written out.
func TestLevelByHand(t *testing.T) {
	for _, x := range []struct {
		last      int
		gaps      []int
		now, boot int
		want      int
		e         api.Errno
	}{
		{100, []int{10}, 200, 7, 4340, api.OK}, // the document's
		{100, nil, 200, 10, 4340, api.OK},
		// No silence is as strange as none; what isn't whole is rounded down, and so is the mean.
		{100, []int{10}, 100, 7, 0, api.OK},
		{100, []int{10}, 101, 7, 43, api.OK},
		{100, []int{3}, 101, 7, 144, api.OK},
		{100, []int{435}, 101, 7, 0, api.OK},
		{100, []int{434}, 101, 7, 1, api.OK},
		{100, []int{1, 2, 4}, 101, 7, 217, api.OK},
		// By boot where there is no gap, at least 1, however great; not by boot where there is one.
		{0, nil, 5, 0, 2170, api.OK},
		{0, nil, 5, -9, 2170, api.OK},
		{0, nil, 5, math.MinInt, 2170, api.OK},
		{0, nil, maxTime, math.MaxInt, 0, api.OK},
		{0, []int{1}, 5, math.MaxInt, 2170, api.OK},
		// The longest silence that may be.
		{0, []int{1}, maxTime, 9, 434 * maxTime, api.OK},
		{0, nil, maxTime, maxTime, 434, api.OK},
		{maxTime, nil, maxTime, 1, 0, api.OK},
		// Without an arrival it is 0, gaps or not.
		{-1, nil, 0, 1, 0, api.OK},
		{-1, nil, maxTime, 1, 0, api.OK},
		{-1, []int{4, 7}, 1000, 1, 0, api.OK},
		// What isn't let.
		{-1, nil, -1, 1, 0, api.ErrArg},
		{-1, nil, maxTime + 1, 1, 0, api.ErrArg},
		{0, nil, -1, 1, 0, api.ErrArg},
		{100, nil, 99, 1, 0, api.ErrArg},
		{100, nil, maxTime + 1, 1, 0, api.ErrArg},
		{maxTime, nil, maxTime + 1, 1, 0, api.ErrArg},
		{100, nil, math.MinInt, 1, 0, api.ErrArg},
		{100, nil, math.MaxInt, 1, 0, api.ErrArg},
		{-2, nil, 5, 1, 0, api.ErrArg},
		{maxTime + 1, nil, maxTime + 1, 1, 0, api.ErrArg},
		{1, []int{0}, 5, 1, 0, api.ErrArg},
		{1, []int{maxTime + 1}, 5, 1, 0, api.ErrArg},
		{-1, []int{0}, 5, 1, 0, api.ErrArg},
		{1, slices.Repeat([]int{1}, maxWindow+1), 5, 1, 0, api.ErrArg},
	} {
		w := api.Window{Last: x.last, Gaps: x.gaps}
		if got, e := phi.Level(w, x.now, x.boot); got != x.want || e != x.e {
			t.Errorf("%v at %d, boot %d: %d, %d, not %d, %d", w, x.now, x.boot, got, e, x.want, x.e)
		}
		holdAt(t, w, x.now, x.boot)
	}
}

// P11.1: levels, and whether they are suspect, of windows at their edges, of wrong ones and of many, at all edges of times.
func TestLevel(t *testing.T) {
	for _, w := range slices.Concat(rightOnes(), wrongOnes()) {
		for _, now := range edges {
			for _, boot := range edges {
				holdAt(t, w, now, boot)
			}
		}
	}
	r := rand.New(rand.NewSource(11))
	for range 50000 {
		w := anyWindow(r)
		now := max(w.Last, 0) + some(r) - r.Intn(3)
		holdAt(t, w, now, some(r)-r.Intn(3))
	}
}

// P11.1: suspect is above the threshold alone, whatever the threshold, and nothing that isn't let is suspect.
func TestSuspectByHand(t *testing.T) {
	w := api.Window{Last: 100, Gaps: []int{10}}
	none := api.Window{Last: -1}
	for _, x := range []struct {
		w              api.Window
		now, threshold int
		want           bool
	}{
		{w, 200, 4339, true}, {w, 200, 4340, false}, {w, 200, 4341, false},
		{w, 100, 0, false}, {w, 100, -1, true}, {w, 101, 42, true}, {w, 101, 43, false},
		{w, 200, math.MinInt, true}, {w, 200, math.MaxInt, false}, {w, maxTime, maxTime + 1, true},
		// The level of none is 0: above what is below 0 alone.
		{none, 1000, 0, false}, {none, 1000, -1, true}, {none, 1000, math.MinInt, true},
		// Where Level says ErrArg it isn't above anything.
		{w, 99, -1, false}, {w, maxTime + 1, -1, false}, {w, -1, math.MinInt, false}, {none, -1, -1, false},
		{api.Window{Last: -2}, 1000, -1, false}, {api.Window{Last: 1, Gaps: []int{0}}, 1000, -1, false}, {api.Window{Last: 1, Gaps: []int{0}}, 1000, 0, false},
	} {
		if got := phi.Suspect(x.w, x.now, 1, x.threshold); got != x.want {
			t.Errorf("%v at %d above %d: %t", x.w, x.now, x.threshold, got)
		}
	}
}

// P11.1: how long it takes, by hand, written out.
func TestBoundByHand(t *testing.T) {
	for _, x := range [][3]int{
		{0, 1, 1}, {433, 1, 1}, {434, 1, 2}, {867, 1, 2}, {868, 1, 3},
		{0, 434, 1}, {0, 435, 2}, {0, 868, 2}, {1, 217, 1}, {1, 218, 2},
		{433, 10, 10}, {434, 10, 11}, {2000, 1, 5}, {8000, 10, 185},
		{433, maxTime, maxTime}, {maxTime, 1, 2533436931}, {0, maxTime, 2533436931}, {maxTime, 434, maxTime + 1},
		// At 2^62: just it, where it would be rounded to it from below, and where it would be more.
		{2147483646, 932007903666, greatest - 1},
		{8327870920, 240334144343, greatest},
		{2189654698, 914058153969, greatest},
		{1820327935, maxTime, greatest},
		{2861178145, 699527128290, greatest},
		{1990689747, 1005416205116, greatest},
		{1932917958, 1035466468030, greatest},
		{maxTime, maxTime, greatest}, {maxTime - 1, maxTime - 1, greatest}, {maxTime, 1 << 38, greatest},
		// What isn't let.
		{-1, 1, 0}, {0, 0, 0}, {0, -1, 0}, {-1, -1, 0}, {-5, -5, 0},
		{maxTime + 1, 1, 0}, {0, maxTime + 1, 0}, {maxTime + 1, maxTime + 1, 0},
		{math.MinInt, 1, 0}, {math.MaxInt, 1, 0}, {1, math.MinInt, 0}, {1, math.MaxInt, 0}, {math.MaxInt, math.MaxInt, 0}, {math.MinInt, math.MinInt, 0},
	} {
		if got := phi.Bound(x[0], x[1]); got != x[2] {
			t.Errorf("above %d at %d: %d, not %d", x[0], x[1], got, x[2])
		}
		holdBound(t, x[0], x[1])
	}
}

// P11.1: how long it takes, of all edges, of all small numbers and of many of any size.
func TestBound(t *testing.T) {
	for _, threshold := range edges {
		for _, mean := range edges {
			holdBound(t, threshold, mean)
		}
	}
	for threshold := range 2000 {
		for mean := range 30 {
			holdBound(t, threshold-1, mean-1)
		}
	}
	r := rand.New(rand.NewSource(111))
	for range 100000 {
		holdBound(t, some(r)-r.Intn(3), some(r)-r.Intn(3))
	}
}

// P11.1: it is the least: its 434 times are enough, those of one second less aren't.
func TestBoundLeast(t *testing.T) {
	r := rand.New(rand.NewSource(112))
	whole, left, cut := 0, 0, 0
	for i := range 100000 {
		threshold, mean := some(r), some(r)
		if i%2 == 0 {
			threshold, mean = 434*(1+r.Intn(1<<20))-1, some(r)
		}
		n, asked := phi.Bound(threshold, mean), times(threshold+1, mean)
		if n == greatest {
			cut++
			if asked.Cmp(times(434, n-1)) <= 0 {
				t.Errorf("above %d at %d it isn't so long", threshold, mean)
			}
			continue
		}
		switch enough := times(434, n).Cmp(asked); {
		case enough == 0:
			whole++
		case enough > 0 && times(434, n-1).Cmp(asked) < 0:
			left++
		default:
			t.Errorf("above %d at %d: %d", threshold, mean, n)
		}
	}
	if whole < 10000 || left < 10000 || cut < 100 {
		t.Error("too few:", whole, left, cut)
	}
}

// P11.1: when it becomes suspect, by hand, written out; of several errors the one that is named first.
func TestFirstByHand(t *testing.T) {
	w := api.Window{Last: 100, Gaps: []int{10}}
	wrong := api.Window{Last: 100, Gaps: []int{0}}
	none := api.Window{Last: -1}
	at := func(last int) api.Window { return api.Window{Last: last} }
	for _, x := range []struct {
		w               api.Window
		boot, threshold int
		want            int
		e               api.Errno
	}{
		{w, 1, 0, 101, api.OK}, {w, 1, 433, 110, api.OK}, {w, 1, 434, 111, api.OK}, {w, 1, 8000, 285, api.OK},
		{w, 1, maxTime, 100 + 25334369304, api.OK},
		// By boot where there is no gap, at least 1; not by boot where there is one.
		{at(100), 10, 433, 110, api.OK}, {at(100), 0, 433, 101, api.OK}, {at(100), math.MinInt, 433, 101, api.OK}, {w, math.MaxInt, 433, 110, api.OK}, {w, maxTime + 1, 433, 110, api.OK},
		{at(0), 1, 0, 1, api.OK},
		// The last time that there is, and the one behind it.
		{at(0), maxTime, 433, maxTime, api.OK}, {at(1), maxTime, 433, 0, api.ErrFull}, {at(0), maxTime, 434, 0, api.ErrFull},
		{at(maxTime - 1), 1, 433, maxTime, api.OK}, {at(maxTime), 1, 433, 0, api.ErrFull}, {at(maxTime - 1), 1, 434, 0, api.ErrFull}, {at(maxTime), 1, 0, 0, api.ErrFull},
		{at(maxTime), maxTime, maxTime, 0, api.ErrFull}, {at(0), maxTime, maxTime, 0, api.ErrFull},
		// A mean above 2^40.
		{at(0), maxTime + 1, 0, 0, api.ErrFull}, {at(0), maxTime + 1, 433, 0, api.ErrFull}, {at(0), math.MaxInt, 1, 0, api.ErrFull},
		// Each error ahead of those behind it.
		{wrong, 1, 433, 0, api.ErrArg}, {wrong, maxTime + 1, 433, 0, api.ErrArg}, {api.Window{Last: -2}, 1, 433, 0, api.ErrArg}, {api.Window{Last: -1, Gaps: []int{0}}, 1, 433, 0, api.ErrArg},
		{none, 1, 433, 0, api.ErrNone}, {none, 1, -1, 0, api.ErrNone}, {none, maxTime + 1, 1, 0, api.ErrNone}, {api.Window{Last: -1, Gaps: []int{3}}, 1, 433, 0, api.ErrNone},
		{w, 1, -1, 0, api.ErrArg}, {w, 1, maxTime + 1, 0, api.ErrArg}, {w, 1, math.MinInt, 0, api.ErrArg}, {w, 1, math.MaxInt, 0, api.ErrArg},
		{at(0), maxTime + 1, -1, 0, api.ErrArg}, {at(0), maxTime + 1, maxTime + 1, 0, api.ErrArg}, {at(maxTime), maxTime, maxTime + 1, 0, api.ErrArg},
	} {
		if got, e := phi.First(x.w, x.boot, x.threshold); got != x.want || e != x.e {
			t.Errorf("%v, boot %d, above %d: %d, %d, not %d, %d", x.w, x.boot, x.threshold, got, e, x.want, x.e)
		}
		holdFirst(t, x.w, x.boot, x.threshold)
	}
}

// P11.1: a mean above 2^40 is ErrFull, even where it becomes suspect.
func TestFirstOfGreatMeans(t *testing.T) {
	w := api.Window{Last: 0}
	for _, boot := range []int{maxTime + 1, maxTime + 2, 2 * maxTime, 434 * maxTime} {
		if n, e := phi.First(w, boot, 0); n != 0 || e != api.ErrFull || !phi.Suspect(w, maxTime, boot, 0) {
			t.Error(boot, n, e)
		}
	}
}

// P11.1: when it becomes suspect, of windows at their edges, of wrong ones and of many, at all edges of thresholds.
func TestFirst(t *testing.T) {
	for _, w := range slices.Concat(rightOnes(), wrongOnes()) {
		for _, boot := range edges {
			for _, threshold := range edges {
				holdFirst(t, w, boot, threshold)
			}
		}
	}
	r := rand.New(rand.NewSource(113))
	for range 50000 {
		holdFirst(t, anyWindow(r), some(r)-r.Intn(3), some(r)-r.Intn(3))
	}
}

// P11.2: the level never falls as the silence lasts, second by second and by leaps.
func TestRises(t *testing.T) {
	r := rand.New(rand.NewSource(114))
	rose := 0
	for range 300 {
		w, boot := anyWindow(r), some(r)
		now, was := max(w.Last, 0), 0
		for step := range 300 {
			level, e := phi.Level(w, now, boot)
			if e != api.OK || level < was {
				t.Fatalf("%v at %d, boot %d: %d, %d, having been %d", w, now, boot, level, e, was)
			}
			if level > was {
				rose++
			}
			was = level
			if now++; step > 100 {
				now += r.Intn(1 << r.Intn(36))
			}
			if now > maxTime {
				break
			}
		}
	}
	if rose < 10000 {
		t.Error("too few:", rose)
	}
}

// P11.2: the level is within one thousandth of the fraction: not above 434 times the silence by the mean, and the next one is.
func TestNearTheFraction(t *testing.T) {
	r := rand.New(rand.NewSource(115))
	above0, rounded := 0, 0
	for range 50000 {
		w, boot := anyWindow(r), some(r)
		if w.Last == -1 {
			continue
		}
		now := min(maxTime, w.Last+some(r))
		level, e := phi.Level(w, now, boot)
		mean, product := plainMean(w, boot), times(434, now-w.Last)
		low := times(level, mean).Cmp(product)
		if e != api.OK || level < 0 || low > 0 || times(level+1, mean).Cmp(product) <= 0 {
			t.Errorf("%v at %d, boot %d: %d, %d", w, now, boot, level, e)
		}
		if level > 0 {
			above0++
		}
		if low < 0 {
			rounded++
		}
	}
	if above0 < 10000 || rounded < 10000 {
		t.Error("too few:", above0, rounded)
	}
}

// holdJust: at First it is suspect, before it isn't; where there is no First it isn't to the end of times,
// unless the mean is so great that First doesn't tell.
func holdJust(t *testing.T, w api.Window, boot, threshold int) bool {
	t.Helper()
	first, e := phi.First(w, boot, threshold)
	if e == api.ErrFull {
		if plainMean(w, boot) <= maxTime && phi.Suspect(w, maxTime, boot, threshold) {
			t.Errorf("%v, boot %d, above %d: suspect, but there is no first time", w, boot, threshold)
		}
		return false
	}
	if e != api.OK || first <= w.Last || first > maxTime {
		t.Errorf("%v, boot %d, above %d: %d, %d", w, boot, threshold, first, e)
		return false
	}
	for _, later := range []int{0, 1, 2, 1000, maxTime - first} {
		if now := first + later; now <= maxTime && !phi.Suspect(w, now, boot, threshold) {
			t.Errorf("%v, boot %d, above %d: not suspect at %d, from %d on it should be", w, boot, threshold, now, first)
		}
	}
	for _, earlier := range []int{1, 2, 3, 1000, first - w.Last} {
		if now := first - earlier; now >= w.Last && phi.Suspect(w, now, boot, threshold) {
			t.Errorf("%v, boot %d, above %d: suspect at %d, before %d", w, boot, threshold, now, first)
		}
	}
	return true
}

// P11.2: First is just when it becomes suspect: second by second, of small windows.
func TestFirstIsJustThenBySeconds(t *testing.T) {
	for mean := 1; mean <= 12; mean++ {
		w := api.Window{Last: 50, Gaps: []int{mean}}
		for threshold := 0; threshold <= 3000; threshold += 31 {
			now := w.Last
			for !phi.Suspect(w, now, 1, threshold) {
				now++
			}
			if first, e := phi.First(w, 1, threshold); first != now || e != api.OK {
				t.Errorf("at %d above %d: %d, %d, not %d", mean, threshold, first, e, now)
			}
		}
	}
}

// P11.2: First is just when it becomes suspect: of windows at their edges, and of many.
func TestFirstIsJustThen(t *testing.T) {
	lets := func(n int) bool { return n >= 0 && n <= maxTime }
	for _, w := range rightOnes() {
		for _, boot := range edges {
			for _, threshold := range edges {
				if w.Last >= 0 && lets(threshold) {
					holdJust(t, w, boot, threshold)
				}
			}
		}
	}
	r := rand.New(rand.NewSource(116))
	just, never := 0, 0
	for range 50000 {
		w := anyWindow(r)
		if w.Last == -1 {
			continue
		}
		if holdJust(t, w, some(r), some(r)-1) {
			just++
		} else {
			never++
		}
	}
	if just < 10000 || never < 1000 {
		t.Error("too few:", just, never)
	}
}
