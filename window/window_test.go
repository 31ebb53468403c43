package window_test

import (
	"math"
	"math/big"
	"math/rand"
	"slices"
	"testing"

	"bellwether/api"
	"bellwether/window"
)

// The document's numbers, written out anew.
const (
	maxTime   = 1099511627776 // 2^40
	maxWindow = 16
	greatest  = 1125899906842624 // 2^50, of what counts in a mean
	errArg    = 1
)

// edges: numbers at which something turns, and their neighbours.
var edges = []int{
	math.MinInt, math.MinInt + 1, -maxTime, -17, -2, -1, 0, 1, 2, 3, 9, 10, 11, 16, 17, 1000,
	1<<31 - 1, 1 << 31, 1 << 32, maxTime - 2, maxTime - 1, maxTime, maxTime + 1, greatest, greatest + 1, math.MaxInt - 1, math.MaxInt,
}

// equal: the same windows, told number by number.
func equal(a, b api.Window) bool {
	if a.Last != b.Last || len(a.Gaps) != len(b.Gaps) {
		return false
	}
	for i := range a.Gaps {
		if a.Gaps[i] != b.Gaps[i] {
			return false
		}
	}
	return true
}

// plainRight: may w be, asked one by one?
func plainRight(w api.Window) bool {
	if w.Last < -1 || w.Last > maxTime {
		return false
	}
	for i, gap := range w.Gaps {
		if i == maxWindow || gap <= 0 || gap > maxTime {
			return false
		}
	}
	return true
}

// plainArrive: an arrival, its gap worked out step by step.
func plainArrive(w api.Window, now, most int) (api.Window, api.Errno) {
	if !plainRight(w) || now < 0 || now < w.Last || now > maxTime {
		return w, errArg
	}
	if w.Last < 0 {
		return api.Window{Last: now, Gaps: w.Gaps}, 0
	}
	if most < 1 {
		most = 1
	}
	gap := now - w.Last
	if gap > most {
		gap = most
	}
	if gap < 1 {
		gap = 1
	}
	all := append(append([]int{}, w.Gaps...), gap)
	for len(all) > maxWindow {
		all = all[1:]
	}
	return api.Window{Last: now, Gaps: all}, 0
}

// plainMean: the mean, by numbers of any size.
func plainMean(w api.Window, boot int) int {
	mean := boot
	if len(w.Gaps) > 0 {
		sum := new(big.Int)
		for _, gap := range w.Gaps {
			sum.Add(sum, big.NewInt(int64(max(0, min(gap, greatest)))))
		}
		mean = int(sum.Quo(sum, big.NewInt(int64(len(w.Gaps)))).Int64())
	}
	if mean < 1 {
		return 1
	}
	return mean
}

// anyGap: one that may be, as often a short one as a long one.
func anyGap(r *rand.Rand) int {
	return 1 + r.Intn(1<<r.Intn(41))
}

// anyWindow: one that may be.
func anyWindow(r *rand.Rand) api.Window {
	w := api.Window{Last: r.Intn(1 << (1 + r.Intn(40)))}
	for range r.Intn(maxWindow + 1) {
		w.Gaps = append(w.Gaps, anyGap(r))
	}
	switch r.Intn(6) {
	case 0:
		w.Last = -1
	case 1:
		w.Last = maxTime - r.Intn(2)
	}
	return w
}

// rightOnes: windows that may be, at their edges.
func rightOnes() []api.Window {
	var l []api.Window
	for _, last := range []int{-1, 0, 1, 2, 1 << 32, maxTime - 1, maxTime} {
		l = append(l, api.Window{Last: last}, api.Window{Last: last, Gaps: []int{}})
		for _, gap := range []int{1, 2, 1 << 32, maxTime - 1, maxTime} {
			for _, n := range []int{1, 2, maxWindow - 1, maxWindow} {
				l = append(l, api.Window{Last: last, Gaps: slices.Repeat([]int{gap}, n)})
			}
		}
	}
	rising := api.Window{Last: 7}
	for i := range maxWindow {
		rising.Gaps = append(rising.Gaps, i+1)
	}
	return append(l, rising)
}

// wrongOnes: windows that may not be, each by one thing alone, and some by several.
func wrongOnes() []api.Window {
	var l []api.Window
	for _, last := range []int{math.MinInt, -maxTime, -3, -2, maxTime + 1, math.MaxInt} {
		l = append(l, api.Window{Last: last}, api.Window{Last: last, Gaps: []int{1, 2}})
	}
	for _, n := range []int{maxWindow + 1, maxWindow + 2, 32, 1000} {
		l = append(l, api.Window{Last: 5, Gaps: slices.Repeat([]int{3}, n)}, api.Window{Last: -1, Gaps: slices.Repeat([]int{3}, n)})
	}
	for _, gap := range []int{math.MinInt, -maxTime, -1, 0, maxTime + 1, greatest, greatest + 1, math.MaxInt} {
		for place := range maxWindow {
			gaps := slices.Repeat([]int{3}, maxWindow)
			gaps[place] = gap
			l = append(l, api.Window{Last: 5, Gaps: gaps}, api.Window{Last: -1, Gaps: gaps[:place+1]})
		}
	}
	return append(l, api.Window{Last: -2, Gaps: slices.Repeat([]int{0}, maxWindow+1)})
}

// holdArrive: the call against the plain working-out, with spare room behind the gaps that is looked at, too.
func holdArrive(t *testing.T, w api.Window, now, most int) api.Window {
	t.Helper()
	room := append(slices.Clone(w.Gaps), -77, -78)
	given := api.Window{Last: w.Last, Gaps: room[:len(w.Gaps)]}
	want, wantE := plainArrive(w, now, most)
	got, e := window.Arrive(given, now, most)
	if !equal(got, want) || e != wantE {
		t.Errorf("%v at %d of at most %d: %v, %d, not %v, %d", w, now, most, got, e, want, wantE)
	}
	answered := slices.Clone(got.Gaps)
	for i := range got.Gaps {
		got.Gaps[i] = -5
	}
	_ = append(got.Gaps, -6)
	if !equal(given, w) || room[len(w.Gaps)] != -77 || room[len(w.Gaps)+1] != -78 {
		t.Errorf("%v at %d of at most %d: what was handed in isn't what it was", w, now, most)
	}
	return api.Window{Last: got.Last, Gaps: answered}
}

// P10.1: a window of nothing, whose Last isn't 0.
func TestNew(t *testing.T) {
	w := window.New()
	if w.Last != -1 || len(w.Gaps) != 0 || !window.Right(w) {
		t.Error(w)
	}
	if window.Mean(w, 5) != 5 {
		t.Error("its mean isn't boot")
	}
	for _, now := range []int{0, 1, maxTime} {
		if x := holdArrive(t, w, now, 9); x.Last != now || len(x.Gaps) != 0 {
			t.Error(now, x)
		}
	}
}

// P10.1: the document's example.
func TestExample(t *testing.T) {
	w := window.New()
	for _, now := range []int{5, 8, 20} {
		x, e := window.Arrive(w, now, 10)
		if e != api.OK {
			t.Fatal(now, e)
		}
		w = x
	}
	if !equal(w, api.Window{Last: 20, Gaps: []int{3, 10}}) || window.Mean(w, 1) != 6 {
		t.Error(w)
	}
}

// P10.1: which windows may be, at each field's edges.
func TestRight(t *testing.T) {
	for _, w := range rightOnes() {
		if !window.Right(w) || !plainRight(w) {
			t.Error("may be:", w)
		}
	}
	for _, w := range wrongOnes() {
		if window.Right(w) || plainRight(w) {
			t.Error("may not be:", w)
		}
	}
	for _, last := range edges {
		for _, gap := range edges {
			for _, w := range []api.Window{{Last: last}, {Last: last, Gaps: []int{gap}}, {Last: last, Gaps: []int{1, gap}}} {
				if got := window.Right(w); got != plainRight(w) {
					t.Error(w, got)
				}
			}
		}
	}
}

// P10.1: arrivals by hand, written out.
func TestArriveByHand(t *testing.T) {
	ones := slices.Repeat([]int{1}, maxWindow-1)
	for _, x := range []struct {
		last      int
		gaps      []int
		now, most int
		want      []int
	}{
		// The first one leaves no gap, and those that stand there stay.
		{-1, nil, 0, 10, nil},
		{-1, nil, maxTime, 10, nil},
		{-1, []int{4, 7}, 100, 10, []int{4, 7}},
		// At the same time it is 1; at most so much, which is 1 itself where it is less.
		{0, nil, 0, 10, []int{1}},
		{7, nil, 7, 10, []int{1}},
		{7, nil, 8, 10, []int{1}},
		{7, nil, 9, 10, []int{2}},
		{7, nil, 16, 10, []int{9}},
		{7, nil, 17, 10, []int{10}},
		{7, nil, 18, 10, []int{10}},
		{7, nil, maxTime, 10, []int{10}},
		{7, nil, 17, 1, []int{1}},
		{7, nil, 17, 0, []int{1}},
		{7, nil, 17, -1, []int{1}},
		{7, nil, 17, math.MinInt, []int{1}},
		{7, nil, 7, math.MinInt, []int{1}},
		{0, nil, maxTime, maxTime, []int{maxTime}},
		{0, nil, maxTime, maxTime - 1, []int{maxTime - 1}},
		{0, nil, maxTime, math.MaxInt, []int{maxTime}},
		{maxTime, nil, maxTime, math.MaxInt, []int{1}},
		// Behind those that stand there, and the first one goes at 17 alone.
		{7, []int{4, 9}, 10, 10, []int{4, 9, 3}},
		{7, slices.Concat([]int{5}, ones[1:]), 10, 10, slices.Concat([]int{5}, ones[1:], []int{3})},
		{7, slices.Concat([]int{5}, ones), 10, 10, slices.Concat(ones, []int{3})},
		// What was let before stays, whatever is let now.
		{7, []int{400}, 10, 2, []int{400, 2}},
	} {
		w := api.Window{Last: x.last, Gaps: x.gaps}
		got, e := window.Arrive(w, x.now, x.most)
		if !equal(got, api.Window{Last: x.now, Gaps: x.want}) || e != api.OK {
			t.Errorf("%v at %d of at most %d: %v, %d", w, x.now, x.most, got, e)
		}
		holdArrive(t, w, x.now, x.most)
	}
}

// P10.1: what may not be is ErrArg, and the window as it was.
func TestArriveWrong(t *testing.T) {
	full := api.Window{Last: 50, Gaps: slices.Repeat([]int{3}, maxWindow)}
	for _, x := range []struct {
		w   api.Window
		now int
	}{
		{window.New(), -1}, {window.New(), -2}, {window.New(), math.MinInt}, {window.New(), maxTime + 1}, {window.New(), math.MaxInt},
		{api.Window{Last: 0}, -1}, {api.Window{Last: 1}, 0}, {full, 49}, {full, 0}, {full, -1}, {full, maxTime + 1},
		{api.Window{Last: maxTime}, maxTime - 1}, {api.Window{Last: maxTime}, maxTime + 1}, {api.Window{Last: -1, Gaps: []int{2}}, -1},
	} {
		got, e := window.Arrive(x.w, x.now, 10)
		if e != api.ErrArg || !equal(got, x.w) {
			t.Errorf("%v at %d: %v, %d", x.w, x.now, got, e)
		}
		holdArrive(t, x.w, x.now, 10)
	}
	for _, w := range wrongOnes() {
		for _, now := range []int{-1, 0, 5, maxTime, maxTime + 1, math.MaxInt} {
			got, e := window.Arrive(w, now, 10)
			if e != api.ErrArg || !equal(got, w) {
				t.Errorf("%v at %d: %v, %d", w, now, got, e)
			}
			holdArrive(t, w, now, 10)
		}
	}
}

// P10.1: arrivals at windows' edges and at many windows, at all edges of times.
func TestArrive(t *testing.T) {
	for _, w := range rightOnes() {
		for _, now := range edges {
			for _, most := range edges {
				holdArrive(t, w, now, most)
			}
		}
	}
	r := rand.New(rand.NewSource(10))
	for range 50000 {
		w := anyWindow(r)
		now := max(w.Last, 0) + r.Intn(1<<r.Intn(41)) - r.Intn(3)
		holdArrive(t, w, now, anyGap(r)-r.Intn(3))
	}
}

// P10.1: means by hand, written out.
func TestMeanByHand(t *testing.T) {
	for _, x := range []struct {
		gaps       []int
		boot, want int
	}{
		{nil, 7, 7}, {nil, 1, 1}, {nil, 0, 1}, {nil, -1, 1}, {nil, math.MinInt, 1}, {nil, maxTime, maxTime}, {nil, math.MaxInt, math.MaxInt},
		{[]int{}, 7, 7}, {[]int{}, -7, 1},
		// Where there are gaps boot tells nothing.
		{[]int{3}, 7, 3}, {[]int{3}, math.MaxInt, 3}, {[]int{3}, -7, 3}, {[]int{1}, 100, 1},
		{[]int{3, 10}, 1, 6}, {[]int{1, 2, 4}, 1, 2}, {[]int{1, 1, 1, 4}, 9, 1},
		{[]int{maxTime}, 1, maxTime}, {slices.Repeat([]int{maxTime}, maxWindow), 1, maxTime}, {[]int{maxTime, 1}, 1, maxTime / 2},
		// Of windows that may not be: each number as layer 9 counts it.
		{[]int{0}, 7, 1}, {[]int{-5}, 7, 1}, {[]int{-5, 6}, 7, 3}, {[]int{0, 1}, 7, 1}, {[]int{math.MinInt, math.MinInt}, 7, 1},
		{[]int{math.MaxInt}, 7, greatest}, {[]int{greatest + 2, greatest - 2}, 7, greatest - 1},
		{slices.Concat(slices.Repeat([]int{1}, 17), []int{19}), 7, 2},
	} {
		for _, last := range []int{-1, 0, 5, maxTime, -2, math.MaxInt} {
			if got := window.Mean(api.Window{Last: last, Gaps: x.gaps}, x.boot); got != x.want {
				t.Errorf("of %d, boot %d: %d, not %d", x.gaps, x.boot, got, x.want)
			}
		}
	}
}

// P10.1: means of edges, and of many windows.
func TestMean(t *testing.T) {
	hold := func(w api.Window, boot int) {
		t.Helper()
		was := slices.Clone(w.Gaps)
		if got, want := window.Mean(w, boot), plainMean(w, boot); got != want {
			t.Errorf("%v, boot %d: %d, not %d", w, boot, got, want)
		}
		if !slices.Equal(w.Gaps, was) {
			t.Errorf("%v: its mean changed it", w)
		}
	}
	for _, boot := range edges {
		hold(window.New(), boot)
		for _, w := range slices.Concat(rightOnes(), wrongOnes()) {
			hold(w, boot)
		}
	}
	r := rand.New(rand.NewSource(101))
	for range 20000 {
		hold(anyWindow(r), anyGap(r)-2)
	}
}

// P10.1: the same ones: by Last, by how many gaps, by each of them in its place; none is the same as nil.
func TestSame(t *testing.T) {
	l := []api.Window{
		window.New(), {}, {Last: 1}, {Last: -2}, {Last: maxTime},
		{Gaps: []int{1}}, {Gaps: []int{2}}, {Gaps: []int{1, 2}}, {Gaps: []int{2, 1}}, {Gaps: []int{1, 1}}, {Gaps: []int{0}}, {Last: 1, Gaps: []int{1}},
		{Last: 1, Gaps: slices.Repeat([]int{1}, maxWindow)}, {Last: 1, Gaps: slices.Repeat([]int{1}, maxWindow+1)},
		{Last: math.MinInt, Gaps: []int{math.MaxInt}},
	}
	for i, a := range l {
		for j, b := range l {
			b.Gaps = append([]int{}, b.Gaps...)
			if got := window.Same(a, b); got != (i == j) {
				t.Error(a, b, got)
			}
		}
	}
	if !window.Same(api.Window{Gaps: nil}, api.Window{Gaps: []int{}}) || !window.Same(api.Window{Gaps: []int{}}, api.Window{}) {
		t.Error("no gaps")
	}
}

// P10.2: of whatever arrives, gaps are at most 16, none greater than what was let, and the mean isn't either.
func TestBounded(t *testing.T) {
	r := rand.New(rand.NewSource(102))
	full, cut := 0, 0
	for range 400 {
		w, most := window.New(), anyGap(r)
		for i := range 60 {
			if w.Last >= maxTime {
				break
			}
			now := min(maxTime, max(w.Last, 0)+r.Intn(1<<r.Intn(36)))
			if w.Last >= 0 && now-w.Last > most {
				cut++
			}
			x, e := window.Arrive(w, now, most)
			if e != api.OK || !window.Right(x) || x.Last != now || len(x.Gaps) != min(i, maxWindow) {
				t.Fatal(w, now, most, x, e)
			}
			if slices.ContainsFunc(x.Gaps, func(gap int) bool { return gap < 1 || gap > most }) {
				t.Error("more than was let:", most, x)
			}
			if mean := window.Mean(x, most); mean < 1 || mean > most {
				t.Error("a mean above what was let:", most, x, mean)
			}
			if i > maxWindow {
				full++
			}
			w = x
		}
	}
	if full < 5000 || cut < 5000 {
		t.Error("too few:", full, cut)
	}
}

// P10.2: where what is let changes, no gap is above the greatest of what was let.
func TestBoundedByTheGreatest(t *testing.T) {
	r := rand.New(rand.NewSource(103))
	for range 400 {
		w, greatestLet := window.New(), 1
		for range 60 {
			most := r.Intn(40) - 5
			greatestLet = max(greatestLet, most)
			x, e := window.Arrive(w, max(w.Last, 0)+r.Intn(60), most)
			if e != api.OK || len(x.Gaps) > maxWindow {
				t.Fatal(w, most, x, e)
			}
			w = x
			if mean := window.Mean(w, 1); mean > greatestLet || slices.Max(append([]int{1}, w.Gaps...)) > greatestLet {
				t.Error(w, greatestLet, mean)
			}
		}
	}
}
