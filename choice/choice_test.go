package choice_test

import (
	"math"
	"math/rand"
	"slices"
	"testing"

	"bellwether/choice"
)

// edges: numbers that lists may hold and be asked for, with some that are alike in their lowest bits.
var edges = []int{
	math.MinInt, math.MinInt + 1, -1 << 32, -1 << 31, -256, -2, -1, 0, 1, 2, 3, 7, 8, 255, 256, 257,
	1<<31 - 1, 1 << 31, 1<<32 - 1, 1 << 32, 1<<32 + 1, 1 << 40, math.MaxInt - 1, math.MaxInt,
}

// draws: their edges, and what is between them.
var draws = []uint32{
	0, 1, 2, 3, 4, 5, 6, 7, 8, 9, 10, 11, 255, 256, 257, 65535, 65536, 1000003,
	1<<31 - 1, 1 << 31, 1<<31 + 1, 1<<32 - 4, 1<<32 - 3, 1<<32 - 2, 1<<32 - 1,
}

// remainder: what is left of a draw when as many as may be are taken off it so many at a time.
func remainder(draw uint32, many int) int {
	whole := int64(draw) / int64(many)
	return int(int64(draw) - whole*int64(many))
}

// among: does n stand in l, place by place?
func among(l []int, n int) bool {
	for i := range l {
		if l[i] == n {
			return true
		}
	}
	return false
}

// plainRound: whom a round asks: who is chosen by each of the three, then each once.
func plainRound(alive, down, seeds []int, draws [3]uint32) []int {
	var chosen []int
	first := false
	if len(alive) != 0 {
		first = true
		chosen = append(chosen, alive[remainder(draws[0], len(alive))])
	}
	seedToo := !first || !among(seeds, chosen[0])
	if len(alive) < len(seeds) {
		seedToo = true
	}
	if len(down) != 0 && remainder(draws[1], 1+len(alive)) < len(down) {
		chosen = append(chosen, down[remainder(draws[1], len(down))])
	}
	if len(seeds) != 0 && seedToo {
		chosen = append(chosen, seeds[remainder(draws[2], len(seeds))])
	}
	var once []int
	for _, n := range chosen {
		if !among(once, n) {
			once = append(once, n)
		}
	}
	return once
}

// plainWithout: those of l that aren't n, laid behind one another.
func plainWithout(l []int, n int) []int {
	var out []int
	for _, m := range l {
		if m != n {
			out = append(out, m)
		}
	}
	return out
}

// plainRising: the least of all, then the least above it, and so on.
func plainRising(l []int) []int {
	var out []int
	for {
		next, found := 0, false
		for _, n := range l {
			if (len(out) == 0 || n > out[len(out)-1]) && (!found || n < next) {
				next, found = n, true
			}
		}
		if !found {
			return out
		}
		out = append(out, next)
	}
}

// spare: what must stay in the room behind what is handed in.
var spare = []int{-771, -772, -773}

// roomy: the same list in memory of its own; the room behind it holds what must stay.
func roomy(l []int) []int {
	return slices.Concat(l, spare)[:len(l)]
}

// stays: whether what was made by roomy is as it was, and its room, too.
func stays(was, l []int) bool {
	return slices.Equal(l, was) && slices.Equal(l[len(l):len(l)+len(spare)], spare)
}

// wipe: overwrites a list, and the room behind it.
func wipe(l []int) {
	for i := range l[:cap(l)] {
		l[:cap(l)][i] = -999
	}
}

// anyList: of so many at most, as often of few numbers, so that some stand twice, as of any.
func anyList(r *rand.Rand, most int) []int {
	var l []int
	few := r.Intn(2) == 0
	for range r.Intn(most + 1) {
		if few {
			l = append(l, r.Intn(9))
		} else {
			l = append(l, int(r.Uint64()))
		}
	}
	return l
}

// anyDraw: one of any size, as often a small one as a great one.
func anyDraw(r *rand.Rand) uint32 {
	return r.Uint32() >> r.Intn(32)
}

func anyDraws(r *rand.Rand) [3]uint32 {
	return [3]uint32{anyDraw(r), anyDraw(r), anyDraw(r)}
}

// lists: all of the numbers 0 to below many, of so many places at most.
func lists(many, most int) [][]int {
	all := [][]int{nil}
	last := all
	for range most {
		var longer [][]int
		for _, l := range last {
			for n := range many {
				longer = append(longer, append(slices.Clone(l), n))
			}
		}
		all, last = append(all, longer...), longer
	}
	return all
}

// count: 0 to below many.
func count(many int) []int {
	var l []int
	for i := range many {
		l = append(l, i)
	}
	return l
}

// holdRound: a round against the plain working-out, and P14.2 of it.
func holdRound(t *testing.T, alive, down, seeds []int, draws [3]uint32) {
	t.Helper()
	got := choice.Round(alive, down, seeds, draws)
	if want := plainRound(alive, down, seeds, draws); !slices.Equal(got, want) {
		t.Fatalf("alive %v, down %v, seeds %v, draws %v: %v, not %v", alive, down, seeds, draws, got, want)
	}
	holdFew(t, got, alive, down, seeds)
}

// holdFew: at most three, nobody twice, all of the lists; somebody, if anybody is alive, or there are seeds.
func holdFew(t *testing.T, asked, alive, down, seeds []int) {
	t.Helper()
	if len(asked) > 3 {
		t.Fatalf("alive %v, down %v, seeds %v: %v are too many", alive, down, seeds, asked)
	}
	for i, n := range asked {
		if among(asked[:i], n) {
			t.Fatalf("alive %v, down %v, seeds %v: %d is asked twice", alive, down, seeds, n)
		}
		if !among(alive, n) && !among(down, n) && !among(seeds, n) {
			t.Fatalf("alive %v, down %v, seeds %v: %d is of none of them", alive, down, seeds, n)
		}
	}
	if len(asked) == 0 && len(alive)+len(seeds) > 0 {
		t.Fatalf("alive %v, down %v, seeds %v: nobody is asked", alive, down, seeds)
	}
}

// P14.1: the document's example, and those by hand, written out.
func TestOneByHand(t *testing.T) {
	for _, x := range []struct {
		l    []int
		draw uint32
		want int
		ok   bool
	}{
		{[]int{4, 7}, 3, 7, true}, // the document's
		{[]int{4, 7}, 0, 4, true}, {[]int{4, 7}, 1, 7, true}, {[]int{4, 7}, 2, 4, true}, {[]int{4, 7}, 1<<32 - 1, 7, true}, {[]int{4, 7}, 1 << 31, 4, true},
		{[]int{5}, 0, 5, true}, {[]int{5}, 1, 5, true}, {[]int{5}, 1<<32 - 1, 5, true},
		{[]int{9, 8, 7}, 0, 9, true}, {[]int{9, 8, 7}, 1, 8, true}, {[]int{9, 8, 7}, 2, 7, true}, {[]int{9, 8, 7}, 3, 9, true},
		{[]int{9, 8, 7}, 1 << 31, 7, true}, {[]int{9, 8, 7}, 1<<32 - 1, 9, true}, {[]int{9, 8, 7}, 1<<32 - 2, 7, true},
		{[]int{6, 6, 2}, 1, 6, true}, {[]int{6, 6, 2}, 2, 2, true},
		{[]int{math.MinInt, math.MaxInt}, 4, math.MinInt, true}, {[]int{math.MinInt, math.MaxInt}, 5, math.MaxInt, true}, {[]int{0}, 3, 0, true}, {[]int{-1}, 3, -1, true},
		// Of none.
		{nil, 0, 0, false}, {nil, 3, 0, false}, {nil, 1<<32 - 1, 0, false}, {[]int{}, 0, 0, false}, {[]int{}, 7, 0, false}, {[]int{4, 7}[:0], 1, 0, false},
	} {
		if got, ok := choice.One(x.l, x.draw); got != x.want || ok != x.ok {
			t.Errorf("of %v by %d: %d, %t, not %d, %t", x.l, x.draw, got, ok, x.want, x.ok)
		}
	}
}

// P14.1: the one at the place that is the draw modulo how many there are, at all edges of draws, of lists up to great ones.
func TestOne(t *testing.T) {
	r := rand.New(rand.NewSource(14))
	for _, many := range []int{1, 2, 3, 4, 5, 7, 8, 9, 255, 256, 257, 1000, 65535, 65536, 65537, 1 << 20} {
		l := count(many)
		hold := func(draw uint32) {
			if got, ok := choice.One(l, draw); got != remainder(draw, many) || !ok {
				t.Errorf("of %d by %d: %d, %t", many, draw, got, ok)
			}
		}
		for _, draw := range draws {
			hold(draw)
		}
		for _, near := range []int{many - 1, many, many + 1, 2*many - 1, 2 * many} {
			hold(uint32(near))
		}
		for range 2000 {
			hold(anyDraw(r))
		}
	}
	for range 20000 {
		l, draw := anyList(r, 20), anyDraw(r)
		got, ok := choice.One(l, draw)
		if len(l) == 0 {
			if got != 0 || ok {
				t.Errorf("of none by %d: %d, %t", draw, got, ok)
			}
		} else if got != l[remainder(draw, len(l))] || !ok {
			t.Errorf("of %v by %d: %d, %t", l, draw, got, ok)
		}
	}
}

// P14.1: rounds by hand, written out.
func TestRoundByHand(t *testing.T) {
	const high = 1<<32 - 1
	for _, x := range []struct {
		alive, down, seeds []int
		draws              [3]uint32
		want               []int
	}{
		// Of nobody there is nobody, whatever the draws.
		{nil, nil, nil, [3]uint32{}, nil}, {nil, nil, nil, [3]uint32{high, high, high}, nil}, {[]int{}, []int{}, []int{}, [3]uint32{1, 2, 3}, nil},
		// One that is alive: by the first draw, whatever the others are.
		{[]int{4, 7}, nil, nil, [3]uint32{3, 0, 0}, []int{7}}, {[]int{4, 7}, nil, nil, [3]uint32{2, 1, 1}, []int{4}}, {[]int{4, 7}, nil, nil, [3]uint32{high, 0, 0}, []int{7}},
		// One that is down: where nobody is alive, always; by the second draw.
		{nil, []int{5}, nil, [3]uint32{0, 9, 0}, []int{5}}, {nil, []int{5, 6}, nil, [3]uint32{0, 9, 0}, []int{6}}, {nil, []int{5, 6}, nil, [3]uint32{1, 8, 1}, []int{5}}, {nil, []int{5, 6, 2}, nil, [3]uint32{0, high, 1}, []int{5}},
		// Of one alive and one down: each second draw.
		{[]int{1}, []int{6}, nil, [3]uint32{0, 0, 0}, []int{1, 6}}, {[]int{1}, []int{6}, nil, [3]uint32{0, 1, 0}, []int{1}}, {[]int{1}, []int{6}, nil, [3]uint32{0, 2, 0}, []int{1, 6}}, {[]int{1}, []int{6}, nil, [3]uint32{0, high, 0}, []int{1}},
		// Of three alive and two down: the first two of each four draws; which of the two is by the same draw.
		{[]int{1, 2, 3}, []int{6, 7}, nil, [3]uint32{0, 0, 0}, []int{1, 6}}, {[]int{1, 2, 3}, []int{6, 7}, nil, [3]uint32{1, 1, 0}, []int{2, 7}}, {[]int{1, 2, 3}, []int{6, 7}, nil, [3]uint32{2, 2, 0}, []int{3}}, {[]int{1, 2, 3}, []int{6, 7}, nil, [3]uint32{0, 3, 0}, []int{1}}, {[]int{1, 2, 3}, []int{6, 7}, nil, [3]uint32{0, 4, 0}, []int{1, 6}},
		// Of two alive and two down: the draw's place among three, not among two or four.
		{[]int{1, 2}, []int{6, 7}, nil, [3]uint32{0, 2, 0}, []int{1}}, {[]int{1, 2}, []int{6, 7}, nil, [3]uint32{0, 3, 0}, []int{1, 7}}, {[]int{1, 2}, []int{6, 7}, nil, [3]uint32{0, 4, 0}, []int{1, 6}}, {[]int{1, 2}, []int{6, 7}, nil, [3]uint32{0, 5, 0}, []int{1}},
		// More down than alive: always, for the draw's place is never so great.
		{[]int{1}, []int{6, 7}, nil, [3]uint32{0, 1, 0}, []int{1, 7}}, {[]int{1}, []int{6, 7}, nil, [3]uint32{0, high, 0}, []int{1, 7}}, {[]int{1}, []int{6, 7, 5}, nil, [3]uint32{0, 5, 0}, []int{1, 5}},
		// One of the seeds: where nobody was chosen first, by the third draw.
		{nil, nil, []int{1, 2}, [3]uint32{0, 0, 5}, []int{2}}, {nil, nil, []int{1, 2}, [3]uint32{1, 1, 4}, []int{1}}, {nil, nil, []int{1, 2}, [3]uint32{0, 0, high}, []int{2}}, {nil, nil, []int{0}, [3]uint32{}, []int{0}},
		{nil, []int{5}, []int{1, 2}, [3]uint32{0, 0, 1}, []int{5, 2}},
		// Where one that is down was chosen, who is a seed, but nobody first: one of the seeds all the same.
		{nil, []int{1}, []int{1, 2}, [3]uint32{0, 0, 1}, []int{1, 2}}, {nil, []int{1}, []int{1}, [3]uint32{0, 0, 0}, []int{1}},
		// Where the one chosen first is no seed.
		{[]int{1, 2, 3}, nil, []int{1}, [3]uint32{1, 0, 0}, []int{2, 1}}, {[]int{1, 2, 3}, nil, []int{6}, [3]uint32{0, 0, 9}, []int{1, 6}}, {[]int{2}, nil, []int{1}, [3]uint32{0, 0, 0}, []int{2, 1}},
		// Where it is a seed: if fewer are alive than there are seeds, not if as many are.
		{[]int{1}, nil, []int{1, 2}, [3]uint32{0, 0, 1}, []int{1, 2}}, {[]int{1, 2}, nil, []int{1, 2}, [3]uint32{0, 0, 1}, []int{1}}, {[]int{1, 2}, nil, []int{1, 2, 3}, [3]uint32{1, 0, 2}, []int{2, 3}}, {[]int{1, 2, 3}, nil, []int{1, 2}, [3]uint32{0, 0, 1}, []int{1}},
		{[]int{1}, nil, []int{1}, [3]uint32{0, 0, 0}, []int{1}}, {[]int{0}, nil, []int{0}, [3]uint32{0, 0, 0}, []int{0}},
		// It is asked of the one chosen first, not of one that is down, nor of the first one of the list.
		{[]int{1, 2}, []int{5}, []int{5, 6}, [3]uint32{0, 0, 1}, []int{1, 5, 6}}, {[]int{1, 2}, []int{5}, []int{1}, [3]uint32{0, 0, 0}, []int{1, 5}}, {[]int{1, 2}, []int{5}, []int{1}, [3]uint32{1, 0, 0}, []int{2, 5, 1}}, {[]int{1, 2}, []int{5}, []int{2}, [3]uint32{1, 0, 0}, []int{2, 5}},
		// All three, in the order in which they were chosen.
		{[]int{3}, []int{4, 5}, []int{6}, [3]uint32{1 << 31, high, 7}, []int{3, 5, 6}}, {[]int{7}, []int{4}, []int{0}, [3]uint32{0, 0, 0}, []int{7, 4, 0}}, {[]int{-1}, []int{math.MaxInt}, []int{math.MinInt}, [3]uint32{0, 2, 0}, []int{-1, math.MaxInt, math.MinInt}},
		// Nobody twice: nobody else is chosen in the place of one who was.
		{[]int{1, 2}, []int{1}, nil, [3]uint32{0, 0, 0}, []int{1}}, {[]int{1, 2}, []int{1, 6}, nil, [3]uint32{0, 0, 0}, []int{1}}, {[]int{1}, nil, []int{1, 2}, [3]uint32{0, 0, 0}, []int{1}},
		{[]int{3}, []int{4}, []int{4, 5}, [3]uint32{0, 0, 0}, []int{3, 4}}, {[]int{3}, []int{3}, []int{3, 5}, [3]uint32{0, 0, 0}, []int{3}}, {[]int{3}, []int{3}, []int{3, 5}, [3]uint32{0, 0, 1}, []int{3, 5}}, {nil, []int{4}, []int{4, 5}, [3]uint32{0, 0, 0}, []int{4}},
		// One that stands twice in a list counts twice.
		{[]int{1, 1, 2}, nil, nil, [3]uint32{1, 0, 0}, []int{1}}, {[]int{1, 1}, []int{6}, nil, [3]uint32{0, 2, 0}, []int{1}}, {[]int{1, 1}, []int{6, 6}, nil, [3]uint32{0, 1, 0}, []int{1, 6}}, {[]int{1}, nil, []int{1, 1}, [3]uint32{0, 0, 0}, []int{1}}, {[]int{1, 1}, nil, []int{1, 2}, [3]uint32{0, 0, 1}, []int{1}},
	} {
		if got := choice.Round(x.alive, x.down, x.seeds, x.draws); !slices.Equal(got, x.want) {
			t.Errorf("alive %v, down %v, seeds %v, draws %v: %v, not %v", x.alive, x.down, x.seeds, x.draws, got, x.want)
		}
		holdRound(t, x.alive, x.down, x.seeds, x.draws)
	}
}

// P14.1, P14.2: rounds of all lists of two numbers of up to three places, and of three numbers each once, by all small draws.
func TestRoundOfAllSmall(t *testing.T) {
	hold := func(all [][]int, most uint32) {
		for _, alive := range all {
			for _, down := range all {
				for _, seeds := range all {
					for i := range most * most * most {
						holdRound(t, alive, down, seeds, [3]uint32{i % most, i / most % most, i / most / most})
					}
				}
			}
		}
	}
	hold(lists(2, 3), 5)
	hold(slices.DeleteFunc(lists(3, 3), func(l []int) bool { return !slices.IsSorted(l) || len(plainRising(l)) != len(l) }), 12)
}

// P14.1, P14.2: rounds of many lists, those of a cluster's nodes and any, at the edges of draws and by any.
func TestRound(t *testing.T) {
	r := rand.New(rand.NewSource(141))
	lengths := [4]int{}
	for i := range 200000 {
		most := []int{3, 8, 40}[i%3]
		alive, down, seeds := anyList(r, most), anyList(r, most), anyList(r, 8)
		d := anyDraws(r)
		if i%2 == 0 {
			d = [3]uint32{draws[r.Intn(len(draws))], draws[r.Intn(len(draws))], draws[r.Intn(len(draws))]}
		}
		holdRound(t, alive, down, seeds, d)
		lengths[len(choice.Round(alive, down, seeds, d))]++
	}
	for n, often := range lengths {
		if often < 500 {
			t.Error("too few of", n, "asked:", often)
		}
	}
}

// P14.1: rounds of long lists, whose lengths are at the edges of small numbers.
func TestRoundOfMany(t *testing.T) {
	r := rand.New(rand.NewSource(142))
	some := []int{0, 1, 254, 255, 256, 257, 65534, 65535, 65536}
	all := count(2 * 65536)
	for range 3000 {
		alive := all[:some[r.Intn(len(some))]]
		down := all[65536:][:some[r.Intn(len(some))]]
		holdRound(t, alive, down, all[:some[r.Intn(4)]], anyDraws(r))
	}
}

// P14.1: how often a round asks one that is down: for as many draws of those one more than are alive as are down.
func TestHowOftenOneThatIsDown(t *testing.T) {
	for alive := range 10 {
		for down := range 12 {
			often := 0
			for draw := range alive + 1 {
				asked := choice.Round(count(alive), slices.Repeat([]int{77}, down), nil, [3]uint32{5, uint32(draw), 5})
				if slices.Contains(asked, 77) {
					often++
				}
			}
			if want := min(down, alive+1); often != want {
				t.Errorf("%d alive, %d down: %d of %d times, not %d", alive, down, often, alive+1, want)
			}
		}
	}
}

// P14.1: each draw counts for its own list alone.
func TestDrawsApart(t *testing.T) {
	alive, down, seeds := []int{10, 11, 12}, []int{20, 21, 22, 23}, []int{30, 31, 32}
	for a := range uint32(12) {
		for b := range uint32(12) {
			for c := range uint32(12) {
				got := choice.Round(alive, down, seeds, [3]uint32{a, b, c})
				want := []int{10 + int(a%3), 20 + int(b%4), 30 + int(c%3)}
				if !slices.Equal(got, want) {
					t.Errorf("%d, %d, %d: %v, not %v", a, b, c, got, want)
				}
			}
		}
	}
}

// P14.2: at most three, nobody twice, all of the lists; somebody, if anybody is alive, or there are seeds: of lists that overlap as much as may be, too.
func TestFew(t *testing.T) {
	r := rand.New(rand.NewSource(143))
	for range 50000 {
		all := anyList(r, 6)
		cut := func() []int {
			from := r.Intn(len(all) + 1)
			return all[from : from+r.Intn(len(all)-from+1)]
		}
		alive, down, seeds := cut(), cut(), cut()
		holdFew(t, choice.Round(alive, down, seeds, anyDraws(r)), alive, down, seeds)
	}
	for _, a := range edges {
		for _, b := range edges {
			for _, c := range edges {
				alive, down, seeds := []int{a}, []int{b}, []int{c}
				holdRound(t, alive, down, seeds, [3]uint32{})
				holdRound(t, nil, down, seeds, [3]uint32{1, 1, 1})
				holdRound(t, alive, down, []int{c, a}, [3]uint32{2, 2, 2})
			}
		}
	}
}

// P14.1: of nobody nobody is asked; where all are down one of these, by the second draw, whatever the others are.
func TestNobodyAlive(t *testing.T) {
	for _, a := range draws {
		for _, b := range draws {
			if got := choice.Round(nil, nil, nil, [3]uint32{a, b, a}); len(got) != 0 {
				t.Errorf("of nobody: %v", got)
			}
			if got := choice.Round(nil, []int{3, 4, 5}, nil, [3]uint32{a, b, a}); !slices.Equal(got, []int{3 + remainder(b, 3)}) {
				t.Errorf("of those that are down, by %d: %v", b, got)
			}
		}
	}
}

// P14.1: lists without a number by hand, written out.
func TestWithoutByHand(t *testing.T) {
	for _, x := range []struct {
		l    []int
		n    int
		want []int
	}{
		{nil, 0, nil}, {nil, 5, nil}, {[]int{}, 0, nil},
		{[]int{1, 2, 3}, 1, []int{2, 3}}, {[]int{1, 2, 3}, 2, []int{1, 3}}, {[]int{1, 2, 3}, 3, []int{1, 2}}, {[]int{1, 2, 3}, 4, []int{1, 2, 3}}, {[]int{1, 2, 3}, 0, []int{1, 2, 3}},
		{[]int{5}, 5, nil}, {[]int{5, 5, 5}, 5, nil}, {[]int{5}, 6, []int{5}}, {[]int{0}, 0, nil},
		// Each one goes; the others stay in their order, twice where they stand twice.
		{[]int{1, 2, 1, 3}, 1, []int{2, 3}}, {[]int{3, 1, 2, 1, 3}, 3, []int{1, 2, 1}}, {[]int{3, 1, 2, 1, 3}, 1, []int{3, 2, 3}}, {[]int{2, 2, 1, 2, 2}, 1, []int{2, 2, 2, 2}}, {[]int{9, 8, 7, 8}, 5, []int{9, 8, 7, 8}},
		{[]int{-1, 1, -1}, 1, []int{-1, -1}}, {[]int{-1, 1, -1}, -1, []int{1}}, {[]int{math.MinInt, math.MaxInt}, math.MinInt, []int{math.MaxInt}}, {[]int{1, 1<<32 + 1}, 1, []int{1<<32 + 1}},
	} {
		if got := choice.Without(x.l, x.n); !slices.Equal(got, x.want) {
			t.Errorf("%v without %d: %v, not %v", x.l, x.n, got, x.want)
		}
	}
}

// P14.1: is it there, by hand.
func TestHasByHand(t *testing.T) {
	for _, x := range []struct {
		l    []int
		n    int
		want bool
	}{
		{nil, 0, false}, {[]int{}, 0, false}, {[]int{1, 2}[:1], 2, false}, {[]int{0}, 0, true}, {[]int{1}, 0, false},
		{[]int{1, 2, 3}, 1, true}, {[]int{1, 2, 3}, 2, true}, {[]int{1, 2, 3}, 3, true}, {[]int{1, 2, 3}, 4, false},
		// Lists need not rise.
		{[]int{3, 1, 2}, 3, true}, {[]int{3, 1, 2}, 1, true}, {[]int{3, 1, 2}, 2, true}, {[]int{3, 1, 3}, 2, false}, {[]int{5, 5}, 5, true},
		{[]int{-1}, 1, false}, {[]int{1 << 32}, 0, false}, {[]int{math.MinInt}, math.MaxInt, false}, {[]int{math.MinInt, math.MaxInt}, math.MaxInt, true},
	} {
		if got := choice.Has(x.l, x.n); got != x.want {
			t.Errorf("%d in %v: %t", x.n, x.l, got)
		}
	}
}

// P14.1: each once, rising, by hand.
func TestRisingByHand(t *testing.T) {
	for _, x := range []struct{ l, want []int }{
		{nil, nil}, {[]int{}, nil}, {[]int{0}, []int{0}}, {[]int{7}, []int{7}}, {[]int{7, 7}, []int{7}}, {[]int{7, 7, 7}, []int{7}},
		{[]int{5, 1, 5, -2}, []int{-2, 1, 5}}, {[]int{1, 2, 3}, []int{1, 2, 3}}, {[]int{3, 2, 1}, []int{1, 2, 3}}, {[]int{1, 2, 1}, []int{1, 2}}, {[]int{2, 1, 2, 1}, []int{1, 2}}, {[]int{1, 1, 2, 2}, []int{1, 2}},
		{[]int{0, -1, 1}, []int{-1, 0, 1}}, {[]int{10, 9, 100}, []int{9, 10, 100}},
		// By size, however far apart they are.
		{[]int{math.MaxInt, math.MinInt}, []int{math.MinInt, math.MaxInt}}, {[]int{math.MaxInt, -1, 0, math.MinInt, 1, math.MaxInt}, []int{math.MinInt, -1, 0, 1, math.MaxInt}}, {[]int{1 << 32, 1, 1<<32 + 1, 0}, []int{0, 1, 1 << 32, 1<<32 + 1}},
	} {
		if got := choice.Rising(x.l); !slices.Equal(got, x.want) {
			t.Errorf("%v rising: %v, not %v", x.l, got, x.want)
		}
	}
}

// holdList: Without, Has and Rising against the plain working-outs, of one list.
func holdList(t *testing.T, l, asked []int) {
	t.Helper()
	for _, n := range asked {
		if got, want := choice.Without(l, n), plainWithout(l, n); !slices.Equal(got, want) {
			t.Fatalf("%v without %d: %v, not %v", l, n, got, want)
		}
		if got, want := choice.Has(l, n), among(l, n); got != want {
			t.Fatalf("%d in %v: %t", n, l, got)
		}
	}
	if got, want := choice.Rising(l), plainRising(l); !slices.Equal(got, want) {
		t.Fatalf("%v rising: %v, not %v", l, got, want)
	}
}

// P14.1: lists without a number, whether it is there, and rising: of all small lists, of the edges and of many.
func TestLists(t *testing.T) {
	for _, l := range lists(4, 5) {
		holdList(t, l, []int{-1, 0, 1, 2, 3, 4})
	}
	for i := range edges {
		holdList(t, slices.Concat(edges[i:], edges[:i], edges[i:]), edges)
	}
	r := rand.New(rand.NewSource(144))
	for range 3000 {
		l := anyList(r, 60)
		holdList(t, l, append(slices.Clone(l), edges...))
	}
	// So long that a list may be sorted by another way than a short one.
	for range 20 {
		l := anyList(r, 3000)
		holdList(t, l, edges)
	}
}

// calls: those that answer lists, of three lists.
func calls() map[string]func(a, b, c []int) []int {
	round := func(d [3]uint32) func(a, b, c []int) []int {
		return func(a, b, c []int) []int { return choice.Round(a, b, c, d) }
	}
	return map[string]func(a, b, c []int) []int{
		"Round":               round([3]uint32{}),
		"Round, second draws": round([3]uint32{1, 1, 1}),
		"Round, other draws":  round([3]uint32{3, 4, 5}),
		"Without":             func(a, b, c []int) []int { return choice.Without(a, 3) },
		"Without, what isn't": func(a, b, c []int) []int { return choice.Without(a, -5) },
		"Without, first":      func(a, b, c []int) []int { return choice.Without(a, first(a)) },
		"Rising":              func(a, b, c []int) []int { return choice.Rising(a) },
		"Rising, of rising":   func(a, b, c []int) []int { return choice.Rising(b) },
		"One, Has": func(a, b, c []int) []int {
			n, _ := choice.One(a, 7)
			choice.Has(b, n)
			return []int{n}
		},
	}
}

// first: a list's first number, or 0.
func first(l []int) int {
	if len(l) == 0 {
		return 0
	}
	return l[0]
}

// P14.1: what is handed in stays as it was, its spare room, too; what is answered shares nothing with it.
func TestNewMemory(t *testing.T) {
	r := rand.New(rand.NewSource(145))
	for name, call := range calls() {
		for i := range 500 {
			was := [3][]int{anyList(r, 6), plainRising(anyList(r, 6)), anyList(r, 4)}
			if i%5 == 0 {
				was[i/5%3] = nil
			}
			x := [3][]int{roomy(was[0]), roomy(was[1]), roomy(was[2])}
			hold := func() {
				for k := range x {
					if !stays(was[k], x[k]) {
						t.Fatalf("%s: what was handed in isn't what it was: %v, %v", name, was[k], x[k])
					}
				}
			}
			got := call(x[0], x[1], x[2])
			hold()
			want := slices.Clone(got)
			wipe(got)
			hold()
			got = call(x[0], x[1], x[2])
			if !slices.Equal(got, want) {
				t.Fatalf("%s: %v, then %v", name, want, got)
			}
			for k := range x {
				wipe(x[k])
			}
			if !slices.Equal(got, want) {
				t.Fatalf("%s: what was answered changes with what was handed in", name)
			}
		}
	}
}

// P14.1: one list may be handed in as all three; an answer behind another one doesn't change that one.
func TestSameListThrice(t *testing.T) {
	l := roomy([]int{4, 5, 6})
	a := choice.Round(l, l, l, [3]uint32{0, 1, 2})
	b := choice.Round(l, l, l, [3]uint32{1, 2, 0})
	if !slices.Equal(a, []int{4, 5}) || !slices.Equal(b, []int{5, 6}) || !stays([]int{4, 5, 6}, l) {
		t.Error(a, b, l)
	}
	wipe(b)
	if !slices.Equal(a, []int{4, 5}) || !stays([]int{4, 5, 6}, l) {
		t.Error(a, l)
	}
}
