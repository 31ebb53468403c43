package state_test

import (
	"math"
	"math/rand"
	"slices"
	"strings"
	"testing"

	"bellwether/api"
	"bellwether/state"
)

// The document's numbers, written out anew.
const (
	maxKeys    = 12
	maxVersion = 1099511627776
	maxValue   = 200
)

// numbers: the edges of generations, beats and versions, and what is between them; 0 is a beat alone.
var numbers = []int{1, 2, 3, 9, 10, 1<<31 - 1, 1 << 31, 1 << 32, 1<<32 + 1, maxVersion - 1, maxVersion}

// values: some whose order by bytes isn't that by length, by letters or by signed numbers.
var values = []string{"", "\x00", "B", "a", "ab", "b", "\x7f", "\x80", "\xff", strings.Repeat("a", maxValue), strings.Repeat("\xff", maxValue)}

// equal: the same fields, held against each other by another way than the program's.
func equal(a, b api.State) bool {
	return a.Gen == b.Gen && a.Beat == b.Beat && slices.Equal(a.Apps, b.Apps)
}

// plainTop: the greatest of all versions, the beat's too.
func plainTop(s api.State) int {
	all := []int{s.Beat, 0}
	for _, x := range s.Apps {
		all = append(all, x.Ver)
	}
	return slices.Max(all)
}

// plainOne: what a key has where s and t are joined, which are of one generation: the last by version, then by value.
func plainOne(key int, s, t api.State) []api.Entry {
	var both []api.Entry
	for _, x := range slices.Concat(s.Apps, t.Apps) {
		if x.Key == key {
			both = append(both, x)
		}
	}
	slices.SortFunc(both, func(x, y api.Entry) int {
		if x.Ver != y.Ver {
			return x.Ver - y.Ver
		}
		return slices.Compare([]byte(x.Val), []byte(y.Val))
	})
	return both[max(0, len(both)-1):]
}

// plainJoin: two states joined, worked out key by key.
func plainJoin(a, b api.State) api.State {
	if a.Gen < b.Gen {
		return plainJoin(b, a)
	}
	if a.Gen > b.Gen {
		return a
	}
	out := api.State{Gen: a.Gen, Beat: slices.Max([]int{a.Beat, b.Beat})}
	for key := range maxKeys {
		out.Apps = append(out.Apps, plainOne(key, a, b)...)
	}
	return out
}

// plainSet: s with that entry in the place of its key's.
func plainSet(s api.State, x api.Entry) api.State {
	out := api.State{Gen: s.Gen, Beat: s.Beat, Apps: []api.Entry{x}}
	for _, y := range s.Apps {
		if y.Key != x.Key {
			out.Apps = append(out.Apps, y)
		}
	}
	slices.SortFunc(out.Apps, func(x, y api.Entry) int { return x.Key - y.Key })
	return out
}

func anyNumber(r *rand.Rand) int { return numbers[r.Intn(len(numbers))] }

// anyTable: a table that may be, of any of the keys.
func anyTable(r *rand.Rand) []api.Entry {
	var l []api.Entry
	often := r.Intn(5)
	for key := range maxKeys {
		if r.Intn(4) < often {
			l = append(l, api.Entry{Key: key, Ver: anyNumber(r), Val: values[r.Intn(len(values))]})
		}
	}
	return l
}

// anyState: a state that may be, of few generations, so that many are of the same one.
func anyState(r *rand.Rand) api.State {
	gens := []int{1, 2, 1 << 32, maxVersion}
	s := api.State{Gen: gens[r.Intn(len(gens))], Apps: anyTable(r)}
	if r.Intn(8) > 0 {
		s.Beat = anyNumber(r)
	}
	return s
}

// smallStates: all states of generations 1 and 2, of beats from 0 to 2, of key 5 of versions 1 and 2 and two values, and of key 11 or none.
func smallStates() []api.State {
	tables := [][]api.Entry{nil}
	for ver := 1; ver <= 2; ver++ {
		for _, val := range []string{"", "a"} {
			tables = append(tables, []api.Entry{{Key: 5, Ver: ver, Val: val}})
		}
	}
	for _, l := range slices.Clone(tables) {
		tables = append(tables, slices.Concat(l, []api.Entry{{Key: 11, Ver: 3, Val: "k"}}))
	}
	var out []api.State
	for gen := 1; gen <= 2; gen++ {
		for beat := range 3 {
			for _, l := range tables {
				out = append(out, api.State{Gen: gen, Beat: beat, Apps: l})
			}
		}
	}
	return out
}

// wrongTables: tables that may not be.
func wrongTables() [][]api.Entry {
	l := [][]api.Entry{
		{{Key: 2, Ver: 1}, {Key: 1, Ver: 1}},
		{{Key: 2, Ver: 1}, {Key: 2, Ver: 2}},
		{{Key: 0, Ver: 1}, {Key: 3, Ver: 2}, {Key: 2, Ver: 3}},
	}
	for _, x := range []api.Entry{
		{}, {Key: -1, Ver: 1}, {Key: 12, Ver: 1}, {Key: math.MinInt, Ver: 1}, {Key: math.MaxInt, Ver: 1},
		{Key: 1, Ver: 0}, {Key: 1, Ver: -1}, {Key: 1, Ver: maxVersion + 1}, {Key: 1, Ver: math.MinInt}, {Key: 1, Ver: math.MaxInt},
		{Key: 1, Ver: 1, Val: strings.Repeat("v", maxValue+1)},
	} {
		l = append(l, []api.Entry{x}, []api.Entry{{Key: 0, Ver: 1}, x}, []api.Entry{x, {Key: 11, Ver: 1}})
	}
	return l
}

// wrongs: states that may not be, each by one field alone, and one by all.
func wrongs() []api.State {
	right := []api.Entry{{Key: 1, Ver: 2, Val: "v"}}
	var l []api.State
	for _, gen := range []int{math.MinInt, -1, 0, maxVersion + 1, 2 * maxVersion, 1<<62 + 1, math.MaxInt} {
		l = append(l, api.State{Gen: gen}, api.State{Gen: gen, Beat: maxVersion, Apps: right})
	}
	for _, beat := range []int{math.MinInt, -1, maxVersion + 1, 2 * maxVersion, 1<<62 + 1, math.MaxInt} {
		l = append(l, api.State{Gen: 1, Beat: beat}, api.State{Gen: maxVersion, Beat: beat, Apps: right})
	}
	for _, apps := range wrongTables() {
		l = append(l, api.State{Gen: 1, Apps: apps}, api.State{Gen: maxVersion, Beat: maxVersion, Apps: apps})
	}
	return append(l, api.State{}, api.State{Gen: -1, Beat: -1, Apps: []api.Entry{{}}})
}

func spare() []api.Entry {
	return []api.Entry{{Key: 71, Ver: 72, Val: "spare"}, {Key: 73, Ver: 74, Val: "room"}}
}

// roomy: the same state; spare room behind its entries holds what must stay.
func roomy(s api.State) api.State {
	s.Apps = slices.Concat(s.Apps, spare())[:len(s.Apps)]
	return s
}

// stays: whether what was made by roomy is as it was, and its room, too.
func stays(was, s api.State) bool {
	n := len(was.Apps)
	return equal(was, s) && slices.Equal(s.Apps[n:n+2], spare())
}

// check: what a call that answers a state and an error answered.
func check(t *testing.T, what string, got api.State, e api.Errno, want api.State, f api.Errno) {
	t.Helper()
	if !equal(got, want) || e != f {
		t.Errorf("%s: %v, %d, not %v, %d", what, got, e, want, f)
	}
}

// P5.1: the document's example.
func TestExample(t *testing.T) {
	r := rand.New(rand.NewSource(5))
	for _, beat := range append([]int{0}, numbers...) {
		a := api.State{Gen: 2, Beat: 1, Apps: []api.Entry{{Key: 1, Ver: 1, Val: "new"}}}
		b := api.State{Gen: 1, Beat: beat, Apps: anyTable(r)}
		if x, y := state.Join(a, b), state.Join(b, a); !equal(x, a) || !equal(y, a) {
			t.Errorf("beat %d: %v, %v", beat, x, y)
		}
		if !state.Over(a, b) || state.Over(b, a) {
			t.Errorf("beat %d: over", beat)
		}
	}
}

// P5.1: which states may be, at each field's edges, and which may not.
func TestRight(t *testing.T) {
	var full []api.Entry
	for key := range maxKeys {
		full = append(full, api.Entry{Key: key, Ver: maxVersion, Val: strings.Repeat("v", maxValue)})
	}
	for _, gen := range numbers {
		for _, beat := range append([]int{0}, numbers...) {
			for _, apps := range [][]api.Entry{nil, {}, full, full[3:4]} {
				if s := (api.State{Gen: gen, Beat: beat, Apps: apps}); !state.Right(s) {
					t.Errorf("%v may be", s)
				}
			}
		}
	}
	r := rand.New(rand.NewSource(51))
	for range 1000 {
		if s := anyState(r); !state.Right(s) {
			t.Errorf("%v may be", s)
		}
	}
	for _, s := range wrongs() {
		if state.Right(s) {
			t.Errorf("%v may not be", s)
		}
	}
}

// P5.1: the greater one of the beat and the entries' top; of any state.
func TestTop(t *testing.T) {
	for i, c := range []struct {
		s    api.State
		want int
	}{
		{api.State{}, 0}, {api.State{Gen: maxVersion}, 0}, {api.State{Gen: 9, Beat: 3}, 3},
		{api.State{Gen: 1, Beat: maxVersion}, maxVersion},
		{api.State{Gen: 1, Apps: []api.Entry{{Ver: maxVersion}}}, maxVersion},
		{api.State{Gen: 9, Beat: 4, Apps: []api.Entry{{Key: 8, Ver: 3}, {Key: 9, Ver: 2}}}, 4},
		{api.State{Gen: 1, Beat: 4, Apps: []api.Entry{{Key: 8, Ver: 5}, {Key: 9, Ver: 2}}}, 5},
		{api.State{Gen: 1, Beat: 4, Apps: []api.Entry{{Key: 8, Ver: 2}, {Key: 9, Ver: 6}}}, 6},
		{api.State{Gen: 1, Beat: 4, Apps: []api.Entry{{Key: 8, Ver: 4}}}, 4},
		{api.State{Beat: -1}, 0}, {api.State{Beat: math.MinInt, Apps: []api.Entry{{Ver: -7}}}, 0},
		{api.State{Beat: -5, Apps: []api.Entry{{Ver: 2}, {Ver: -3}}}, 2},
		{api.State{Beat: 1, Apps: []api.Entry{{Ver: math.MaxInt}, {Ver: 3}}}, math.MaxInt},
		{api.State{Gen: math.MinInt, Beat: math.MaxInt}, math.MaxInt},
	} {
		if got := state.Top(c.s); got != c.want {
			t.Errorf("%d: %d, not %d", i, got, c.want)
		}
	}
	r := rand.New(rand.NewSource(52))
	for range 1000 {
		if s := anyState(r); state.Top(s) != plainTop(s) {
			t.Fatalf("%v: %d", s, state.Top(s))
		}
	}
}

// P5.1: two states joined are what a plain working-out has, and over as it says.
func TestJoinAndOver(t *testing.T) {
	r := rand.New(rand.NewSource(53))
	over, under := 0, 0
	for range 30000 {
		a, b := anyState(r), anyState(r)
		switch r.Intn(4) {
		case 0:
			b.Gen = a.Gen
		case 1:
			b = api.State{Gen: a.Gen, Beat: r.Intn(a.Beat + 1), Apps: slices.DeleteFunc(slices.Clone(a.Apps), func(api.Entry) bool { return r.Intn(3) == 0 })}
		}
		want := plainJoin(a, b)
		if got := state.Join(a, b); !equal(got, want) || !state.Right(got) {
			t.Fatalf("%v and %v: %v", a, b, got)
		}
		if state.Over(a, b) != equal(want, a) {
			t.Fatalf("%v over %v", a, b)
		}
		if equal(want, a) {
			over++
		} else {
			under++
		}
	}
	if over == 0 || under == 0 {
		t.Error("just one of both", over, under)
	}
}

// P5.1: each field alone makes one state not over another one.
func TestOverByEachField(t *testing.T) {
	low := api.State{Gen: 3, Beat: 7, Apps: []api.Entry{{Key: 2, Ver: 5, Val: "m"}}}
	for i, high := range []api.State{
		{Gen: 4}, {Gen: maxVersion, Beat: 7},
		{Gen: 3, Beat: 8, Apps: low.Apps}, {Gen: 3, Beat: maxVersion, Apps: low.Apps},
		{Gen: 3, Beat: 7, Apps: []api.Entry{{Key: 2, Ver: 6, Val: "a"}}},
		{Gen: 3, Beat: 7, Apps: []api.Entry{{Key: 2, Ver: 5, Val: "ma"}}},
		{Gen: 3, Beat: 7, Apps: []api.Entry{{Key: 1, Ver: 1}, low.Apps[0]}},
		{Gen: 3, Beat: 7, Apps: []api.Entry{low.Apps[0], {Key: 3, Ver: 1}}},
	} {
		if !state.Over(high, low) || state.Over(low, high) || !state.Over(low, low) || !state.Over(high, high) {
			t.Errorf("%d: over", i)
		}
	}
	// What each has above the other one: neither is over the other one.
	for i, other := range []api.State{
		{Gen: 3, Beat: 8}, {Gen: 3, Beat: 6, Apps: []api.Entry{{Key: 2, Ver: 6}}},
		{Gen: 3, Beat: 7, Apps: []api.Entry{{Key: 4, Ver: 1}}}, {Gen: 3, Beat: 8, Apps: []api.Entry{{Key: 2, Ver: 5, Val: "l"}}},
	} {
		if state.Over(other, low) || state.Over(low, other) {
			t.Errorf("%d: over another one", i)
		}
	}
}

// P5.1: a beat has the next version, which is one more than all of that endpoint; nothing else changes.
func TestBeat(t *testing.T) {
	apps := []api.Entry{{Key: 1, Ver: 9, Val: "a"}, {Key: 4, Ver: 5}}
	for i, c := range []struct {
		s    api.State
		want int
	}{
		{api.State{Gen: 1}, 1}, {api.State{Gen: 1, Beat: 1}, 2}, {api.State{Gen: maxVersion}, 1},
		{api.State{Gen: 3, Beat: 7, Apps: apps}, 10}, {api.State{Gen: 3, Beat: 9, Apps: apps}, 10}, {api.State{Gen: 3, Beat: 11, Apps: apps}, 12},
		{api.State{Gen: 1, Beat: maxVersion - 1, Apps: apps}, maxVersion},
		{api.State{Gen: 1, Apps: []api.Entry{{Ver: maxVersion - 1}}}, maxVersion},
	} {
		got, e := state.Beat(c.s)
		check(t, "beat "+string(rune('a'+i)), got, e, api.State{Gen: c.s.Gen, Beat: c.want, Apps: c.s.Apps}, api.OK)
	}
}

// P5.1: of a beat: ErrArg of what may not be, even where no version is left; ErrUsed where none is; beside both the state as it was.
func TestBeatErrors(t *testing.T) {
	for _, s := range wrongs() {
		got, e := state.Beat(s)
		check(t, "may not be", got, e, s, api.ErrArg)
	}
	for _, s := range used() {
		got, e := state.Beat(s)
		check(t, "used", got, e, s, api.ErrUsed)
	}
}

// used: states that may be, whose versions have run out.
func used() []api.State {
	return []api.State{
		{Gen: 1, Beat: maxVersion}, {Gen: maxVersion, Beat: maxVersion},
		{Gen: 1, Apps: []api.Entry{{Key: 3, Ver: maxVersion, Val: "v"}}},
		{Gen: 1, Beat: 5, Apps: []api.Entry{{Key: 3, Ver: 6}, {Key: 4, Ver: maxVersion}, {Key: 5, Ver: 7}}},
		{Gen: 1, Beat: maxVersion, Apps: []api.Entry{{Key: 3, Ver: maxVersion}}},
	}
}

// P5.1: a key's entry has the value, and the next version, wherever it stands, and whatever was there.
func TestSet(t *testing.T) {
	s := api.State{Gen: 3, Beat: 7, Apps: []api.Entry{{Key: 1, Ver: 9, Val: "z"}, {Key: 4, Ver: 5, Val: "k"}, {Key: 8, Ver: 2}}}
	for key := range maxKeys {
		for _, val := range values {
			got, e := state.Set(s, key, val)
			check(t, "set", got, e, plainSet(s, api.Entry{Key: key, Ver: 10, Val: val}), api.OK)
		}
	}
	// The same value anew has a new version.
	got, e := state.Set(s, 1, "z")
	check(t, "the same value", got, e, plainSet(s, api.Entry{Key: 1, Ver: 10, Val: "z"}), api.OK)
	// The beat's version is given, too.
	s.Beat = 20
	got, e = state.Set(s, 1, "y")
	check(t, "behind the beat", got, e, plainSet(s, api.Entry{Key: 1, Ver: 21, Val: "y"}), api.OK)
	got, e = state.Set(api.State{Gen: 1}, 0, "up")
	check(t, "the first", got, e, api.State{Gen: 1, Apps: []api.Entry{{Ver: 1, Val: "up"}}}, api.OK)
	last := api.State{Gen: 1, Beat: maxVersion - 1}
	got, e = state.Set(last, 11, "v")
	check(t, "the last", got, e, api.State{Gen: 1, Beat: maxVersion - 1, Apps: []api.Entry{{Key: 11, Ver: maxVersion, Val: "v"}}}, api.OK)
}

// P5.1: of a set: ErrArg of a state, a key or a value that may not be, even where no version is left; ErrUsed where none is; beside both the state as it was.
func TestSetErrors(t *testing.T) {
	for _, s := range wrongs() {
		got, e := state.Set(s, 0, "v")
		check(t, "may not be", got, e, s, api.ErrArg)
		got, e = state.Set(s, -1, "v")
		check(t, "neither may be", got, e, s, api.ErrArg)
	}
	right := api.State{Gen: 3, Beat: 7, Apps: []api.Entry{{Key: 1, Ver: 9, Val: "a"}}}
	for _, s := range append(used(), right) {
		for _, key := range []int{math.MinInt, -256, -1, 12, 13, 256, 1<<32 + 1, math.MaxInt} {
			got, e := state.Set(s, key, "v")
			check(t, "key", got, e, s, api.ErrArg)
		}
		for _, n := range []int{201, 202, 256, 1 << 16, 1<<16 + 1} {
			got, e := state.Set(s, 1, strings.Repeat("v", n))
			check(t, "value", got, e, s, api.ErrArg)
		}
	}
	for _, s := range used() {
		for key := range maxKeys {
			got, e := state.Set(s, key, strings.Repeat("v", maxValue))
			check(t, "used", got, e, s, api.ErrUsed)
		}
	}
}

// P5.1: generation and beat as they are, of the entries those above a version; of any state.
func TestAbove(t *testing.T) {
	a, b, c := api.Entry{Key: 9, Ver: 4, Val: "a"}, api.Entry{Key: 1, Ver: -3}, api.Entry{Key: 1, Ver: maxVersion + 1, Val: "c"}
	for _, s := range []api.State{{}, {Gen: 3, Beat: 2}, {Gen: maxVersion, Beat: maxVersion}, {Gen: math.MinInt, Beat: math.MaxInt}} {
		for i, x := range []struct {
			ver  int
			want []api.Entry
		}{
			{math.MinInt, []api.Entry{a, b, c}}, {-4, []api.Entry{a, b, c}}, {-3, []api.Entry{a, c}}, {0, []api.Entry{a, c}}, {3, []api.Entry{a, c}},
			{4, []api.Entry{c}}, {maxVersion, []api.Entry{c}}, {maxVersion + 1, nil}, {math.MaxInt, nil},
		} {
			s.Apps = []api.Entry{a, b, c}
			got := state.Above(s, x.ver)
			s.Apps = x.want
			if !equal(got, s) {
				t.Errorf("%d: %v", i, got)
			}
		}
	}
	r := rand.New(rand.NewSource(54))
	for range 1000 {
		s, ver := anyState(r), anyNumber(r)-r.Intn(2)
		want := s
		want.Apps = slices.DeleteFunc(slices.Clone(s.Apps), func(x api.Entry) bool { return x.Ver <= ver })
		if got := state.Above(s, ver); !equal(got, want) {
			t.Fatalf("%v above %d: %v", s, ver, got)
		}
	}
}

// P5.1: a copy is the same, field by field; of any state.
func TestCopyAndSame(t *testing.T) {
	r := rand.New(rand.NewSource(55))
	all := append(wrongs(), used()...)
	for range 50 {
		all = append(all, anyState(r))
	}
	for i, a := range all {
		c := state.Copy(a)
		if !equal(c, a) || !state.Same(c, a) || !state.Same(a, c) {
			t.Errorf("%d: %v, not %v", i, c, a)
		}
		for j, b := range all {
			if got := state.Same(a, b); got != equal(a, b) {
				t.Errorf("%d and %d: %t", i, j, got)
			}
		}
	}
	s := api.State{Gen: 1, Beat: 2, Apps: []api.Entry{{Key: 1, Ver: 2, Val: "a"}}}
	for i, x := range []api.State{
		{}, {Gen: 2, Beat: 2, Apps: s.Apps}, {Gen: 1, Beat: 3, Apps: s.Apps}, {Gen: 1, Beat: 2}, {Gen: 2, Beat: 1, Apps: s.Apps},
		{Gen: 1, Beat: 2, Apps: []api.Entry{{Key: 2, Ver: 2, Val: "a"}}}, {Gen: 1, Beat: 2, Apps: []api.Entry{{Key: 1, Ver: 3, Val: "a"}}},
		{Gen: 1, Beat: 2, Apps: []api.Entry{{Key: 1, Ver: 2, Val: "b"}}}, {Gen: 1, Beat: 2, Apps: append(s.Apps, api.Entry{})},
	} {
		if state.Same(s, x) || state.Same(x, s) {
			t.Errorf("%d is the same", i)
		}
	}
	if !state.Same(api.State{Gen: 1}, api.State{Gen: 1, Apps: []api.Entry{}}) {
		t.Error("nil and empty")
	}
}

// checkPair: what is promised of two states that are joined.
func checkPair(t *testing.T, a, b api.State) {
	t.Helper()
	ab := state.Join(a, b)
	if !state.Same(ab, state.Join(b, a)) || !state.Same(ab, state.Join(ab, b)) || !state.Same(ab, state.Join(b, ab)) || !state.Same(ab, state.Join(ab, a)) {
		t.Fatalf("%v and %v: another order, or twice, is unlike %v", a, b, ab)
	}
	if !state.Over(ab, a) || !state.Over(ab, b) {
		t.Fatalf("%v and %v: %v isn't over both", a, b, ab)
	}
	if state.Over(a, b) && state.Over(b, a) != state.Same(a, b) {
		t.Fatalf("%v and %v: over each other", a, b)
	}
}

// P5.2: joining in any order, and twice, is the same, and over both; of all small states.
func TestLatticeOfSmall(t *testing.T) {
	all := smallStates()
	for _, a := range all {
		if !state.Same(state.Join(a, a), a) {
			t.Errorf("%v with itself", a)
		}
		for _, b := range all {
			checkPair(t, a, b)
			ab := state.Join(a, b)
			for _, c := range all {
				if x, y := state.Join(ab, c), state.Join(a, state.Join(b, c)); !state.Same(x, y) {
					t.Fatalf("%v, %v, %v: %v and %v", a, b, c, x, y)
				}
				// The least that is over both.
				if state.Over(c, a) && state.Over(c, b) != state.Over(c, ab) {
					t.Fatalf("%v over %v, %v", c, a, b)
				}
			}
		}
	}
}

// P5.2: the same of many states of all keys.
func TestLattice(t *testing.T) {
	r := rand.New(rand.NewSource(56))
	for i := range 10000 {
		l := []api.State{anyState(r), anyState(r), anyState(r), anyState(r)}
		// Half of them of one generation, whose tables are joined.
		for j := range l {
			if i%2 == 0 {
				l[j].Gen = l[0].Gen
			}
		}
		checkPair(t, l[0], l[1])
		whole := state.Join(state.Join(l[0], l[1]), state.Join(l[2], l[3]))
		other := l[r.Intn(4)]
		for _, k := range append(r.Perm(4), r.Perm(4)...) {
			other = state.Join(other, l[k])
		}
		if !state.Same(whole, other) {
			t.Fatalf("%v: %v and %v", l, whole, other)
		}
		for _, x := range l {
			if !state.Over(whole, x) {
				t.Fatalf("%v isn't over %v", whole, x)
			}
		}
	}
}

// P5.2: what beats, or is set, is over what it was, and its top one more; but where no version is left.
func TestForwards(t *testing.T) {
	r := rand.New(rand.NewSource(57))
	for range 2000 {
		s := anyState(r)
		for range 5 {
			out, e := state.Beat(s)
			if r.Intn(2) == 0 {
				out, e = state.Set(s, r.Intn(maxKeys), values[r.Intn(len(values))])
			}
			if plainTop(s) == maxVersion {
				check(t, "used", out, e, s, api.ErrUsed)
				break
			}
			if e != api.OK || !state.Over(out, s) || state.Over(s, out) || state.Top(out) != plainTop(s)+1 || !state.Right(out) {
				t.Fatalf("%v: %v, %d", s, out, e)
			}
			s = out
		}
	}
}

// calls: those that answer states.
func calls() map[string]func(a, b api.State) api.State {
	return map[string]func(a, b api.State) api.State{
		"Join":       state.Join,
		"Join, same": func(a, b api.State) api.State { b.Gen = a.Gen; return state.Join(a, b) },
		"Above":      func(a, b api.State) api.State { return state.Above(a, 3) },
		"Above, all": func(a, b api.State) api.State { return state.Above(a, 0) },
		"Copy":       func(a, b api.State) api.State { return state.Copy(b) },
		"Beat":       func(a, b api.State) api.State { out, _ := state.Beat(a); return out },
		"Beat, used": func(a, b api.State) api.State { a.Beat = maxVersion; out, _ := state.Beat(a); return out },
		"Beat, may not be": func(a, b api.State) api.State {
			a.Gen = 0
			out, _ := state.Beat(a)
			return out
		},
		"Set":        func(a, b api.State) api.State { out, _ := state.Set(a, 5, "new"); return out },
		"Set, front": func(a, b api.State) api.State { out, _ := state.Set(a, 0, "new"); return out },
		"Set, last":  func(a, b api.State) api.State { out, _ := state.Set(a, 11, "new"); return out },
		"Set, used":  func(a, b api.State) api.State { a.Beat = maxVersion; out, _ := state.Set(a, 5, "new"); return out },
		"Set, wrong": func(a, b api.State) api.State { out, _ := state.Set(a, 12, "new"); return out },
		"Set, may not be": func(a, b api.State) api.State {
			a.Gen = 0
			out, _ := state.Set(a, 5, "new")
			return out
		},
	}
}

// P5.1: what is handed in stays as it was, its spare room, too; what is answered shares nothing with it.
func TestNewMemory(t *testing.T) {
	r := rand.New(rand.NewSource(58))
	for name, call := range calls() {
		for i := range 300 {
			a, b := anyState(r), anyState(r)
			switch i % 4 {
			case 0:
				a.Apps = nil
			case 1:
				b.Apps = nil
			case 2:
				b = state.Copy(a)
			}
			x, y := roomy(a), roomy(b)
			got := call(x, y)
			want := api.State{Gen: got.Gen, Beat: got.Beat, Apps: slices.Clone(got.Apps)}
			if !stays(a, x) || !stays(b, y) {
				t.Fatalf("%s: what was handed in is changed", name)
			}
			clear(x.Apps[:len(a.Apps)+2])
			clear(y.Apps[:len(b.Apps)+2])
			if !equal(got, want) {
				t.Fatalf("%s: what was answered changes with what was handed in", name)
			}
			x, y = roomy(a), roomy(b)
			got = call(x, y)
			clear(got.Apps[:cap(got.Apps)])
			if !stays(a, x) || !stays(b, y) {
				t.Fatalf("%s: what was handed in changes with what was answered", name)
			}
		}
	}
}

// P5.1: the calls that just tell leave what is handed in as it was.
func TestTellingChangesNothing(t *testing.T) {
	r := rand.New(rand.NewSource(59))
	for range 500 {
		a, b := anyState(r), anyState(r)
		x, y := roomy(a), roomy(b)
		state.Right(x)
		state.Top(x)
		state.Over(x, y)
		state.Same(x, y)
		if !stays(a, x) || !stays(b, y) {
			t.Fatal("changed")
		}
	}
}

// Rule 1: no call panics of states that it isn't asked with, either.
func TestOddStatesEnd(t *testing.T) {
	all := append(wrongs(), used()...)
	for _, a := range all {
		for _, b := range all {
			state.Join(a, b)
			state.Over(a, b)
		}
	}
}
