package delta_test

import (
	"math"
	"math/rand"
	"slices"
	"strings"
	"testing"

	"bellwether/api"
	"bellwether/delta"
	"bellwether/digest"
	"bellwether/view"
)

// The document's numbers, written out anew.
const (
	maxNodes   = 8
	maxKeys    = 12
	maxVersion = 1099511627776
	maxValue   = 200
)

// numbers: the edges of generations, beats and versions, and what is between them; 0 is a beat, a From and a Ver alone.
var numbers = []int{1, 2, 3, 4, 10, 1<<31 - 1, 1 << 31, 1 << 32, 1<<32 + 1, maxVersion - 1, maxVersion}

// wrongNumbers: what no number of a delta may be.
var wrongNumbers = []int{math.MinInt, -maxVersion, -1 << 32, -1, maxVersion + 1, 2 * maxVersion, 1<<62 + 1, math.MaxInt}

// wrongNodes: what an endpoint may not be.
var wrongNodes = []int{math.MinInt, -1 << 32, -8, -1, 8, 9, 256, 1 << 32, 1<<32 + 1, math.MaxInt}

// living: a state of that generation and beat, and of entries of those versions, by rising keys from 3 on.
func living(gen, beat int, vers ...int) api.State {
	s := api.State{Gen: gen, Beat: beat}
	for i, ver := range vers {
		s.Apps = append(s.Apps, api.Entry{Key: 3 + i, Ver: ver, Val: string(rune('a' + i))})
	}
	return s
}

// of: an endpoint's state in a view.
func of(node int, s api.State) api.Named { return api.Named{Node: node, State: s} }

// told: an endpoint's state in a delta.
func told(node, from int, s api.State) api.Delta { return api.Delta{Node: node, From: from, State: s} }

// ask: what is asked of an endpoint.
func ask(node, gen, ver int) api.Digest { return api.Digest{Node: node, Gen: gen, Ver: ver} }

// equalState, equalView, equal: the same fields, held against each other by another way than the program's.
func equalState(a, b api.State) bool {
	return a.Gen == b.Gen && a.Beat == b.Beat && slices.Equal(a.Apps, b.Apps)
}

func equalView(a, b []api.Named) bool {
	return slices.EqualFunc(a, b, func(x, y api.Named) bool { return x.Node == y.Node && equalState(x.State, y.State) })
}

func equal(a, b []api.Delta) bool {
	return slices.EqualFunc(a, b, func(x, y api.Delta) bool {
		return x.Node == y.Node && x.From == y.From && equalState(x.State, y.State)
	})
}

// cloneView, clone: the same in memory of its own throughout.
func cloneView(v []api.Named) []api.Named {
	out := slices.Clone(v)
	for i := range out {
		out[i].State.Apps = slices.Clone(out[i].State.Apps)
	}
	return out
}

func clone(l []api.Delta) []api.Delta {
	out := slices.Clone(l)
	for i := range out {
		out[i].State.Apps = slices.Clone(out[i].State.Apps)
	}
	return out
}

// places: a view as an array, by endpoints.
func places(v []api.Named) [maxNodes]*api.State {
	var p [maxNodes]*api.State
	for _, x := range v {
		p[x.Node] = &x.State
	}
	return p
}

// listed: such an array as a view.
func listed(p [maxNodes]*api.State) []api.Named {
	var v []api.Named
	for node, s := range p {
		if s != nil {
			v = append(v, of(node, *s))
		}
	}
	return v
}

// plainTop: the greatest of all versions, the beat's too.
func plainTop(s api.State) int {
	all := []int{s.Beat}
	for _, x := range s.Apps {
		all = append(all, x.Ver)
	}
	return slices.Max(all)
}

// plainPick: what is picked, worked out endpoint by endpoint.
func plainPick(v []api.Named, asks []api.Digest) []api.Delta {
	p := places(v)
	var out []api.Delta
	for _, a := range asks {
		if p[a.Node] == nil || p[a.Node].Gen < a.Gen {
			continue
		}
		s, from := *p[a.Node], 0
		if s.Gen == a.Gen {
			from = a.Ver
			s.Apps = slices.DeleteFunc(slices.Clone(s.Apps), func(x api.Entry) bool { return x.Ver <= a.Ver })
		}
		out = append(out, told(a.Node, from, s))
	}
	return out
}

// plainFits: whether a delta may be joined.
func plainFits(v []api.Named, d api.Delta) bool {
	s := places(v)[d.Node]
	return d.From == 0 || s != nil && s.Gen == d.State.Gen && d.From <= plainTop(*s)
}

// plainJoin: two states joined, worked out key by key.
func plainJoin(a, b api.State) api.State {
	if a.Gen != b.Gen {
		return slices.MaxFunc([]api.State{a, b}, func(x, y api.State) int { return x.Gen - y.Gen })
	}
	out := api.State{Gen: a.Gen, Beat: slices.Max([]int{a.Beat, b.Beat})}
	for key := range maxKeys {
		var both []api.Entry
		for _, x := range slices.Concat(a.Apps, b.Apps) {
			if x.Key == key {
				both = append(both, x)
			}
		}
		slices.SortFunc(both, func(x, y api.Entry) int {
			if x.Ver != y.Ver {
				return x.Ver - y.Ver
			}
			return slices.Compare([]byte(x.Val), []byte(y.Val))
		})
		out.Apps = append(out.Apps, both[max(0, len(both)-1):]...)
	}
	return out
}

// plainApply: a view with what fits of the deltas, worked out endpoint by endpoint.
func plainApply(v []api.Named, l []api.Delta) ([]api.Named, []int) {
	p := places(v)
	var nodes []int
	for _, d := range l {
		if !plainFits(v, d) {
			continue
		}
		s := d.State
		if p[d.Node] != nil {
			s = plainJoin(*p[d.Node], s)
		}
		p[d.Node] = &s
		nodes = append(nodes, d.Node)
	}
	return listed(p), nodes
}

func anyNumber(r *rand.Rand) int { return numbers[r.Intn(len(numbers))] }

// fewGens: few generations, so that many are of the same one.
func fewGens(r *rand.Rand) int { return []int{1, 2, 1 << 32, maxVersion}[r.Intn(4)] }

// anyState: a state that may be, of entries above a version.
func anyState(r *rand.Rand, gen, from int) api.State {
	s := api.State{Gen: gen, Beat: anyNumber(r) * r.Intn(2)}
	often := r.Intn(4)
	for key := range maxKeys {
		if ver := anyNumber(r); r.Intn(6) < often && ver > from {
			s.Apps = append(s.Apps, api.Entry{Key: key, Ver: ver, Val: []string{"", "B", "a", "ab", "\x80"}[r.Intn(5)]})
		}
	}
	return s
}

// anyView: a view that may be, of any of the endpoints.
func anyView(r *rand.Rand) []api.Named {
	var v []api.Named
	often := r.Intn(6)
	for node := range maxNodes {
		if r.Intn(5) < often {
			v = append(v, of(node, anyState(r, fewGens(r), 0)))
		}
	}
	return v
}

// near: a number that may be, of those from low on: v's, or just beside it, or any.
func near(r *rand.Rand, v, low int) int {
	if r.Intn(4) == 0 {
		v = anyNumber(r)
	}
	return min(max(low, v+[]int{0, 0, 0, -1, 1}[r.Intn(5)]), maxVersion)
}

// anyVer: a version that s has, its beat's or an entry's.
func anyVer(r *rand.Rand, s api.State) int {
	if n := len(s.Apps); n > 0 && r.Intn(2) == 0 {
		return s.Apps[r.Intn(n)].Ver
	}
	return s.Beat
}

// anyAsks: asks that may be, of any of the endpoints; many are as v's, or just beside.
func anyAsks(r *rand.Rand, v []api.Named) []api.Digest {
	var l []api.Digest
	for node, s := range places(v) {
		switch {
		case r.Intn(4) == 0:
		case s == nil:
			l = append(l, ask(node, fewGens(r), anyNumber(r)*r.Intn(2)))
		default:
			l = append(l, ask(node, near(r, s.Gen, 1), near(r, anyVer(r, *s), 0)))
		}
	}
	return l
}

// anyDeltas: deltas that may be, of any of the endpoints; many are just beside what fits v.
func anyDeltas(r *rand.Rand, v []api.Named) []api.Delta {
	var l []api.Delta
	for node, s := range places(v) {
		gen, from := fewGens(r), anyNumber(r)*r.Intn(2)
		if s != nil {
			gen, from = near(r, s.Gen, 1), near(r, plainTop(*s), 0)*min(1, r.Intn(4))
		}
		if r.Intn(4) > 0 {
			l = append(l, told(node, from, anyState(r, gen, from)))
		}
	}
	return l
}

// full: deltas of all endpoints, each number as great as may be.
func full() []api.Delta {
	var l []api.Delta
	for node := range maxNodes {
		l = append(l, told(node, maxVersion, api.State{Gen: maxVersion, Beat: maxVersion}))
	}
	return l
}

// wrongStates: states that may not be in any delta, whatever its From is, each by one fault.
func wrongStates() []api.State {
	l := []api.State{{}, {Beat: 9}, living(0, 3, 4)}
	for _, n := range wrongNumbers {
		l = append(l, living(n, 1), living(n, 1, 2), living(1, n), living(2, n, 3), living(1, 1, n), living(1, 1, 2, n), living(1, 1, n, 2))
	}
	for _, n := range []int{math.MinInt, -1, 12, 13, 1 << 32, math.MaxInt} {
		l = append(l, api.State{Gen: 1, Apps: []api.Entry{{Key: n, Ver: maxVersion}}})
	}
	return append(l,
		api.State{Gen: 1, Apps: []api.Entry{{Key: 3, Ver: maxVersion, Val: strings.Repeat("v", maxValue+1)}}},
		api.State{Gen: 1, Apps: []api.Entry{{Key: 3, Ver: maxVersion}, {Key: 3, Ver: maxVersion}}},
		api.State{Gen: 1, Apps: []api.Entry{{Key: 3, Ver: maxVersion}, {Key: 2, Ver: maxVersion}}},
	)
}

// wrongs: deltas that may not be, each by one fault, and some by several.
func wrongs() []api.Delta {
	l := []api.Delta{{}, {Node: -1, From: -1}}
	for _, n := range wrongNodes {
		l = append(l, told(n, 0, living(1, 0)), told(n, 4, living(2, 3, 5)), told(n, maxVersion, living(maxVersion, maxVersion)))
	}
	for _, n := range wrongNumbers {
		l = append(l, told(4, n, living(1, 0)), told(4, n, living(2, 3)), told(4, n, living(2, 3, maxVersion)))
	}
	for _, s := range wrongStates() {
		l = append(l, told(4, 0, s), told(4, maxVersion-1, s))
	}
	// Entries that aren't above From, at each place.
	return append(l,
		told(4, 3, living(1, 9, 3)), told(4, 3, living(1, 0, 2)), told(4, 3, living(1, 9, 3, 4, 5)), told(4, 3, living(1, 9, 4, 3, 5)), told(4, 3, living(1, 9, 4, 5, 1)),
		told(4, 1, living(1, 0, 1)), told(4, maxVersion, living(1, 0, maxVersion)), told(4, 1<<32, living(1, 0, 1<<32)), told(4, 1<<32, living(1, 0, 5)),
	)
}

// P8.1: the document's example; and From 0 to the same view.
func TestExample(t *testing.T) {
	d := told(1, 5, living(2, 9, 7))
	for _, v := range [][]api.Named{nil, {}, {of(0, living(2, 9, 7)), of(2, living(2, 9, 7))}} {
		if delta.Fits(v, d) {
			t.Errorf("it fits %v", v)
		}
		if w, nodes := delta.Apply(v, []api.Delta{d}); !equalView(w, v) || len(nodes) > 0 {
			t.Errorf("%v: %v, %v", v, w, nodes)
		}
		d := told(1, 0, d.State)
		if !delta.Fits(v, d) {
			t.Errorf("From 0 doesn't fit %v", v)
		}
	}
}

// P8.1: which deltas may be: at each field's edges.
func TestRight(t *testing.T) {
	whole := full()
	for _, l := range [][]api.Delta{
		nil, {}, whole, whole[:1], whole[7:], {whole[0], whole[7]}, {whole[3], whole[4]},
		{told(3, 3, living(1, 0, 4))}, {told(3, 3, living(1, 9, 4, 5, 4))}, {told(3, maxVersion-1, living(1, 0, maxVersion))}, {told(3, 0, living(1, 0, 1, 1))},
		// The beat isn't of Apps: it may be at From, or below.
		{told(3, 3, living(1, 3, 4))}, {told(3, 3, living(1, 2, 4))}, {told(3, maxVersion, living(1, 0))},
		// From is of any life.
		{told(3, 9, living(1, 0))}, {told(3, 1, living(9, 0))},
		{told(3, 1, api.State{Gen: 1, Apps: []api.Entry{{Key: 0, Ver: 2, Val: strings.Repeat("v", maxValue)}, {Key: 11, Ver: 2}}})},
	} {
		if !delta.Right(l) {
			t.Errorf("%v may be", l)
		}
	}
	for node := range maxNodes {
		for _, n := range numbers {
			for _, from := range append([]int{0}, numbers...) {
				l := []api.Delta{told(node, from, living(n, n))}
				if from < maxVersion {
					l[0].State.Apps = []api.Entry{{Key: node, Ver: from + 1}}
				}
				if !delta.Right(l) {
					t.Errorf("%v may be", l)
				}
			}
		}
	}
	r := rand.New(rand.NewSource(8))
	for range 1000 {
		if l := anyDeltas(r, anyView(r)); !delta.Right(l) {
			t.Errorf("%v may be", l)
		}
	}
}

// P8.1: which deltas may not be: of one fault at any place, or of nodes that don't rise.
func TestNotRight(t *testing.T) {
	for _, x := range wrongs() {
		for _, l := range [][]api.Delta{{x}, {told(0, 0, living(1, 0)), x}, {x, told(7, 0, living(1, 0))}} {
			if delta.Right(l) {
				t.Errorf("%v may not be", l)
			}
		}
		for i := range maxNodes {
			l := full()
			l[i].From, l[i].State = x.From, x.State
			if n := x.Node; n < 0 || n >= maxNodes {
				l[i].Node = n
			}
			if delta.Right(l) {
				t.Errorf("%v may not be", l)
			}
		}
	}
	for i := range maxNodes {
		for node := range maxNodes {
			l := full()
			l[i].Node = node
			if delta.Right(l) != (node == i) {
				t.Errorf("at %d: node %d", i, node)
			}
		}
	}
	a, b := told(1, 0, living(1, 1)), told(2, 0, living(1, 1))
	for _, l := range [][]api.Delta{{a, a}, {a, told(1, 3, living(2, 2))}, {b, a}, {a, b, a}, {a, b, b}, append(full(), full()[7]), append(full(), told(8, 0, living(1, 1)))} {
		if delta.Right(l) {
			t.Errorf("%v may not be", l)
		}
	}
}

// checkPick: what is picked.
func checkPick(t *testing.T, v []api.Named, asks []api.Digest, want []api.Delta) {
	t.Helper()
	if got := delta.Pick(v, asks); !equal(got, want) {
		t.Errorf("%v, asked %v: %v, not %v", v, asks, got, want)
	}
}

// P8.1: what is picked of a state, of each generation that is asked, at each edge of the version.
func TestPickOfOne(t *testing.T) {
	s := living(5, 8, 3, 9, 6)
	some := func(places ...int) api.State {
		out := living(5, 8)
		for _, i := range places {
			out.Apps = append(out.Apps, s.Apps[i])
		}
		return out
	}
	for node := range maxNodes {
		v := []api.Named{of(node, s)}
		for _, c := range []struct {
			gen, ver int
			want     []api.Delta
		}{
			// Of a greater generation than was asked all of it, whatever the version was.
			{4, 0, []api.Delta{told(node, 0, s)}}, {4, 3, []api.Delta{told(node, 0, s)}}, {4, 9, []api.Delta{told(node, 0, s)}}, {1, maxVersion, []api.Delta{told(node, 0, s)}},
			// Of the same one what is above the version, and the beat, even where it isn't above.
			{5, 0, []api.Delta{told(node, 0, s)}}, {5, 2, []api.Delta{told(node, 2, s)}},
			{5, 3, []api.Delta{told(node, 3, some(1, 2))}}, {5, 5, []api.Delta{told(node, 5, some(1, 2))}}, {5, 6, []api.Delta{told(node, 6, some(1))}}, {5, 8, []api.Delta{told(node, 8, some(1))}},
			{5, 9, []api.Delta{told(node, 9, some())}}, {5, 10, []api.Delta{told(node, 10, some())}}, {5, maxVersion, []api.Delta{told(node, maxVersion, some())}},
			// Of a lower one nothing.
			{6, 0, nil}, {6, 3, nil}, {maxVersion, maxVersion, nil}, {5 + 1<<32, 0, nil},
		} {
			checkPick(t, v, []api.Digest{ask(node, c.gen, c.ver)}, c.want)
		}
		checkPick(t, v, nil, nil)
		for other := range maxNodes {
			if other != node {
				checkPick(t, v, []api.Digest{ask(other, 5, 3), ask(other, 1, 0)}[:1+other%2], nil)
			}
		}
	}
	bare := []api.Named{of(3, living(2, 0))}
	checkPick(t, bare, []api.Digest{ask(3, 2, 0)}, []api.Delta{told(3, 0, living(2, 0))})
	checkPick(t, bare, []api.Digest{ask(3, 1, 7)}, []api.Delta{told(3, 0, living(2, 0))})
	great := []api.Named{of(3, living(maxVersion, maxVersion-2, maxVersion-1, maxVersion))}
	checkPick(t, great, []api.Digest{ask(3, maxVersion, maxVersion-1)}, []api.Delta{told(3, maxVersion-1, api.State{Gen: maxVersion, Beat: maxVersion - 2, Apps: great[0].State.Apps[1:]})})
	checkPick(t, great, []api.Digest{ask(3, maxVersion-1, maxVersion)}, []api.Delta{told(3, 0, great[0].State)})
}

// P8.1: endpoints are found by their nodes, not by their places; just what is asked is picked.
func TestPickOfSeveral(t *testing.T) {
	v := []api.Named{of(1, living(2, 3, 5, 4)), of(2, living(3, 1)), of(4, living(4, 9, 2, 8)), of(6, living(6, 7, 1)), of(7, living(1, 1))}
	asks := []api.Digest{ask(0, 1, 1), ask(1, 2, 4), ask(3, 1, 0), ask(4, 5, 0), ask(6, 2, 7), ask(7, 1, 0)}
	checkPick(t, v, asks, []api.Delta{told(1, 4, living(2, 3, 5)), told(6, 0, v[3].State), told(7, 0, v[4].State)})
	checkPick(t, v, []api.Digest{ask(0, 1, 0), ask(5, 1, 0)}, nil)
	checkPick(t, nil, asks, nil)
	checkPick(t, nil, nil, nil)
	r := rand.New(rand.NewSource(80))
	for range 20000 {
		v := anyView(r)
		asks := anyAsks(r, v)
		checkPick(t, v, asks, plainPick(v, asks))
		if l := delta.Pick(v, asks); !delta.Right(l) {
			t.Fatalf("%v, asked %v: %v", v, asks, l)
		}
	}
}

// P8.1: what fits: From 0 whatever is known; else the same life alone, known up to From or further.
func TestFits(t *testing.T) {
	for node := range maxNodes {
		other := (node + 3) % maxNodes
		for _, c := range []struct {
			s    api.State
			from int
			gen  int
			want bool
		}{
			// The top is the beat's, or an entry's, wherever it stands.
			{living(3, 5), 1, 3, true}, {living(3, 5), 4, 3, true}, {living(3, 5), 5, 3, true}, {living(3, 5), 6, 3, false}, {living(3, 5), maxVersion, 3, false},
			{living(3, 0, 7, 2), 7, 3, true}, {living(3, 0, 7, 2), 8, 3, false}, {living(3, 6, 2, 7), 7, 3, true}, {living(3, 6, 2, 7), 8, 3, false}, {living(3, 7, 2), 7, 3, true},
			{living(3, 0), 1, 3, false}, {living(3, 0), 0, 3, true}, {living(3, 1<<32), 1, 3, true}, {living(3, 1), 1 << 32, 3, false},
			{living(maxVersion, maxVersion-1), maxVersion, maxVersion, false}, {living(maxVersion, maxVersion), maxVersion, maxVersion, true}, {living(1, 0, maxVersion), maxVersion, 1, true},
			// Another life.
			{living(3, 5), 5, 2, false}, {living(3, 5), 5, 4, false}, {living(3, 5), 1, 2, false}, {living(3, 5), 1, 4, false}, {living(1<<32+3, 5), 5, 3, false}, {living(3, maxVersion), 1, maxVersion, false},
			{living(3, 5), 0, 2, true}, {living(3, 5), 0, 4, true}, {living(maxVersion, maxVersion), 0, 1, true},
		} {
			for _, beat := range []int{0, 1, 5, maxVersion} {
				v, d := []api.Named{of(node, c.s)}, told(node, c.from, living(c.gen, beat))
				if delta.Fits(v, d) != c.want {
					t.Errorf("%v to %v: not %t", d, v, c.want)
				}
				// What is known of others doesn't count.
				d.Node = other
				if delta.Fits(v, d) != (c.from == 0) || delta.Fits(nil, d) != (c.from == 0) {
					t.Errorf("%v to %v", d, v)
				}
				v = append(v, of(other, living(9, maxVersion)))
				slices.SortFunc(v, func(x, y api.Named) int { return x.Node - y.Node })
				d.Node = node
				if delta.Fits(v, d) != c.want {
					t.Errorf("%v to %v: not %t", d, v, c.want)
				}
			}
		}
	}
}

// P8.1: what fits, of many, as a plain working-out has it.
func TestFitsOfMany(t *testing.T) {
	r := rand.New(rand.NewSource(81))
	seen := map[bool]int{}
	for range 20000 {
		v := anyView(r)
		for _, d := range anyDeltas(r, v) {
			want := plainFits(v, d)
			if delta.Fits(v, d) != want {
				t.Fatalf("%v to %v: not %t", d, v, want)
			}
			seen[want]++
		}
	}
	if seen[true] < 1000 || seen[false] < 1000 {
		t.Error("just one of both", seen)
	}
}

// checkApply: what applying answers.
func checkApply(t *testing.T, v []api.Named, l []api.Delta, want []api.Named, nodes []int) {
	t.Helper()
	if w, n := delta.Apply(v, l); !equalView(w, want) || !slices.Equal(n, nodes) {
		t.Errorf("%v with %v: %v, %v, not %v, %v", v, l, w, n, want, nodes)
	}
}

// P8.1: what fits is joined, not laid in the place of what is known.
func TestApplyOfOne(t *testing.T) {
	s := api.State{Gen: 3, Beat: 6, Apps: []api.Entry{{Key: 0, Ver: 2, Val: "m"}, {Key: 4, Ver: 5, Val: "m"}, {Key: 9, Ver: 8, Val: "m"}}}
	keyed := func(beat int, apps ...api.Entry) api.State { return api.State{Gen: 3, Beat: beat, Apps: apps} }
	low, high := api.Entry{Key: 4, Ver: 5, Val: "lz"}, api.Entry{Key: 4, Ver: 5, Val: "n"}
	for node := range maxNodes {
		for _, c := range []struct {
			d    api.Delta
			want api.State
		}{
			{told(node, 8, keyed(9)), keyed(9, s.Apps...)}, {told(node, 8, keyed(6)), s}, {told(node, 8, keyed(2)), s}, {told(node, 0, keyed(0)), s}, {told(node, 1, keyed(7)), keyed(7, s.Apps...)},
			{told(node, 8, keyed(7, api.Entry{Key: 4, Ver: 9, Val: "a"})), keyed(7, s.Apps[0], api.Entry{Key: 4, Ver: 9, Val: "a"}, s.Apps[2])},
			{told(node, 3, keyed(7, api.Entry{Key: 9, Ver: 7, Val: "z"})), keyed(7, s.Apps...)},
			{told(node, 4, keyed(6, low)), s}, {told(node, 4, keyed(6, high)), keyed(6, s.Apps[0], high, s.Apps[2])},
			{told(node, 8, keyed(1, api.Entry{Key: 7, Ver: 10})), keyed(6, s.Apps[0], s.Apps[1], api.Entry{Key: 7, Ver: 10}, s.Apps[2])},
			// A new life takes all of the old one away; an old one fits, and adds nothing.
			{told(node, 0, living(4, 1)), living(4, 1)}, {told(node, 0, living(maxVersion, 0, 1)), living(maxVersion, 0, 1)}, {told(node, 0, living(2, 9, 11)), s},
		} {
			checkApply(t, []api.Named{of(node, s)}, []api.Delta{c.d}, []api.Named{of(node, c.want)}, []int{node})
		}
		for _, d := range []api.Delta{told(node, 9, keyed(9)), told(node, 9, keyed(9, api.Entry{Key: 4, Ver: 10})), told(node, 1, living(4, 1)), told(node, 8, living(2, 9, 11)), told((node+1)%maxNodes, 8, keyed(9))} {
			checkApply(t, []api.Named{of(node, s)}, []api.Delta{d}, []api.Named{of(node, s)}, nil)
		}
		checkApply(t, nil, []api.Delta{told(node, 0, s)}, []api.Named{of(node, s)}, []int{node})
		checkApply(t, nil, []api.Delta{told(node, 1, keyed(9))}, nil, nil)
		checkApply(t, []api.Named{of(node, s)}, nil, []api.Named{of(node, s)}, nil)
	}
	checkApply(t, nil, nil, nil, nil)
}

// P8.1: of several deltas those that fit are taken, and told, whatever is between them.
func TestApplyOfSeveral(t *testing.T) {
	v := []api.Named{of(1, living(2, 3)), of(3, living(1, 4, 6)), of(6, living(5, 5))}
	l := []api.Delta{told(0, 2, living(1, 9)), told(1, 3, living(2, 8, 7)), told(2, 0, living(7, 1)), told(3, 7, living(1, 9)), told(5, 1, living(1, 1)), told(6, 5, living(5, 5)), told(7, 0, living(1, 0))}
	want := []api.Named{of(1, living(2, 8, 7)), of(2, living(7, 1)), v[1], v[2], of(7, living(1, 0))}
	checkApply(t, v, l, want, []int{1, 2, 6, 7})
	r := rand.New(rand.NewSource(82))
	for range 20000 {
		v := anyView(r)
		l := anyDeltas(r, v)
		want, nodes := plainApply(v, l)
		checkApply(t, v, l, want, nodes)
		if w, _ := delta.Apply(v, l); !view.Right(w) || !view.Over(w, v) {
			t.Fatalf("%v with %v: %v", v, l, w)
		}
	}
}

// P8.1: of each endpoint all, From 0, which makes the same view of nothing.
func TestFull(t *testing.T) {
	v := []api.Named{of(0, living(1, 0)), of(2, living(maxVersion, maxVersion, maxVersion)), of(3, living(2, 1, 1, 5, 3)), of(7, living(4, 9, 2))}
	want := []api.Delta{told(0, 0, v[0].State), told(2, 0, v[1].State), told(3, 0, v[2].State), told(7, 0, v[3].State)}
	if got := delta.Full(v); !equal(got, want) {
		t.Errorf("%v, not %v", got, want)
	}
	if got := append(delta.Full(nil), delta.Full([]api.Named{})...); len(got) != 0 {
		t.Error(got)
	}
	r := rand.New(rand.NewSource(83))
	for range 3000 {
		v := anyView(r)
		want := make([]api.Delta, len(v))
		for i, x := range v {
			want[i] = told(x.Node, 0, x.State)
		}
		l := delta.Full(v)
		if !equal(l, want) || !delta.Right(l) {
			t.Fatalf("%v: %v", v, l)
		}
		w, nodes := delta.Apply(nil, l)
		if !equalView(w, v) || !slices.Equal(nodes, view.Nodes(v)) {
			t.Fatalf("%v: %v, %v", v, w, nodes)
		}
	}
}

// P8.1: the same deltas, field by field, of any lists.
func TestSame(t *testing.T) {
	a, b := told(1, 2, living(3, 4, 5, 6)), told(7, 8, living(9, 10))
	l := []api.Delta{a, b}
	change := func(f func(d *api.Delta)) []api.Delta {
		out := clone(l)
		f(&out[0])
		return out
	}
	for i, x := range [][]api.Delta{
		nil, l[:1], l[1:], {b, a}, {a, a}, {b, b}, {a, b, b}, {a, b, {}}, {{}, a, b},
		change(func(d *api.Delta) { d.Node = 0 }), change(func(d *api.Delta) { d.From = 1 }), change(func(d *api.Delta) { d.State.Gen = 2 }), change(func(d *api.Delta) { d.State.Beat = 5 }),
		change(func(d *api.Delta) { d.State.Apps = nil }), change(func(d *api.Delta) { d.State.Apps = d.State.Apps[:1] }), change(func(d *api.Delta) { d.State.Apps[1].Key = 5 }),
		change(func(d *api.Delta) { d.State.Apps[1].Ver = 7 }), change(func(d *api.Delta) { d.State.Apps[0].Val = "a\x00" }), change(func(d *api.Delta) { slices.Reverse(d.State.Apps) }),
		{a, told(8, 8, b.State)}, {a, told(7, 9, b.State)}, {a, told(7, 8, living(9, 11))}, {a, told(7, 8, living(9, 10, 1))},
	} {
		if delta.Same(l, x) || delta.Same(x, l) {
			t.Errorf("%d is the same", i)
		}
		if !delta.Same(x, clone(x)) {
			t.Errorf("%d isn't itself", i)
		}
	}
	empty := []api.Delta{{Node: 3, State: api.State{Apps: []api.Entry{}}}}
	if !delta.Same(nil, nil) || !delta.Same(nil, []api.Delta{}) || !delta.Same([]api.Delta{}, nil) || !delta.Same(empty, []api.Delta{{Node: 3}}) {
		t.Error("nil and empty")
	}
	all := [][]api.Delta{nil, full(), full()[:7], full()[1:], l}
	for _, x := range wrongs() {
		all = append(all, []api.Delta{x}, []api.Delta{x, a})
	}
	for i, x := range all {
		for j, y := range all {
			if delta.Same(x, clone(y)) != equal(x, y) {
				t.Errorf("%d and %d", i, j)
			}
		}
	}
}

// step: what an endpoint is next: it beats, sets a value, or (seldom) begins a new life; each version is greater than all that it gave in this life.
func step(r *rand.Rand, s api.State) api.State {
	ver := plainTop(s) + 1
	if r.Intn(6) == 0 {
		ver += 999
	}
	s.Apps = slices.Clone(s.Apps)
	key := r.Intn(maxKeys)
	i, found := slices.BinarySearchFunc(s.Apps, key, func(x api.Entry, key int) int { return x.Key - key })
	x := api.Entry{Key: key, Ver: ver, Val: strings.Repeat("v", r.Intn(3))}
	switch n := r.Intn(8); {
	case n == 0:
		return api.State{Gen: s.Gen + 1 + r.Intn(2)}
	case n < 3:
		s.Beat = ver
	case found:
		s.Apps[i] = x
	default:
		s.Apps = slices.Insert(s.Apps, i, x)
	}
	return s
}

// story: what an endpoint is, from its beginning on.
func story(r *rand.Rand, steps int) []api.State {
	l := []api.State{{Gen: 1 + r.Intn(2)}}
	for range steps {
		l = append(l, step(r, l[len(l)-1]))
	}
	return l
}

// moment: what somebody knows who heard of each endpoint at some place of its story, or nothing yet.
func moment(r *rand.Rand, stories [maxNodes][]api.State) []api.Named {
	var v []api.Named
	for node, l := range stories {
		if at := r.Intn(len(l)+2) - 2; at >= 0 {
			v = append(v, of(node, l[at]))
		}
	}
	return v
}

// checkLacks: what is promised of one that knows a, who asks one that knows b; it has what both had, and is told of those that it asked.
func checkLacks(t *testing.T, a, b []api.Named) []api.Named {
	t.Helper()
	wants, _ := digest.Compare(a, digest.Of(b))
	l := delta.Pick(b, wants)
	w, nodes := delta.Apply(a, l)
	if !view.Over(w, b) || !view.Over(w, a) || !view.Same(w, view.Join(a, b)) {
		t.Fatalf("%v asks %v: %v with %v", a, b, w, l)
	}
	asked := make([]int, len(wants))
	for i, x := range wants {
		asked[i] = x.Node
	}
	if !slices.Equal(nodes, asked) || !delta.Right(l) {
		t.Fatalf("%v asks %v: %v, of %v", a, b, l, nodes)
	}
	return w
}

// P8.2: one that applies what another one picks for what it wants is over that one; of all moments of two endpoints' short stories.
func TestNothingLacksOfSmall(t *testing.T) {
	beats := []api.State{living(1, 0), living(1, 1), living(1, 1, 2), living(1, 1, 2, 3), living(1, 4, 2, 3), living(1, 4, 5, 3), living(2, 0), living(2, 0, 1), living(2, 2, 1), living(4, 0)}
	var all [][]api.Named
	for i := range len(beats) + 1 {
		for j := range len(beats) + 1 {
			var v []api.Named
			if i > 0 {
				v = append(v, of(2, beats[i-1]))
			}
			if j > 0 {
				v = append(v, of(5, beats[j-1]))
			}
			all = append(all, v)
		}
	}
	for _, a := range all {
		for _, b := range all {
			checkLacks(t, a, b)
		}
	}
}

// P8.2: the same of many moments of all endpoints' stories; who has asked wants nothing more.
func TestNothingLacks(t *testing.T) {
	r := rand.New(rand.NewSource(84))
	for range 300 {
		var stories [maxNodes][]api.State
		for node := range stories {
			stories[node] = story(r, 1+r.Intn(30))
		}
		for range 20 {
			a, b := moment(r, stories), moment(r, stories)
			w := checkLacks(t, a, b)
			if wants, _ := digest.Compare(w, digest.Of(b)); len(wants) > 0 {
				t.Fatalf("%v asked %v, and wants %v", a, b, wants)
			}
			checkLacks(t, b, w)
			checkLacks(t, nil, w)
		}
	}
}

// P8.2: what one is given unasked makes the other one lack nothing, either.
func TestNothingLacksOfGiven(t *testing.T) {
	r := rand.New(rand.NewSource(85))
	for range 300 {
		var stories [maxNodes][]api.State
		for node := range stories {
			stories[node] = story(r, 1+r.Intn(30))
		}
		a, b := moment(r, stories), moment(r, stories)
		_, gives := digest.Compare(a, digest.Of(b))
		if w, _ := delta.Apply(b, delta.Pick(a, gives)); !view.Over(w, a) {
			t.Fatalf("%v gives %v: %v", a, b, w)
		}
	}
}

// P8.2: what doesn't fit changes nothing, alone or among others.
func TestUnfitChangesNothing(t *testing.T) {
	r := rand.New(rand.NewSource(86))
	seen := 0
	for range 5000 {
		v := anyView(r)
		l := anyDeltas(r, v)
		unfit := slices.DeleteFunc(clone(l), func(d api.Delta) bool { return plainFits(v, d) })
		checkApply(t, v, unfit, v, nil)
		for _, d := range unfit {
			checkApply(t, v, []api.Delta{d}, v, nil)
		}
		fit := slices.DeleteFunc(clone(l), func(d api.Delta) bool { return !plainFits(v, d) })
		want, nodes := delta.Apply(v, fit)
		checkApply(t, v, l, want, nodes)
		seen += len(unfit)
	}
	if seen < 1000 {
		t.Error("too few", seen)
	}
}

// spareApps, spareView, spareAsks, spare: what must stay in the room behind what is handed in.
func spareApps() []api.Entry { return []api.Entry{{Key: 77, Ver: 78, Val: "spare"}} }

func spareView() []api.Named { return []api.Named{of(71, living(72, 73)), of(74, living(75, 76))} }

func spareAsks() []api.Digest { return []api.Digest{ask(81, 82, 83), ask(84, 85, 86)} }

func spare() []api.Delta {
	return []api.Delta{told(91, 92, living(93, 94)), told(95, 96, living(97, 98))}
}

// roomyView, roomyAsks, roomy: the same in memory of its own; spare room behind it, and behind each table, holds what must stay.
func roomyView(v []api.Named) []api.Named {
	out := slices.Concat(v, spareView())[:len(v)]
	for i, x := range out {
		out[i].State.Apps = slices.Concat(x.State.Apps, spareApps())[:len(x.State.Apps)]
	}
	return out
}

func roomyAsks(l []api.Digest) []api.Digest { return slices.Concat(l, spareAsks())[:len(l)] }

func roomy(l []api.Delta) []api.Delta {
	out := slices.Concat(l, spare())[:len(l)]
	for i, d := range out {
		out[i].State.Apps = slices.Concat(d.State.Apps, spareApps())[:len(d.State.Apps)]
	}
	return out
}

// roomStays: whether a table's room is as it was.
func roomStays(s api.State) bool {
	n := len(s.Apps)
	return slices.Equal(s.Apps[n:n+1], spareApps())
}

// viewStays, asksStay, stays: whether what was made with room is as it was, and its room, too.
func viewStays(was, v []api.Named) bool {
	n := len(was)
	bad := func(x api.Named) bool { return !roomStays(x.State) }
	return equalView(was, v) && equalView(v[n:n+2], spareView()) && !slices.ContainsFunc(v, bad)
}

func asksStay(was, l []api.Digest) bool {
	n := len(was)
	return slices.Equal(was, l) && slices.Equal(l[n:n+2], spareAsks())
}

func stays(was, l []api.Delta) bool {
	n := len(was)
	bad := func(d api.Delta) bool { return !roomStays(d.State) }
	return equal(was, l) && equal(l[n:n+2], spare()) && !slices.ContainsFunc(l, bad)
}

// wipeView, wipe: spoil all of the memory, the spare room, too.
func wipeView(v []api.Named) {
	for _, x := range v {
		clear(x.State.Apps[:cap(x.State.Apps)])
	}
	clear(v[:cap(v)])
}

func wipe(l []api.Delta) {
	for _, d := range l {
		clear(d.State.Apps[:cap(d.State.Apps)])
	}
	clear(l[:cap(l)])
}

// answers: what the calls that answer lists answer.
type answers struct {
	pick, full []api.Delta
	view       []api.Named
	nodes      []int
}

func callAll(v []api.Named, asks []api.Digest, l []api.Delta) answers {
	w, nodes := delta.Apply(v, l)
	return answers{delta.Pick(v, asks), delta.Full(v), w, nodes}
}

func (a answers) clone() answers {
	return answers{clone(a.pick), clone(a.full), cloneView(a.view), slices.Clone(a.nodes)}
}

func (a answers) equal(b answers) bool {
	return equal(a.pick, b.pick) && equal(a.full, b.full) && equalView(a.view, b.view) && slices.Equal(a.nodes, b.nodes)
}

func (a answers) wipe() {
	wipe(a.pick)
	wipe(a.full)
	wipeView(a.view)
	clear(a.nodes[:cap(a.nodes)])
}

// Rule 5: what is handed in stays as it was, its spare room, too; what is answered shares nothing with it.
func TestNewMemory(t *testing.T) {
	r := rand.New(rand.NewSource(87))
	for range 2000 {
		v := anyView(r)
		asks, l := anyAsks(r, v), anyDeltas(r, v)
		x, y, z := roomyView(v), roomyAsks(asks), roomy(l)
		got := callAll(x, y, z)
		delta.Right(z)
		delta.Same(z, z)
		for _, d := range z {
			delta.Fits(x, d)
		}
		if !viewStays(v, x) || !asksStay(asks, y) || !stays(l, z) {
			t.Fatal("what was handed in is changed")
		}
		was := got.clone()
		wipeView(x)
		clear(y[:cap(y)])
		wipe(z)
		if !got.equal(was) {
			t.Fatal("what was answered changes with what was handed in")
		}
		x, y, z = roomyView(v), roomyAsks(asks), roomy(l)
		callAll(x, y, z).wipe()
		if !viewStays(v, x) || !asksStay(asks, y) || !stays(l, z) {
			t.Fatal("what was handed in changes with what was answered")
		}
	}
}

// Rule 5: no two tables of one answer share memory, even where one endpoint is asked, or stands in a view, twice.
func TestNoSharedTables(t *testing.T) {
	twice := []api.Named{of(3, living(2, 1, 4, 5)), of(3, living(2, 1, 4, 5))}
	twice[1].State.Apps = twice[0].State.Apps
	for i, l := range [][]api.Delta{
		delta.Pick(twice[:1], []api.Digest{ask(3, 1, 0), ask(3, 1, 0)}),
		delta.Pick(twice[:1], []api.Digest{ask(3, 2, 0), ask(3, 2, 0)}),
		delta.Full(twice),
	} {
		if len(l) != 2 || len(l[0].State.Apps) != 2 {
			t.Fatal(i, l)
		}
		clear(l[0].State.Apps[:cap(l[0].State.Apps)])
		if !slices.Equal(l[1].State.Apps, living(2, 1, 4, 5).Apps) {
			t.Errorf("%d: %v", i, l)
		}
	}
}

// Rule 6: a call hangs on its arguments alone.
func TestTwice(t *testing.T) {
	r := rand.New(rand.NewSource(88))
	for range 500 {
		v := anyView(r)
		asks, l := anyAsks(r, v), anyDeltas(r, v)
		first := callAll(v, asks, l).clone()
		callAll(anyView(r), anyAsks(r, nil), anyDeltas(r, nil))
		if !callAll(v, asks, l).equal(first) {
			t.Fatalf("%v, %v, %v", v, asks, l)
		}
	}
}

// Rule 1: no call panics of what it isn't asked with, either.
func TestOddListsEnd(t *testing.T) {
	views := [][]api.Named{nil}
	asks := [][]api.Digest{nil}
	lists := [][]api.Delta{nil}
	for _, d := range wrongs() {
		x, a := of(d.Node, d.State), ask(d.Node, d.State.Gen, d.From)
		views = append(views, []api.Named{x}, []api.Named{of(4, living(1, 1)), x, of(0, living(1, 1))})
		asks = append(asks, []api.Digest{a}, []api.Digest{a, ask(4, 1, 1), a})
		lists = append(lists, []api.Delta{d}, []api.Delta{d, told(4, 0, living(1, 1)), d})
	}
	for _, v := range views {
		delta.Full(v)
		for _, a := range asks {
			delta.Pick(v, a)
		}
		for _, l := range lists {
			delta.Apply(v, l)
		}
	}
}
