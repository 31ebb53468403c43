package view_test

import (
	"math"
	"math/rand"
	"slices"
	"strings"
	"testing"

	"bellwether/api"
	"bellwether/view"
)

// The document's numbers, written out anew.
const (
	maxNodes   = 8
	maxKeys    = 12
	maxVersion = 1099511627776
	maxValue   = 200
)

// numbers: the edges of generations, beats and versions, and what is between them.
var numbers = []int{1, 2, 9, 10, 1 << 31, 1 << 32, maxVersion - 1, maxVersion}

// nodes: whom a call that takes any number may be asked for.
var nodes = []int{math.MinInt, -1 << 32, -8, -1, 0, 1, 2, 3, 4, 5, 6, 7, 8, 9, 256, 1 << 32, 1<<32 + 1, math.MaxInt}

// equalState, equal: the same fields, held against each other by another way than the program's.
func equalState(a, b api.State) bool {
	return a.Gen == b.Gen && a.Beat == b.Beat && slices.Equal(a.Apps, b.Apps)
}

func equal(a, b []api.Named) bool {
	if len(a) != len(b) {
		return false
	}
	for i := range a {
		if a[i].Node != b[i].Node || !equalState(a[i].State, b[i].State) {
			return false
		}
	}
	return true
}

// plainOne: what a key has in two tables joined: the last by version, then by value.
func plainOne(key int, a, b []api.Entry) []api.Entry {
	var both []api.Entry
	for _, x := range slices.Concat(a, b) {
		if x.Key == key {
			both = append(both, x)
		}
	}
	slices.SortFunc(both, func(x, y api.Entry) int {
		if x.Ver != y.Ver {
			return x.Ver - y.Ver
		}
		return slices.Compare([]byte(x.Val), []byte(y.Val))
	})
	return both[max(0, len(both)-1):]
}

// plainState: two states joined, worked out key by key.
func plainState(a, b api.State) api.State {
	if a.Gen != b.Gen {
		return slices.MaxFunc([]api.State{a, b}, func(x, y api.State) int { return x.Gen - y.Gen })
	}
	out := api.State{Gen: a.Gen, Beat: slices.Max([]int{a.Beat, b.Beat})}
	for key := range maxKeys {
		out.Apps = append(out.Apps, plainOne(key, a.Apps, b.Apps)...)
	}
	return out
}

// places: a view as an array, by endpoints.
func places(l []api.Named) [maxNodes]*api.State {
	var p [maxNodes]*api.State
	for _, x := range l {
		p[x.Node] = &x.State
	}
	return p
}

// listed: such an array as a view.
func listed(p [maxNodes]*api.State) []api.Named {
	var l []api.Named
	for node, s := range p {
		if s != nil {
			l = append(l, api.Named{Node: node, State: *s})
		}
	}
	return l
}

// plainPut: l with that state in its place.
func plainPut(l []api.Named, node int, s api.State) []api.Named {
	p := places(l)
	p[node] = &s
	return listed(p)
}

// plainJoin: two views joined, worked out endpoint by endpoint.
func plainJoin(a, b []api.Named) []api.Named {
	p, q := places(a), places(b)
	for node := range p {
		switch {
		case p[node] == nil:
			p[node] = q[node]
		case q[node] != nil:
			s := plainState(*p[node], *q[node])
			p[node] = &s
		}
	}
	return listed(p)
}

func anyNumber(r *rand.Rand) int { return numbers[r.Intn(len(numbers))] }

// anyState: a state that may be, of few generations, so that many are of the same one.
func anyState(r *rand.Rand) api.State {
	s := api.State{Gen: []int{1, 2, maxVersion}[r.Intn(3)], Beat: max(0, anyNumber(r)-1)}
	often := r.Intn(4)
	for key := range maxKeys {
		if r.Intn(6) < often {
			s.Apps = append(s.Apps, api.Entry{Key: key, Ver: anyNumber(r), Val: []string{"", "B", "a", "ab", "\x80"}[r.Intn(5)]})
		}
	}
	return s
}

// anyView: a view that may be, of any of the endpoints.
func anyView(r *rand.Rand) []api.Named {
	var l []api.Named
	often := r.Intn(5)
	for node := range maxNodes {
		if r.Intn(4) < often {
			l = append(l, api.Named{Node: node, State: anyState(r)})
		}
	}
	return l
}

// lower: a view that l is over: some of its endpoints, and less of them.
func lower(r *rand.Rand, l []api.Named) []api.Named {
	var out []api.Named
	for _, x := range l {
		if r.Intn(4) == 0 {
			continue
		}
		if r.Intn(2) == 0 {
			x.State.Beat = r.Intn(x.State.Beat + 1)
		}
		x.State.Apps = slices.DeleteFunc(slices.Clone(x.State.Apps), func(api.Entry) bool { return r.Intn(4) == 0 })
		out = append(out, x)
	}
	return out
}

// full: a view of all endpoints, each field as great as may be.
func full() []api.Named {
	var l []api.Named
	for node := range maxNodes {
		s := api.State{Gen: maxVersion, Beat: maxVersion}
		for key := range maxKeys {
			s.Apps = append(s.Apps, api.Entry{Key: key, Ver: maxVersion, Val: strings.Repeat("v", maxValue)})
		}
		l = append(l, api.Named{Node: node, State: s})
	}
	return l
}

// smallViews: all views of endpoints 2 and 5, each of none or one of few states.
func smallViews() [][]api.Named {
	k := func(ver int, val string) []api.Entry { return []api.Entry{{Key: 3, Ver: ver, Val: val}} }
	states := []api.State{
		{Gen: 1}, {Gen: 1, Beat: 1}, {Gen: 1, Apps: k(1, "a")}, {Gen: 1, Beat: 1, Apps: k(1, "b")}, {Gen: 1, Apps: k(2, "")}, {Gen: 2},
	}
	out := [][]api.Named{nil}
	for _, node := range []int{2, 5} {
		for _, l := range slices.Clone(out) {
			for _, s := range states {
				out = append(out, slices.Concat(l, []api.Named{{Node: node, State: s}}))
			}
		}
	}
	return out
}

// wrongStates: states that may not be, each by one field alone.
func wrongStates() []api.State {
	var l []api.State
	for _, n := range []int{math.MinInt, -1, maxVersion + 1, math.MaxInt} {
		l = append(l, api.State{Gen: n}, api.State{Gen: 1, Beat: n}, api.State{Gen: 1, Apps: []api.Entry{{Key: 1, Ver: n}}}, api.State{Gen: 1, Apps: []api.Entry{{Key: n, Ver: 1}}})
	}
	return append(l,
		api.State{}, api.State{Beat: 1}, api.State{Gen: 1, Apps: []api.Entry{{Key: 1}}}, api.State{Gen: 1, Apps: []api.Entry{{Key: 12, Ver: 1}}},
		api.State{Gen: 1, Apps: []api.Entry{{Key: 2, Ver: 1}, {Key: 2, Ver: 1}}}, api.State{Gen: 1, Apps: []api.Entry{{Key: 2, Ver: 1}, {Key: 1, Ver: 1}}},
		api.State{Gen: 1, Apps: []api.Entry{{Key: 2, Ver: 1, Val: strings.Repeat("v", maxValue+1)}}})
}

// odd: lists that are no views, for the calls that take any.
func odd() [][]api.Named {
	a := api.State{Gen: 1, Beat: 2, Apps: []api.Entry{{Key: 1, Ver: 9, Val: "a"}}}
	b := api.State{Gen: 7, Apps: []api.Entry{{Key: 4, Ver: 1, Val: "b"}, {Key: 6, Ver: 3, Val: "c"}}}
	l := [][]api.Named{
		{{Node: 5, State: a}, {Node: 3, State: b}, {Node: 5, State: b}, {Node: 0, State: a}, {Node: 3, State: a}, {Node: 3, State: b}},
		{{Node: 2, State: a}, {Node: 2, State: a}}, {{Node: 7, State: b}, {Node: 0, State: a}},
	}
	for _, node := range nodes {
		if node < 0 || node >= maxNodes {
			l = append(l, []api.Named{{Node: node, State: a}}, []api.Named{{Node: 3, State: b}, {Node: node, State: a}, {Node: 3, State: a}})
		}
	}
	for _, s := range wrongStates() {
		l = append(l, []api.Named{{Node: 1, State: s}}, []api.Named{{Node: 0, State: a}, {Node: 4, State: s}, {Node: 7, State: b}})
	}
	return l
}

// anyList: a list that may be no view, of any nodes, some of them twice.
func anyList(r *rand.Rand) []api.Named {
	var l []api.Named
	for range r.Intn(10) {
		x := api.Named{Node: nodes[r.Intn(len(nodes))], State: anyState(r)}
		if r.Intn(4) == 0 {
			x.State = wrongStates()[r.Intn(len(wrongStates()))]
		}
		l = append(l, x)
	}
	return l
}

// checkList: what a call that answers a list of endpoints' states answered.
func checkList(t *testing.T, what string, got, want []api.Named) {
	t.Helper()
	if !equal(got, want) {
		t.Errorf("%s: %v, not %v", what, got, want)
	}
}

// P6.1: the document's example.
func TestExample(t *testing.T) {
	a := []api.Named{{Node: 1, State: api.State{Gen: 3, Beat: 4, Apps: []api.Entry{{Key: 1, Ver: 2, Val: "a"}}}}}
	b := []api.Named{{Node: 2, State: api.State{Gen: 1, Apps: []api.Entry{{Key: 0, Ver: 5, Val: "up"}}}}}
	both := []api.Named{a[0], b[0]}
	checkList(t, "1 with 2", view.Join(a, b), both)
	checkList(t, "2 with 1", view.Join(b, a), both)
}

// P6.1: which views may be.
func TestRight(t *testing.T) {
	whole := full()
	for _, l := range [][]api.Named{nil, {}, whole, whole[:1], whole[7:], {whole[0], whole[7]}, {{Node: 3, State: api.State{Gen: 1}}}} {
		if !view.Right(l) {
			t.Errorf("%v may be", l)
		}
	}
	r := rand.New(rand.NewSource(6))
	for range 1000 {
		if l := anyView(r); !view.Right(l) {
			t.Errorf("%v may be", l)
		}
	}
	for _, l := range odd() {
		if view.Right(l) {
			t.Errorf("%v may not be", l)
		}
	}
}

// P6.1: one fault, at any place of a view that is full.
func TestRightOfOneFault(t *testing.T) {
	for i := range maxNodes {
		for _, s := range wrongStates() {
			l := full()
			l[i].State = s
			if view.Right(l) {
				t.Errorf("at %d: %v may not be", i, s)
			}
		}
		for _, node := range nodes {
			l := full()
			l[i].Node = node
			if view.Right(l) != (node == i) {
				t.Errorf("at %d: node %d", i, node)
			}
		}
	}
}

// P6.1: the first one's state of an endpoint, of any list; none and false, if there is none.
func TestGet(t *testing.T) {
	l := []api.Named{{Node: 5, State: api.State{Gen: 1}}, {Node: 3, State: api.State{Gen: 2, Beat: 6}}, {Node: 3, State: api.State{Gen: 9}}, {Node: -7, State: api.State{Beat: -1}}, {Node: math.MaxInt}, {Node: 5, State: api.State{Gen: 8}}}
	for node, i := range map[int]int{5: 0, 3: 1, -7: 3, math.MaxInt: 4} {
		if s, ok := view.Get(l, node); !ok || !equalState(s, l[i].State) {
			t.Errorf("%d: %v, %t", node, s, ok)
		}
	}
	r := rand.New(rand.NewSource(61))
	for range 2000 {
		l := anyList(r)
		for _, node := range nodes {
			var want []api.Named
			for _, x := range l {
				if x.Node == node {
					want = append(want, x)
				}
			}
			s, ok := view.Get(l, node)
			if ok != (len(want) > 0) || ok && !equalState(s, want[0].State) || !ok && !equalState(s, api.State{}) {
				t.Fatalf("%v, node %d: %v, %t", l, node, s, ok)
			}
		}
	}
	if s, ok := view.Get(nil, 0); ok || !equalState(s, api.State{}) {
		t.Errorf("of none: %v, %t", s, ok)
	}
}

// P6.1: a state in its endpoint's place, whether it is over the one that was there, or below.
func TestPut(t *testing.T) {
	old := api.State{Gen: 5, Beat: 6, Apps: []api.Entry{{Key: 1, Ver: 7, Val: "old"}}}
	l := []api.Named{{Node: 2, State: old}, {Node: 4, State: old}, {Node: 6, State: old}}
	for node := range maxNodes {
		for _, s := range []api.State{{Gen: 1}, old, {Gen: 5, Beat: 5}, {Gen: 5, Beat: 7, Apps: []api.Entry{{Key: 0, Ver: 1}}}, {Gen: 6}} {
			checkList(t, "put", view.Put(l, node, s), plainPut(l, node, s))
			checkList(t, "put in none", view.Put(nil, node, s), []api.Named{{Node: node, State: s}})
		}
	}
	r := rand.New(rand.NewSource(62))
	for range 5000 {
		l, node, s := anyView(r), r.Intn(maxNodes), anyState(r)
		got := view.Put(l, node, s)
		if !equal(got, plainPut(l, node, s)) || !view.Right(got) {
			t.Fatalf("%d, %v in %v: %v", node, s, l, got)
		}
	}
}

// P6.1: without all of an endpoint, of any list, the others in order.
func TestWithout(t *testing.T) {
	l := odd()[0]
	checkList(t, "5", view.Without(l, 5), []api.Named{l[1], l[3], l[4], l[5]})
	checkList(t, "3", view.Without(l, 3), []api.Named{l[0], l[2], l[3]})
	checkList(t, "1", view.Without(l, 1), l)
	checkList(t, "of none", view.Without(nil, 0), nil)
	checkList(t, "the only one", view.Without([]api.Named{{Node: 0}}, 0), nil)
	r := rand.New(rand.NewSource(63))
	for range 2000 {
		l := anyList(r)
		if r.Intn(2) == 0 {
			l = anyView(r)
		}
		for _, node := range nodes {
			want := slices.DeleteFunc(slices.Clone(l), func(x api.Named) bool { return x.Node == node })
			if got := view.Without(l, node); !equal(got, want) {
				t.Fatalf("%v without %d: %v", l, node, got)
			}
		}
	}
}

// P6.1: the endpoints in the list's order, of any list.
func TestNodes(t *testing.T) {
	r := rand.New(rand.NewSource(64))
	for i := range 2000 {
		l := anyView(r)
		if i%2 == 0 {
			l = anyList(r)
		}
		var want []int
		for _, x := range l {
			want = append(want, x.Node)
		}
		if got := view.Nodes(l); !slices.Equal(got, want) {
			t.Fatalf("%v: %v", l, got)
		}
	}
	if got := view.Nodes(full()); !slices.Equal(got, []int{0, 1, 2, 3, 4, 5, 6, 7}) {
		t.Error(got)
	}
	if got := view.Nodes(nil); len(got) != 0 {
		t.Error(got)
	}
}

// P6.1: two views joined are what a plain working-out has, and over as it says.
func TestJoinAndOver(t *testing.T) {
	r := rand.New(rand.NewSource(65))
	over, under := 0, 0
	for range 20000 {
		a, b := anyView(r), anyView(r)
		if r.Intn(4) == 0 {
			b = lower(r, a)
		}
		want := plainJoin(a, b)
		if got := view.Join(a, b); !equal(got, want) || !view.Right(got) {
			t.Fatalf("%v and %v: %v", a, b, got)
		}
		if view.Over(a, b) != equal(want, a) {
			t.Fatalf("%v over %v", a, b)
		}
		if equal(want, a) {
			over++
		} else {
			under++
		}
	}
	if over == 0 || under == 0 {
		t.Error("just one of both", over, under)
	}
}

// P6.1: an endpoint's two states are joined as layer 5 says, whichever view has which; the others stay.
func TestJoinOfOneNode(t *testing.T) {
	low := api.State{Gen: 3, Beat: 7, Apps: []api.Entry{{Key: 2, Ver: 5, Val: "m"}}}
	for i, c := range []struct{ other, want api.State }{
		{api.State{Gen: 2, Beat: 9, Apps: []api.Entry{{Key: 1, Ver: 9}}}, low},
		{api.State{Gen: 4}, api.State{Gen: 4}},
		{api.State{Gen: 3, Beat: 8}, api.State{Gen: 3, Beat: 8, Apps: low.Apps}},
		{api.State{Gen: 3, Beat: 6, Apps: []api.Entry{{Key: 2, Ver: 6, Val: "a"}}}, api.State{Gen: 3, Beat: 7, Apps: []api.Entry{{Key: 2, Ver: 6, Val: "a"}}}},
		{api.State{Gen: 3, Apps: []api.Entry{{Key: 2, Ver: 5, Val: "ma"}}}, api.State{Gen: 3, Beat: 7, Apps: []api.Entry{{Key: 2, Ver: 5, Val: "ma"}}}},
		{api.State{Gen: 3, Apps: []api.Entry{{Key: 1, Ver: 1}}}, api.State{Gen: 3, Beat: 7, Apps: []api.Entry{{Key: 1, Ver: 1}, low.Apps[0]}}},
	} {
		for node := 1; node < maxNodes-1; node++ {
			first, last := api.Named{Node: 0, State: api.State{Gen: 1}}, api.Named{Node: 7, State: api.State{Gen: 2}}
			a, b := []api.Named{first, {Node: node, State: low}}, []api.Named{{Node: node, State: c.other}, last}
			want := []api.Named{first, {Node: node, State: c.want}, last}
			if x, y := view.Join(a, b), view.Join(b, a); !equal(x, want) || !equal(y, want) {
				t.Errorf("%d: %v, %v", i, x, y)
			}
		}
	}
}

// P6.1: one endpoint more, or more of one, makes a view not over another one.
func TestOverByEach(t *testing.T) {
	two, five := api.State{Gen: 3, Beat: 7, Apps: []api.Entry{{Key: 2, Ver: 5, Val: "m"}}}, api.State{Gen: 1}
	low := []api.Named{{Node: 2, State: two}, {Node: 5, State: five}}
	for i, high := range [][]api.Named{
		{{Node: 1, State: five}, low[0], low[1]}, {low[0], {Node: 3, State: five}, low[1]}, {low[0], low[1], {Node: 7, State: five}},
		{{Node: 2, State: api.State{Gen: 4}}, low[1]}, {low[0], {Node: 5, State: api.State{Gen: 1, Beat: 1}}},
		{{Node: 2, State: api.State{Gen: 3, Beat: 7, Apps: []api.Entry{{Key: 2, Ver: 6}}}}, low[1]},
		{{Node: 2, State: api.State{Gen: 3, Beat: 7, Apps: []api.Entry{{Key: 2, Ver: 5, Val: "n"}}}}, low[1]},
		{low[0], {Node: 5, State: api.State{Gen: 1, Apps: []api.Entry{{Key: 0, Ver: 1}}}}},
	} {
		if !view.Over(high, low) || view.Over(low, high) || !view.Over(low, low) || !view.Over(high, high) {
			t.Errorf("%d: over", i)
		}
	}
	// What each has above the other one: neither is over the other one.
	for i, other := range [][]api.Named{
		{{Node: 3, State: two}}, {{Node: 2, State: api.State{Gen: 4}}}, {{Node: 2, State: api.State{Gen: 2}}, {Node: 5, State: api.State{Gen: 2}}},
		{{Node: 2, State: api.State{Gen: 3, Beat: 8}}, low[1]}, {low[0], {Node: 6, State: five}},
	} {
		if view.Over(other, low) || view.Over(low, other) {
			t.Errorf("%d: over another one", i)
		}
	}
	if !view.Over(nil, nil) || !view.Over([]api.Named{}, nil) || !view.Over(nil, []api.Named{}) || !view.Over(low, nil) || view.Over(nil, low) {
		t.Error("of none")
	}
}

// P6.1: a copy is the same; views are the same endpoint by endpoint and field by field; of any lists.
func TestCopyAndSame(t *testing.T) {
	r := rand.New(rand.NewSource(66))
	all := append(odd(), nil, []api.Named{}, full(), full()[:7])
	for range 40 {
		all = append(all, anyView(r), anyList(r))
	}
	for i, a := range all {
		c := view.Copy(a)
		if !equal(c, a) || !view.Same(c, a) || !view.Same(a, c) {
			t.Errorf("%d: %v, not %v", i, c, a)
		}
		for j, b := range all {
			if got := view.Same(a, b); got != equal(a, b) {
				t.Errorf("%d and %d: %t", i, j, got)
			}
		}
	}
}

// P6.1: each field alone makes another view.
func TestSameByEachField(t *testing.T) {
	s := api.State{Gen: 1, Beat: 2, Apps: []api.Entry{{Key: 1, Ver: 2, Val: "a"}}}
	one := func(node int, s api.State) api.Named { return api.Named{Node: node, State: s} }
	l := []api.Named{one(1, s), one(4, s)}
	for i, x := range [][]api.Named{
		nil, l[:1], l[1:], {l[1], l[0]}, {l[0], l[0]}, {l[0], l[1], l[1]}, {l[0], l[1], {}}, {{}, l[0], l[1]},
		{one(0, s), l[1]}, {l[0], one(5, s)}, {l[0], one(4, api.State{})}, {one(1, api.State{}), l[1]},
		{l[0], one(4, api.State{Gen: 2, Beat: 2, Apps: s.Apps})}, {l[0], one(4, api.State{Gen: 1, Beat: 3, Apps: s.Apps})},
		{one(1, api.State{Gen: 1, Beat: 2}), l[1]}, {l[0], one(4, api.State{Gen: 1, Beat: 2, Apps: []api.Entry{{Key: 1, Ver: 2, Val: "b"}}})},
		{l[0], one(4, api.State{Gen: 1, Beat: 2, Apps: []api.Entry{{Key: 1, Ver: 3, Val: "a"}}})},
	} {
		if view.Same(l, x) || view.Same(x, l) {
			t.Errorf("%d is the same", i)
		}
	}
	// A list that holds nothing may be nil or empty, within a state, too.
	a, b := []api.Named{one(3, api.State{Gen: 1})}, []api.Named{one(3, api.State{Gen: 1, Apps: []api.Entry{}})}
	if !view.Same(nil, []api.Named{}) || !view.Same([]api.Named{}, nil) || !view.Same(a, b) || !view.Same(b, a) || !view.Over(a, b) || !view.Over(b, a) {
		t.Error("nil and empty")
	}
}

// checkPair: what is promised of two views that are joined.
func checkPair(t *testing.T, a, b []api.Named) {
	t.Helper()
	ab := view.Join(a, b)
	for _, other := range [][]api.Named{view.Join(b, a), view.Join(ab, b), view.Join(b, ab), view.Join(ab, a), view.Join(a, ab)} {
		if !equal(ab, other) {
			t.Fatalf("%v and %v: another order, or twice: %v, not %v", a, b, other, ab)
		}
	}
	if !view.Over(ab, a) || !view.Over(ab, b) {
		t.Fatalf("%v and %v: %v isn't over both", a, b, ab)
	}
	if (view.Over(a, b) && view.Over(b, a)) != view.Same(a, b) {
		t.Fatalf("%v and %v: over each other", a, b)
	}
}

// P6.2: joining in any order, and twice, is the same, and the least that is over both; of all small views.
func TestLatticeOfSmall(t *testing.T) {
	all := smallViews()
	for _, a := range all {
		if !equal(view.Join(a, a), a) {
			t.Errorf("%v with itself", a)
		}
		for _, b := range all {
			checkPair(t, a, b)
			ab := view.Join(a, b)
			for _, c := range all {
				if x, y := view.Join(ab, c), view.Join(a, view.Join(b, c)); !equal(x, y) {
					t.Fatalf("%v, %v, %v: %v and %v", a, b, c, x, y)
				}
				if (view.Over(c, a) && view.Over(c, b)) != view.Over(c, ab) {
					t.Fatalf("%v over %v, %v", c, a, b)
				}
			}
		}
	}
}

// P6.2: the same of many views of all endpoints.
func TestLattice(t *testing.T) {
	r := rand.New(rand.NewSource(67))
	for range 3000 {
		l := [][]api.Named{anyView(r), anyView(r), anyView(r), anyView(r)}
		checkPair(t, l[0], l[1])
		whole := view.Join(view.Join(l[0], l[1]), view.Join(l[2], l[3]))
		var other []api.Named
		for _, i := range append(r.Perm(4), r.Perm(4)...) {
			other = view.Join(other, l[i])
		}
		if !equal(whole, other) {
			t.Fatalf("%v: %v and %v", l, whole, other)
		}
		for _, x := range l {
			if !view.Over(whole, x) {
				t.Fatalf("%v isn't over %v", whole, x)
			}
		}
		// The least one: whatever is over both is over both joined, and what is less isn't over both.
		ab := view.Join(l[0], l[1])
		if c := view.Join(ab, l[2]); !view.Over(c, ab) {
			t.Fatalf("%v isn't over %v", c, ab)
		}
		if c := lower(r, ab); !equal(c, ab) && view.Over(c, l[0]) && view.Over(c, l[1]) {
			t.Fatalf("%v is over %v and %v, too", c, l[0], l[1])
		}
	}
}

// spare, spareApps: what must stay in the room behind what is handed in.
func spare() []api.Named { return []api.Named{{Node: 71, State: api.State{Gen: 72}}, {Node: 73}} }

func spareApps() []api.Entry { return []api.Entry{{Key: 74, Ver: 75, Val: "spare"}} }

// roomy: the same view in memory of its own; spare room behind it, and behind each table, holds what must stay.
func roomy(l []api.Named) []api.Named {
	out := slices.Concat(l, spare())[:len(l)]
	for i, x := range out {
		out[i].State.Apps = slices.Concat(x.State.Apps, spareApps())[:len(x.State.Apps)]
	}
	return out
}

// stays: whether what was made by roomy is as it was, and its room, too.
func stays(was, l []api.Named) bool {
	n := len(was)
	if !equal(was, l) || !equal(l[n:n+2], spare()) {
		return false
	}
	for _, x := range l {
		if n := len(x.State.Apps); !slices.Equal(x.State.Apps[n:n+1], spareApps()) {
			return false
		}
	}
	return true
}

// wipe: clears a view, and each table of it, with the room behind.
func wipe(l []api.Named) {
	for _, x := range l {
		clear(x.State.Apps[:cap(x.State.Apps)])
	}
	clear(l[:cap(l)])
}

// deep: the same view in memory of its own, by another way than the program's.
func deep(l []api.Named) []api.Named {
	out := slices.Clone(l)
	for i, x := range out {
		out[i].State.Apps = slices.Clone(x.State.Apps)
	}
	return out
}

// calls: those that answer views or states.
func calls() map[string]func(a, b []api.Named) []api.Named {
	// Its table shares nothing with the views, so that what they are cleared of stays there.
	put := func(a []api.Named, node int) []api.Named {
		return view.Put(a, node, api.State{Gen: 5, Apps: []api.Entry{{Key: 2, Ver: 3, Val: "new"}}})
	}
	return map[string]func(a, b []api.Named) []api.Named{
		"Join":        view.Join,
		"Join, same":  func(a, b []api.Named) []api.Named { return view.Join(a, a) },
		"Put":         func(a, b []api.Named) []api.Named { return put(a, 3) },
		"Put, front":  func(a, b []api.Named) []api.Named { return put(a, 0) },
		"Put, behind": func(a, b []api.Named) []api.Named { return put(a, 7) },
		"Put, of b": func(a, b []api.Named) []api.Named {
			if len(b) == 0 {
				return nil
			}
			return view.Put(a, b[0].Node, b[0].State)
		},
		"Without":        func(a, b []api.Named) []api.Named { return view.Without(a, 3) },
		"Without, first": func(a, b []api.Named) []api.Named { return view.Without(a, 0) },
		"Without, none":  func(a, b []api.Named) []api.Named { return view.Without(a, -1) },
		"Copy":           func(a, b []api.Named) []api.Named { return view.Copy(b) },
		"Get": func(a, b []api.Named) []api.Named {
			s, _ := view.Get(a, 3)
			return []api.Named{{State: s}}
		},
	}
}

// P6.1: what is handed in stays as it was, its spare room, too; what is answered shares nothing with it.
func TestNewMemory(t *testing.T) {
	r := rand.New(rand.NewSource(68))
	for name, call := range calls() {
		for i := range 300 {
			a, b := anyView(r), anyView(r)
			switch i % 4 {
			case 0:
				a = nil
			case 1:
				b = nil
			case 2:
				b = deep(a)
			}
			x, y := roomy(a), roomy(b)
			got := call(x, y)
			want := deep(got)
			if !stays(a, x) || !stays(b, y) {
				t.Fatalf("%s: what was handed in is changed", name)
			}
			wipe(x)
			wipe(y)
			if !equal(got, want) {
				t.Fatalf("%s: what was answered changes with what was handed in", name)
			}
			x, y = roomy(a), roomy(b)
			wipe(call(x, y))
			if !stays(a, x) || !stays(b, y) {
				t.Fatalf("%s: what was handed in changes with what was answered", name)
			}
		}
	}
}

// P6.1: no two tables of one answer share memory, even where those that were handed in do.
func TestOwnTables(t *testing.T) {
	s := api.State{Gen: 1, Apps: []api.Entry{{Key: 1, Ver: 2, Val: "a"}, {Key: 2, Ver: 3, Val: "b"}}}
	l := []api.Named{{Node: 1, State: s}, {Node: 3, State: s}, {Node: 6, State: s}}
	for name, got := range map[string][]api.Named{
		"Join": view.Join(l, l), "Join, with none": view.Join(l, nil), "Join, none with": view.Join(nil, l),
		"Put": view.Put(l, 2, s), "Put, in its place": view.Put(l, 3, s), "Without": view.Without(l, 1), "Copy": view.Copy(l),
	} {
		for i := range got {
			was := deep(got)
			apps := got[i].State.Apps
			for k := range apps[:cap(apps)] {
				apps[:cap(apps)][k] = api.Entry{Key: 80 + i}
			}
			for j := range got {
				if j != i && !equalState(got[j].State, was[j].State) {
					t.Errorf("%s: the tables at %d and %d are one", name, i, j)
				}
			}
		}
	}
	if !slices.Equal(s.Apps, []api.Entry{{Key: 1, Ver: 2, Val: "a"}, {Key: 2, Ver: 3, Val: "b"}}) {
		t.Error("changed")
	}
}

// P6.1: the calls that just tell leave what is handed in as it was.
func TestTellingChangesNothing(t *testing.T) {
	r := rand.New(rand.NewSource(69))
	for range 500 {
		a, b := anyView(r), anyView(r)
		x, y := roomy(a), roomy(b)
		view.Right(x)
		view.Over(x, y)
		view.Same(x, y)
		clear(view.Nodes(x))
		if !stays(a, x) || !stays(b, y) {
			t.Fatal("changed")
		}
	}
}

// Rule 1: no call panics of lists that it isn't asked with, either.
func TestOddListsEnd(t *testing.T) {
	lists := append(odd(), nil, full())
	for _, a := range lists {
		for _, b := range lists {
			view.Join(a, b)
			view.Over(a, b)
		}
		for i, s := range wrongStates() {
			view.Put(a, nodes[i%len(nodes)], s)
		}
	}
}
