package digest_test

import (
	"math"
	"math/rand"
	"slices"
	"strings"
	"testing"

	"bellwether/api"
	"bellwether/digest"
)

// The document's numbers, written out anew.
const (
	maxNodes   = 8
	maxKeys    = 12
	maxVersion = 1099511627776
)

// numbers: the edges of generations, beats and versions, and what is between them; 0 is a beat, and a top, alone.
var numbers = []int{1, 2, 3, 10, 1<<31 - 1, 1 << 31, 1 << 32, 1<<32 + 1, maxVersion - 1, maxVersion}

// wrongNumbers: what neither a generation nor a version may be.
var wrongNumbers = []int{math.MinInt, -maxVersion, -1 << 32, -1, maxVersion + 1, 2 * maxVersion, 1<<62 + 1, math.MaxInt}

// wrongNodes: what an endpoint may not be.
var wrongNodes = []int{math.MinInt, -1 << 32, -8, -1, 8, 9, 256, 1 << 32, 1<<32 + 1, math.MaxInt}

// one: a digest of that node, generation and version.
func one(node, gen, ver int) api.Digest { return api.Digest{Node: node, Gen: gen, Ver: ver} }

// named: an endpoint's state of a generation and a beat, without entries.
func named(node, gen, beat int) api.Named {
	return api.Named{Node: node, State: api.State{Gen: gen, Beat: beat}}
}

// keyed: the same, with an entry of that version.
func keyed(node, gen, beat, ver int) api.Named {
	x := named(node, gen, beat)
	x.State.Apps = []api.Entry{{Key: 3, Ver: ver, Val: "k"}}
	return x
}

// plainTop: the greatest of all versions, the beat's too.
func plainTop(s api.State) int {
	all := []int{s.Beat}
	for _, x := range s.Apps {
		all = append(all, x.Ver)
	}
	slices.Sort(all)
	return all[len(all)-1]
}

// plainOf: the digests of a view.
func plainOf(v []api.Named) []api.Digest {
	var out []api.Digest
	for _, x := range v {
		out = append(out, api.Digest{Node: x.Node, Gen: x.State.Gen, Ver: plainTop(x.State)})
	}
	return out
}

// plainRow: what is wanted, and given, of one endpoint, as the document's table has it row by row; s or d is nil where there is none.
func plainRow(s, d *api.Digest) (wants, gives []api.Digest) {
	switch {
	case s == nil && d == nil:
		return nil, nil
	case s == nil || d != nil && d.Gen > s.Gen:
		return []api.Digest{{Node: d.Node, Gen: d.Gen, Ver: 0}}, nil
	case d == nil || s.Gen > d.Gen:
		return nil, []api.Digest{{Node: s.Node, Gen: s.Gen, Ver: 0}}
	case d.Ver > s.Ver:
		return []api.Digest{{Node: s.Node, Gen: s.Gen, Ver: s.Ver}}, nil
	case s.Ver > d.Ver:
		return nil, []api.Digest{{Node: s.Node, Gen: s.Gen, Ver: d.Ver}}
	}
	return nil, nil
}

// plainCompare: what is wanted, and given, worked out endpoint by endpoint.
func plainCompare(v []api.Named, l []api.Digest) (wants, gives []api.Digest) {
	var known, told [maxNodes]*api.Digest
	for _, x := range plainOf(v) {
		known[x.Node] = &x
	}
	for _, x := range l {
		told[x.Node] = &x
	}
	for node := range maxNodes {
		w, g := plainRow(known[node], told[node])
		wants, gives = append(wants, w...), append(gives, g...)
	}
	return wants, gives
}

// check: what a comparison answered.
func check(t *testing.T, v []api.Named, l, wants, gives []api.Digest) {
	t.Helper()
	if w, g := digest.Compare(v, l); !slices.Equal(w, wants) || !slices.Equal(g, gives) {
		t.Errorf("%v and %v: %v, %v, not %v, %v", v, l, w, g, wants, gives)
	}
}

func anyNumber(r *rand.Rand) int { return numbers[r.Intn(len(numbers))] }

// fewGens: few generations, so that many are of the same one.
func fewGens(r *rand.Rand) int { return []int{1, 2, 1 << 32, maxVersion}[r.Intn(4)] }

// anyTable: a table that may be, of any of the keys.
func anyTable(r *rand.Rand) []api.Entry {
	var l []api.Entry
	often := r.Intn(4)
	for key := range maxKeys {
		if r.Intn(8) < often {
			l = append(l, api.Entry{Key: key, Ver: anyNumber(r), Val: strings.Repeat("v", r.Intn(3))})
		}
	}
	return l
}

// anyView: a view that may be, of any of the endpoints.
func anyView(r *rand.Rand) []api.Named {
	var v []api.Named
	often := r.Intn(6)
	for node := range maxNodes {
		if r.Intn(5) < often {
			v = append(v, api.Named{Node: node, State: api.State{Gen: fewGens(r), Beat: anyNumber(r) * r.Intn(2), Apps: anyTable(r)}})
		}
	}
	return v
}

// anyList: a list of digests that may be, of any of the endpoints; many are as v's, or just beside.
func anyList(r *rand.Rand, v []api.Named) []api.Digest {
	var p [maxNodes]api.Digest
	for _, x := range plainOf(v) {
		x.Gen = min(max(1, x.Gen+[]int{0, 0, 0, 0, -1, 1}[r.Intn(6)]), maxVersion)
		x.Ver = min(max(0, x.Ver+[]int{0, 0, -1, 1}[r.Intn(4)]), maxVersion)
		p[x.Node] = x
	}
	var l []api.Digest
	for node, x := range p {
		switch {
		case r.Intn(4) == 0:
			l = append(l, api.Digest{Node: node, Gen: fewGens(r), Ver: anyNumber(r) * r.Intn(2)})
		case x.Gen > 0 && r.Intn(5) > 0:
			l = append(l, x)
		}
	}
	return l
}

// full: a list of all endpoints, each field as great as may be.
func full() []api.Digest {
	var l []api.Digest
	for node := range maxNodes {
		l = append(l, api.Digest{Node: node, Gen: maxVersion, Ver: maxVersion})
	}
	return l
}

// wrongs: digests that may not be, each by one field alone, and one by all.
func wrongs() []api.Digest {
	l := []api.Digest{{}, {Node: 1}, {Node: 1, Ver: 1}, {Node: -1, Gen: -1, Ver: -1}}
	for _, n := range wrongNodes {
		l = append(l, api.Digest{Node: n, Gen: 1}, api.Digest{Node: n, Gen: maxVersion, Ver: maxVersion})
	}
	for _, n := range wrongNumbers {
		l = append(l, api.Digest{Node: 4, Gen: n}, api.Digest{Node: 4, Gen: n, Ver: 3}, api.Digest{Node: 4, Gen: 1, Ver: n}, api.Digest{Node: 4, Gen: maxVersion, Ver: n})
	}
	return l
}

// P7.1: the document's example.
func TestExample(t *testing.T) {
	check(t, nil, []api.Digest{{Node: 0, Gen: 4, Ver: 9}, {Node: 7, Gen: 1, Ver: 0}}, []api.Digest{{Node: 0, Gen: 4}, {Node: 7, Gen: 1}}, nil)
	var all []api.Digest
	for node := range maxNodes {
		all = append(all, api.Digest{Node: node, Gen: maxVersion})
	}
	check(t, []api.Named{}, full(), all, nil)
}

// P7.1: of each endpoint its generation and top, which is the beat's or an entry's.
func TestOf(t *testing.T) {
	v := []api.Named{
		named(0, 1, 0), named(1, maxVersion, maxVersion), named(2, 3, 7), keyed(3, 9, 4, 3), keyed(4, 9, 4, 5), keyed(5, 2, 6, 6), keyed(6, 2, 0, maxVersion),
		{Node: 7, State: api.State{Gen: 5, Beat: 8, Apps: []api.Entry{{Key: 0, Ver: 11}, {Key: 4, Ver: 12}, {Key: 11, Ver: 2}}}},
	}
	want := []api.Digest{one(0, 1, 0), one(1, maxVersion, maxVersion), one(2, 3, 7), one(3, 9, 4), one(4, 9, 5), one(5, 2, 6), one(6, 2, maxVersion), one(7, 5, 12)}
	if got := digest.Of(v); !slices.Equal(got, want) {
		t.Errorf("%v, not %v", got, want)
	}
	if got := append(digest.Of(nil), digest.Of([]api.Named{})...); len(got) != 0 {
		t.Error(got)
	}
	r := rand.New(rand.NewSource(7))
	for range 3000 {
		v := anyView(r)
		if got := digest.Of(v); !slices.Equal(got, plainOf(v)) || !digest.Right(got) {
			t.Fatalf("%v: %v", v, got)
		}
	}
}

// P7.1: which lists may be: at each field's edges.
func TestRight(t *testing.T) {
	whole := full()
	for _, l := range [][]api.Digest{nil, {}, whole, whole[:1], whole[7:], {whole[0], whole[7]}, {whole[3], whole[4]}} {
		if !digest.Right(l) {
			t.Errorf("%v may be", l)
		}
	}
	for node := range maxNodes {
		for _, gen := range numbers {
			for _, ver := range append([]int{0}, numbers...) {
				if l := []api.Digest{{Node: node, Gen: gen, Ver: ver}}; !digest.Right(l) {
					t.Errorf("%v may be", l)
				}
			}
		}
	}
	r := rand.New(rand.NewSource(71))
	for range 1000 {
		if l := anyList(r, anyView(r)); !digest.Right(l) {
			t.Errorf("%v may be", l)
		}
	}
}

// P7.1: which lists may not be: of one fault at any place, or of nodes that don't rise.
func TestNotRight(t *testing.T) {
	for _, x := range wrongs() {
		for _, l := range [][]api.Digest{{x}, {{Node: 0, Gen: 1}, x}, {x, {Node: 7, Gen: 1}}} {
			if digest.Right(l) {
				t.Errorf("%v may not be", l)
			}
		}
	}
	for i := range maxNodes {
		for _, x := range wrongs() {
			l := full()
			l[i].Gen, l[i].Ver = x.Gen, x.Ver
			if n := x.Node; n < 0 || n >= maxNodes {
				l[i].Node = n
			}
			if digest.Right(l) {
				t.Errorf("%v may not be", l)
			}
		}
		for node := range maxNodes {
			l := full()
			l[i].Node = node
			if digest.Right(l) != (node == i) {
				t.Errorf("at %d: node %d", i, node)
			}
		}
	}
	for _, l := range [][]api.Digest{
		{{Node: 1, Gen: 1}, {Node: 1, Gen: 1}}, {{Node: 1, Gen: 1}, {Node: 1, Gen: 2}}, {{Node: 2, Gen: 1}, {Node: 1, Gen: 1}}, {{Node: 7, Gen: 1}, {Node: 0, Gen: 1}},
		{{Node: 0, Gen: 1}, {Node: 3, Gen: 1}, {Node: 2, Gen: 1}, {Node: 5, Gen: 1}}, append(full(), full()[7]), append(full(), api.Digest{Node: 8, Gen: 1}),
	} {
		if digest.Right(l) {
			t.Errorf("%v may not be", l)
		}
	}
}

// P7.1: each row of the document's table, at its edges, of each endpoint.
func TestRows(t *testing.T) {
	for node := range maxNodes {
		d := func(gen, ver int) []api.Digest { return []api.Digest{{Node: node, Gen: gen, Ver: ver}} }
		for _, c := range []struct {
			s            api.Named
			l            []api.Digest
			wants, gives []api.Digest
		}{
			// Another generation: all of the greater one, whatever the versions are.
			{named(node, 1, 5), d(2, 5), d(2, 0), nil}, {named(node, 1, 5), d(2, 0), d(2, 0), nil}, {named(node, 1, 5), d(maxVersion, 9), d(maxVersion, 0), nil},
			{named(node, 1, 0), d(2, 0), d(2, 0), nil}, {keyed(node, 3, 1, maxVersion), d(4, 0), d(4, 0), nil},
			{named(node, 2, 5), d(1, 5), nil, d(2, 0)}, {named(node, 2, 0), d(1, maxVersion), nil, d(2, 0)}, {named(node, maxVersion, 0), d(maxVersion-1, 0), nil, d(maxVersion, 0)},
			{keyed(node, 4, 9, 8), d(3, 1), nil, d(4, 0)},
			// One generation: what is above the lower one's.
			{named(node, 3, 4), d(3, 5), d(3, 4), nil}, {named(node, 3, 0), d(3, 1), d(3, 0), nil}, {keyed(node, 3, 4, 7), d(3, 8), d(3, 7), nil}, {keyed(node, 3, 4, 2), d(3, 5), d(3, 4), nil},
			{named(node, maxVersion, maxVersion-1), d(maxVersion, maxVersion), d(maxVersion, maxVersion-1), nil},
			{named(node, 3, 5), d(3, 4), nil, d(3, 4)}, {named(node, 3, 1), d(3, 0), nil, d(3, 0)}, {keyed(node, 3, 4, 7), d(3, 6), nil, d(3, 6)}, {keyed(node, 3, 4, 2), d(3, 3), nil, d(3, 3)},
			{named(node, maxVersion, maxVersion), d(maxVersion, maxVersion-1), nil, d(maxVersion, maxVersion-1)}, {keyed(node, 3, 4, maxVersion), d(3, 4), nil, d(3, 4)},
			// Both the same.
			{named(node, 3, 5), d(3, 5), nil, nil}, {named(node, 1, 0), d(1, 0), nil, nil}, {keyed(node, 3, 4, 7), d(3, 7), nil, nil}, {keyed(node, 3, 4, 2), d(3, 4), nil, nil},
			{named(node, maxVersion, maxVersion), d(maxVersion, maxVersion), nil, nil},
			// One hasn't it.
			{named(node, 3, 5), nil, nil, d(3, 0)}, {named(node, 1, 0), nil, nil, d(1, 0)}, {keyed(node, maxVersion, 1, 2), []api.Digest{}, nil, d(maxVersion, 0)},
		} {
			check(t, []api.Named{c.s}, c.l, c.wants, c.gives)
		}
		check(t, nil, d(3, 5), d(3, 0), nil)
		check(t, []api.Named{}, d(1, 0), d(1, 0), nil)
	}
	check(t, nil, nil, nil, nil)
}

// P7.1: endpoints are held against each other by their nodes, not by their places; the answers rise.
func TestRowsMixed(t *testing.T) {
	v := []api.Named{named(1, 2, 3), named(2, 5, 5), keyed(4, 1, 1, 9), named(5, 6, 1), named(7, 2, 2)}
	l := []api.Digest{one(0, 3, 3), one(2, 5, 6), one(3, 1, 0), one(4, 1, 8), one(5, 7, 1), one(6, 1, 1), one(7, 1, 3)}
	check(t, v, l, []api.Digest{one(0, 3, 0), one(2, 5, 5), one(3, 1, 0), one(5, 7, 0), one(6, 1, 0)}, []api.Digest{one(1, 2, 0), one(4, 1, 8), one(7, 2, 0)})
	check(t, []api.Named{named(7, 1, 1)}, []api.Digest{one(0, 1, 1)}, []api.Digest{one(0, 1, 0)}, []api.Digest{one(7, 1, 0)})
	check(t, []api.Named{named(0, 1, 1)}, []api.Digest{one(7, 1, 1)}, []api.Digest{one(7, 1, 0)}, []api.Digest{one(0, 1, 0)})
}

// P7.1: what is wanted and given is what a plain working-out has, and may be asked for, too.
func TestCompare(t *testing.T) {
	r := rand.New(rand.NewSource(72))
	for range 20000 {
		v := anyView(r)
		l := anyList(r, v)
		wants, gives := plainCompare(v, l)
		check(t, v, l, wants, gives)
		if !digest.Right(wants) || !digest.Right(gives) {
			t.Fatalf("%v and %v: %v, %v", v, l, wants, gives)
		}
	}
}

// P7.1: the same lists, field by field, of any lists.
func TestSame(t *testing.T) {
	all := [][]api.Digest{nil, full(), full()[:7], full()[1:]}
	for _, x := range wrongs() {
		all = append(all, []api.Digest{x}, []api.Digest{x, {Node: 9, Gen: 9}}, []api.Digest{{Node: 9, Gen: 9}, x})
	}
	for i, a := range all {
		for j, b := range all {
			if digest.Same(a, slices.Clone(b)) != slices.Equal(a, b) {
				t.Errorf("%d and %d", i, j)
			}
		}
	}
	if !digest.Same(nil, []api.Digest{}) || !digest.Same([]api.Digest{}, nil) {
		t.Error("nil and empty")
	}
	l := []api.Digest{one(1, 2, 3), one(4, 5, 6)}
	for i, x := range [][]api.Digest{
		nil, l[:1], l[1:], {l[1], l[0]}, {l[0], l[0]}, {l[0], l[1], l[1]}, {l[0], l[1], {}}, {{}, l[0], l[1]},
		{one(0, 2, 3), l[1]}, {one(1, 3, 3), l[1]}, {one(1, 2, 4), l[1]}, {l[0], one(5, 5, 6)}, {l[0], one(4, 4, 6)}, {l[0], one(4, 5, 7)}, {l[0], one(4, 6, 5)},
	} {
		if digest.Same(l, x) || digest.Same(x, l) {
			t.Errorf("%d is the same", i)
		}
	}
}

// smallViews: all views of endpoints 2 and 5, each of none or one of few states.
func smallViews() [][]api.Named {
	states := []api.Named{named(0, 1, 0), named(0, 1, 1), named(0, 1, 2), keyed(0, 1, 0, 1), keyed(0, 1, 0, 2), keyed(0, 1, 2, 1), keyed(0, 1, 1, 3), named(0, 2, 0), named(0, 2, 2), keyed(0, 2, 0, 1)}
	out := [][]api.Named{nil}
	for _, node := range []int{2, 5} {
		for _, v := range slices.Clone(out) {
			for _, x := range states {
				out = append(out, slices.Concat(v, []api.Named{{Node: node, State: x.State}}))
			}
		}
	}
	return out
}

// checkTurned: what is promised of two that hear of each other.
func checkTurned(t *testing.T, a, b []api.Named) {
	t.Helper()
	wants, gives := digest.Compare(a, digest.Of(b))
	otherWants, otherGives := digest.Compare(b, digest.Of(a))
	if !slices.Equal(wants, otherGives) || !slices.Equal(gives, otherWants) {
		t.Fatalf("%v and %v: %v, %v; %v, %v", a, b, wants, gives, otherWants, otherGives)
	}
}

// checkAlone: nobody wants anything of the same view.
func checkAlone(t *testing.T, a []api.Named) {
	t.Helper()
	if wants, gives := digest.Compare(a, digest.Of(a)); len(wants)+len(gives) > 0 {
		t.Fatalf("%v: %v, %v", a, wants, gives)
	}
}

// P7.2: what one wants of another one that one gives, from where it said; of all small views.
func TestTurnedOfSmall(t *testing.T) {
	all := smallViews()
	for _, a := range all {
		checkAlone(t, a)
		for _, b := range all {
			checkTurned(t, a, b)
			wants, gives := plainCompare(a, plainOf(b))
			check(t, a, plainOf(b), wants, gives)
		}
	}
}

// P7.2: the same of many views of all endpoints.
func TestTurned(t *testing.T) {
	r := rand.New(rand.NewSource(73))
	for range 10000 {
		a, b := anyView(r), anyView(r)
		checkAlone(t, a)
		checkTurned(t, a, b)
		checkTurned(t, a, beside(r, a))
	}
}

// beside: a view much like v: some beats later, some entries away, some lives new.
func beside(r *rand.Rand, v []api.Named) []api.Named {
	var out []api.Named
	for _, x := range v {
		switch r.Intn(6) {
		case 0:
			continue
		case 1:
			x.State.Beat = min(plainTop(x.State)+1, maxVersion)
		case 2:
			x.State.Apps = nil
		case 3:
			x.State = api.State{Gen: min(x.State.Gen+1, maxVersion)}
		}
		out = append(out, x)
	}
	return out
}

// P7.2: what one wants is from where it itself says, and of what the other one says.
func TestWantsFromWhereItSaid(t *testing.T) {
	r := rand.New(rand.NewSource(74))
	seen := [2]int{}
	for range 5000 {
		a, b := anyView(r), anyView(r)
		wants, _ := digest.Compare(a, digest.Of(b))
		for _, w := range wants {
			mine := slices.IndexFunc(a, func(x api.Named) bool { return x.Node == w.Node && x.State.Gen == w.Gen })
			theirs := slices.IndexFunc(b, func(x api.Named) bool { return x.Node == w.Node && x.State.Gen == w.Gen })
			switch {
			case theirs < 0:
				t.Fatalf("%v of %v: %v isn't there", a, b, w)
			case mine < 0 && w.Ver != 0, mine >= 0 && w.Ver != plainTop(a[mine].State), mine >= 0 && w.Ver >= plainTop(b[theirs].State):
				t.Fatalf("%v of %v: %v", a, b, w)
			}
			seen[min(1, mine+1)]++
		}
	}
	if seen[0] == 0 || seen[1] == 0 {
		t.Error("just one of both", seen)
	}
}

// spareNamed, spareApps, spare: what must stay in the room behind what is handed in.
func spareNamed() []api.Named { return []api.Named{named(71, 72, 73), named(74, 75, 76)} }

func spareApps() []api.Entry { return []api.Entry{{Key: 77, Ver: 78, Val: "spare"}} }

func spare() []api.Digest { return []api.Digest{one(81, 82, 83), one(84, 85, 86)} }

// roomyView: the same view in memory of its own; spare room behind it, and behind each table, holds what must stay.
func roomyView(v []api.Named) []api.Named {
	out := slices.Concat(v, spareNamed())[:len(v)]
	for i, x := range out {
		out[i].State.Apps = slices.Concat(x.State.Apps, spareApps())[:len(x.State.Apps)]
	}
	return out
}

// roomy: the same list in memory of its own, with such room behind it.
func roomy(l []api.Digest) []api.Digest { return slices.Concat(l, spare())[:len(l)] }

// equalView: the same fields.
func equalView(a, b []api.Named) bool {
	return slices.EqualFunc(a, b, func(x, y api.Named) bool {
		return x.Node == y.Node && x.State.Gen == y.State.Gen && x.State.Beat == y.State.Beat && slices.Equal(x.State.Apps, y.State.Apps)
	})
}

// viewStays, stays: whether what was made with room is as it was, and its room, too.
func viewStays(was, v []api.Named) bool {
	n := len(was)
	if !equalView(was, v) || !equalView(v[n:n+2], spareNamed()) {
		return false
	}
	for _, x := range v {
		if n := len(x.State.Apps); !slices.Equal(x.State.Apps[n:n+1], spareApps()) {
			return false
		}
	}
	return true
}

func stays(was, l []api.Digest) bool {
	n := len(was)
	return slices.Equal(was, l) && slices.Equal(l[n:n+2], spare())
}

// Rule 5: what is handed in stays as it was, its spare room, too; what is answered shares nothing with it, nor with the other list.
func TestNewMemory(t *testing.T) {
	r := rand.New(rand.NewSource(75))
	for range 2000 {
		v := anyView(r)
		l := anyList(r, v)
		x, y := roomyView(v), roomy(l)
		of := digest.Of(x)
		wants, gives := digest.Compare(x, y)
		digest.Right(y)
		digest.Same(y, y)
		if !viewStays(v, x) || !stays(l, y) {
			t.Fatal("what was handed in is changed")
		}
		wasOf, wasWants, wasGives := slices.Clone(of), slices.Clone(wants), slices.Clone(gives)
		clear(x[:cap(x)])
		clear(y[:cap(y)])
		if !slices.Equal(of, wasOf) || !slices.Equal(wants, wasWants) || !slices.Equal(gives, wasGives) {
			t.Fatal("what was answered changes with what was handed in")
		}
		clear(wants[:cap(wants)])
		if !slices.Equal(gives, wasGives) {
			t.Fatal("what is given changes with what is wanted")
		}
		x, y = roomyView(v), roomy(l)
		wants, gives = digest.Compare(x, y)
		for _, z := range [][]api.Digest{digest.Of(x), wants, gives} {
			clear(z[:cap(z)])
		}
		if !viewStays(v, x) || !stays(l, y) {
			t.Fatal("what was handed in changes with what was answered")
		}
	}
}

// Rule 6: a call hangs on its arguments alone.
func TestTwice(t *testing.T) {
	r := rand.New(rand.NewSource(76))
	for range 500 {
		v := anyView(r)
		l := anyList(r, v)
		wants, gives := digest.Compare(v, l)
		digest.Compare(anyView(r), anyList(r, nil))
		check(t, v, l, wants, gives)
	}
}

// Rule 1: no call panics of lists that it isn't asked with, either.
func TestOddListsEnd(t *testing.T) {
	var views [][]api.Named
	var lists [][]api.Digest
	for _, x := range wrongs() {
		y := keyed(x.Node, x.Gen, x.Ver, x.Ver)
		views = append(views, []api.Named{y}, []api.Named{y, y}, []api.Named{named(3, 1, 1), y, named(0, 1, 1)})
		lists = append(lists, []api.Digest{x}, []api.Digest{x, x}, []api.Digest{one(3, 1, 1), x, one(0, 1, 1)})
	}
	views, lists = append(views, nil), append(lists, nil)
	for _, v := range views {
		digest.Of(v)
		for _, l := range lists {
			digest.Compare(v, l)
		}
	}
}
