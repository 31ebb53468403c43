package entry_test

import (
	"math"
	"math/rand"
	"slices"
	"strings"
	"testing"

	"bellwether/api"
	"bellwether/entry"
)

// The document's numbers, written out anew.
const (
	maxKeys    = 12
	maxVersion = 1099511627776
	maxValue   = 200
)

// plainAbove: is x above y, which is of its key? The values are held against each other byte by byte, by another way than the program's.
func plainAbove(x, y api.Entry) bool {
	if x.Ver != y.Ver {
		return x.Ver > y.Ver
	}
	return slices.Compare([]byte(x.Val), []byte(y.Val)) > 0
}

// places: a table's entries, each in its key's place.
func places(l []api.Entry) (out [maxKeys]*api.Entry) {
	for i := range l {
		out[l[i].Key] = &l[i]
	}
	return out
}

// table: what stands in places, by rising keys.
func table(p [maxKeys]*api.Entry) []api.Entry {
	var out []api.Entry
	for _, x := range p {
		if x != nil {
			out = append(out, *x)
		}
	}
	return out
}

// plainJoin: of each key the one that isn't below the other one.
func plainJoin(a, b []api.Entry) []api.Entry {
	p, q := places(a), places(b)
	for key := range q {
		if p[key] == nil || q[key] != nil && plainAbove(*q[key], *p[key]) {
			p[key] = q[key]
		}
	}
	return table(p)
}

// plainPut: x in its key's place.
func plainPut(l []api.Entry, x api.Entry) []api.Entry {
	p := places(l)
	p[x.Key] = &x
	return table(p)
}

// plainOver: is a's one of each key of b there, and not below?
func plainOver(a, b []api.Entry) bool {
	p := places(a)
	for _, y := range b {
		if p[y.Key] == nil || plainAbove(y, *p[y.Key]) {
			return false
		}
	}
	return true
}

// values: some whose order by bytes isn't that by length, by letters or by signed numbers.
var values = []string{"", "\x00", "\x00\x00", "B", "a", "ab", "b", "\x7f", "\x80", "\xff", "\xc3\xa9", strings.Repeat("a", maxValue), strings.Repeat("\xff", maxValue)}

// versions: the edges, and what is between them.
var versions = []int{1, 2, 3, 9, 10, 1 << 31, 1 << 32, 1<<32 + 1, maxVersion - 1, maxVersion}

// anyEntry: an entry that may be, of that key.
func anyEntry(r *rand.Rand, key int) api.Entry {
	return api.Entry{Key: key, Ver: versions[r.Intn(len(versions))], Val: values[r.Intn(len(values))]}
}

// anyTable: a table that may be, of any of the keys.
func anyTable(r *rand.Rand) []api.Entry {
	var l []api.Entry
	often := r.Intn(5)
	for key := range maxKeys {
		if r.Intn(4) < often {
			l = append(l, anyEntry(r, key))
		}
	}
	return l
}

// smallTables: all tables of keys 0 and 11, of versions 1 and 2, of three values.
func smallTables() [][]api.Entry {
	ones := func(key int) [][]api.Entry {
		l := [][]api.Entry{nil}
		for ver := 1; ver <= 2; ver++ {
			for _, val := range []string{"", "a", "b"} {
				l = append(l, []api.Entry{{Key: key, Ver: ver, Val: val}})
			}
		}
		return l
	}
	var out [][]api.Entry
	for _, x := range ones(0) {
		for _, y := range ones(11) {
			out = append(out, slices.Concat(x, y))
		}
	}
	return out
}

// wrongs: entries that may not be, each by one field alone, and one by all.
func wrongs() []api.Entry {
	var l []api.Entry
	for _, key := range []int{math.MinInt, -256, -1, 12, 13, 256, 1<<32 + 1, math.MaxInt} {
		l = append(l, api.Entry{Key: key, Ver: 1})
	}
	for _, ver := range []int{math.MinInt, -1, 0, maxVersion + 1, 2 * maxVersion, 1<<62 + 1, math.MaxInt} {
		l = append(l, api.Entry{Key: 1, Ver: ver})
	}
	for _, n := range []int{201, 202, 256, 1 << 16, 1<<16 + 1} {
		l = append(l, api.Entry{Key: 1, Ver: 1, Val: strings.Repeat("v", n)})
	}
	return append(l, api.Entry{}, api.Entry{Key: -1, Ver: -1, Val: strings.Repeat("v", 201)})
}

// odd: lists that may not be tables: keys that fall, the same one twice, entries that may not be.
func odd() [][]api.Entry {
	l := [][]api.Entry{
		{{Key: 2, Ver: 3, Val: "x"}, {Key: 1, Ver: 4, Val: "y"}},
		{{Key: 2, Ver: 3, Val: "x"}, {Key: 2, Ver: 4, Val: "y"}, {Key: 2, Ver: 3, Val: "x"}},
		{{Key: 0, Ver: 1}, {Key: 3, Ver: 1}, {Key: 2, Ver: 1}},
		{{Key: -5, Ver: math.MinInt, Val: "low"}, {Key: -5, Ver: -1}, {Key: math.MaxInt, Ver: math.MaxInt, Val: "high"}, {Key: -5, Ver: 7}},
	}
	for _, x := range wrongs() {
		l = append(l, []api.Entry{x}, []api.Entry{{Key: 0, Ver: 1}, x, {Key: 11, Ver: 1}})
	}
	return l
}

// roomy: the same entries with spare room behind them that holds what must stay.
func roomy(l []api.Entry) []api.Entry {
	return slices.Concat(l, spare())[:len(l)]
}

func spare() []api.Entry {
	return []api.Entry{{Key: 71, Ver: 72, Val: "spare"}, {Key: 73, Ver: 74, Val: "room"}, {Key: 75, Ver: 76, Val: "stays"}}
}

// stays: whether what was made by roomy is as it was, and its room, too.
func stays(was, l []api.Entry) bool {
	return slices.Equal(l[:len(was)], was) && slices.Equal(l[len(was):len(was)+3], spare())
}

// P4.1: the document's example.
func TestExample(t *testing.T) {
	a := []api.Entry{{Key: 1, Ver: 2, Val: "z"}}
	b := []api.Entry{{Key: 1, Ver: 3, Val: "a"}, {Key: 4, Ver: 1, Val: "k"}}
	if l := entry.Join(a, b); !slices.Equal(l, b) {
		t.Error(l)
	}
	if l := entry.Join(b, a); !slices.Equal(l, b) {
		t.Error(l)
	}
}

// P4.1: which entries may be, at each field's edges, and which may not.
func TestMay(t *testing.T) {
	for key := range maxKeys {
		for _, ver := range versions {
			for _, val := range values {
				if x := (api.Entry{Key: key, Ver: ver, Val: val}); !entry.May(x) {
					t.Errorf("%v may be", x)
				}
			}
		}
	}
	for _, x := range wrongs() {
		if entry.May(x) {
			t.Errorf("key %d, version %d, %d bytes may not be", x.Key, x.Ver, len(x.Val))
		}
	}
	// It is bytes that count, not letters.
	if entry.May(api.Entry{Ver: 1, Val: strings.Repeat("\u00e9", 101)}) {
		t.Error("202 bytes may not be")
	}
}

// P4.1: which tables may be.
func TestRight(t *testing.T) {
	r := rand.New(rand.NewSource(4))
	var full []api.Entry
	for key := range maxKeys {
		full = append(full, api.Entry{Key: key, Ver: maxVersion, Val: strings.Repeat("v", maxValue)})
	}
	for _, l := range [][]api.Entry{nil, {}, full, full[:1], full[11:], {full[0], full[11]}} {
		if !entry.Right(l) {
			t.Errorf("%v may be", l)
		}
	}
	for range 1000 {
		if l := anyTable(r); !entry.Right(l) {
			t.Errorf("%v may be", l)
		}
	}
	for _, l := range odd() {
		if entry.Right(l) {
			t.Errorf("%v may not be", l)
		}
	}
	// One fault, at any place of a table that is full.
	for i := range full {
		for _, x := range wrongs() {
			l := slices.Clone(full)
			l[i] = x
			if entry.Right(l) {
				t.Errorf("at %d: key %d, version %d, %d bytes", i, x.Key, x.Ver, len(x.Val))
			}
		}
		if i > 0 {
			l := slices.Clone(full)
			l[i].Key = i - 1
			if entry.Right(l) {
				t.Errorf("key %d twice", i-1)
			}
			l = slices.Clone(full)
			l[i], l[i-1] = l[i-1], l[i]
			if entry.Right(l) {
				t.Errorf("key %d ahead of %d", i, i-1)
			}
		}
	}
}

// P4.1: the first entry of a key, of any list; none and false, if there is none.
func TestGet(t *testing.T) {
	twice := []api.Entry{{Key: 5, Ver: 1, Val: "a"}, {Key: 3, Ver: 2, Val: "first"}, {Key: 3, Ver: 9, Val: "second"}, {Key: -7, Ver: 0, Val: "low"}, {Key: math.MaxInt, Ver: -4}, {Key: 5, Ver: 8}}
	for i, c := range []struct {
		key  int
		want api.Entry
		ok   bool
	}{
		{5, twice[0], true}, {3, twice[1], true}, {-7, twice[3], true}, {math.MaxInt, twice[4], true},
		{0, api.Entry{}, false}, {4, api.Entry{}, false}, {-1, api.Entry{}, false}, {12, api.Entry{}, false}, {math.MinInt, api.Entry{}, false},
	} {
		if x, ok := entry.Get(twice, c.key); x != c.want || ok != c.ok {
			t.Errorf("%d: %v, %t", i, x, ok)
		}
		if x, ok := entry.Get(nil, c.key); x != (api.Entry{}) || ok {
			t.Errorf("%d, of none: %v, %t", i, x, ok)
		}
	}
	r := rand.New(rand.NewSource(41))
	for range 1000 {
		l := anyTable(r)
		p := places(l)
		for key := range maxKeys {
			x, ok := entry.Get(l, key)
			if ok != (p[key] != nil) || ok && x != *p[key] || !ok && x != (api.Entry{}) {
				t.Fatalf("%v, key %d: %v, %t", l, key, x, ok)
			}
		}
	}
}

// P4.1: an entry in its key's place, whether it is above the one that was there, or below.
func TestPut(t *testing.T) {
	l := []api.Entry{{Key: 2, Ver: 5, Val: "two"}, {Key: 4, Ver: 6, Val: "four"}, {Key: 6, Ver: 7, Val: "six"}}
	for key := range maxKeys {
		for _, ver := range []int{1, 6, maxVersion} {
			for _, val := range []string{"", "four", "z"} {
				x := api.Entry{Key: key, Ver: ver, Val: val}
				if got := entry.Put(l, x); !slices.Equal(got, plainPut(l, x)) {
					t.Errorf("%v: %v", x, got)
				}
			}
		}
	}
	x := api.Entry{Key: 11, Ver: 1, Val: "x"}
	if got := entry.Put(nil, x); !slices.Equal(got, []api.Entry{x}) {
		t.Errorf("in none: %v", got)
	}
	r := rand.New(rand.NewSource(42))
	for range 10000 {
		l, x := anyTable(r), anyEntry(r, r.Intn(maxKeys))
		got := entry.Put(l, x)
		if !slices.Equal(got, plainPut(l, x)) || !entry.Right(got) {
			t.Fatalf("%v in %v: %v", x, l, got)
		}
	}
}

// P4.1: which of two of one key stays: the greater version, then the greater value by bytes.
func TestJoinOfOneKey(t *testing.T) {
	long := strings.Repeat("a", 199)
	for i, c := range []struct{ low, high api.Entry }{
		{api.Entry{Ver: 1, Val: "z"}, api.Entry{Ver: 2, Val: "a"}},
		{api.Entry{Ver: 9, Val: "z"}, api.Entry{Ver: 10}},
		{api.Entry{Ver: maxVersion - 1, Val: "z"}, api.Entry{Ver: maxVersion}},
		{api.Entry{Ver: 1<<32 - 1, Val: "z"}, api.Entry{Ver: 1 << 32}},
		{api.Entry{Ver: 5}, api.Entry{Ver: 5, Val: "\x00"}},
		{api.Entry{Ver: 5, Val: "a"}, api.Entry{Ver: 5, Val: "b"}},
		{api.Entry{Ver: 5, Val: "B"}, api.Entry{Ver: 5, Val: "a"}},
		{api.Entry{Ver: 5, Val: "az"}, api.Entry{Ver: 5, Val: "b"}},
		{api.Entry{Ver: 5, Val: "\x7f"}, api.Entry{Ver: 5, Val: "\x80"}},
		{api.Entry{Ver: 5, Val: "10"}, api.Entry{Ver: 5, Val: "9"}},
		{api.Entry{Ver: 5, Val: "a"}, api.Entry{Ver: 5, Val: "a\x00"}},
		{api.Entry{Ver: 5, Val: long}, api.Entry{Ver: 5, Val: long + "a"}},
		{api.Entry{Ver: 5, Val: long + "a"}, api.Entry{Ver: 5, Val: long + "b"}},
	} {
		for key := range maxKeys {
			c.low.Key, c.high.Key = key, key
			l, h := []api.Entry{c.low}, []api.Entry{c.high}
			if x, y := entry.Join(l, h), entry.Join(h, l); !slices.Equal(x, h) || !slices.Equal(y, h) {
				t.Errorf("%d: %v, %v", i, x, y)
			}
			if entry.Over(l, h) || !entry.Over(h, l) || !entry.Over(h, h) {
				t.Errorf("%d: over", i)
			}
		}
	}
}

// P4.1: two tables joined are what a plain working-out has, and over as it says.
func TestJoinAndOver(t *testing.T) {
	r := rand.New(rand.NewSource(43))
	over, under := 0, 0
	for range 50000 {
		a, b := anyTable(r), anyTable(r)
		if r.Intn(4) == 0 {
			b = slices.DeleteFunc(slices.Clone(a), func(api.Entry) bool { return r.Intn(3) == 0 })
		}
		got := entry.Join(a, b)
		if !slices.Equal(got, plainJoin(a, b)) || !entry.Right(got) {
			t.Fatalf("%v and %v: %v", a, b, got)
		}
		if entry.Over(a, b) != plainOver(a, b) {
			t.Fatalf("%v over %v", a, b)
		}
		if plainOver(a, b) {
			over++
		} else {
			under++
		}
	}
	if over == 0 || under == 0 {
		t.Error("just one of both", over, under)
	}
}

// P4.1: whatever is over nothing, and nothing over nothing alone.
func TestOverOfNone(t *testing.T) {
	l := []api.Entry{{Key: 0, Ver: 1}}
	if !entry.Over(nil, nil) || !entry.Over([]api.Entry{}, nil) || !entry.Over(nil, []api.Entry{}) || !entry.Over(l, nil) || entry.Over(nil, l) {
		t.Error("over")
	}
	if x, y := entry.Join(nil, l), entry.Join(l, nil); !slices.Equal(x, l) || !slices.Equal(y, l) || len(entry.Join(nil, nil)) != 0 {
		t.Error(x, y)
	}
}

// P4.1: the entries above a version, of any list, in order.
func TestAbove(t *testing.T) {
	a, b, c, d := api.Entry{Key: 9, Ver: 4, Val: "a"}, api.Entry{Key: 1, Ver: -3}, api.Entry{Key: 1, Ver: 7, Val: "c"}, api.Entry{Key: -2, Ver: maxVersion + 1}
	l := []api.Entry{a, b, c, d}
	for i, x := range []struct {
		ver  int
		want []api.Entry
	}{
		{math.MinInt, l}, {-4, l}, {-3, []api.Entry{a, c, d}}, {0, []api.Entry{a, c, d}}, {3, []api.Entry{a, c, d}}, {4, []api.Entry{c, d}},
		{6, []api.Entry{c, d}}, {7, []api.Entry{d}}, {maxVersion, []api.Entry{d}}, {maxVersion + 1, nil}, {math.MaxInt, nil},
	} {
		if got := entry.Above(l, x.ver); !slices.Equal(got, x.want) {
			t.Errorf("%d: %v", i, got)
		}
		if got := entry.Above(nil, x.ver); len(got) != 0 {
			t.Errorf("%d, of none: %v", i, got)
		}
	}
	// Beside the least of all numbers even that one isn't greater.
	if got := entry.Above([]api.Entry{{Ver: math.MinInt}}, math.MinInt); len(got) != 0 {
		t.Error(got)
	}
	r := rand.New(rand.NewSource(44))
	for range 1000 {
		l, ver := anyTable(r), versions[r.Intn(len(versions))]
		p := places(l)
		for key, x := range p {
			if x != nil && x.Ver <= ver {
				p[key] = nil
			}
		}
		if got := entry.Above(l, ver); !slices.Equal(got, table(p)) {
			t.Fatalf("%v above %d: %v", l, ver, got)
		}
	}
}

// P4.1: the greatest version, wherever it stands; 0 where none is above 0.
func TestTop(t *testing.T) {
	for i, c := range []struct {
		l    []api.Entry
		want int
	}{
		{nil, 0}, {[]api.Entry{}, 0},
		{[]api.Entry{{Ver: 1}}, 1}, {[]api.Entry{{Ver: maxVersion}}, maxVersion},
		{[]api.Entry{{Ver: 9}, {Key: 1, Ver: 3}, {Key: 2, Ver: 4}}, 9},
		{[]api.Entry{{Ver: 3}, {Key: 1, Ver: 9}, {Key: 2, Ver: 4}}, 9},
		{[]api.Entry{{Ver: 3}, {Key: 1, Ver: 4}, {Key: 2, Ver: 9}}, 9},
		{[]api.Entry{{Ver: 0}}, 0}, {[]api.Entry{{Ver: -1}, {Ver: math.MinInt}}, 0}, {[]api.Entry{{Ver: -5}, {Ver: 2}, {Ver: -6}}, 2},
		{[]api.Entry{{Key: 1, Ver: 5}, {Key: 1, Ver: math.MaxInt}, {Key: 0, Ver: 6}}, math.MaxInt},
		{[]api.Entry{{Key: 100, Ver: 1, Val: "zz"}}, 1},
	} {
		if got := entry.Top(c.l); got != c.want {
			t.Errorf("%d: %d, not %d", i, got, c.want)
		}
	}
}

// P4.1: the same tables, entry by entry and field by field; of any lists.
func TestSame(t *testing.T) {
	l := []api.Entry{{Key: 1, Ver: 2, Val: "a"}, {Key: 3, Ver: 4, Val: "b"}}
	for i, x := range [][]api.Entry{
		nil, l[:1], l[1:], {l[1], l[0]}, {l[0], l[0]}, {l[0], l[1], l[1]}, {l[0], l[1], {}},
		{{Key: 2, Ver: 2, Val: "a"}, l[1]}, {{Key: 1, Ver: 3, Val: "a"}, l[1]}, {{Key: 1, Ver: 2, Val: "b"}, l[1]},
		{l[0], {Key: 4, Ver: 4, Val: "b"}}, {l[0], {Key: 3, Ver: 5, Val: "b"}}, {l[0], {Key: 3, Ver: 4, Val: "b\x00"}}, {l[0], {Key: 3, Ver: 4}},
	} {
		if entry.Same(l, x) || entry.Same(x, l) {
			t.Errorf("%d is the same", i)
		}
		if !entry.Same(x, slices.Clone(x)) {
			t.Errorf("%d isn't itself", i)
		}
	}
	if !entry.Same(l, slices.Clone(l)) || !entry.Same(nil, []api.Entry{}) || !entry.Same([]api.Entry{}, nil) || !entry.Same(nil, nil) {
		t.Error("not the same")
	}
	lists := odd()
	for i, x := range lists {
		for j, y := range lists {
			if got := entry.Same(x, slices.Clone(y)); got != slices.Equal(x, y) {
				t.Errorf("%d and %d: %t", i, j, got)
			}
		}
	}
}

// P4.2: joining in any order, and twice, is the same, and over both; of all small tables.
func TestLatticeOfSmall(t *testing.T) {
	all := smallTables()
	for _, a := range all {
		if !entry.Same(entry.Join(a, a), a) {
			t.Errorf("%v with itself", a)
		}
		for _, b := range all {
			checkPair(t, a, b)
			ab := entry.Join(a, b)
			for _, c := range all {
				if x, y := entry.Join(ab, c), entry.Join(a, entry.Join(b, c)); !entry.Same(x, y) {
					t.Fatalf("%v, %v, %v: %v and %v", a, b, c, x, y)
				}
				// The least that is over both.
				if entry.Over(c, a) && entry.Over(c, b) != entry.Over(c, ab) {
					t.Fatalf("%v over %v, %v", c, a, b)
				}
			}
		}
	}
}

// P4.2: the same of many tables of all keys.
func TestLattice(t *testing.T) {
	r := rand.New(rand.NewSource(45))
	for range 20000 {
		l := [][]api.Entry{anyTable(r), anyTable(r), anyTable(r), anyTable(r)}
		checkPair(t, l[0], l[1])
		whole := entry.Join(entry.Join(l[0], l[1]), entry.Join(l[2], l[3]))
		var other []api.Entry
		for _, i := range append(r.Perm(4), r.Perm(4)...) {
			other = entry.Join(other, l[i])
		}
		if !entry.Same(whole, other) {
			t.Fatalf("%v: %v and %v", l, whole, other)
		}
		for _, x := range l {
			if !entry.Over(whole, x) {
				t.Fatalf("%v isn't over %v", whole, x)
			}
		}
	}
}

// checkPair: what is promised of two tables that are joined.
func checkPair(t *testing.T, a, b []api.Entry) {
	t.Helper()
	ab := entry.Join(a, b)
	if !entry.Same(ab, entry.Join(b, a)) || !entry.Same(ab, entry.Join(ab, b)) || !entry.Same(ab, entry.Join(b, ab)) || !entry.Same(ab, entry.Join(ab, a)) {
		t.Fatalf("%v and %v: another order, or twice, is unlike %v", a, b, ab)
	}
	if !entry.Over(ab, a) || !entry.Over(ab, b) {
		t.Fatalf("%v and %v: %v isn't over both", a, b, ab)
	}
	if entry.Over(a, b) && entry.Over(b, a) != entry.Same(a, b) {
		t.Fatalf("%v and %v: over each other", a, b)
	}
}

// P4.1: what is handed in stays as it was, its spare room, too; what is answered shares nothing with it.
func TestNewMemory(t *testing.T) {
	calls := map[string]func(a, b []api.Entry) []api.Entry{
		"Join":         entry.Join,
		"Put":          func(a, b []api.Entry) []api.Entry { return entry.Put(a, api.Entry{Key: 5, Ver: 8, Val: "new"}) },
		"Put in front": func(a, b []api.Entry) []api.Entry { return entry.Put(a, api.Entry{Key: 0, Ver: 8, Val: "new"}) },
		"Put behind":   func(a, b []api.Entry) []api.Entry { return entry.Put(a, api.Entry{Key: 11, Ver: 8, Val: "new"}) },
		"Above":        func(a, b []api.Entry) []api.Entry { return entry.Above(a, 3) },
		"Above, all":   func(a, b []api.Entry) []api.Entry { return entry.Above(b, 0) },
	}
	r := rand.New(rand.NewSource(46))
	for name, call := range calls {
		for i := range 500 {
			a, b := anyTable(r), anyTable(r)
			switch i % 4 {
			case 0:
				a = nil
			case 1:
				b = nil
			case 2:
				b = slices.Clone(a)
			}
			x, y := roomy(a), roomy(b)
			got := call(x, y)
			want := slices.Clone(got)
			if !stays(a, x[:len(a)+3]) || !stays(b, y[:len(b)+3]) {
				t.Fatalf("%s: what was handed in is changed", name)
			}
			clear(x[:len(a)+3])
			clear(y[:len(b)+3])
			if !slices.Equal(got, want) {
				t.Fatalf("%s: what was answered changes with what was handed in", name)
			}
			x, y = roomy(a), roomy(b)
			got = call(x, y)
			clear(got[:cap(got)])
			if !stays(a, x[:len(a)+3]) || !stays(b, y[:len(b)+3]) {
				t.Fatalf("%s: what was handed in changes with what was answered", name)
			}
		}
	}
}

// P4.1: the calls that just tell leave what is handed in as it was.
func TestTellingChangesNothing(t *testing.T) {
	r := rand.New(rand.NewSource(47))
	for range 500 {
		a, b := anyTable(r), anyTable(r)
		x, y := roomy(a), roomy(b)
		entry.Right(x)
		entry.Get(x, 3)
		entry.Over(x, y)
		entry.Top(x)
		entry.Same(x, y)
		if !stays(a, x[:len(a)+3]) || !stays(b, y[:len(b)+3]) {
			t.Fatal("changed")
		}
	}
}

// Rule 1: no call panics of lists that it isn't asked with, either.
func TestOddListsEnd(t *testing.T) {
	lists := append(odd(), nil, []api.Entry{{Key: 1, Ver: 1}})
	for _, a := range lists {
		for _, b := range lists {
			entry.Join(a, b)
			entry.Over(a, b)
		}
		for _, x := range wrongs() {
			entry.Put(a, x)
		}
	}
}
