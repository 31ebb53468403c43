package service_test

import (
	"math"
	"math/rand"
	"slices"
	"strings"
	"testing"

	"bellwether/api"
	"bellwether/entry"
	"bellwether/service"
)

// The document's numbers, written out anew.
const (
	maxWord  = 20
	maxPort  = 65535
	maxValue = 200
	keyFirst = 3
	keyLast  = 11
	errArg   = 1
	errShort = 2
	errForm  = 3
	errLong  = 4
)

const letters = "abcdefghijklmnopqrstuvwxyz0123456789"

// edges: numbers at which something turns, and their neighbours.
var edges = []int{
	math.MinInt, -65536, -65535, -1, 0, 1, 2, 127, 128, 300, 16383, 16384, 32767, 32768, maxPort - 1, maxPort, maxPort + 1,
	1 << 31, 1<<32 + 1, 1 << 40, 1 << 62, 1<<62 + 1, math.MaxInt,
}

// few: of those the ones next to the ends of what may be.
var few = []int{-1, 0, 1, 300, maxPort, maxPort + 1}

// words: texts that are words.
var words = []string{
	"a", "z", "0", "9", "tcp", "udp", "http", "a-b", "a--b", "0-9", "x-1-y", "000", strings.Repeat("a", 19), strings.Repeat("z", 20), strings.Repeat("9", 20),
	"a" + strings.Repeat("-", 18) + "b", "a-" + strings.Repeat("0", 18),
}

// noWords: texts that aren't.
var noWords = []string{
	"", "-", "--", "-a", "a-", "-a-", "A", "Z", "aB", "Tcp", "tcP", "_", "_http", "a_b", "a b", " a", "a ", "a.b", ".", "a,", "a/", "a:", "a@", "a`", "a{", "`", "{", "/", ":", "\x00", "a\x00", "\x00a",
	"\x7f", "\x80", "\xff", "a\xe1", "\xc3\xa9", "a\xc3\xa9b", "\uff41", "\u0661", "\u2010", "\u00b2", "a\nb", "a\n", "\x2d", "a\x2c", "\x1f\x20",
	strings.Repeat("a", 21), strings.Repeat("a", 20) + "-", strings.Repeat("-", 20), strings.Repeat("a", 19) + "-", "-" + strings.Repeat("a", 19), strings.Repeat("0", 300), strings.Repeat("b", 276),
}

// plainWord: is each byte of a text one of those that are written out, and is there no - at its ends?
func plainWord(s string) bool {
	if len(s) == 0 || len(s) > maxWord {
		return false
	}
	for i := range len(s) {
		inside := i > 0 && i < len(s)-1
		if strings.IndexByte(letters, s[i]) < 0 && !(inside && s[i] == '-') {
			return false
		}
	}
	return true
}

func plainRight(s api.Service) bool {
	switch {
	case !plainWord(s.Name), !plainWord(s.Proto):
		return false
	case s.Port <= 0, s.Priority < 0, s.Weight < 0:
		return false
	}
	return max(s.Port, s.Priority, s.Weight) < 1<<16
}

// plainNum: a number's bytes, by quotients.
func plainNum(n int) string {
	out := ""
	for ; n >= 128; n /= 128 {
		out += string([]byte{byte(n%128) + 128})
	}
	return out + string([]byte{byte(n)})
}

func plainText(s string) string { return plainNum(len(s)) + s }

// plainValue: a service's value, whether it may be or not, of numbers from 0 on.
func plainValue(s api.Service) string {
	last := "\x00"
	if s.Well {
		last = "\x01"
	}
	return plainText(s.Name) + plainText(s.Proto) + plainNum(s.Port) + plainNum(s.Priority) + plainNum(s.Weight) + last
}

func plainEncode(s api.Service) (string, api.Errno) {
	if !plainRight(s) {
		return "", errArg
	}
	return plainValue(s), 0
}

// reader reads parts by places, and keeps the first error.
type reader struct {
	b  string
	at int
	e  api.Errno
}

func (r *reader) number() int {
	n := uint64(0)
	for i := range 9 {
		if r.e != 0 {
			return 0
		}
		if r.at == len(r.b) {
			r.e = errShort
			return 0
		}
		x := r.b[r.at]
		r.at++
		n += uint64(x%128) << (7 * i)
		if x < 128 {
			if x == 0 && i > 0 || n > 1<<62 {
				r.e = errForm
			}
			return int(n)
		}
	}
	r.e = errForm
	return 0
}

func (r *reader) text() string {
	n := r.number()
	switch {
	case r.e != 0:
	case n > maxWord:
		r.e = errLong
	case n > len(r.b)-r.at:
		r.e = errShort
	default:
		r.at += n
		return r.b[r.at-n : r.at]
	}
	return ""
}

func plainDecode(v string) (api.Service, api.Errno) {
	r := reader{b: v}
	s := api.Service{Name: r.text(), Proto: r.text(), Port: r.number(), Priority: r.number(), Weight: r.number()}
	last := r.number()
	s.Well = last == 1
	switch {
	case r.e != 0:
		return api.Service{}, r.e
	case r.at != len(v), last != 0 && last != 1, !plainRight(s):
		return api.Service{}, errForm
	}
	return s, 0
}

func plainAll(l []api.Entry) []api.Service {
	var out []api.Service
	for i := range l {
		if s, e := plainDecode(l[i].Val); e == 0 && !(l[i].Key < keyFirst) {
			out = append(out, s)
		}
	}
	return out
}

// plainKey: from the end of the table on, so that the one that is found last is the first one.
func plainKey(l []api.Entry, name, proto string) (int, bool) {
	key, ok := 0, false
	for i := len(l) - 1; i >= 0; i-- {
		s, e := plainDecode(l[i].Val)
		if e == 0 && l[i].Key > 2 && s.Name == name && s.Proto == proto {
			key, ok = l[i].Key, true
		}
	}
	return key, ok
}

// plainFirst: a key's first entry's value, and whether there is one.
func plainFirst(l []api.Entry, key int) (string, bool) {
	for i := range l {
		if l[i].Key == key {
			return l[i].Val, true
		}
	}
	return "", false
}

// plainPlace: the keys that nothing stands at, then those that an empty value stands at; the first of all these.
func plainPlace(l []api.Entry) (int, bool) {
	var free, empty []int
	for _, key := range []int{3, 4, 5, 6, 7, 8, 9, 10, 11} {
		switch v, ok := plainFirst(l, key); {
		case !ok:
			free = append(free, key)
		case v == "":
			empty = append(empty, key)
		}
	}
	for _, key := range append(free, empty...) {
		return key, true
	}
	return 0, false
}

func plainUp(l []api.Entry) bool {
	v, ok := plainFirst(l, 0)
	return ok && v == "up"
}

func plainAddress(l []api.Entry, key int) (string, bool) {
	v, ok := plainFirst(l, key)
	if ok && (key == 1 && len(v) == 4 || key == 2 && len(v) == 16) {
		return v, true
	}
	return "", false
}

// value: that of a service that may be.
func value(name, proto string, port int) string {
	return plainValue(api.Service{Name: name, Proto: proto, Port: port})
}

// samples: services that may be, and that may not, at all edges.
func samples() []api.Service {
	var l []api.Service
	for _, port := range edges {
		for _, priority := range edges {
			for _, weight := range edges {
				l = append(l, api.Service{Name: "http", Proto: "tcp", Port: port, Priority: priority, Weight: weight, Well: (port^priority^weight)&1 == 0})
			}
		}
	}
	texts := slices.Concat(words, noWords)
	for _, name := range texts {
		for _, proto := range texts {
			l = append(l, api.Service{Name: name, Proto: proto, Port: 80, Weight: 3, Well: true}, api.Service{Name: name, Proto: proto})
		}
	}
	for _, port := range few {
		for _, priority := range few {
			for _, weight := range few {
				for _, name := range []string{"", "a", strings.Repeat("a", 20), strings.Repeat("a", 21)} {
					s := api.Service{Name: name, Proto: "x-y", Port: port, Priority: priority, Weight: weight}
					l = append(l, s, api.Service{Name: s.Proto, Proto: name, Port: port, Priority: priority, Weight: weight, Well: true})
				}
			}
		}
	}
	return append(l, api.Service{})
}

// anyWord: a text that is a word.
func anyWord(r *rand.Rand) string {
	b := make([]byte, 1+r.Intn(maxWord))
	for i := range b {
		b[i] = letters[r.Intn(len(letters))]
		if i > 0 && i < len(b)-1 && r.Intn(4) == 0 {
			b[i] = '-'
		}
	}
	return string(b)
}

// anyService: one that may be.
func anyService(r *rand.Rand) api.Service {
	size := func() int { return r.Intn(maxPort+1) >> r.Intn(16) }
	return api.Service{Name: anyWord(r), Proto: anyWord(r), Port: max(1, size()), Priority: size(), Weight: size(), Well: r.Intn(2) == 0}
}

// broken: a value that is nearly the one that is handed in.
func broken(r *rand.Rand, v string) string {
	b := []byte(v)
	at := r.Intn(len(b))
	switch r.Intn(6) {
	case 0:
		return v[:at]
	case 1:
		b[at] = byte(r.Intn(256))
	case 2:
		b[at] ^= 1 << r.Intn(8)
	case 3:
		return string(slices.Insert(b, at, byte(r.Intn(256))))
	case 4:
		return string(slices.Delete(b, at, at+1))
	default:
		return v + string([]byte{byte(r.Intn(256))})
	}
	return string(b)
}

// anyValue: one of any kind that a table may hold, a service's as often as all others.
func anyValue(r *rand.Rand) string {
	switch r.Intn(12) {
	case 0:
		return ""
	case 1:
		return []string{"up", "gone", "Up", "up "}[r.Intn(4)]
	case 2:
		return strings.Repeat("x", []int{3, 4, 5, 15, 16, 17}[r.Intn(6)])
	case 3:
		b := make([]byte, r.Intn(12))
		r.Read(b)
		return string(b)
	case 4, 5:
		return broken(r, plainValue(anyService(r)))
	case 6, 7, 8:
		return value([]string{"a", "b"}[r.Intn(2)], []string{"tcp", "udp"}[r.Intn(2)], 1+r.Intn(9))
	}
	return plainValue(anyService(r))
}

// anyTable: one that may be, but that some of its values are too long; or, if wild, one of any keys in any order.
func anyTable(r *rand.Rand, wild bool) []api.Entry {
	var l []api.Entry
	for key := range 12 {
		if r.Intn(3) > 0 {
			l = append(l, api.Entry{Key: key, Ver: 1 + r.Intn(99), Val: anyValue(r)})
		}
	}
	if wild {
		for range r.Intn(12) {
			key := []int{r.Intn(14) - 1, r.Intn(14) - 1, edges[r.Intn(len(edges))]}[r.Intn(3)]
			l = append(l, api.Entry{Key: key, Ver: r.Intn(5) - 2, Val: anyValue(r)})
		}
		r.Shuffle(len(l), func(i, k int) { l[i], l[k] = l[k], l[i] })
	}
	return l
}

// holdTable: all calls of a table against the plain working-outs.
func holdTable(t *testing.T, l []api.Entry) {
	t.Helper()
	all := service.All(l)
	if want := plainAll(l); !slices.Equal(all, want) {
		t.Fatalf("%+v: %v, not %v", l, all, want)
	}
	for _, s := range append(all, api.Service{Name: "a", Proto: "tcp"}, api.Service{Name: "tcp", Proto: "a"}, api.Service{}) {
		key, ok := service.Key(l, s.Name, s.Proto)
		if want, found := plainKey(l, s.Name, s.Proto); key != want || ok != found {
			t.Fatalf("%+v: key of %s over %s: %d %t, not %d %t", l, s.Name, s.Proto, key, ok, want, found)
		}
	}
	place, ok := service.Place(l)
	if want, found := plainPlace(l); place != want || ok != found {
		t.Fatalf("%+v: place %d %t, not %d %t", l, place, ok, want, found)
	}
	if got, want := service.Up(l), plainUp(l); got != want {
		t.Fatalf("%+v: up %t", l, got)
	}
	for key := -1; key < 14; key++ {
		v, ok := service.Address(l, key)
		if want, found := plainAddress(l, key); v != want || ok != found {
			t.Fatalf("%+v: address of %d: %q %t, not %q %t", l, key, v, ok, want, found)
		}
	}
}

// holdDecode: Decode against the plain working-out, and P15.2 of what it answers.
func holdDecode(t *testing.T, v string) api.Errno {
	t.Helper()
	s, e := service.Decode(v)
	if want, f := plainDecode(v); s != want || e != f {
		t.Fatalf("%q: %v %d, not %v %d", v, s, e, want, f)
	}
	if e != 0 {
		return e
	}
	if back, f := service.Encode(s); back != v || f != 0 || !service.Right(s) {
		t.Fatalf("%q is decoded as %v, whose value is %q %d", v, s, back, f)
	}
	return 0
}

// P15.1: words by hand, written out.
func TestWordByHand(t *testing.T) {
	for _, s := range words {
		if !service.Word(s) {
			t.Errorf("%q is none", s)
		}
	}
	for _, s := range noWords {
		if service.Word(s) {
			t.Errorf("%q is one", s)
		}
	}
}

// P15.1: words of each length with each byte at each place.
func TestWordOfAllBytes(t *testing.T) {
	for n := range 24 {
		b := []byte(strings.Repeat("m", n))
		if got := service.Word(string(b)); got != (n >= 1 && n <= 20) {
			t.Errorf("of %d bytes: %t", n, got)
		}
		for i := range n {
			for c := range 256 {
				b[i] = byte(c)
				if got := service.Word(string(b)); got != plainWord(string(b)) {
					t.Errorf("%q: %t", b, got)
				}
			}
			b[i] = 'm'
		}
	}
	for c := range 256 {
		for d := range 256 {
			if s := string([]byte{byte(c), byte(d)}); service.Word(s) != plainWord(s) {
				t.Errorf("%q", s)
			}
		}
	}
}

// P15.1: texts of a word's bytes, far longer than a word.
func TestWordOfAnyLength(t *testing.T) {
	for _, n := range []int{21, 22, 63, 64, 255, 256, 257, 276, 65535, 65536, 65537, 65556, 1 << 20} {
		if service.Word(strings.Repeat("a", n)) {
			t.Error("one of", n)
		}
	}
}

// P15.1: services by hand: may they be?
func TestRightByHand(t *testing.T) {
	for i, x := range []struct {
		s    api.Service
		want bool
	}{
		{api.Service{Name: "http", Proto: "tcp", Port: 80}, true},
		{api.Service{Name: "http", Proto: "tcp", Port: 80, Well: true}, true},
		{api.Service{Name: "a", Proto: "a", Port: 1}, true},
		{api.Service{Name: "a", Proto: "a", Port: 65535, Priority: 65535, Weight: 65535}, true},
		{api.Service{Name: strings.Repeat("a", 20), Proto: strings.Repeat("b", 20), Port: 1}, true},
		{api.Service{}, false},
		{api.Service{Name: "a", Proto: "a", Well: true}, false},
		{api.Service{Name: "a", Proto: "a", Port: -1}, false},
		{api.Service{Name: "a", Proto: "a", Port: 65536}, false},
		{api.Service{Name: "a", Proto: "a", Port: 1<<32 + 1}, false},
		{api.Service{Name: "a", Proto: "a", Port: 1, Priority: -1}, false},
		{api.Service{Name: "a", Proto: "a", Port: 1, Priority: 65536}, false},
		{api.Service{Name: "a", Proto: "a", Port: 1, Weight: -1}, false},
		{api.Service{Name: "a", Proto: "a", Port: 1, Weight: 65536}, false},
		{api.Service{Name: "", Proto: "a", Port: 1}, false},
		{api.Service{Name: "a", Proto: "", Port: 1}, false},
		{api.Service{Name: "_a", Proto: "a", Port: 1}, false},
		{api.Service{Name: "a", Proto: "a-", Port: 1}, false},
		{api.Service{Name: strings.Repeat("a", 21), Proto: "a", Port: 1}, false},
		{api.Service{Name: "a", Proto: strings.Repeat("a", 21), Port: 1}, false},
	} {
		if got := service.Right(x.s); got != x.want {
			t.Errorf("%d: %v: %t", i, x.s, got)
		}
	}
}

// P15.1: values by hand, written out; the document's example is the first one.
func TestEncodeByHand(t *testing.T) {
	for _, x := range []struct {
		s    api.Service
		want string
	}{
		{api.Service{Name: "http", Proto: "tcp", Port: 80, Well: true}, "\x04http\x03tcp\x50\x00\x00\x01"},
		{api.Service{Name: "http", Proto: "tcp", Port: 80}, "\x04http\x03tcp\x50\x00\x00\x00"},
		{api.Service{Name: "a", Proto: "b", Port: 1, Priority: 2, Weight: 3}, "\x01a\x01b\x01\x02\x03\x00"},
		{api.Service{Name: "a", Proto: "b", Port: 127, Priority: 128, Weight: 300}, "\x01a\x01b\x7f\x80\x01\xac\x02\x00"},
		{api.Service{Name: "x-9", Proto: "0", Port: 65535, Priority: 65535, Weight: 65535, Well: true}, "\x03x-9\x010\xff\xff\x03\xff\xff\x03\xff\xff\x03\x01"},
		{api.Service{Name: strings.Repeat("a", 20), Proto: strings.Repeat("b", 20), Port: 16384}, "\x14" + strings.Repeat("a", 20) + "\x14" + strings.Repeat("b", 20) + "\x80\x80\x01\x00\x00\x00"},
	} {
		if got, e := service.Encode(x.s); got != x.want || e != 0 {
			t.Errorf("%v: %q %d, not %q", x.s, got, e, x.want)
		}
		if got, e := service.Decode(x.want); got != x.s || e != 0 {
			t.Errorf("%q: %v %d, not %v", x.want, got, e, x.s)
		}
	}
}

// P15.1: may they be, and their values, at all edges.
func TestRightEncode(t *testing.T) {
	often := [2]int{}
	for _, s := range samples() {
		if got, want := service.Right(s), plainRight(s); got != want {
			t.Fatalf("%v: %t", s, got)
		}
		got, e := service.Encode(s)
		if want, f := plainEncode(s); got != want || e != f {
			t.Fatalf("%v: %q %d, not %q %d", s, got, e, want, f)
		}
		often[e]++
	}
	if min(often[0], often[1]) < 500 {
		t.Error("too few of one kind:", often)
	}
}

// P15.1: what is no value, by hand: which error goes first.
func TestDecodeByHand(t *testing.T) {
	long := strings.Repeat("a", 21)
	for _, x := range []struct {
		v string
		e api.Errno
	}{
		// Each part that ends too early.
		{"", errShort}, {"\x01", errShort}, {"\x01a", errShort}, {"\x01a\x01", errShort}, {"\x01a\x01b", errShort}, {"\x01a\x01b\x01", errShort}, {"\x01a\x01b\x01\x00", errShort}, {"\x01a\x01b\x01\x00\x00", errShort}, {"\x01a\x01b\x01\x00\x00\x01", 0},
		{"\x80", errShort}, {"\x01a\x01b\x80", errShort}, {"\x01a\x01b\x01\x00\x00\x81", errShort}, {"\x14aaa", errShort},
		// Texts that are told to be too long: whether they are there or not; 20 bytes are let.
		{"\x15", errLong}, {"\x15" + long, errLong}, {"\x01a\x15", errLong}, {"\x01a\x15" + long + "\x01\x00\x00\x00", errLong}, {"\x80\x01", errLong}, {"\xff\xff\xff\xff\xff\xff\xff\xff\x3f", errLong},
		{"\x14" + long[1:] + "\x14" + long[1:] + "\x01\x00\x00\x00", 0},
		// Numbers with more bytes than they must have, or that are no numbers: of each part.
		{"\x81\x00a\x01b\x01\x00\x00\x00", errForm}, {"\x01a\x81\x00b\x01\x00\x00\x00", errForm}, {"\x01a\x01b\x81\x00\x00\x00\x00", errForm}, {"\x01a\x01b\x01\x80\x00\x00\x00", errForm}, {"\x01a\x01b\x01\x00\x80\x00\x00", errForm}, {"\x01a\x01b\x01\x00\x00\x80\x00", errForm}, {"\x01a\x01b\x01\x00\x00\x81\x00", errForm},
		{"\x01a\x01b\xff\xff\xff\xff\xff\xff\xff\xff\xff\x01", errForm}, {"\x01a\x01b\x81\x80\x80\x80\x80\x80\x80\x80\x40\x00\x00\x00", errForm},
		// Bytes that are left.
		{"\x01a\x01b\x01\x00\x00\x00\x00", errForm}, {"\x01a\x01b\x01\x00\x00\x01\x80", errForm}, {"\x01a\x01b\x01\x00\x00\x01" + strings.Repeat("x", 300), errForm},
		// A last number that isn't 0 or 1.
		{"\x01a\x01b\x01\x00\x00\x02", errForm}, {"\x01a\x01b\x01\x00\x00\x7f", errForm}, {"\x01a\x01b\x01\x00\x00\x81\x01", errForm}, {"\x01a\x01b\x01\x00\x00\x80\x80\x80\x80\x80\x80\x80\x80\x40", errForm}, {"\x01a\x01b\x01\x00\x00\x81\x80\x80\x80\x10", errForm},
		// A service that may not be: each of its fields.
		{"\x00\x01b\x01\x00\x00\x00", errForm}, {"\x01a\x00\x01\x00\x00\x00", errForm}, {"\x01A\x01b\x01\x00\x00\x00", errForm}, {"\x01a\x01_\x01\x00\x00\x00", errForm}, {"\x02a-\x01b\x01\x00\x00\x00", errForm},
		{"\x01a\x01b\x00\x00\x00\x00", errForm}, {"\x01a\x01b\x80\x80\x04\x00\x00\x00", errForm}, {"\x01a\x01b\x01\x80\x80\x04\x00\x00", errForm}, {"\x01a\x01b\x01\x00\x80\x80\x04\x00", errForm}, {"\x01a\x01b\xff\xff\x03\xff\xff\x03\xff\xff\x03\x00", 0},
		{"\x01a\x01b\x81\x80\x80\x80\x10\x00\x00\x00", errForm}, {"\x01a\x01b\x80\x80\x80\x80\x80\x80\x80\x80\x40\x00\x00\x00", errForm},
		// A part that may not be, and a later one that ends too early, is too long, or isn't as it is laid: the later one's error.
		{"\x01A", errShort}, {"\x00", errShort}, {"\x01A\x01b\x01\x00\x00", errShort}, {"\x00\x15", errLong}, {"\x01A\x15" + long, errLong}, {"\x01a\x01b\x00", errShort}, {"\x01a\x01b\x80\x80\x04\x00\x00", errShort}, {"\x01a\x01b\x00\x00\x00\x80\x00", errForm},
		// Of two errors of layer 1 the first part's.
		{"\x15\x80", errLong}, {"\x80\x00\x15", errForm}, {"\x01a\x80\x00", errForm}, {"\x01a\x15\x80\x00", errLong}, {"\x81\x00", errForm}, {"\x01a\x01b\x80\x00\x80", errForm},
	} {
		s, e := service.Decode(x.v)
		if e != x.e {
			t.Errorf("%q: %d, not %d", x.v, e, x.e)
		}
		if e != 0 && s != (api.Service{}) {
			t.Errorf("%q: %v beside an error", x.v, s)
		}
		holdDecode(t, x.v)
	}
}

// P15.1, P15.2: values of parts of all kinds, combined; with and without bytes behind them, and cut.
func TestDecodeOfParts(t *testing.T) {
	texts := []string{"", "\x00", "\x01a", "\x01-", "\x80", "\x81\x00a", "\x15", "\x14" + strings.Repeat("a", 20), "\x15" + strings.Repeat("a", 21), "\x02a"}
	numbers := []string{"", "\x00", "\x01", "\x02", "\x80", "\x81\x00", "\xff\xff\x03", "\x80\x80\x04", "\x80\x80\x80\x80\x80\x80\x80\x80\x40", "\x81\x80\x80\x80\x80\x80\x80\x80\x40", "\x80\x80\x80\x80\x80\x80\x80\x80\x80"}
	often := map[api.Errno]int{}
	for _, name := range texts {
		for _, proto := range texts {
			for _, port := range numbers {
				for _, priority := range numbers {
					for _, weight := range numbers[:8] {
						for _, last := range numbers {
							often[holdDecode(t, name+proto+port+priority+weight+last)]++
						}
					}
				}
			}
		}
	}
	for _, e := range []api.Errno{0, errShort, errForm, errLong} {
		if often[e] < 20 {
			t.Error("too few of", e, often)
		}
	}
}

// P15.1, P15.2: each beginning of values, and values with each byte changed, one more and one fewer.
func TestDecodeOfNearlyValues(t *testing.T) {
	for _, s := range []api.Service{
		{Name: "a", Proto: "b", Port: 1},
		{Name: "http", Proto: "tcp", Port: 80, Weight: 300, Well: true},
		{Name: strings.Repeat("a", 20), Proto: "x-" + strings.Repeat("0", 18), Port: 65535, Priority: 65535, Weight: 16383, Well: true},
	} {
		v := plainValue(s)
		for n := range len(v) {
			if e := holdDecode(t, v[:n]); e != errShort {
				t.Errorf("%q: %d", v[:n], e)
			}
			holdDecode(t, v[:n]+v[n+1:])
			for c := range 256 {
				c := string([]byte{byte(c)})
				holdDecode(t, v[:n]+c+v[n+1:])
				holdDecode(t, v[:n]+c+v[n:])
				if e := holdDecode(t, v+c); e != errForm {
					t.Errorf("%q: %d", v+c, e)
				}
			}
		}
	}
}

// P15.1, P15.2: many values, nearly values, and any bytes.
func TestDecodeOfAny(t *testing.T) {
	r := rand.New(rand.NewSource(151))
	for range 60000 {
		v := plainValue(anyService(r))
		if e := holdDecode(t, v); e != 0 {
			t.Fatalf("%q: %d", v, e)
		}
		v = broken(r, v)
		holdDecode(t, v)
		if v != "" {
			holdDecode(t, broken(r, v))
		}
		b := make([]byte, r.Intn(20))
		for i := range b {
			b[i] = byte(r.Intn(256)) >> r.Intn(8)
		}
		holdDecode(t, string(b))
	}
	for _, n := range []int{93, 94, 95, 1 << 20} {
		holdDecode(t, strings.Repeat("\x00", n))
		holdDecode(t, strings.Repeat("\xff", n))
		holdDecode(t, value("a", "b", 1)+strings.Repeat("\x00", n))
	}
}

// P15.2: what is encoded is decoded as it was, and may be a value: of a table that layer 4 lets.
func TestThereAndBack(t *testing.T) {
	r := rand.New(rand.NewSource(152))
	all := samples()
	for range 20000 {
		all = append(all, anyService(r))
	}
	longest := 0
	for _, s := range all {
		v, e := service.Encode(s)
		if e != 0 {
			continue
		}
		longest = max(longest, len(v))
		if back, e := service.Decode(v); back != s || e != 0 {
			t.Fatalf("%v: %q, then %v %d", s, v, back, e)
		}
		if len(v) > maxValue || !entry.May(api.Entry{Key: keyFirst, Ver: 1, Val: v}) {
			t.Fatalf("%v: %q may not be a value", s, v)
		}
	}
	most := api.Service{Name: strings.Repeat("a", 20), Proto: strings.Repeat("b", 20), Port: 65535, Priority: 65535, Weight: 65535, Well: true}
	if v, e := service.Encode(most); len(v) != 52 || e != 0 || longest > 52 {
		t.Error(len(v), e, longest)
	}
}

// P15.2: no two services have one value.
func TestValuesApart(t *testing.T) {
	was := map[string]api.Service{}
	for _, s := range samples() {
		v, e := service.Encode(s)
		if e != 0 {
			continue
		}
		if x, ok := was[v]; ok && x != s {
			t.Fatalf("%v and %v: %q", x, s, v)
		}
		was[v] = s
	}
}

// P15.1: services of tables by hand, written out.
func TestAllByHand(t *testing.T) {
	http, db, udp := value("http", "tcp", 80), value("db", "tcp", 81), value("db", "udp", 82)
	for i, x := range []struct {
		l    []api.Entry
		want []int // their ports
	}{
		{nil, nil}, {[]api.Entry{}, nil}, {[]api.Entry{{}}, nil},
		{[]api.Entry{{Key: 3, Ver: 1, Val: http}}, []int{80}},
		{[]api.Entry{{Key: 3, Val: http}, {Key: 4, Val: db}, {Key: 11, Val: udp}}, []int{80, 81, 82}},
		// Of keys from 3 on alone, and without an end.
		{[]api.Entry{{Key: 0, Val: http}, {Key: 1, Val: http}, {Key: 2, Val: http}}, nil},
		{[]api.Entry{{Key: 2, Val: http}, {Key: 3, Val: db}}, []int{81}},
		{[]api.Entry{{Key: -3, Val: http}, {Key: -1, Val: http}, {Key: math.MinInt, Val: http}}, nil},
		{[]api.Entry{{Key: 12, Val: http}, {Key: 13, Val: db}, {Key: math.MaxInt, Val: udp}}, []int{80, 81, 82}},
		// Whose values are a service's.
		{[]api.Entry{{Key: 3, Val: ""}, {Key: 4, Val: "junk"}, {Key: 5, Val: http + "\x00"}, {Key: 6, Val: http[:len(http)-1]}, {Key: 7, Val: "\x01A\x01b\x01\x00\x00\x00"}}, nil},
		{[]api.Entry{{Key: 3, Val: ""}, {Key: 4, Val: http}, {Key: 5, Val: "junk"}, {Key: 6, Val: db}}, []int{80, 81}},
		// In the order in which they stand, whatever their keys and versions are; each that stands there.
		{[]api.Entry{{Key: 5, Ver: 1, Val: http}, {Key: 3, Ver: 9, Val: db}, {Key: 4, Ver: 5, Val: udp}}, []int{80, 81, 82}},
		{[]api.Entry{{Key: 3, Val: http}, {Key: 3, Val: db}, {Key: 3, Val: http}}, []int{80, 81, 80}},
		{[]api.Entry{{Key: 3, Val: http}, {Key: 4, Val: http}}, []int{80, 80}},
		{[]api.Entry{{Key: 3, Ver: -5, Val: http}, {Key: 4, Ver: math.MaxInt, Val: db}}, []int{80, 81}},
	} {
		var ports []int
		for _, s := range service.All(x.l) {
			ports = append(ports, s.Port)
		}
		if !slices.Equal(ports, x.want) {
			t.Errorf("%d: %v, not %v", i, ports, x.want)
		}
		holdTable(t, x.l)
	}
}

// P15.1: each field of a table's services; one that isn't well is there, too.
func TestAllWhole(t *testing.T) {
	r := rand.New(rand.NewSource(153))
	for range 500 {
		var want []api.Service
		var l []api.Entry
		for key := keyFirst; key <= keyLast; key++ {
			s := anyService(r)
			v, _ := service.Encode(s)
			want = append(want, s)
			l = entry.Put(l, api.Entry{Key: key, Ver: 1, Val: v})
		}
		if got := service.All(l); !slices.Equal(got, want) {
			t.Fatalf("%v, not %v", got, want)
		}
		for i, s := range want {
			key, ok := service.Key(l, s.Name, s.Proto)
			if k := slices.IndexFunc(want, func(x api.Service) bool { return x.Name == s.Name && x.Proto == s.Proto }); key != keyFirst+k || !ok {
				t.Fatalf("%v, the one at %d: %d %t", s, i, key, ok)
			}
		}
	}
}

// P15.1: keys of services by hand, written out.
func TestKeyByHand(t *testing.T) {
	l := []api.Entry{
		{Key: 0, Val: value("at0", "tcp", 1)}, {Key: 2, Val: value("at2", "tcp", 1)}, {Key: 3, Val: ""}, {Key: 4, Val: value("http", "tcp", 80)}, {Key: 5, Val: "junk"}, {Key: 6, Val: value("http", "udp", 80)},
		{Key: 7, Val: value("http", "tcp", 81)}, {Key: 8, Val: value("tcp", "http", 80)}, {Key: 9, Val: value("db", "tcp", 80)}, {Key: 11, Val: value("last", "tcp", 80)}, {Key: 40, Val: value("beyond", "tcp", 80)},
	}
	for _, x := range []struct {
		name, proto string
		want        int
		ok          bool
	}{
		{"http", "tcp", 4, true}, {"http", "udp", 6, true}, {"tcp", "http", 8, true}, {"db", "tcp", 9, true}, {"last", "tcp", 11, true}, {"beyond", "tcp", 40, true},
		{"db", "udp", 0, false}, {"udp", "http", 0, false}, {"httpt", "cp", 0, false}, {"http", "", 0, false}, {"", "tcp", 0, false}, {"", "", 0, false}, {"HTTP", "tcp", 0, false}, {"http", "TCP", 0, false}, {"htt", "tcp", 0, false},
		{"at0", "tcp", 0, false}, {"at2", "tcp", 0, false},
	} {
		if key, ok := service.Key(l, x.name, x.proto); key != x.want || ok != x.ok {
			t.Errorf("%s over %s: %d %t", x.name, x.proto, key, ok)
		}
		if key, ok := service.Key(nil, x.name, x.proto); key != 0 || ok {
			t.Errorf("%s over %s in none: %d %t", x.name, x.proto, key, ok)
		}
	}
	// The first one is the one that stands first, not that of the least key, nor a greater version's.
	l = []api.Entry{{Key: 9, Ver: 1, Val: value("a", "b", 1)}, {Key: 3, Ver: 5, Val: value("a", "b", 2)}, {Key: 9, Ver: 7, Val: value("a", "b", 1)}}
	if key, ok := service.Key(l, "a", "b"); key != 9 || !ok {
		t.Error(key, ok)
	}
	holdTable(t, l)
}

// P15.1: places of all tables whose keys from 3 to 11 are each none, empty or taken; with and without others beside them.
func TestPlaceOfAll(t *testing.T) {
	beside := []api.Entry{{Key: 0}, {Key: 1, Val: "abcd"}, {Key: 2}, {Key: 12}, {Key: 13, Val: "x"}, {Key: -1}}
	for i := range 19683 { // 3^9
		var l []api.Entry
		for key, n := keyFirst, i; key <= keyLast; key, n = key+1, n/3 {
			switch n % 3 {
			case 1:
				l = append(l, api.Entry{Key: key, Ver: 1})
			case 2:
				l = append(l, api.Entry{Key: key, Ver: 1, Val: "x"})
			}
		}
		for _, l := range [][]api.Entry{l, slices.Concat(beside, l), slices.Concat(l, beside)} {
			key, ok := service.Place(l)
			if want, found := plainPlace(l); key != want || ok != found {
				t.Fatalf("%+v: %d %t, not %d %t", l, key, ok, want, found)
			}
			slices.Reverse(l)
			if again, found := service.Place(l); key != again || ok != found {
				t.Fatalf("%+v: %d %t, turned round %d %t", l, key, ok, again, found)
			}
		}
	}
}

// P15.1: places by hand, written out.
func TestPlaceByHand(t *testing.T) {
	table := func(values string) []api.Entry { // from key 3 on: a letter is a value, . an empty one, a blank none
		var l []api.Entry
		for i := range len(values) {
			switch values[i] {
			case ' ':
			case '.':
				l = append(l, api.Entry{Key: 3 + i, Ver: 1})
			default:
				l = append(l, api.Entry{Key: 3 + i, Ver: 1, Val: values[i : i+1]})
			}
		}
		return l
	}
	for values, want := range map[string]int{
		"": 3, "x": 4, ".": 4, " x": 3, "xx xxxxxx": 5, ".. .xxxxx": 5, "xxxxxxxx": 11, "........": 11, ".xxxxxxx": 11, "xxxxxxxx ": 11, " ........": 3, " xxxxxxxx": 3,
		".........": 3, "x........": 4, ".xxxxxxxx": 3, "xxxxxxxx.": 11, "xxxx.xxx.": 7, "xxxxxxx.x": 10, "xxxxxxxxx": 0, "xxxxxxxxx ": 0, "xxxxxxxxx.": 0, "xxxxxxxxx x": 0, "xxxxxxxxxx": 0, "xxxxxxxxx.x": 0,
	} {
		if key, ok := service.Place(table(values)); key != want || ok != (want != 0) {
			t.Errorf("%q: %d %t, not %d", values, key, ok, want)
		}
	}
	// A value need not be a service's to take its place, and what stands below 3 takes none.
	if key, ok := service.Place([]api.Entry{{Key: 3, Val: "junk"}, {Key: 4, Val: value("a", "b", 1)}}); key != 5 || !ok {
		t.Error(key, ok)
	}
	// A key that stands twice has its first one's value.
	l := append(table("xxxxx.xxx"), api.Entry{Key: 3}, api.Entry{Key: 8, Val: "x"})
	if key, ok := service.Place(l); key != 8 || !ok {
		t.Error(key, ok)
	}
}

// P15.1: is it up, by hand.
func TestUpByHand(t *testing.T) {
	for i, x := range []struct {
		l    []api.Entry
		want bool
	}{
		{nil, false}, {[]api.Entry{{}}, false}, {[]api.Entry{{Val: "up"}}, true}, {[]api.Entry{{Key: 0, Ver: 7, Val: "up"}, {Key: 1, Val: "gone"}}, true},
		{[]api.Entry{{Val: "gone"}}, false}, {[]api.Entry{{Val: "Up"}}, false}, {[]api.Entry{{Val: "UP"}}, false}, {[]api.Entry{{Val: "up "}}, false}, {[]api.Entry{{Val: "u"}}, false}, {[]api.Entry{{Val: "upp"}}, false}, {[]api.Entry{{Val: "up\x00"}}, false},
		{[]api.Entry{{Key: 1, Val: "up"}}, false}, {[]api.Entry{{Key: 3, Val: "up"}}, false}, {[]api.Entry{{Key: -1, Val: "up"}}, false},
		{[]api.Entry{{Key: 1, Val: "up"}, {Key: 0, Val: "up"}}, true}, {[]api.Entry{{Val: "up"}, {Val: "gone"}}, true}, {[]api.Entry{{Val: "gone"}, {Ver: 9, Val: "up"}}, false},
	} {
		if got := service.Up(x.l); got != x.want {
			t.Errorf("%d: %+v: %t", i, x.l, got)
		}
	}
}

// P15.1: addresses of each key, of each length.
func TestAddress(t *testing.T) {
	for key := -2; key < 16; key++ {
		for n := range 40 {
			v := strings.Repeat("\xfe", n)
			l := []api.Entry{{Key: 5, Val: "abcd"}, {Key: key, Ver: 3, Val: v}, {Key: 6, Val: "abcdabcdabcdabcd"}}
			got, ok := service.Address(l, key)
			if right := key == 1 && n == 4 || key == 2 && n == 16; ok != right || right && got != v || !right && got != "" {
				t.Errorf("of %d bytes at %d: %q %t", n, key, got, ok)
			}
			for other := -2; other < 16; other++ {
				if _, ok := service.Address(l, other); ok && other != key {
					t.Error(other, "has that of", key)
				}
			}
		}
	}
	for _, key := range append(edges, 3, 4, 16) {
		if got, ok := service.Address(nil, key); got != "" || ok {
			t.Error(key, got, ok)
		}
		if got, ok := service.Address([]api.Entry{{Key: key}}, key); got != "" || ok {
			t.Error(key, got, ok)
		}
	}
	// Both are told, whatever bytes they are; of a key that stands twice the first one alone.
	l := []api.Entry{{Key: 1, Val: "\x7f\x00\x00\x01"}, {Key: 2, Val: strings.Repeat("\x00", 16)}, {Key: 1, Val: "zzzz"}}
	v4, ok4 := service.Address(l, 1)
	v6, ok6 := service.Address(l, 2)
	if v4 != "\x7f\x00\x00\x01" || v6 != strings.Repeat("\x00", 16) || !ok4 || !ok6 {
		t.Errorf("%q %q", v4, v6)
	}
	if got, ok := service.Address([]api.Entry{{Key: 1, Val: "abc"}, {Key: 1, Val: "abcd"}}, 1); got != "" || ok {
		t.Error(got, ok)
	}
}

// P15.1: all calls of a table, of many tables that may be, and of lists of any keys in any order.
func TestTables(t *testing.T) {
	r := rand.New(rand.NewSource(154))
	for i := range 12000 {
		l := anyTable(r, i%2 == 0)
		holdTable(t, l)
		if again := slices.Clone(l); !slices.Equal(service.All(l), service.All(again)) {
			t.Fatalf("%+v: not the same twice", l)
		}
	}
}

// P15.1: a table goes the way of a node's: services are laid where Place says, found where Key says, and taken away.
func TestLaidAndFound(t *testing.T) {
	r := rand.New(rand.NewSource(155))
	for range 300 {
		l := []api.Entry{{Key: 0, Ver: 1, Val: "up"}}
		offered := map[int]api.Service{}
		for ver := 2; ver < 60; ver++ {
			s := anyService(r)
			s.Name, s.Proto = words[r.Intn(5)], words[r.Intn(3)]
			key, there := service.Key(l, s.Name, s.Proto)
			x := api.Entry{Key: key, Ver: ver}
			if r.Intn(3) == 0 && there {
				delete(offered, key)
			} else {
				if !there {
					x.Key, there = service.Place(l)
				}
				if !there {
					if len(offered) != 9 {
						t.Fatalf("%+v has no place", l)
					}
					continue
				}
				x.Val, _ = service.Encode(s)
				offered[x.Key] = s
			}
			l = entry.Put(l, x)
			var want []api.Service
			for key := keyFirst; key <= keyLast; key++ {
				if s, ok := offered[key]; ok {
					want = append(want, s)
				}
			}
			if got := service.All(l); !slices.Equal(got, want) || !entry.Right(l) || !service.Up(l) {
				t.Fatalf("%+v: %v, not %v", l, got, want)
			}
		}
	}
}

// spare: what must stay in the room behind a table that is handed in.
var spare = []api.Entry{{Key: 7, Ver: -771, Val: "left"}, {Key: 8, Ver: -772, Val: "alone"}}

// P15.1: what is handed in stays as it was, its spare room, too; what All answers is of its own.
func TestNewMemory(t *testing.T) {
	r := rand.New(rand.NewSource(156))
	for i := range 2000 {
		was := anyTable(r, i%2 == 0)
		l := slices.Concat(was, spare)[:len(was)]
		holdTable(t, l)
		got := service.All(l)
		want := slices.Clone(got)
		other := service.All(l)
		for k := range other[:cap(other)] {
			other[:cap(other)][k] = api.Service{Name: "wiped"}
		}
		if !slices.Equal(got, want) || !slices.Equal(l, was) || !slices.Equal(l[len(l):len(l)+len(spare)], spare) {
			t.Fatalf("%+v: changed", was)
		}
		for k := range l {
			l[k] = api.Entry{Key: 3, Val: value("wiped", "tcp", 1)}
		}
		if !slices.Equal(got, want) {
			t.Fatalf("%+v: what was answered changes with what was handed in", was)
		}
	}
}
