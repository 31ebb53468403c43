package label_test

import (
	"math/rand"
	"slices"
	"strings"
	"testing"

	"bellwether/api"
	"bellwether/label"
)

// The document's numbers, written out anew.
const (
	maxLabel  = 63
	maxDomain = 255
	errArg    = 1
	errForm   = 3
	errLong   = 4
)

const (
	small = "abcdefghijklmnopqrstuvwxyz"
	great = "ABCDEFGHIJKLMNOPQRSTUVWXYZ"
)

// plainLabels: the labels of what ends as a name does, however long it is, from its first one on.
func plainLabels(name string) ([]string, bool) {
	if name == "\x00" {
		return nil, true
	}
	if name == "" || name[0] == 0 || name[0]/64 > 0 || int(name[0]) >= len(name) {
		return nil, false
	}
	n := int(name[0])
	behind, ok := plainLabels(name[n+1:])
	if !ok {
		return nil, false
	}
	return append([]string{name[1 : n+1]}, behind...), true
}

func plainNamed(name string) ([]string, bool) {
	if len(name) >= 256 {
		return nil, false
	}
	return plainLabels(name)
}

// plainJoin: first what is empty, then what is too long, then all at once.
func plainJoin(labels []string) (string, api.Errno) {
	if slices.Contains(labels, "") {
		return "", errForm
	}
	all := 1
	for _, l := range labels {
		all += 1 + len(l)
		if len(l) >= 64 {
			return "", errLong
		}
	}
	if all >= 256 {
		return "", errLong
	}
	out := ""
	for _, l := range labels {
		out += string([]byte{byte(len(l))}) + l
	}
	return out + "\x00", 0
}

// plainParts: byte by byte; what stands behind the last dot is a part if there is anything.
func plainParts(text string) []string {
	if text == "." {
		return nil
	}
	var l []string
	part := []byte{}
	for i := range len(text) {
		if text[i] == '.' {
			l = append(l, string(part))
			part = part[:0]
			continue
		}
		part = append(part, text[i])
	}
	if len(part) > 0 {
		l = append(l, string(part))
	}
	return l
}

func plainOf(text string) (string, api.Errno) { return plainJoin(plainParts(text)) }

func plainText(name string) (string, api.Errno) {
	labels, ok := plainNamed(name)
	if !ok {
		return "", errArg
	}
	out := ""
	for _, l := range labels {
		if strings.IndexByte(l, '.') >= 0 {
			return "", errForm
		}
		out += l + "."
	}
	if out == "" {
		out = "."
	}
	return out, 0
}

// plainSmall: each great letter of a label in the place that it has among the small ones.
func plainSmall(l string) string {
	b := []byte(l)
	for i := range b {
		if k := strings.IndexByte(great, b[i]); k >= 0 {
			b[i] = small[k]
		}
	}
	return string(b)
}

func plainLower(name string) string {
	labels, ok := plainNamed(name)
	if !ok {
		return name
	}
	for i := range labels {
		labels[i] = plainSmall(labels[i])
	}
	out, _ := plainJoin(labels)
	return out
}

// plainUnder: the labels one by one, from the last ones on.
func plainUnder(name, top string) bool {
	l, right := plainNamed(name)
	last, rightToo := plainNamed(top)
	if !right || !rightToo || len(l) < len(last) {
		return false
	}
	for i := 1; i <= len(last); i++ {
		if plainSmall(l[len(l)-i]) != plainSmall(last[len(last)-i]) {
			return false
		}
	}
	return true
}

// plainSame: each is under the other one.
func plainSame(a, b string) bool { return plainUnder(a, b) && plainUnder(b, a) }

// holdName: all calls of one text of bytes against the plain working-outs; P16.2 of what is a name.
func holdName(t *testing.T, name string) bool {
	t.Helper()
	want, right := plainNamed(name)
	labels := label.Labels(name)
	if label.Right(name) != right || !slices.Equal(labels, want) {
		t.Fatalf("%q: %t %q, not %t %q", name, label.Right(name), labels, right, want)
	}
	text, e := label.Text(name)
	if want, f := plainText(name); text != want || e != f {
		t.Fatalf("%q: text %q %d, not %q %d", name, text, e, want, f)
	}
	low := label.Lower(name)
	if want := plainLower(name); low != want {
		t.Fatalf("%q: lower %q, not %q", name, low, want)
	}
	if label.Same(name, name) != right || label.Same(name, low) != right || label.Same(low, name) != right || label.Under(name, low) != right || label.Under(name, "\x00") != right {
		t.Fatalf("%q: %t, but not so beside itself", name, right)
	}
	if !right {
		return false
	}
	if back, f := label.Join(labels); back != name || f != 0 {
		t.Fatalf("%q: its labels joined are %q %d", name, back, f)
	}
	if back, f := label.Of(text); e == 0 && (back != name || f != 0) {
		t.Fatalf("%q: its text's name is %q %d", name, back, f)
	}
	return true
}

// holdJoin: Join against the plain working-out; P16.2 of what is joined.
func holdJoin(t *testing.T, labels []string) api.Errno {
	t.Helper()
	name, e := label.Join(labels)
	if want, f := plainJoin(labels); name != want || e != f {
		t.Fatalf("%q: %q %d, not %q %d", labels, name, e, want, f)
	}
	if e == 0 && (!label.Right(name) || !slices.Equal(label.Labels(name), labels)) {
		t.Fatalf("%q: joined as %q, of %q", labels, name, label.Labels(name))
	}
	return e
}

// holdOf: Of against the plain working-out, and what its name's text is.
func holdOf(t *testing.T, text string) api.Errno {
	t.Helper()
	name, e := label.Of(text)
	if want, f := plainOf(text); name != want || e != f {
		t.Fatalf("%q: %q %d, not %q %d", text, name, e, want, f)
	}
	if e != 0 {
		return e
	}
	if back, f := label.Text(name); back != strings.TrimSuffix(text, ".")+"." || f != 0 {
		t.Fatalf("%q: %q, whose text is %q %d", text, name, back, f)
	}
	holdName(t, name)
	return 0
}

// holdPair: Same and Under, both ways, against the plain working-outs.
func holdPair(t *testing.T, a, b string) {
	t.Helper()
	if got := label.Under(a, b); got != plainUnder(a, b) {
		t.Fatalf("%q under %q: %t", a, b, got)
	}
	if got := label.Under(b, a); got != plainUnder(b, a) {
		t.Fatalf("%q under %q: %t", b, a, got)
	}
	if got := label.Same(a, b); got != plainSame(a, b) || got != label.Same(b, a) {
		t.Fatalf("%q, %q the same: %t", a, b, got)
	}
}

// lists: all lists of these things up to that many.
func lists(things []string, most int) [][]string {
	all := [][]string{nil}
	last := all
	for range most {
		var next [][]string
		for _, l := range last {
			for _, x := range things {
				next = append(next, append(slices.Clone(l), x))
			}
		}
		all = append(all, next...)
		last = next
	}
	return all
}

// sized: labels of these lengths, their letters one behind the other.
func sized(lengths ...int) []string {
	var l []string
	for i, n := range lengths {
		l = append(l, strings.Repeat(string(small[i%26]), n))
	}
	return l
}

// bytesOf: what labels are joined to, whether it may be or not.
func bytesOf(labels ...string) string {
	out := ""
	for _, l := range labels {
		out += string([]byte{byte(len(l))}) + l
	}
	return out + "\x00"
}

// anyLabel: one of up to that many bytes; of letters, or of any bytes.
func anyLabel(r *rand.Rand, most int) string {
	b := make([]byte, 1+r.Intn(most))
	from := small + great + small + "0123456789-_@[`{"
	for i := range b {
		b[i] = from[r.Intn(len(from))]
	}
	switch r.Intn(4) {
	case 0:
		r.Read(b)
	case 1:
		b[r.Intn(len(b))] = []byte{0, 1, '.', 'A', 'Z', 63, 64, 0x80, 0xc0, 0xff}[r.Intn(10)]
	}
	return string(b)
}

// anyLabels: some that are short, or that may be too long together.
func anyLabels(r *rand.Rand) []string {
	most := []int{1, 2, 5, 20, 63}[r.Intn(5)]
	var l []string
	for range r.Intn(1 + 2*min(130, maxDomain/most)) {
		l = append(l, anyLabel(r, most))
	}
	if len(l) > 0 && r.Intn(6) == 0 {
		l[r.Intn(len(l))] = []string{"", strings.Repeat("x", 63), strings.Repeat("x", 64), strings.Repeat("x", 300)}[r.Intn(4)]
	}
	return l
}

// turned: a name whose letters' size is turned at some places.
func turned(r *rand.Rand, name string) string {
	labels, _ := plainLabels(name)
	for i, l := range labels {
		b := []byte(l)
		for k, c := range b {
			if strings.IndexByte(small+great, c) >= 0 && r.Intn(2) == 0 {
				b[k] = c ^ 0x20
			}
		}
		labels[i] = string(b)
	}
	return bytesOf(labels...)
}

// broken: what is nearly the name that is handed in.
func broken(r *rand.Rand, name string) string {
	b := []byte(name)
	at := r.Intn(len(b))
	switch r.Intn(6) {
	case 0:
		return name[:at]
	case 1:
		b[at] = byte(r.Intn(256))
	case 2:
		b[at] ^= 1 << r.Intn(8)
	case 3:
		return string(slices.Insert(b, at, byte(r.Intn(256))))
	case 4:
		return string(slices.Delete(b, at, at+1))
	default:
		return name + string([]byte{byte(r.Intn(3))})
	}
	return string(b)
}

// names: those that are names, and those that aren't, written out.
var names = []string{
	"\x00", "\x01a\x00", "\x01a\x02bc\x00", "\x01A\x02bC\x00", "\x01\x00\x00", "\x02\x00\x00\x00", "\x01\x01\x00", "\x01.\x00", "\x02a.\x00", "\x03...\x00", "\x01\xff\x00",
	"\x3f" + strings.Repeat("a", 63) + "\x00", "\x2e" + strings.Repeat("a", 46) + "\x00", "\x05_http\x04_tcp\x01x\x00", strings.Repeat("\x01a", 127) + "\x00",
}

var noNames = []string{
	"", "\x01", "a", "A", "\x01a", "\x01A", "\x02a\x00", "\x02A\x00", "\x02a\x00\x01", "\x01a\x00\x00", "\x00\x00", "\x00\x01", "\x00\x01a\x00", "\x01a\x00\x01b\x00", "\x01\x00", "\x02\x00\x00", "\xc0\x0c", "\x01a\xc0\x00", "\x40\x00", "\x80\x00", "\xff\x00", ".", "a.", "A.B",
	"\x3f" + strings.Repeat("a", 62) + "\x00", "\x3f" + strings.Repeat("a", 64) + "\x00", "\x40" + strings.Repeat("a", 64) + "\x00", "\x41" + strings.Repeat("A", 65) + "\x00", "\xc0" + strings.Repeat("a", 192) + "\x00",
	strings.Repeat("\x01a", 127), strings.Repeat("\x01a", 127) + "\x00\x00", strings.Repeat("\x01a", 127) + "\x01\x00", strings.Repeat("\x01a", 128) + "\x00", strings.Repeat("\x01A", 128) + "\x00", strings.Repeat("\x01a", 126) + "\x02ab\x00" + "\x00",
}

// P16.1: Right by hand; every other call of what is no name tells nothing of it.
func TestRightByHand(t *testing.T) {
	for _, n := range names {
		if !holdName(t, n) {
			t.Errorf("%q is none", n)
		}
	}
	for _, n := range noNames {
		if holdName(t, n) {
			t.Errorf("%q is one", n)
		}
		if l := label.Labels(n); len(l) != 0 || label.Lower(n) != n {
			t.Errorf("%q: labels %q, lower %q", n, l, label.Lower(n))
		}
		if s, e := label.Text(n); s != "" || e != api.ErrArg {
			t.Errorf("%q: text %q %d", n, s, e)
		}
		for _, m := range slices.Concat(names, noNames) {
			if label.Same(n, m) || label.Same(m, n) || label.Under(n, m) || label.Under(m, n) {
				t.Errorf("%q, no name, is the same as, under or over %q", n, m)
			}
		}
	}
}

// P16.1: each length of one label, alone, ahead of and behind others; each length of all.
func TestRightOfLengths(t *testing.T) {
	for n := range 256 {
		b := string([]byte{byte(n)}) + strings.Repeat("m", n)
		for _, s := range []string{b + "\x00", "\x01a" + b + "\x00", b + "\x01a\x00"} {
			if got := holdName(t, s); got != (n >= 1 && n <= maxLabel) {
				t.Errorf("%q: %t", s, got)
			}
		}
		if holdName(t, b) != (n == 0) || holdName(t, b+"m\x00") {
			t.Errorf("%q, or with a byte more, is one", b)
		}
	}
	for n := range 70 {
		for _, ahead := range []int{60, 61, 62, 63} {
			l := sized(63, 63, ahead, n)
			if n == 0 {
				l = l[:3]
			}
			s := bytesOf(l...)
			if got := holdName(t, s); got != (n <= maxLabel && len(s) <= maxDomain) {
				t.Errorf("of %d and %d bytes, %d in all: %t", ahead, n, len(s), got)
			}
		}
	}
}

// P16.1: all short texts of bytes at which something turns.
func TestRightOfAllSmall(t *testing.T) {
	for _, l := range lists([]string{"\x00", "\x01", "\x02", "\x03", ".", "a", "A", "\x3f", "\x40", "\xc0"}, 5) {
		holdName(t, strings.Join(l, ""))
	}
	for _, l := range lists([]string{"\x00", "\x01", "\x02", "\x03"}, 8) {
		holdName(t, strings.Join(l, ""))
	}
}

// P16.1: each byte at each place of names.
func TestRightOfAllBytes(t *testing.T) {
	for _, n := range []string{"\x00", "\x03abc\x00", "\x01A\x02bC\x03x.y\x00", "\x06ABC\x02ab\x01z\x00", bytesOf(sized(63, 63, 63, 61)...), bytesOf(sized(46, 65-2, 1, 45)...)} {
		b := []byte(n)
		for i := range b {
			was := b[i]
			for c := range 256 {
				b[i] = byte(c)
				holdName(t, string(b))
			}
			b[i] = was
		}
	}
}

// P16.1: Labels, Text, Lower by hand.
func TestNameByHand(t *testing.T) {
	for _, x := range []struct {
		name   string
		labels []string
		text   string
		e      api.Errno
		low    string
	}{
		{"\x00", nil, ".", api.OK, "\x00"},
		{"\x01a\x02bc\x00", []string{"a", "bc"}, "a.bc.", api.OK, "\x01a\x02bc\x00"},
		{"\x01A\x02bC\x00", []string{"A", "bC"}, "A.bC.", api.OK, "\x01a\x02bc\x00"},
		{"\x04AZaz\x00", []string{"AZaz"}, "AZaz.", api.OK, "\x04azaz\x00"},
		{"\x04@[`{\x00", []string{"@[`{"}, "@[`{.", api.OK, "\x04@[`{\x00"},
		{"\x02\xc3\x89\x00", []string{"\u00c9"}, "\u00c9.", api.OK, "\x02\xc3\x89\x00"},
		{"\x03\u212a\x02\u0130\x00", []string{"\u212a", "\u0130"}, "\u212a.\u0130.", api.OK, "\x03\u212a\x02\u0130\x00"},
		{"\x03A\xffB\x00", []string{"A\xffB"}, "A\xffB.", api.OK, "\x03a\xffb\x00"},
		{"\x02\x01A\x00", []string{"\x01A"}, "\x01A.", api.OK, "\x02\x01a\x00"},
		{"\x02\x00A\x00", []string{"\x00A"}, "\x00A.", api.OK, "\x02\x00a\x00"},
		{"\x01.\x00", []string{"."}, "", api.ErrForm, "\x01.\x00"},
		{"\x03A.B\x01c\x00", []string{"A.B", "c"}, "", api.ErrForm, "\x03a.b\x01c\x00"},
		{"\x01c\x02.B\x00", []string{"c", ".B"}, "", api.ErrForm, "\x01c\x02.b\x00"},
		{"\x01c\x02B.\x01d\x00", []string{"c", "B.", "d"}, "", api.ErrForm, "\x01c\x02b.\x01d\x00"},
		{"\x2e" + strings.Repeat("M", 46) + "\x00", []string{strings.Repeat("M", 46)}, strings.Repeat("M", 46) + ".", api.OK, "\x2e" + strings.Repeat("m", 46) + "\x00"},
	} {
		if l := label.Labels(x.name); !slices.Equal(l, x.labels) {
			t.Errorf("%q: labels %q", x.name, l)
		}
		if s, e := label.Text(x.name); s != x.text || e != x.e {
			t.Errorf("%q: text %q %d", x.name, s, e)
		}
		if s := label.Lower(x.name); s != x.low {
			t.Errorf("%q: lower %q", x.name, s)
		}
		holdName(t, x.name)
	}
}

// P16.1: Of by hand.
func TestOfByHand(t *testing.T) {
	most := strings.Repeat("a", 63)
	long := strings.Repeat(most+".", 3)
	for text, want := range map[string]string{
		"": "\x00", ".": "\x00", "a": "\x01a\x00", "a.": "\x01a\x00", "a.bc": "\x01a\x02bc\x00", "a.bc.": "\x01a\x02bc\x00", "A.bC": "\x01A\x02bC\x00", "a.b.c.": "\x01a\x01b\x01c\x00", " ": "\x01 \x00", "\x00.\x01": "\x01\x00\x01\x01\x00", "\u3002.\xff.": "\x03\u3002\x01\xff\x00", "a\\.b": "\x02a\\\x01b\x00",
		most: "\x3f" + most + "\x00", most + ".": "\x3f" + most + "\x00", long + most[:61]: strings.Repeat("\x3f"+most, 3) + "\x3d" + most[:61] + "\x00", long + most[:61] + ".": strings.Repeat("\x3f"+most, 3) + "\x3d" + most[:61] + "\x00", strings.Repeat("b.", 127): strings.Repeat("\x01b", 127) + "\x00",
	} {
		if n, e := label.Of(text); n != want || e != api.OK || holdOf(t, text) != 0 {
			t.Errorf("%q: %q %d", text, n, e)
		}
	}
	for text, want := range map[string]api.Errno{
		"..": errForm, "...": errForm, "....": errForm, ".a": errForm, ".a.": errForm, "a..": errForm, "a..b": errForm, "a.b..": errForm, "..a": errForm, "a...b": errForm,
		most + "a": errLong, most + "a.": errLong, "b." + most + "a": errLong, most + "a.b": errLong, long + most[:62]: errLong, long + most[:62] + ".": errLong, strings.Repeat("b.", 127) + "b": errLong, strings.Repeat("b.", 128): errLong, strings.Repeat("b.", 126) + "bc.": errLong,
		most + "a..": errForm, "." + most + "a": errForm, most + "a..b": errForm, strings.Repeat("b.", 127) + ".": errForm, strings.Repeat("b.", 500) + ".c": errForm, "." + strings.Repeat("b.", 500): errForm,
	} {
		if n, e := label.Of(text); n != "" || e != want || holdOf(t, text) != want {
			t.Errorf("%q: %q %d, not %d", text, n, e, want)
		}
	}
}

// P16.1, P16.2: all short texts of dots and letters; each byte in them.
func TestOfAllSmall(t *testing.T) {
	for _, l := range lists([]string{".", "a", "B"}, 8) {
		holdOf(t, strings.Join(l, ""))
	}
	for c := range 256 {
		s := string([]byte{byte(c)})
		for _, text := range []string{s, s + "a", "a" + s, "a" + s + "b", "a." + s, s + ".a.", "a.b" + s + "c", s + s, s + "." + s} {
			holdOf(t, text)
		}
	}
}

// P16.1, P16.2: texts of each length, of labels of one length each, with a dot at their end and without, whole and with an empty label.
func TestOfLengths(t *testing.T) {
	for part := 1; part <= 65; part++ {
		for many := 0; many*(part+1) < 270; many++ {
			for rest := range part {
				text := strings.Repeat(strings.Repeat("p", part)+".", many) + strings.Repeat("q", rest)
				e := holdOf(t, text)
				if f := holdOf(t, strings.TrimSuffix(text, ".")+"."); f != e {
					t.Errorf("%q: %d, and with another dot %d", text, e, f)
				}
				if holdOf(t, text+"..") != errForm || holdOf(t, "."+text+"r") != errForm {
					t.Errorf("%q: an empty label isn't told", text)
				}
			}
		}
	}
}

// P16.1: Join by hand.
func TestJoinByHand(t *testing.T) {
	most := strings.Repeat("x", 63)
	for _, x := range []struct {
		labels []string
		want   string
		e      api.Errno
	}{
		{nil, "\x00", api.OK},
		{[]string{}, "\x00", api.OK},
		{[]string{"a", "bc"}, "\x01a\x02bc\x00", api.OK},
		{[]string{"."}, "\x01.\x00", api.OK},
		{[]string{"a.b", "\x00"}, "\x03a.b\x01\x00\x00", api.OK},
		{[]string{most}, "\x3f" + most + "\x00", api.OK},
		{[]string{most, most, most, most[:61]}, strings.Repeat("\x3f"+most, 3) + "\x3d" + most[:61] + "\x00", api.OK},
		{[]string{most, most, most, most[:62]}, "", api.ErrLong},
		{[]string{most, most, most, most}, "", api.ErrLong},
		{slices.Repeat([]string{"a"}, 127), strings.Repeat("\x01a", 127) + "\x00", api.OK},
		{slices.Repeat([]string{"a"}, 128), "", api.ErrLong},
		{append(slices.Repeat([]string{"a"}, 126), "ab"), "", api.ErrLong},
		{[]string{""}, "", api.ErrForm},
		{[]string{"a", ""}, "", api.ErrForm},
		{[]string{"", "a"}, "", api.ErrForm},
		{[]string{"a", "", "b"}, "", api.ErrForm},
		{[]string{most + "x"}, "", api.ErrLong},
		{[]string{"a", most + "x", "b"}, "", api.ErrLong},
		{[]string{most + "x", ""}, "", api.ErrForm},
		{[]string{"", most + "x"}, "", api.ErrForm},
		{append(slices.Repeat([]string{"a"}, 300), ""), "", api.ErrForm},
		{[]string{strings.Repeat("a", 256)}, "", api.ErrLong},
		{[]string{strings.Repeat("a", 257)}, "", api.ErrLong},
		{[]string{strings.Repeat("a", 512)}, "", api.ErrLong},
	} {
		if n, e := label.Join(x.labels); n != x.want || e != x.e || holdJoin(t, x.labels) != x.e {
			t.Errorf("%q: %q %d", x.labels, n, e)
		}
	}
}

// P16.1, P16.2: all lists of up to four labels of lengths at which something turns; lists whose bytes in all are around the most.
func TestJoinOfLengths(t *testing.T) {
	for _, l := range lists([]string{"", "a", "Bc", strings.Repeat("d", 61), strings.Repeat("e", 62), strings.Repeat("f", 63), strings.Repeat("g", 64), strings.Repeat("h", 255), strings.Repeat("i", 256), strings.Repeat("j", 257)}, 4) {
		holdJoin(t, l)
	}
	for n := 1; n <= 64; n++ {
		for many := range 130 {
			l := slices.Repeat([]string{strings.Repeat("n", n)}, many)
			for _, more := range sized(1, 2, 31, 62, 63, 64) {
				holdJoin(t, append(slices.Clone(l), more))
			}
			if got, fits := holdJoin(t, l), n <= maxLabel && many*(n+1)+1 <= maxDomain; (got == 0) != (fits || many == 0) {
				t.Errorf("%d of %d bytes: %d", many, n, got)
			}
		}
	}
}

// P16.1: Lower of each byte in a label; two labels of one byte are the same just if they are one letter's.
func TestLowerOfAllBytes(t *testing.T) {
	for c := range 256 {
		want := byte(c)
		if k := strings.IndexByte(great, want); k >= 0 {
			want = small[k]
		}
		if got := label.Lower(bytesOf(string([]byte{byte(c)}))); got != bytesOf(string([]byte{want})) {
			t.Errorf("%d: %q", c, got)
		}
		for d := range 256 {
			a, b := bytesOf("x", string([]byte{byte(c)})), bytesOf("X", string([]byte{byte(d)}))
			letters := strings.IndexByte(small+great, byte(c)) >= 0 && strings.IndexByte(small+great, byte(d)) >= 0
			if got := label.Same(a, b); got != (c == d || letters && c^d == 0x20) {
				t.Errorf("%q, %q: %t", a, b, got)
			}
		}
	}
}

// P16.1: Same and Under by hand.
func TestPairsByHand(t *testing.T) {
	for i, x := range []struct {
		a, b        string
		same, under bool
	}{
		{"\x00", "\x00", true, true},
		{"\x01a\x00", "\x00", false, true},
		{"\x00", "\x01a\x00", false, false},
		{"\x01a\x00", "\x01A\x00", true, true},
		{"\x01A\x00", "\x01a\x00", true, true},
		{"\x01a\x00", "\x01b\x00", false, false},
		{"\x01a\x01b\x00", "\x01B\x00", false, true},
		{"\x01a\x01b\x00", "\x01a\x00", false, false},
		{"\x01a\x01b\x01c\x00", "\x01B\x01C\x00", false, true},
		{"\x01a\x01b\x01c\x00", "\x01a\x01b\x00", false, false},
		{"\x01a\x01b\x01c\x00", "\x01a\x01c\x00", false, false},
		{"\x01b\x00", "\x01a\x01b\x00", false, false},
		{"\x02ab\x00", "\x01b\x00", false, false},
		{"\x02\x01b\x00", "\x01b\x00", false, false},
		{"\x01a\x02\x01b\x00", "\x01b\x00", false, false},
		{"\x02ab\x00", "\x01a\x01b\x00", false, false},
		{"\x03a.b\x00", "\x01a\x01b\x00", false, false},
		{"\x01\x00\x00", "\x00", false, true},
		{"\x01@\x00", "\x01`\x00", false, false},
		{"\x01[\x00", "\x01{\x00", false, false},
		{"\x02\xc3\x89\x00", "\x02\xc3\xa9\x00", false, false},
		{"\x02\xc5\xbf\x00", "\x01s\x00", false, false},
		{"\x01\xff\x00", "\x01\xfe\x00", false, false},
		{bytesOf(sized(63, 63, 63, 61)...), bytesOf(sized(63, 63, 63, 61)...), true, true},
		{"\x01a\x00", "", false, false},
		{"\x01a\x00", "\x01a", false, false},
		{"\x01a\x00", "a.", false, false},
		{"\x01a\x00\x00", "\x00", false, false},
		{"", "", false, false},
		{"x", "\x00", false, false},
		{"\x00", "x", false, false},
	} {
		if label.Same(x.a, x.b) != x.same || label.Same(x.b, x.a) != x.same || label.Under(x.a, x.b) != x.under {
			t.Errorf("%d: %q, %q: %t %t %t", i, x.a, x.b, label.Same(x.a, x.b), label.Same(x.b, x.a), label.Under(x.a, x.b))
		}
		holdPair(t, x.a, x.b)
	}
}

// P16.1: Same and Under of all pairs of short names, of labels that look like names, too, and of what is none.
func TestPairsOfAllSmall(t *testing.T) {
	all := slices.Concat(names, noNames)
	for _, l := range lists([]string{"a", "A", "b", "aB", "\x01a", "\x01a\x00"}, 3) {
		all = append(all, bytesOf(l...))
	}
	for i, a := range all {
		for _, b := range all[i:] {
			holdPair(t, a, b)
		}
	}
}

// P16.1, P16.2: names of any kind, turned and broken ones, and their texts.
func TestNamesOfAny(t *testing.T) {
	r := rand.New(rand.NewSource(161))
	for range 5000 {
		l := anyLabels(r)
		if holdJoin(t, l) != 0 {
			continue
		}
		n := bytesOf(l...)
		holdName(t, n)
		holdName(t, broken(r, n))
		other := turned(r, n)
		if !label.Same(n, other) || !label.Under(n, other) || label.Lower(n) != label.Lower(other) {
			t.Fatalf("%q, %q: not the same", n, other)
		}
		holdPair(t, n, broken(r, other))
		k := r.Intn(len(l) + 1)
		holdPair(t, n, turned(r, bytesOf(l[k:]...)))
		holdPair(t, n, turned(r, bytesOf(l[:k]...)))
		if !label.Under(n, turned(r, bytesOf(l[k:]...))) {
			t.Fatalf("%q: not under what it ends with, from %d on", n, k)
		}
		holdOf(t, strings.Join(l, "."))
	}
}

// P16.1: bytes of any kind.
func TestBytesOfAny(t *testing.T) {
	r := rand.New(rand.NewSource(162))
	for range 100000 {
		b := make([]byte, r.Intn(20))
		for i := range b {
			b[i] = []byte{0, 1, 2, 3, 5, '.', 'a', 'B', byte(r.Intn(256))}[r.Intn(9)]
		}
		holdName(t, string(b))
		holdOf(t, string(b))
	}
}

// P16.1: what is very long ends, too, and an empty label at its very end is told.
func TestVeryLong(t *testing.T) {
	const many = 1 << 21
	ones := strings.Repeat("\x01A", many) + "\x00"
	if label.Right(ones) || label.Lower(ones) != ones || len(label.Labels(ones)) != 0 || label.Same(ones, ones) || label.Under(ones, "\x00") || label.Under("\x00", ones) {
		t.Error("a very long name")
	}
	if s, e := label.Text(ones); s != "" || e != errArg {
		t.Error("text", e)
	}
	text := strings.Repeat("a.", many)
	for s, want := range map[string]api.Errno{text: errLong, text + "b": errLong, text + ".": errForm, "." + text: errForm, strings.Repeat("a", many): errLong, strings.Repeat(".", many): errForm} {
		if n, e := label.Of(s); n != "" || e != want {
			t.Errorf("of %d bytes: %d, not %d", len(s), e, want)
		}
	}
	l := slices.Repeat([]string{"a"}, many)
	if n, e := label.Join(l); n != "" || e != errLong {
		t.Error("join", e)
	}
	l[many-1] = ""
	if n, e := label.Join(l); n != "" || e != errForm {
		t.Error("join, with an empty one at last", e)
	}
}

// P16.1: what is handed in stays as it was, its spare room, too; what Labels answers is of its own.
func TestNewMemory(t *testing.T) {
	r := rand.New(rand.NewSource(163))
	spare := []string{"left", "", "alone"}
	for range 3000 {
		was := anyLabels(r)
		l := slices.Concat(was, spare)[:len(was)]
		name, _ := label.Join(l)
		if !slices.Equal(l, was) || !slices.Equal(l[len(l):len(l)+len(spare)], spare) {
			t.Fatalf("%q: changed", was)
		}
		got, other := label.Labels(name), label.Labels(name)
		want := slices.Clone(got)
		for k := range other[:cap(other)] {
			other[:cap(other)][k] = "wiped"
		}
		for k := range l {
			l[k] = "wiped"
		}
		if !slices.Equal(got, want) || !slices.Equal(label.Labels(name), want) {
			t.Fatalf("%q: changes with another answer, or with what was handed in", name)
		}
	}
}
