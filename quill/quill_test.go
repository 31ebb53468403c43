package quill_test

import (
	"bytes"
	"math"
	"math/rand"
	"strconv"
	"strings"
	"testing"

	"bellwether/api"
	"bellwether/quill"
)

const greatest = 1 << 62

// edges: numbers at which their bytes become more, and what is beside them.
func edges() []int {
	l := []int{0, 1, 2, 64, 255, 256, 300, 1 << 32, 1<<32 - 1, greatest - 1, greatest}
	for k := 7; k < 63; k += 7 {
		l = append(l, 1<<k-1, 1<<k, 1<<k+1)
	}
	return l
}

// noNumbers: what has no bytes.
func noNumbers() []int {
	return []int{-1, -2, -128, math.MinInt, greatest + 1, greatest + 128, math.MaxInt}
}

// plain: a number's bytes, worked out from its digits in base 2, so by another way than the program's.
func plain(n int) []byte {
	digits := strconv.FormatInt(int64(n), 2)
	for len(digits)%7 != 0 {
		digits = "0" + digits
	}
	var out []byte
	for end := len(digits); end > 0; end -= 7 {
		v, err := strconv.ParseUint(digits[end-7:end], 2, 8)
		if err != nil {
			panic(err)
		}
		if end > 7 {
			v += 128
		}
		out = append(out, byte(v))
	}
	return out
}

// plainTake: what Take must answer, by trying how many bytes there are.
func plainTake(b []byte) (n int, rest []byte, e api.Errno) {
	end := bytes.IndexFunc(b, func(r rune) bool { return r < 128 }) // no byte of a greater rune is below 128
	switch {
	case (end < 0 && len(b) >= 9) || end >= 9:
		return 0, nil, api.ErrForm
	case end < 0:
		return 0, nil, api.ErrShort
	case end > 0 && b[end] == 0:
		return 0, nil, api.ErrForm
	}
	for i := end; i >= 0; i-- {
		n = n*128 + int(b[i]%128)
	}
	if n > greatest {
		return 0, nil, api.ErrForm
	}
	return n, b[end+1:], api.OK
}

func TestSize(t *testing.T) {
	for _, n := range edges() {
		if got, want := quill.Size(n), len(plain(n)); got != want {
			t.Errorf("Size(%d) = %d, not %d", n, got, want)
		}
	}
	for _, n := range noNumbers() {
		if got := quill.Size(n); got != 0 {
			t.Errorf("Size(%d) = %d, not 0", n, got)
		}
	}
	for n, want := range map[int]int{0: 1, 127: 1, 128: 2, 1<<14 - 1: 2, 1 << 14: 3, 1<<56 - 1: 8, 1 << 56: 9, greatest: 9} {
		if got := quill.Size(n); got != want {
			t.Errorf("Size(%d) = %d, not %d", n, got, want)
		}
	}
}

func TestNumOfOne(t *testing.T) {
	for n, want := range map[int]string{
		0: "\x00", 1: "\x01", 127: "\x7f", 128: "\x80\x01", 300: "\xac\x02", 16383: "\xff\x7f", 16384: "\x80\x80\x01",
		greatest - 1: "\xff\xff\xff\xff\xff\xff\xff\xff\x3f", greatest: "\x80\x80\x80\x80\x80\x80\x80\x80\x40",
	} {
		if got := quill.Num(nil, n); string(got) != want {
			t.Errorf("Num(nil, %d) = %x, not %x", n, got, want)
		}
	}
	for _, n := range edges() {
		if got, want := quill.Num(nil, n), plain(n); !bytes.Equal(got, want) {
			t.Errorf("Num(nil, %d) = %x, not %x", n, got, want)
		}
	}
	for _, n := range noNumbers() {
		if got := quill.Num([]byte{7}, n); string(got) != "\x07" {
			t.Errorf("Num([7], %d) = %x, not 07", n, got)
		}
	}
}

func TestNumOfSeveral(t *testing.T) {
	for i, c := range []struct {
		b    string
		l    []int
		want string
	}{
		{"", nil, ""},
		{"ab", nil, "ab"},
		{"ab", []int{}, "ab"},
		{"", []int{0, 0}, "\x00\x00"},
		{"a", []int{1, 300, 127, 128}, "a\x01\xac\x02\x7f\x80\x01"},
		{"a", []int{-1, 5, greatest + 1, 6, math.MinInt}, "a\x05\x06"},
		{"a", []int{-1, -2, math.MaxInt}, "a"},
	} {
		if got := quill.Num([]byte(c.b), c.l...); string(got) != c.want {
			t.Errorf("%d: %x, not %x", i, got, c.want)
		}
	}
}

func TestText(t *testing.T) {
	for i, c := range []struct{ b, s, want string }{
		{"", "", "\x00"},
		{"a", "", "a\x00"},
		{"", "abc", "\x03abc"},
		{"\x01\x02", "\x00\xff\x80", "\x01\x02\x03\x00\xff\x80"},
		{"", strings.Repeat("x", 127), "\x7f" + strings.Repeat("x", 127)},
		{"", strings.Repeat("x", 128), "\x80\x01" + strings.Repeat("x", 128)},
		{"", "\u00e9", "\x02\xc3\xa9"},
	} {
		if got := quill.Text([]byte(c.b), c.s); string(got) != c.want {
			t.Errorf("%d: %x, not %x", i, got, c.want)
		}
	}
}

// TestNewMemory: what is handed in stays as it was, the room behind it too, and an answer shares nothing with it.
func TestNewMemory(t *testing.T) {
	lay := map[string]func(b []byte) []byte{
		"Num":         func(b []byte) []byte { return quill.Num(b, 300, 5) },
		"Num of none": func(b []byte) []byte { return quill.Num(b) },
		"Num of -1":   func(b []byte) []byte { return quill.Num(b, -1) },
		"Text":        func(b []byte) []byte { return quill.Text(b, "xyz") },
		"Text of ''":  func(b []byte) []byte { return quill.Text(b, "") },
	}
	for name, f := range lay {
		for k := range 4 {
			whole := []byte("abcdefghijklmnop")
			before := string(whole)
			got := f(whole[:k])
			if string(whole) != before {
				t.Errorf("%s: %d: handed in %q, became %q", name, k, before, whole)
			}
			got = got[:cap(got)]
			for i := range got {
				got[i] = '!'
			}
			if string(whole) != before {
				t.Errorf("%s: %d: the answer shares memory with what was handed in: %q", name, k, whole)
			}
		}
	}
	l := []int{1, -1, 300}
	quill.Num(nil, l...)
	if l[0] != 1 || l[1] != -1 || l[2] != 300 {
		t.Error("Num changed its numbers:", l)
	}
}

// TestRestLeavesTheBytes: more that is laid behind a rest does not get into the room behind what was handed in, nor is that changed by taking.
func TestRestLeavesTheBytes(t *testing.T) {
	whole := []byte("\x02ab\x01cdef")
	before := string(whole)
	_, rest, e := quill.Take(whole[:4])
	if e != api.OK || string(rest) != "ab\x01" {
		t.Fatal(rest, e)
	}
	_ = append(rest, '!')
	_, rest, e = quill.TakeText(whole[:4], 9)
	if e != api.OK || string(rest) != "\x01" {
		t.Fatal(rest, e)
	}
	_ = append(rest, '!')
	if string(whole) != before {
		t.Errorf("handed in %q, became %q", before, whole)
	}
}

// TestTakenTextIsItsOwn: a text stays as it was taken.
func TestTakenTextIsItsOwn(t *testing.T) {
	b := []byte("\x02ab")
	s, _, _ := quill.TakeText(b, 2)
	b[1] = '!'
	if s != "ab" {
		t.Errorf("%q, not ab", s)
	}
}

func checkTake(t *testing.T, b []byte) {
	t.Helper()
	n, rest, e := quill.Take(b)
	wantN, wantRest, wantE := plainTake(b)
	if n != wantN || e != wantE || !bytes.Equal(rest, wantRest) {
		t.Fatalf("Take(%x) = %d, %x, %d, not %d, %x, %d", b, n, rest, e, wantN, wantRest, wantE)
	}
	if e == api.OK && !bytes.Equal(quill.Num(nil, n), b[:len(b)-len(rest)]) {
		t.Fatalf("Take(%x) = %d: it was taken of other bytes than it has", b, n)
	}
	if e != api.OK && len(rest) != 0 {
		t.Fatalf("Take(%x): a rest beside error %d", b, e)
	}
}

func TestTake(t *testing.T) {
	full := strings.Repeat("\x80", 8)
	for i, c := range []struct {
		b    string
		n    int
		rest string
		e    api.Errno
	}{
		{"", 0, "", api.ErrShort},
		{"\x00", 0, "", api.OK},
		{"\x00\x00", 0, "\x00", api.OK},
		{"\x7f\xff", 127, "\xff", api.OK},
		{"\xac\x02", 300, "", api.OK},
		{"\xac\x02\x09\x08", 300, "\x09\x08", api.OK},
		{"\xac", 0, "", api.ErrShort},
		{"\x80", 0, "", api.ErrShort},
		{"\x80\x00", 0, "", api.ErrForm},
		{"\x80\x00\x05", 0, "", api.ErrForm},
		{"\xff\x00", 0, "", api.ErrForm},
		{"\x81\x80\x00", 0, "", api.ErrForm},
		{full, 0, "", api.ErrShort},
		{full + "\x00", 0, "", api.ErrForm},
		{full + "\x01", 1 << 56, "", api.OK},
		{full + "\x40z", greatest, "z", api.OK},
		{"\x81" + full[1:] + "\x40", 0, "", api.ErrForm},
		{full[1:] + "\x81\x40", 0, "", api.ErrForm},
		{full + "\x41", 0, "", api.ErrForm},
		{full + "\x7f", 0, "", api.ErrForm},
		{strings.Repeat("\xff", 8) + "\x3f", greatest - 1, "", api.OK},
		{strings.Repeat("\xff", 8) + "\x7f", 0, "", api.ErrForm},
		{full + "\x80", 0, "", api.ErrForm},
		{full + "\x80\x00", 0, "", api.ErrForm},
		{full + "\x80\x01", 0, "", api.ErrForm},
		{full + "\xc0", 0, "", api.ErrForm},
	} {
		n, rest, e := quill.Take([]byte(c.b))
		if n != c.n || string(rest) != c.rest || e != c.e {
			t.Errorf("%d: Take(%x) = %d, %x, %d, not %d, %x, %d", i, c.b, n, rest, e, c.n, c.rest, c.e)
		}
		checkTake(t, []byte(c.b))
	}
	if _, _, e := quill.Take(nil); e != api.ErrShort {
		t.Error("Take(nil):", e)
	}
}

// TestTakeOfAllShort: all bytes of a length up to 3 (where there are three, with some last ones).
func TestTakeOfAllShort(t *testing.T) {
	for a := range 256 {
		checkTake(t, []byte{byte(a)})
		for b := range 256 {
			checkTake(t, []byte{byte(a), byte(b)})
			for _, c := range []byte{0, 1, 2, 127, 128, 129, 255} {
				checkTake(t, []byte{byte(a), byte(b), c})
			}
		}
	}
}

// TestTakeOfMany: bytes most of which go on, so that numbers of all lengths, and longer ones, come.
func TestTakeOfMany(t *testing.T) {
	r := rand.New(rand.NewSource(1))
	for range 200000 {
		b := make([]byte, r.Intn(13))
		for i := range b {
			b[i] = byte(r.Intn(256))
			if r.Intn(8) != 0 {
				b[i] |= 128
			}
		}
		checkTake(t, b)
	}
}

func TestTakeText(t *testing.T) {
	long := strings.Repeat("y", 300)
	for i, c := range []struct {
		b    string
		most int
		s    string
		rest string
		e    api.Errno
	}{
		{"\x00", 0, "", "", api.OK},
		{"\x00z", 0, "", "z", api.OK},
		{"\x00", -1, "", "", api.ErrLong},
		{"\x00", math.MinInt, "", "", api.ErrLong},
		{"\x03abc", 3, "abc", "", api.OK},
		{"\x03abcd", 3, "abc", "d", api.OK},
		{"\x03abc", math.MaxInt, "abc", "", api.OK},
		{"\x03\x00\xff\x80", 9, "\x00\xff\x80", "", api.OK},
		{"\xac\x02" + long + "q", 300, long, "q", api.OK},
		{"\x03abc", 2, "", "", api.ErrLong},
		{"\x03ab", 2, "", "", api.ErrLong}, // too long and too short: what is named first
		{"\x03ab", 3, "", "", api.ErrShort},
		{"\x03", 3, "", "", api.ErrShort},
		{"\xac\x02" + long[1:], 300, "", "", api.ErrShort},
		{"\xac\x02" + long, 299, "", "", api.ErrLong},
		{"", 9, "", "", api.ErrShort},
		{"", -1, "", "", api.ErrShort}, // Take's error comes first
		{"\x80", 0, "", "", api.ErrShort},
		{"\x83\x00abc", 0, "", "", api.ErrForm},
		{"\x80\x80\x80\x80\x80\x80\x80\x80\x40abc", math.MaxInt, "", "", api.ErrShort},
		{"\x80\x80\x80\x80\x80\x80\x80\x80\x40abc", greatest - 1, "", "", api.ErrLong},
		{"\x80\x80\x80\x80\x80\x80\x80\x80\x41abc", 0, "", "", api.ErrForm},
	} {
		s, rest, e := quill.TakeText([]byte(c.b), c.most)
		if s != c.s || string(rest) != c.rest || e != c.e {
			t.Errorf("%d: TakeText(%x, %d) = %q, %x, %d, not %q, %x, %d", i, c.b, c.most, s, rest, e, c.s, c.rest, c.e)
		}
	}
}

func TestThereAndBackOfNumbers(t *testing.T) {
	r := rand.New(rand.NewSource(2))
	l := edges()
	for range 20000 {
		l = append(l, int(r.Uint64()>>(2+r.Intn(62))))
	}
	b := quill.Num([]byte{9}, l...)[1:]
	for _, n := range l {
		got, rest, e := quill.Take(b)
		if got != n || e != api.OK || len(b)-len(rest) != quill.Size(n) {
			t.Fatalf("%d was laid, %d taken: %d", n, got, e)
		}
		if taken := b[:len(b)-len(rest)]; !bytes.Equal(taken, quill.Num(nil, n)) {
			t.Fatalf("%d was taken of %x", n, taken)
		}
		for k := range quill.Size(n) {
			if _, _, e := quill.Take(b[:k]); e != api.ErrShort {
				t.Fatalf("%d, of %d bytes: %d", n, k, e)
			}
		}
		b = rest
	}
	if len(b) != 0 {
		t.Error("left:", b)
	}
}

func TestThereAndBackOfTexts(t *testing.T) {
	r := rand.New(rand.NewSource(3))
	for n := range 400 {
		raw := make([]byte, n)
		r.Read(raw)
		s := string(raw)
		b := quill.Text(nil, s)
		got, rest, e := quill.TakeText(append(b, "behind"...), n)
		if got != s || e != api.OK || string(rest) != "behind" {
			t.Fatalf("%x was laid, %x taken: %x, %d", s, got, rest, e)
		}
		if _, _, e := quill.TakeText(b, n-1); e != api.ErrLong {
			t.Fatalf("%d bytes, %d at most: %d", n, n-1, e)
		}
		if _, _, e := quill.TakeText(b[:len(b)-1], n); e != api.ErrShort {
			t.Fatalf("%d bytes, all but one: %d", n, e)
		}
	}
}
