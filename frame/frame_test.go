package frame_test

import (
	"bytes"
	"hash/crc32"
	"math"
	"math/rand"
	"strings"
	"testing"

	"bellwether/api"
	"bellwether/frame"
)

// The document's numbers, written out anew.
const (
	maxCluster = 30
	maxPayload = 30000
)

// plainNum: a number's bytes, worked out by another way than the program's.
func plainNum(n int) string {
	out := ""
	for ; n >= 128; n /= 128 {
		out += string([]byte{byte(n%128) + 128})
	}
	return out + string([]byte{byte(n)})
}

func plainText(s string) string { return plainNum(len(s)) + s }

// sealed: a text's bytes with their sum behind them, by the library's sum of that name.
func sealed(s string) []byte {
	sum := crc32.Checksum([]byte(s), crc32.MakeTable(crc32.Castagnoli))
	return append([]byte(s), byte(sum), byte(sum>>8), byte(sum>>16), byte(sum>>24))
}

// plainInner: what is sealed of a frame.
func plainInner(f api.Frame) string {
	return "BW\x01" + plainNum(f.Kind) + plainText(f.Cluster) + plainNum(f.From) + plainText(string(f.Payload))
}

// plainRight: may it be?
func plainRight(f api.Frame) bool {
	switch f.Kind {
	case 1, 2, 3, 4, 5, 6, 7:
	default:
		return false
	}
	switch f.From {
	case 0, 1, 2, 3, 4, 5, 6, 7:
	default:
		return false
	}
	return f.Cluster != "" && len(f.Cluster) <= maxCluster && len(f.Payload) <= maxPayload
}

// reader reads parts by places, and keeps the first error.
type reader struct {
	b  string
	at int
	e  api.Errno
}

func (r *reader) number() int {
	n := uint64(0)
	for i := range 9 {
		if r.e != api.OK {
			return 0
		}
		if r.at == len(r.b) {
			r.e = api.ErrShort
			return 0
		}
		x := r.b[r.at]
		r.at++
		n += uint64(x%128) << (7 * i)
		if x < 128 {
			if x == 0 && i > 0 || n > 1<<62 {
				r.e = api.ErrForm
			}
			return int(n)
		}
	}
	r.e = api.ErrForm
	return 0
}

func (r *reader) text(most int) string {
	n := r.number()
	switch {
	case r.e != api.OK:
	case n > most:
		r.e = api.ErrLong
	case n > len(r.b)-r.at:
		r.e = api.ErrShort
	default:
		r.at += n
		return r.b[r.at-n : r.at]
	}
	return ""
}

// plainDecode: what Decode answers of what is sealed.
func plainDecode(inner, cluster string) (api.Frame, api.Errno) {
	if len(inner) < 3 || inner[0] != 'B' || inner[1] != 'W' || inner[2] != 1 {
		return api.Frame{}, api.ErrForm
	}
	r := reader{b: inner, at: 3}
	f := api.Frame{Kind: r.number(), Cluster: r.text(maxCluster), From: r.number(), Payload: []byte(r.text(maxPayload))}
	switch {
	case r.e != api.OK:
		return api.Frame{}, r.e
	case r.at < len(inner) || !plainRight(f):
		return api.Frame{}, api.ErrForm
	case f.Cluster != cluster:
		return api.Frame{}, api.ErrOther
	}
	return f, api.OK
}

// plainSame: field by field.
func plainSame(a, b api.Frame) bool {
	return a.Kind == b.Kind && a.Cluster == b.Cluster && a.From == b.From && string(a.Payload) == string(b.Payload)
}

// zero: whether a frame is the zero value.
func zero(f api.Frame) bool {
	return f.Kind == 0 && f.Cluster == "" && f.From == 0 && len(f.Payload) == 0
}

func anything(r *rand.Rand, n int) []byte {
	b := make([]byte, n)
	r.Read(b)
	return b
}

// samples: frames that may be, at the edges of each field and between them.
func samples() []api.Frame {
	r := rand.New(rand.NewSource(3))
	l := []api.Frame{}
	for kind := 1; kind <= 7; kind++ {
		for from := range 8 {
			l = append(l, api.Frame{Kind: kind, Cluster: "west", From: from, Payload: []byte("abc")})
		}
	}
	for n := 1; n <= maxCluster; n++ {
		l = append(l, api.Frame{Kind: 1 + n%7, Cluster: string(anything(r, n)), From: n % 8, Payload: anything(r, n)})
	}
	for _, n := range []int{0, 1, 2, 127, 128, 129, 255, 256, 16383, 16384, 29999, maxPayload} {
		l = append(l,
			api.Frame{Kind: 3, Cluster: "c", From: 7, Payload: anything(r, n)},
			api.Frame{Kind: 5, Cluster: "\x00", Payload: make([]byte, n)},
			api.Frame{Kind: 7, Cluster: strings.Repeat("\xff", maxCluster), From: 7, Payload: bytes.Repeat([]byte{255}, n)})
	}
	return append(l, api.Frame{Kind: 6, Cluster: "c", From: 2})
}

// wrongs: frames that may not be.
func wrongs() []api.Frame {
	l := []api.Frame{{}}
	for _, kind := range []int{math.MinInt, -1, 0, 8, 9, 128 + 1, 256 + 1, math.MaxInt} {
		l = append(l, api.Frame{Kind: kind, Cluster: "c"})
	}
	for _, n := range []int{0, 31, 32, 128 + 1, 256 + 1, 1000} {
		l = append(l, api.Frame{Kind: 1, Cluster: strings.Repeat("c", n)})
	}
	for _, from := range []int{math.MinInt, -1, 8, 9, 128, 256, math.MaxInt} {
		l = append(l, api.Frame{Kind: 1, Cluster: "c", From: from})
	}
	for _, n := range []int{30001, 30002, 1<<16 + 1} {
		l = append(l, api.Frame{Kind: 1, Cluster: "c", Payload: make([]byte, n)})
	}
	return append(l, api.Frame{Kind: 9, Cluster: strings.Repeat("c", 31), From: 9, Payload: make([]byte, 30001)})
}

// refused: whether Decode answers that error and nothing beside it.
func refused(t *testing.T, what string, b []byte, cluster string, want api.Errno) {
	t.Helper()
	if f, e := frame.Decode(b, cluster); e != want || !zero(f) {
		t.Errorf("%q: %v, %d, not %d", what, f, e, want)
	}
}

// P3.1: the document's example, byte by byte.
func TestExample(t *testing.T) {
	f := api.Frame{Kind: api.KindEcho, Cluster: "c", From: 2}
	want := sealed("\x42\x57\x01\x06\x01\x63\x02\x00")
	if b, e := frame.Encode(f); e != api.OK || !bytes.Equal(b, want) {
		t.Errorf("%x, %d", b, e)
	}
	if x, e := frame.Decode(want, "c"); e != api.OK || !plainSame(x, f) {
		t.Errorf("%v, %d", x, e)
	}
	refused(t, "of another cluster", want, "d", api.ErrOther)
}

// P3.1: what may be, at each field's edges, and what may not.
func TestRight(t *testing.T) {
	for i, f := range samples() {
		if !frame.Right(f) {
			t.Errorf("%d may be: kind %d, from %d, %d bytes", i, f.Kind, f.From, len(f.Payload))
		}
	}
	for i, f := range wrongs() {
		if frame.Right(f) {
			t.Errorf("%d may not be: kind %d, cluster %q, from %d, %d bytes", i, f.Kind, f.Cluster, f.From, len(f.Payload))
		}
	}
	for kind := -2; kind < 300; kind++ {
		for from := -2; from < 20; from++ {
			for _, cluster := range []string{"", "c", strings.Repeat("c", 30), strings.Repeat("c", 31)} {
				f := api.Frame{Kind: kind, Cluster: cluster, From: from}
				if frame.Right(f) != plainRight(f) {
					t.Errorf("kind %d, cluster %q, from %d", kind, cluster, from)
				}
			}
		}
	}
}

// P3.1: a frame's bytes; none, and ErrArg, of one that may not be.
func TestEncode(t *testing.T) {
	for i, f := range samples() {
		if b, e := frame.Encode(f); e != api.OK || !bytes.Equal(b, sealed(plainInner(f))) {
			t.Errorf("%d: %x, %d", i, b, e)
		}
	}
	for i, f := range wrongs() {
		if b, e := frame.Encode(f); e != api.ErrArg || len(b) != 0 {
			t.Errorf("%d: %x, %d", i, b, e)
		}
	}
}

// P3.1: a payload that is handed in stays as it was, its spare room, too, and shares nothing with the bytes.
func TestEncodeKeepsAway(t *testing.T) {
	room := []byte("abcdefgh")
	f := api.Frame{Kind: 1, Cluster: "c", Payload: room[:3]}
	b, _ := frame.Encode(f)
	clear(b[:cap(b)])
	if string(room) != "abcdefgh" || string(f.Payload) != "abc" {
		t.Errorf("changed: %q", room)
	}
	b, _ = frame.Encode(f)
	clear(room)
	if !bytes.Equal(b, sealed("BW\x01\x01\x01c\x00\x03abc")) {
		t.Errorf("changed later: %q", b)
	}
}

// P3.1: bytes that aren't sealed have Open's errors.
func TestDecodeUnsealed(t *testing.T) {
	for n := range 4 {
		refused(t, "too short", []byte("BW\x01")[:n], "c", api.ErrShort)
		refused(t, "too short", make([]byte, n), "", api.ErrShort)
	}
	whole := sealed("BW\x01\x01\x01c\x00\x03abc")
	for i := range whole {
		for bit := range 8 {
			b := bytes.Clone(whole)
			b[i] ^= 1 << bit
			refused(t, "a turned bit", b, "c", api.ErrSum)
		}
		if i >= 4 {
			refused(t, "an end that is missing", whole[:i], "c", api.ErrSum)
		}
	}
	refused(t, "a byte more", append(bytes.Clone(whole), 0), "c", api.ErrSum)
	refused(t, "without a sum", []byte("BW\x01\x01\x01c\x00\x03abc"), "c", api.ErrSum)
	// The sum is asked ahead of the letters.
	refused(t, "neither sealed nor a frame", []byte("XYZXYZXYZ"), "c", api.ErrSum)
}

// P3.1: what is sealed must begin with B, W and 1; asked ahead of its parts.
func TestDecodeHead(t *testing.T) {
	for _, s := range []string{"", "B", "BW", "BW\x00", "BW\x02", "BW1", "bw\x01", "WB\x01", "BX\x01", "AW\x01", "\x01", "\x00BW\x01"} {
		refused(t, s, sealed(s), "c", api.ErrForm)
		// What is behind is a frame's parts, then some that are too long, which is told later.
		refused(t, s, sealed(s+"\x02\x01c\x00\x00"), "c", api.ErrForm)
		refused(t, s, sealed(s+"\x02\x1f"), "c", api.ErrForm)
	}
}

// P3.1: layer 1's errors, part by part; then what is left, and what may not be; another cluster last.
func TestDecodeParts(t *testing.T) {
	long := strings.Repeat("x", 40)
	nine := strings.Repeat("\x80", 9)
	for i, x := range []struct {
		parts string
		want  api.Errno
	}{
		{"", api.ErrShort}, {"\x81", api.ErrShort}, {"\x81\x00", api.ErrForm}, {nine, api.ErrForm},
		{"\xff\xff\xff\xff\xff\xff\xff\xff\x7f", api.ErrForm},
		{"\x01", api.ErrShort}, {"\x01\x81", api.ErrShort}, {"\x01\x81\x00c\x00\x00", api.ErrForm},
		{"\x01\x01", api.ErrShort}, {"\x01\x1e" + long[:29], api.ErrShort},
		{"\x01\x1f" + long[:31] + "\x00\x00", api.ErrLong}, {"\x01\x1f", api.ErrLong}, {"\x01\xff\x7f", api.ErrLong},
		{"\x01\x01c", api.ErrShort}, {"\x01\x01c\x80", api.ErrShort}, {"\x01\x01c\x80\x00\x00", api.ErrForm}, {"\x01\x01c" + nine, api.ErrForm},
		{"\x01\x01c\x00", api.ErrShort}, {"\x01\x01c\x00\x80", api.ErrShort}, {"\x01\x01c\x00\x80\x00", api.ErrForm},
		{"\x01\x01c\x00\x01", api.ErrShort}, {"\x01\x01c\x00\xb0\xea\x01" + long, api.ErrShort},
		{"\x01\x01c\x00\xb1\xea\x01", api.ErrLong}, {"\x01\x01c\x00\xb1\xea\x01" + strings.Repeat("x", 30001), api.ErrLong},
		{"\x01\x01c\x00\x00\x00", api.ErrForm}, {"\x01\x01c\x00\x01xx", api.ErrForm},
		{"\x00\x01c\x00\x00", api.ErrForm}, {"\x08\x01c\x00\x00", api.ErrForm}, {"\x81\x01\x01c\x00\x00", api.ErrForm},
		{"\x01\x00\x00\x00", api.ErrForm},
		{"\x01\x01c\x08\x00", api.ErrForm}, {"\x01\x01c\x80\x01\x00", api.ErrForm},
		{"\x80\x80\x80\x80\x80\x80\x80\x80\x40\x01c\x00\x00", api.ErrForm},
		// A part that may not be, and a fault behind it: layer 1's error goes first.
		{"\x08", api.ErrShort}, {"\x08\x1f", api.ErrLong}, {"\x00\x00\x08", api.ErrShort}, {"\x08\x01c\x08\xb1\xea\x01", api.ErrLong}, {"\x08\x01c\x80\x00", api.ErrForm},
		// Too long, and a fault behind it or bytes that are missing.
		{"\x01\x1fc\x80\x00", api.ErrLong},
	} {
		refused(t, plainNum(i), sealed("BW\x01"+x.parts), "c", x.want)
		// Whose cluster it would be is asked at last.
		refused(t, plainNum(i), sealed("BW\x01"+x.parts), "d", x.want)
		refused(t, plainNum(i), sealed("BW\x01"+x.parts), "", x.want)
	}
}

// P3.1: just so many bytes of a cluster and of a payload are taken.
func TestDecodeGreatest(t *testing.T) {
	name := strings.Repeat("n", 30)
	f, e := frame.Decode(sealed("BW\x01\x07\x1e"+name+"\x07\xb0\xea\x01"+strings.Repeat("x", 30000)), name)
	if e != api.OK || f.Kind != 7 || f.Cluster != name || f.From != 7 || len(f.Payload) != 30000 {
		t.Error(f.Kind, f.Cluster, f.From, len(f.Payload), e)
	}
}

// P3.1: Decode answers as a plain working-out does, of many bytes that are nearly a frame's.
func TestDecodeNearly(t *testing.T) {
	r := rand.New(rand.NewSource(31))
	told := map[api.Errno]int{}
	for range 200000 {
		f := api.Frame{Kind: r.Intn(10), Cluster: string(bytes.Repeat([]byte("c"), r.Intn(3))), From: r.Intn(10), Payload: anything(r, r.Intn(4))}
		inner := []byte(plainInner(f))
		for range r.Intn(3) {
			i := r.Intn(len(inner))
			switch r.Intn(3) {
			case 0:
				inner[i] = byte(r.Intn(256))
			case 1:
				inner = append(inner[:i], inner[i+1:]...)
			default:
				inner = append(inner[:i], append([]byte{byte(r.Intn(256))}, inner[i:]...)...)
			}
		}
		got, e := frame.Decode(sealed(string(inner)), "c")
		want, wantE := plainDecode(string(inner), "c")
		if e != wantE || !plainSame(got, want) {
			t.Fatalf("%x: %v, %d, not %v, %d", inner, got, e, want, wantE)
		}
		told[e]++
	}
	for _, e := range []api.Errno{api.OK, api.ErrShort, api.ErrForm, api.ErrLong, api.ErrOther} {
		if told[e] == 0 {
			t.Errorf("never %d", e)
		}
	}
}

// P3.1: bytes that are handed in stay as they were, their spare room, too, and share nothing with the frame.
func TestDecodeKeepsAway(t *testing.T) {
	whole := sealed("BW\x01\x01\x01c\x00\x03abc")
	room := append(bytes.Clone(whole), "spare"...)
	f, _ := frame.Decode(room[:len(whole)], "c")
	clear(f.Payload[:cap(f.Payload)])
	if !bytes.Equal(room, append(bytes.Clone(whole), "spare"...)) {
		t.Errorf("changed: %q", room)
	}
	f, _ = frame.Decode(room[:len(whole)], "c")
	clear(room)
	if !plainSame(f, api.Frame{Kind: 1, Cluster: "c", Payload: []byte("abc")}) {
		t.Errorf("changed later: %v", f)
	}
}

// P3.2: what is encoded is decoded as it was.
func TestThereAndBack(t *testing.T) {
	for i, f := range samples() {
		b, _ := frame.Encode(f)
		if x, e := frame.Decode(b, f.Cluster); e != api.OK || !plainSame(x, f) || !frame.Same(x, f) {
			t.Errorf("%d: %v, %d", i, x, e)
		}
	}
}

// P3.2: in its own cluster alone.
func TestOwnClusterAlone(t *testing.T) {
	for _, f := range samples() {
		b, _ := frame.Encode(f)
		c := f.Cluster
		for _, other := range []string{"", c + "\x00", c + c, c[:len(c)-1], "x" + c, c[1:], string([]byte{c[0] ^ 32}) + c[1:], c[:len(c)-1] + string([]byte{c[len(c)-1] ^ 1}), strings.Repeat(c, 31)} {
			refused(t, other, b, other, api.ErrOther)
		}
	}
}

// P3.2: what is decoded has just those bytes, so that no two byte strings are one frame.
func TestJustThoseBytes(t *testing.T) {
	r := rand.New(rand.NewSource(32))
	taken := 0
	for range 200000 {
		inner := []byte("BW\x01\x01\x01c\x00\x01x")
		for i := 3; i < len(inner); i++ {
			if r.Intn(4) == 0 {
				inner[i] = byte(r.Intn(9))
			}
		}
		b := sealed(string(append(inner, anything(r, r.Intn(3))...)))
		f, e := frame.Decode(b, "c")
		if e != api.OK {
			continue
		}
		taken++
		if back, e := frame.Encode(f); e != api.OK || !bytes.Equal(back, b) {
			t.Fatalf("%x: %x, %d", b, back, e)
		}
	}
	if taken == 0 {
		t.Error("none was taken")
	}
}

// P3.1: the same ones, field by field.
func TestSame(t *testing.T) {
	f := api.Frame{Kind: 1, Cluster: "c", From: 2, Payload: []byte("abc")}
	for i, x := range []api.Frame{
		{Kind: 2, Cluster: "c", From: 2, Payload: []byte("abc")},
		{Kind: 1, Cluster: "C", From: 2, Payload: []byte("abc")},
		{Kind: 1, Cluster: "", From: 2, Payload: []byte("abc")},
		{Kind: 1, Cluster: "c", From: 3, Payload: []byte("abc")},
		{Kind: 1, Cluster: "c", From: 2, Payload: []byte("abd")},
		{Kind: 1, Cluster: "c", From: 2, Payload: []byte("Abc")},
		{Kind: 1, Cluster: "c", From: 2, Payload: []byte("ab")},
		{Kind: 1, Cluster: "c", From: 2, Payload: []byte("abc\x00")},
		{Kind: 1, Cluster: "c", From: 2},
		{},
	} {
		if frame.Same(f, x) || frame.Same(x, f) {
			t.Errorf("%d is the same", i)
		}
		if !frame.Same(x, x) {
			t.Errorf("%d isn't itself", i)
		}
	}
	if !frame.Same(f, api.Frame{Kind: 1, Cluster: "c", From: 2, Payload: []byte("abc")}) {
		t.Error("not the same")
	}
}

// P3.1: a payload that holds nothing may be nil or empty; what may not be can be the same, too.
func TestSameOfAny(t *testing.T) {
	a, b := api.Frame{Kind: 1, Cluster: "c"}, api.Frame{Kind: 1, Cluster: "c", Payload: []byte{}}
	if !frame.Same(a, b) || !frame.Same(b, a) {
		t.Error("nil and empty")
	}
	x, _ := frame.Encode(a)
	y, _ := frame.Encode(b)
	if !bytes.Equal(x, y) {
		t.Errorf("%x and %x", x, y)
	}
	l := wrongs()
	for i, x := range l {
		for j, y := range l {
			if frame.Same(x, y) != plainSame(x, y) {
				t.Errorf("%d and %d", i, j)
			}
		}
	}
}
