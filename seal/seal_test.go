package seal_test

import (
	"bytes"
	"hash/crc32"
	"math"
	"math/rand"
	"testing"

	"bellwether/api"
	"bellwether/seal"
)

// turns: the document's number.
const turns = 0x82f63b78

// plainSum: the library's sum of that name, so worked out by another way than the program's.
func plainSum(b []byte) uint32 {
	return crc32.Checksum(b, crc32.MakeTable(crc32.Castagnoli))
}

// plainSeal: the bytes, and their sum.
func plainSeal(b []byte) []byte {
	s := plainSum(b)
	return append(bytes.Clone(b), byte(s), byte(s/256), byte(s/65536), byte(s/16777216))
}

// samples: many byte strings, short and long, of zeros, of ones and of anything.
func samples() [][]byte {
	r := rand.New(rand.NewSource(2))
	l := [][]byte{nil, {}, []byte("123456789"), []byte("a")}
	for x := range 256 {
		l = append(l, []byte{byte(x)})
	}
	for n := range 70 {
		l = append(l, make([]byte, n), bytes.Repeat([]byte{255}, n), anything(r, n))
	}
	return append(l, anything(r, 1000), anything(r, 30000), make([]byte, 30000))
}

func anything(r *rand.Rand, n int) []byte {
	b := make([]byte, n)
	r.Read(b)
	return b
}

// roomy: the same bytes with spare room behind them that holds what must stay.
func roomy(b []byte) []byte {
	out := append(bytes.Clone(b), 71, 72, 73, 74, 75, 76, 77, 78)
	return out[:len(b)]
}

// stays: whether what was made by roomy is as it was, and its room, too.
func stays(was, b []byte) bool {
	return bytes.Equal(b[:len(was)], was) && bytes.Equal(b[len(was):len(was)+8], []byte{71, 72, 73, 74, 75, 76, 77, 78})
}

// P2.1: the sum, of the document's example and of many others.
func TestSum(t *testing.T) {
	if x := seal.Sum([]byte("123456789")); x != 0xe3069283 {
		t.Errorf("the example's sum is %x", x)
	}
	if x := seal.Sum(nil); x != 0 {
		t.Errorf("no bytes: %x", x)
	}
	for _, b := range samples() {
		in := roomy(b)
		if got, want := seal.Sum(in), plainSum(b); got != want {
			t.Errorf("%d bytes: %x, not %x", len(b), got, want)
		}
		if !stays(b, in[:len(b)+8]) {
			t.Errorf("%d bytes: changed", len(b))
		}
	}
}

// P2.1: what is sealed is the bytes and their sum, the lowest byte first, in new memory.
func TestSeal(t *testing.T) {
	if x := seal.Seal(nil); !bytes.Equal(x, []byte{0, 0, 0, 0}) {
		t.Errorf("no bytes: %x", x)
	}
	for _, b := range samples() {
		in := roomy(b)
		got := seal.Seal(in)
		if !bytes.Equal(got, plainSeal(b)) {
			t.Errorf("%d bytes: %x", len(b), got)
		}
		clear(got[:cap(got)])
		if !stays(b, in[:len(b)+8]) {
			t.Errorf("%d bytes: what is answered isn't new memory", len(b))
		}
	}
}

// P2.2: what is sealed is opened as it was, and what was handed in stays.
func TestOpen(t *testing.T) {
	for _, b := range samples() {
		sealed := plainSeal(b)
		in := roomy(sealed)
		got, e := seal.Open(in)
		if e != api.OK || !bytes.Equal(got, b) {
			t.Errorf("%d bytes: %x, %d", len(b), got, e)
		}
		_ = append(got, 1, 2, 3, 4, 5, 6, 7, 8)
		if !stays(sealed, in[:len(sealed)+8]) {
			t.Errorf("%d bytes: who lays more behind what is opened changes what was sealed", len(b))
		}
	}
}

// P2.1: fewer than four bytes are too short, whatever they are; four are enough.
func TestOpenShort(t *testing.T) {
	for n := range 4 {
		for _, x := range []byte{0, 1, 255} {
			if got, e := seal.Open(bytes.Repeat([]byte{x}, n)); e != api.ErrShort || len(got) != 0 {
				t.Errorf("%d bytes of %d: %x, %d", n, x, got, e)
			}
		}
	}
	if got, e := seal.Open(make([]byte, 4)); e != api.OK || len(got) != 0 {
		t.Errorf("no bytes and their sum: %x, %d", got, e)
	}
	for _, b := range [][]byte{{0, 0, 0, 1}, {1, 0, 0, 0}, {255, 255, 255, 255}} {
		if got, e := seal.Open(b); e != api.ErrSum || len(got) != 0 {
			t.Errorf("%x: %x, %d", b, got, e)
		}
	}
}

// P2.1: bytes that nobody sealed, or whose sum lies the other way round or elsewhere, are not opened.
func TestOpenOthers(t *testing.T) {
	for _, b := range samples() {
		right := plainSum(b)
		for _, s := range []uint32{right + 1, right - 1, ^right, right ^ 1<<31, right<<8 | right>>24, right ^ 0xff00} {
			in := append(bytes.Clone(b), byte(s), byte(s/256), byte(s/65536), byte(s/16777216))
			got, e := seal.Open(in)
			if s == right { // of nothing the sum is 0, which goes round as itself
				continue
			}
			if e != api.ErrSum || len(got) != 0 {
				t.Errorf("%d bytes with %x, not %x: %x, %d", len(b), s, right, got, e)
			}
		}
	}
	in := []byte("123456789\xe3\x06\x92\x83")
	if got, e := seal.Open(in); e != api.ErrSum || len(got) != 0 {
		t.Errorf("the highest byte first: %x, %d", got, e)
	}
}

// P2.1: one bit is turned, that one, in new memory.
func TestTurn(t *testing.T) {
	b := []byte{0, 255, 0x5a, 7}
	for bit := range 8 * len(b) {
		in := roomy(b)
		got := seal.Turn(in, bit)
		want := bytes.Clone(b)
		want[bit/8] ^= []byte{1, 2, 4, 8, 16, 32, 64, 128}[bit%8]
		if !bytes.Equal(got, want) {
			t.Errorf("bit %d: %x, not %x", bit, got, want)
		}
		_ = append(got, 1, 2, 3, 4)
		clear(got)
		if !stays(b, in[:len(b)+8]) {
			t.Errorf("bit %d: what is answered isn't new memory", bit)
		}
		if again := seal.Turn(want, bit); !bytes.Equal(again, b) {
			t.Errorf("bit %d turned twice: %x", bit, again)
		}
	}
}

// P2.1: where there is no such bit all stay as they are.
func TestTurnNone(t *testing.T) {
	for _, b := range [][]byte{nil, {}, {0}, {255, 1}, []byte("123456789")} {
		n := 8 * len(b)
		for _, bit := range []int{n, n + 1, n + 7, n + 8, -1, -7, -8, -9, -n, -n - 1, math.MaxInt, math.MinInt, math.MaxInt - 7, 1 << 32} {
			if bit >= 0 && bit < n {
				continue // minus none
			}
			in := roomy(b)
			if got := seal.Turn(in, bit); !bytes.Equal(got, b) || !stays(b, in[:len(b)+8]) {
				t.Errorf("%x, bit %d: %x", b, bit, got)
			}
		}
	}
}

// turned: the bits of a pattern turned, from one place on; those behind the end are none. (The lowest one of each pattern is 1: so something is turned.)
func turned(b []byte, from int, pattern uint64) []byte {
	for i := range 64 {
		if pattern>>i&1 == 1 {
			b = seal.Turn(b, from+i)
		}
	}
	return b
}

// P2.2: turned bits within 32 beside one another are caught, whatever they are and wherever, in the sum and over its beginning, too.
func TestShortBursts(t *testing.T) {
	r := rand.New(rand.NewSource(22))
	for _, n := range []int{0, 1, 3, 4, 9, 28, 60, 200} {
		sealed := seal.Seal(anything(r, n))
		end := 8 * len(sealed)
		for from := range end {
			patterns := []uint64{1, 3, 1<<31 | 1, 1<<32 - 1, 1 | 1<<30, turns | 1, r.Uint64()&(1<<32-1) | 1, r.Uint64()&(1<<32-1) | 1<<31 | 1}
			for _, p := range patterns {
				got, e := seal.Open(turned(sealed, from, p))
				if e != api.ErrSum || len(got) != 0 {
					t.Fatalf("%d bytes, %x turned from bit %d of %d on: %d", n, p, from, end, e)
				}
			}
		}
	}
}

// P2.2 is sharp: one burst of 33 bits goes through, which shows that the sum is the document's own and its bits lie as told.
func TestBurstOf33(t *testing.T) {
	b := []byte("what is sealed")
	sealed := seal.Seal(b)
	for from := range 8*len(sealed) - 32 {
		if _, e := seal.Open(turned(sealed, from, 1|turns<<1)); e != api.OK {
			t.Fatalf("from bit %d on: %d", from, e)
		}
	}
}

// P2.2: short samples, each bit and each two beside one another within 32.
func TestTwoBits(t *testing.T) {
	sealed := seal.Seal([]byte("123456789"))
	for a := range 8 * len(sealed) {
		one := seal.Turn(sealed, a)
		if _, e := seal.Open(one); e != api.ErrSum {
			t.Errorf("bit %d: %d", a, e)
		}
		for c := a + 1; c < min(a+32, 8*len(sealed)); c++ {
			if _, e := seal.Open(seal.Turn(one, c)); e != api.ErrSum {
				t.Errorf("bits %d and %d: %d", a, c, e)
			}
		}
	}
}
