package journal_test

import (
	"hash/crc32"
	"math"
	"math/rand"
	"slices"
	"strings"
	"testing"

	"bellwether/api"
	"bellwether/block"
	"bellwether/journal"
)

// The document's numbers, written out anew.
const (
	size       = 64 // bytes of a sector
	maxSectors = 64
	maxVersion = 1 << 40
	maxNote    = 30
	mark       = 165
	errArg     = 1
	errDown    = 9
	errTorn    = 10
	errUsed    = 11
)

type sector = [size]byte

// edges: numbers at which something turns, and their neighbours.
var edges = []int{
	math.MinInt, -maxVersion, -1, 0, 1, 2, 3, 63, 64, 65, 127, 128, 129, 300, 16383, 16384,
	1<<31 - 1, 1 << 31, 1<<35 - 1, 1 << 35, maxVersion - 2, maxVersion - 1, maxVersion, maxVersion + 1, 1 << 62, 1<<62 + 1, math.MaxInt,
}

// notes: of few, of as many and of too many bytes, whatever those are.
var notes = []string{
	"", "n", "web", "\x00", "\xa5\xff\x80", strings.Repeat("\xa5", 29), strings.Repeat("z", 30), strings.Repeat("\x00", 30), strings.Repeat("\u00e9", 15),
	strings.Repeat("z", 31), strings.Repeat("\u00e9", 16), strings.Repeat("z", 64), strings.Repeat("z", 300),
}

// plainNum: a number's bytes, by quotients.
func plainNum(n int) string {
	out := ""
	for ; n >= 128; n /= 128 {
		out += string([]byte{byte(n%128) + 128})
	}
	return out + string([]byte{byte(n)})
}

func plainText(s string) string { return plainNum(len(s)) + s }

// sealed: bytes with their sum behind them, by the library's sum of that name.
func sealed(s string) string {
	sum := crc32.Checksum([]byte(s), crc32.MakeTable(crc32.Castagnoli))
	return s + string([]byte{byte(sum), byte(sum >> 8), byte(sum >> 16), byte(sum >> 24)})
}

// padded: a sector of those bytes, with what is behind them.
func padded(s string) sector {
	b := sector{size - 1: mark}
	for i := range len(s) {
		b[i] = s[i]
	}
	return b
}

func plainMay(x api.Rec) bool {
	return !(x.Seq < 1) && !(x.Gen < 1) && !(x.Seq > maxVersion) && !(x.Gen > maxVersion) && !(len(x.Note) > maxNote)
}

func plainLay(x api.Rec) (sector, api.Errno) {
	if !plainMay(x) {
		return sector{}, errArg
	}
	return padded(sealed(plainNum(x.Seq) + plainNum(x.Gen) + plainText(x.Note))), 0
}

// reader reads a sector's parts by places; bad, once one of them isn't as it is laid.
type reader struct {
	b   sector
	at  int
	bad bool
}

func (r *reader) byte() int {
	if r.at >= size {
		r.bad = true
		return 0
	}
	r.at++
	return int(r.b[r.at-1])
}

func (r *reader) number() int {
	n, unit := 0, 1
	for i := range 8 { // 2^40 has 6 bytes
		x := r.byte()
		n += x % 128 * unit
		unit *= 128
		if x < 128 {
			r.bad = r.bad || x == 0 && i > 0
			return n
		}
	}
	r.bad = true
	return 0
}

func (r *reader) text() string {
	n := r.number()
	if n > maxNote {
		r.bad = true
		return ""
	}
	out := []byte{}
	for range n {
		out = append(out, byte(r.byte()))
	}
	return string(out)
}

// plainFind: what Find answers, by reading part by part: numbers, text, sum, zeros, mark.
func plainFind(b sector) (api.Rec, api.Errno) {
	r := reader{b: b}
	x := api.Rec{Seq: r.number(), Gen: r.number(), Note: r.text()}
	inner := string(b[:r.at])
	sum := ""
	for range 4 {
		sum += string([]byte{byte(r.byte())})
	}
	r.bad = r.bad || inner+sum != sealed(inner) || !plainMay(x)
	for r.at < size-1 {
		r.bad = r.byte() != 0 || r.bad
	}
	if r.bad || b[size-1] != mark {
		return api.Rec{}, errTorn
	}
	return x, 0
}

func plainRight(d api.Disk) bool { return !(len(d.Sectors) > maxSectors) && !(d.Fuse < -1) }

// deep: the same disk in memory of its own.
func deep(d api.Disk) api.Disk {
	return api.Disk{Sectors: slices.Clone(d.Sectors), Fuse: d.Fuse, Down: d.Down}
}

// plainPut: a write to a disk that may be and has that sector, byte by byte, till the power goes.
func plainPut(d api.Disk, at int, b sector) (api.Disk, api.Errno) {
	d = deep(d)
	if d.Down {
		return d, errDown
	}
	d.Sectors[at] = sector{}
	for i := range size {
		if d.Fuse == i {
			d.Fuse, d.Down = -1, true
			return d, errDown
		}
		d.Sectors[at][i] = b[i]
	}
	if d.Fuse >= size {
		d.Fuse -= size
	}
	return d, 0
}

func plainLast(d api.Disk) (api.Rec, api.Errno) {
	switch {
	case !plainRight(d):
		return api.Rec{}, errArg
	case d.Down:
		return api.Rec{}, errDown
	}
	found := []api.Rec{}
	for i, b := range d.Sectors {
		if x, e := plainFind(b); e == 0 && x.Seq%len(d.Sectors) == i {
			found = append(found, x)
		}
	}
	if len(found) == 0 {
		return api.Rec{}, errTorn
	}
	slices.SortFunc(found, func(a, b api.Rec) int { return a.Seq - b.Seq })
	return found[len(found)-1], 0
}

// plainRecord: the write of a record that may be.
func plainRecord(d api.Disk, x api.Rec) (api.Disk, api.Rec, api.Errno) {
	b, _ := plainLay(x)
	d, e := plainPut(d, x.Seq%len(d.Sectors), b)
	if e != 0 {
		return d, api.Rec{}, e
	}
	return d, x, 0
}

func plainFormat(d api.Disk, note string) (api.Disk, api.Rec, api.Errno) {
	if !plainRight(d) || len(d.Sectors) < 2 || len(note) > maxNote {
		return d, api.Rec{}, errArg
	}
	e := api.OK
	for i := range len(d.Sectors) {
		if d, e = plainPut(d, i, sector{}); e != 0 {
			return d, api.Rec{}, e
		}
	}
	return plainRecord(d, api.Rec{Seq: 1, Gen: 1, Note: note})
}

func plainWrite(d api.Disk, gen int, note string) (api.Disk, api.Rec, api.Errno) {
	last, e := plainLast(d)
	switch {
	case e != 0:
		return d, api.Rec{}, e
	case len(d.Sectors) < 2, gen < last.Gen, gen > maxVersion, len(note) > maxNote:
		return d, api.Rec{}, errArg
	case last.Seq == maxVersion:
		return d, api.Rec{}, errUsed
	}
	return plainRecord(d, api.Rec{Seq: last.Seq + 1, Gen: gen, Note: note})
}

func plainNext(d api.Disk, note string) (api.Disk, api.Rec, api.Errno) {
	last, e := plainLast(d)
	switch {
	case e != 0:
		return d, api.Rec{}, e
	case last.Gen == maxVersion:
		return d, api.Rec{}, errUsed
	}
	return plainWrite(d, last.Gen+1, note)
}

// someRecs: records at all edges, such as may be and such as may not.
func someRecs() []api.Rec {
	var l []api.Rec
	for _, seq := range edges {
		for _, gen := range edges {
			for _, note := range []string{"", "ab", strings.Repeat("z", 30), strings.Repeat("z", 31)} {
				l = append(l, api.Rec{Seq: seq, Gen: gen, Note: note})
			}
		}
	}
	for _, note := range notes {
		l = append(l, api.Rec{Seq: 1, Gen: 1, Note: note}, api.Rec{Seq: maxVersion, Gen: maxVersion, Note: note}, api.Rec{Seq: 300, Gen: 2, Note: note})
	}
	return l
}

// rightRecs: records that may be, of each length of each part.
func rightRecs() []api.Rec {
	var l []api.Rec
	for _, x := range someRecs() {
		if plainMay(x) {
			l = append(l, x)
		}
	}
	return l
}

func someSector(r *rand.Rand) sector {
	var b sector
	r.Read(b[:])
	return b
}

func must(t *testing.T, x api.Rec) sector {
	t.Helper()
	b, e := plainLay(x)
	if e != 0 {
		t.Fatal(x, e)
	}
	return b
}

// disk: of such sectors, whose power stays.
func disk(l ...sector) api.Disk { return api.Disk{Sectors: l, Fuse: -1} }

// disks: blank, formatted, well used, with strange and torn sectors, of few, of many and of too many sectors, and what is written to them.
func disks(t *testing.T) []api.Disk {
	r := rand.New(rand.NewSource(13))
	l := []api.Disk{{}, {Fuse: -1}, {Fuse: -2}, {Fuse: -1, Down: true}, {Sectors: []sector{}, Fuse: -1}}
	for _, n := range []int{1, 2, 3, 4, 7, 63, 64, 65, 130} {
		blank := disk(make([]sector, n)...)
		l = append(l, blank)
		for _, seq := range []int{1, 2, n - 1, n, n + 1, 127, 128, 1000, maxVersion - 1, maxVersion} {
			for _, gen := range []int{1, seq, maxVersion - 1, maxVersion} {
				if seq < 1 {
					continue
				}
				// A run of records up to that one, each in its place; then one more in front of it that was torn.
				d := deep(blank)
				for k := max(1, seq-n+1); k <= seq; k++ {
					d.Sectors[k%n] = must(t, api.Rec{Seq: k, Gen: max(1, gen-(seq-k)), Note: "r"})
				}
				l = append(l, d)
				d = deep(d)
				clear(d.Sectors[(seq+1)%n][r.Intn(size-1):])
				l = append(l, d)
			}
		}
		for range 30 {
			l = append(l, mixed(t, r, n))
		}
	}
	return l
}

// mixed: records in their place, records in another one's, records with a byte turned, whatever bytes, and zeros.
func mixed(t *testing.T, r *rand.Rand, n int) api.Disk {
	d := disk(make([]sector, n)...)
	for i := range d.Sectors {
		x := api.Rec{Seq: 1 + r.Intn(5*n), Gen: 1 + r.Intn(200), Note: notes[r.Intn(9)]}
		switch r.Intn(6) {
		case 0:
			d.Sectors[i] = someSector(r)
		case 1:
			d.Sectors[i] = must(t, x)
		case 2:
			d.Sectors[i] = must(t, x)
			d.Sectors[i][r.Intn(size)] ^= byte(1 + r.Intn(255))
		case 3, 4:
			x.Seq = i + n*(1+r.Intn(4))
			d.Sectors[i] = must(t, x)
		}
	}
	return d
}

// given: a disk with spare room behind its sectors, and a check that it, and that room, stay what they were, whatever is written into what was answered.
func given(t *testing.T, d api.Disk) (api.Disk, func(answers ...api.Disk)) {
	behind := sector{0: 7, 63: 7}
	room := append(slices.Clone(d.Sectors), behind)
	g := api.Disk{Sectors: room[:len(d.Sectors)], Fuse: d.Fuse, Down: d.Down}
	return g, func(answers ...api.Disk) {
		t.Helper()
		for _, x := range answers {
			x.Sectors = x.Sectors[:cap(x.Sectors)]
			for i := range x.Sectors {
				for j := range size {
					x.Sectors[i][j] ^= 0x55
				}
			}
		}
		if !block.Same(g, d) || room[len(d.Sectors)] != behind {
			t.Errorf("%d sectors, fuse %d, down %t: what was handed in isn't what it was", len(d.Sectors), d.Fuse, d.Down)
		}
	}
}

// hold: a call that writes, against its plain working-out.
func hold(t *testing.T, what string, d api.Disk, call, plain func(api.Disk) (api.Disk, api.Rec, api.Errno)) {
	t.Helper()
	g, unchanged := given(t, d)
	got, x, e := call(g)
	want, wantX, wantE := plain(deep(d))
	if !block.Same(got, want) || x != wantX || e != wantE {
		t.Errorf("%s: %d sectors, fuse %d, down %t: fuse %d, down %t, %v, %d, not fuse %d, down %t, %v, %d", what, len(d.Sectors), d.Fuse, d.Down, got.Fuse, got.Down, x, e, want.Fuse, want.Down, wantX, wantE)
	}
	unchanged(got)
}

func holdFormat(t *testing.T, d api.Disk, note string) {
	t.Helper()
	hold(t, "format", d,
		func(d api.Disk) (api.Disk, api.Rec, api.Errno) { return journal.Format(d, note) },
		func(d api.Disk) (api.Disk, api.Rec, api.Errno) { return plainFormat(d, note) })
}

func holdWrite(t *testing.T, d api.Disk, gen int, note string) {
	t.Helper()
	hold(t, "write", d,
		func(d api.Disk) (api.Disk, api.Rec, api.Errno) { return journal.Write(d, gen, note) },
		func(d api.Disk) (api.Disk, api.Rec, api.Errno) { return plainWrite(d, gen, note) })
}

func holdNext(t *testing.T, d api.Disk, note string) {
	t.Helper()
	hold(t, "next", d,
		func(d api.Disk) (api.Disk, api.Rec, api.Errno) { return journal.Next(d, note) },
		func(d api.Disk) (api.Disk, api.Rec, api.Errno) { return plainNext(d, note) })
}

func holdLast(t *testing.T, d api.Disk) {
	t.Helper()
	g, unchanged := given(t, d)
	want, wantE := plainLast(d)
	if x, e := journal.Last(g); x != want || e != wantE {
		t.Errorf("last: %d sectors, fuse %d, down %t: %v, %d, not %v, %d", len(d.Sectors), d.Fuse, d.Down, x, e, want, wantE)
	}
	unchanged()
}

func holdFind(t *testing.T, b sector) {
	t.Helper()
	want, wantE := plainFind(b)
	if x, e := journal.Find(b); x != want || e != wantE {
		t.Errorf("find: %x: %v, %d, not %v, %d", b, x, e, want, wantE)
	}
}

// P13.1: sectors written out, sums too.
func TestLayByHand(t *testing.T) {
	for _, c := range []struct {
		x    api.Rec
		want string
	}{
		{api.Rec{Seq: 1, Gen: 1}, "\x01\x01\x00\x73\xa9\x87\xd6"},
		{api.Rec{Seq: 1, Gen: 1, Note: "n"}, "\x01\x01\x01n\x33\xc7\x7f\xee"},
		{api.Rec{Seq: 300, Gen: 2, Note: "ab"}, "\xac\x02\x02\x02ab\x89\x02\xcc\x8f"},
		{api.Rec{Seq: maxVersion, Gen: maxVersion, Note: strings.Repeat("z", 30)}, "\x80\x80\x80\x80\x80\x20\x80\x80\x80\x80\x80\x20\x1e" + strings.Repeat("z", 30) + "\x95\xa4\x20\xb2"},
	} {
		want := c.want + strings.Repeat("\x00", size-1-len(c.want)) + "\xa5"
		b, e := journal.Lay(c.x)
		if string(b[:]) != want || e != api.OK {
			t.Errorf("%v: %x, %d, not %x", c.x, b, e, want)
		}
		if x, e := journal.Find(sector([]byte(want))); x != c.x || e != api.OK {
			t.Errorf("%x: %v, %d, not %v", want, x, e, c.x)
		}
	}
}

// P13.1: which records may be, at both ends of each field; of those that may not be there is no sector.
func TestLayRefuses(t *testing.T) {
	for _, x := range []api.Rec{
		{}, {Seq: 1}, {Gen: 1}, {Seq: 0, Gen: 1}, {Seq: 1, Gen: 0}, {Seq: -1, Gen: 1}, {Seq: 1, Gen: -1}, {Seq: math.MinInt, Gen: 1}, {Seq: 1, Gen: math.MinInt},
		{Seq: maxVersion + 1, Gen: 1}, {Seq: 1, Gen: maxVersion + 1}, {Seq: math.MaxInt, Gen: 1}, {Seq: 1, Gen: math.MaxInt},
		{Seq: 1, Gen: 1, Note: strings.Repeat("z", 31)}, {Seq: 1, Gen: 1, Note: strings.Repeat("z", 70000)},
	} {
		if b, e := journal.Lay(x); b != (sector{}) || e != api.ErrArg {
			t.Errorf("%d, %d, %d bytes: %x, %d", x.Seq, x.Gen, len(x.Note), b, e)
		}
	}
}

// P13.1: Lay at all edges, and Find of what is laid: just that record.
func TestLayAndFind(t *testing.T) {
	right := 0
	for _, x := range someRecs() {
		want, wantE := plainLay(x)
		b, e := journal.Lay(x)
		if b != want || e != wantE {
			t.Errorf("%v: %x, %d, not %x, %d", x, b, e, want, wantE)
		}
		if e != api.OK {
			continue
		}
		right++
		if y, e := journal.Find(b); y != x || e != api.OK {
			t.Errorf("%v: found %v, %d", x, y, e)
		}
		holdFind(t, b)
	}
	if right < 500 {
		t.Error("too few:", right)
	}
}

// P13.1: what isn't wholly a record's sector has none: each other byte in each place.
func TestFindEachByte(t *testing.T) {
	for _, x := range []api.Rec{{Seq: 1, Gen: 1}, {Seq: 300, Gen: 2, Note: "ab"}, {Seq: maxVersion, Gen: maxVersion, Note: strings.Repeat("\xa5", 30)}} {
		whole := must(t, x)
		for i := range size {
			for turn := 1; turn < 256; turn++ {
				b := whole
				b[i] ^= byte(turn)
				if y, e := journal.Find(b); y != (api.Rec{}) || e != api.ErrTorn {
					t.Errorf("%v: byte %d, %x: %v, %d", x, i, b[i], y, e)
				}
			}
		}
	}
}

// P13.1: a sector whose sum and whose end are right, but which nobody would lay so, has no record.
func TestFindOtherForms(t *testing.T) {
	long := strings.Repeat("z", 31)
	for i, s := range []string{
		"\x00\x01\x00", "\x01\x00\x00", // 0 is no Seq, and no Gen
		plainNum(maxVersion+1) + "\x01\x00", "\x01" + plainNum(maxVersion+1) + "\x00",
		plainNum(1<<62) + "\x01\x00", "\x01" + plainNum(1<<62) + "\x00",
		"\x01\x01" + plainText(long),
		"\x81\x00\x01\x00", "\x01\x81\x00\x00", "\x01\x01\x80\x00", "\x01\x01\x81\x00a", // more bytes than there must be
		"\x01\x01\x02a", "\x01\x01\x00a", "\x01\x01\x01ab", // a text of other bytes than it tells
		"", "\x01", "\x01\x01", "\x80", "\x01\x80", "\x01\x01\x80", // parts that are missing
		"\x01\x01\x00\x00", "\x01\x01\x00" + "\x00\x00\x00\x00",
		strings.Repeat("\xff", 12),
		"\x01\x01\xff\xff\xff\xff\xff\xff\xff\xff\x3f",
	} {
		b := padded(sealed(s))
		if x, e := journal.Find(b); x != (api.Rec{}) || e != api.ErrTorn {
			t.Errorf("%d: %x: %v, %d", i, b, x, e)
		}
		holdFind(t, b)
	}
	inner := "\x05\x06\x01n"
	for i, s := range []string{inner, inner + "\x00\x00\x00\x00", sealed(inner)[:7], sealed(sealed(inner)), sealed(inner) + "\x01", "\x00" + sealed(inner), sealed(inner)[1:], sealed(inner) + strings.Repeat("\x00", 54) + "\x01"} {
		if x, e := journal.Find(padded(s)); x != (api.Rec{}) || e != api.ErrTorn {
			t.Errorf("%d: %x: %v, %d", i, s, x, e)
		}
	}
	if x, e := journal.Find(padded(sealed(inner))); x != (api.Rec{Seq: 5, Gen: 6, Note: "n"}) || e != api.OK {
		t.Error(x, e)
	}
}

// P13.1: Find of whatever bytes, such as are nearly a record's, too.
func TestFindMany(t *testing.T) {
	r := rand.New(rand.NewSource(131))
	found := 0
	for range 60000 {
		b := someSector(r)
		if r.Intn(4) > 0 {
			s := ""
			for range 3 + r.Intn(3) {
				s += plainNum(r.Intn(1 << r.Intn(10)))
			}
			b = padded(sealed(s))
			if r.Intn(8) == 0 {
				b[r.Intn(size)] = byte(r.Intn(256))
			}
		}
		holdFind(t, b)
		if _, e := journal.Find(b); e == api.OK {
			found++
		}
	}
	for _, b := range []sector{{}, {size - 1: mark}, {0: 1, 1: 1}} {
		holdFind(t, b)
		if x, e := journal.Find(b); x != (api.Rec{}) || e != api.ErrTorn {
			t.Error(b, x, e)
		}
	}
	if found < 1000 {
		t.Error("too few:", found)
	}
}

// P13.1: the document's example.
func TestExample(t *testing.T) {
	d, e := block.New(2)
	if e != api.OK {
		t.Fatal(e)
	}
	d, x, e := journal.Format(d, "new")
	if x != (api.Rec{Seq: 1, Gen: 1, Note: "new"}) || e != api.OK {
		t.Fatal(x, e)
	}
	for i := 2; i <= 3; i++ {
		d, x, e = journal.Next(d, "new")
		if x != (api.Rec{Seq: i, Gen: i, Note: "new"}) || e != api.OK {
			t.Fatal(x, e)
		}
	}
	want := disk(must(t, api.Rec{Seq: 2, Gen: 2, Note: "new"}), must(t, api.Rec{Seq: 3, Gen: 3, Note: "new"}))
	if !block.Same(d, want) {
		t.Error(d)
	}
}

// P13.1: the last record is of the greatest Seq, of those in their place, whatever else there is.
func TestLastByHand(t *testing.T) {
	rec := func(seq, gen int) sector { return must(t, api.Rec{Seq: seq, Gen: gen, Note: "r"}) }
	torn := rec(9, 9)
	torn[size-1] = 0
	down := disk(rec(2, 2), rec(1, 1))
	down.Down = true
	for i, c := range []struct {
		d        api.Disk
		seq, gen int
		e        api.Errno
	}{
		{disk(rec(2, 2), rec(1, 1)), 2, 2, 0},
		{disk(rec(2, 2), rec(3, 3)), 3, 3, 0},
		{disk(rec(2, 9), rec(3, 3)), 3, 3, 0}, // by Seq, not by Gen
		{disk(rec(12, 5), rec(3, 9)), 12, 5, 0},
		{disk(rec(13, 1), rec(4, 1), rec(11, 7)), 11, 7, 0},       // 4 and 13 lie in sector 1 of three
		{disk(rec(7, 1), rec(7, 2), rec(7, 3)), 7, 2, 0},          // one that lies in three places counts in its own
		{disk(rec(3, 1), rec(2, 2)), 0, 0, errTorn},               // both in the other one's
		{disk(sector{}, torn), 0, 0, errTorn},                     // none at all
		{disk(rec(2, 2), torn), 2, 2, 0},                          // what was torn isn't asked
		{disk(rec(128, 7)), 128, 7, 0},                            // of one sector each is the place
		{disk(rec(maxVersion, 7)), maxVersion, 7, 0},              // the greatest one
		{disk(make([]sector, 64)...), 0, 0, errTorn},              // as new
		{disk(), 0, 0, errTorn},                                   // no sectors
		{down, 0, 0, errDown},                                     // though it has one
		{api.Disk{Fuse: -1, Down: true}, 0, 0, errDown},           // without a last one, too
		{api.Disk{Fuse: -2, Down: true}, 0, 0, errArg},            // may not be
		{api.Disk{Sectors: down.Sectors, Fuse: -2}, 0, 0, errArg}, // though it has one
		{disk(slices.Repeat([]sector{rec(65, 1)}, 65)...), 0, 0, errArg},
		{api.Disk{Sectors: down.Sectors, Fuse: 0}, 2, 2, 0}, // reading burns nothing
	} {
		want := api.Rec{}
		if c.e == 0 {
			want = api.Rec{Seq: c.seq, Gen: c.gen, Note: "r"}
		}
		if x, e := journal.Last(c.d); x != want || e != c.e {
			t.Errorf("%d: %v, %d, not %v, %d", i, x, e, want, c.e)
		}
		holdLast(t, c.d)
	}
}

// P13.1: refusals of what writes, of several errors the one that is named first; the disk is as it was.
func TestRefused(t *testing.T) {
	rec := func(seq, gen int) sector { return must(t, api.Rec{Seq: seq, Gen: gen}) }
	used := disk(rec(2, 5), rec(1, 5))
	with := func(fuse int, down bool, l ...sector) api.Disk { return api.Disk{Sectors: l, Fuse: fuse, Down: down} }
	long := strings.Repeat("z", 31)
	for i, c := range []struct {
		d                   api.Disk
		gen                 int
		note                string
		format, write, next api.Errno
	}{
		{used, 5, strings.Repeat("z", 30), 0, 0, 0},
		{used, 5, long, errArg, errArg, errArg},
		{used, 4, "", 0, errArg, 0}, // a generation may stay, not fall
		{used, 6, "", 0, 0, 0},
		{used, maxVersion, "", 0, 0, 0},
		{used, maxVersion + 1, "", 0, errArg, 0},
		{used, 0, "", 0, errArg, 0},
		{used, -5, "", 0, errArg, 0},
		{used, math.MinInt, "", 0, errArg, 0},
		{used, math.MaxInt, "", 0, errArg, 0},
		{disk(make([]sector, 2)...), 1, "", 0, errTorn, errTorn},
		{disk(make([]sector, 2)...), 0, long, errArg, errTorn, errTorn}, // Last's error first
		{with(-1, true, used.Sectors...), 5, "", errDown, errDown, errDown},
		{with(-1, true, used.Sectors...), 4, long, errArg, errDown, errDown},
		{with(-1, true, rec(1, 1)), 1, "", errArg, errDown, errDown},
		{with(-2, true, used.Sectors...), 5, "", errArg, errArg, errArg},
		{with(-2, false, used.Sectors...), 5, "", errArg, errArg, errArg},
		{with(-1, false, slices.Repeat(used.Sectors, 33)...), 5, "", errArg, errArg, errArg},
		{disk(), 1, "", errArg, errTorn, errTorn},
		{disk(rec(1, 1)), 1, "", errArg, errArg, errArg}, // one sector: a write would lie where the last one lies
		{disk(rec(1, 1)), 0, long, errArg, errArg, errArg},
		{disk(rec(1, maxVersion)), maxVersion, "", errArg, errArg, errUsed},
		{disk(rec(maxVersion, 1)), 1, "", errArg, errArg, errArg},
		{disk(sector{}), 1, "", errArg, errTorn, errTorn},
		{disk(rec(2, maxVersion), sector{}), maxVersion, "", 0, 0, errUsed}, // no generation is left, but numbers are
		{disk(rec(2, maxVersion), sector{}), maxVersion, long, errArg, errArg, errUsed},
		{disk(rec(2, maxVersion), sector{}), 1, "", 0, errArg, errUsed},
		{disk(rec(2, maxVersion-1), sector{}), maxVersion, "", 0, 0, 0},
		{disk(rec(maxVersion, 5), sector{}), 5, "", 0, errUsed, errUsed},
		{disk(rec(maxVersion, 5), sector{}), 4, "", 0, errArg, errUsed},
		{disk(rec(maxVersion, 5), sector{}), 5, long, errArg, errArg, errArg},
		{disk(sector{}, rec(maxVersion-1, 5)), 5, "", 0, 0, 0},
		{disk(rec(maxVersion, maxVersion), sector{}), maxVersion, "", 0, errUsed, errUsed},
		{disk(rec(maxVersion, maxVersion), sector{}), 0, long, errArg, errArg, errUsed},
	} {
		check := func(what string, d api.Disk, x api.Rec, e, want api.Errno) {
			t.Helper()
			if e != want || e != 0 && (!block.Same(d, c.d) || x != (api.Rec{})) {
				t.Errorf("%d: %s: %v, %d, not %d", i, what, x, e, want)
			}
		}
		d, x, e := journal.Format(c.d, c.note)
		check("format", d, x, e, c.format)
		d, x, e = journal.Write(c.d, c.gen, c.note)
		check("write", d, x, e, c.write)
		d, x, e = journal.Next(c.d, c.note)
		check("next", d, x, e, c.next)
	}
}

// P13.1: all calls over disks of any kind, up and down, at all edges of generations and notes.
func TestDisks(t *testing.T) {
	r := rand.New(rand.NewSource(132))
	for _, d := range disks(t) {
		for _, fuse := range []int{-1, r.Intn(size), r.Intn(70 * size), -2} {
			d.Fuse, d.Down = fuse, r.Intn(8) == 0
			holdLast(t, d)
			note := notes[r.Intn(len(notes))]
			holdFormat(t, d, note)
			holdNext(t, d, note)
			gens := []int{edges[r.Intn(len(edges))], 1 + r.Intn(200)}
			if last, e := plainLast(d); e == 0 {
				gens = append(gens, last.Gen-1, last.Gen, last.Gen+1)
			}
			for _, gen := range gens {
				holdWrite(t, d, gen, note)
			}
		}
	}
}

// P13.1: each generation's and each note's edge, on a disk that is right.
func TestWriteEdges(t *testing.T) {
	for _, was := range []int{1, 2, 127, 128, maxVersion - 1, maxVersion} {
		d := disk(sector{}, must(t, api.Rec{Seq: 7, Gen: was, Note: "r"}))
		for _, note := range notes {
			for _, gen := range slices.Concat(edges, []int{was - 1, was, was + 1}) {
				holdWrite(t, d, gen, note)
			}
			holdNext(t, d, note)
			holdFormat(t, d, note)
		}
	}
}

// P13.1: a disk that is formatted has that record alone, whatever stood there; the power at each byte of it.
func TestFormat(t *testing.T) {
	r := rand.New(rand.NewSource(133))
	for _, n := range []int{2, 3, 5} {
		was := mixed(t, r, n)
		for i := range was.Sectors {
			was.Sectors[i] = must(t, api.Rec{Seq: 40*n + i, Gen: 900 + i})
		}
		d, x, e := journal.Format(was, "first")
		want := disk(make([]sector, n)...)
		want.Sectors[1] = must(t, api.Rec{Seq: 1, Gen: 1, Note: "first"})
		if !block.Same(d, want) || x != (api.Rec{Seq: 1, Gen: 1, Note: "first"}) || e != api.OK {
			t.Error(n, d, x, e)
		}
		for fuse := range (n+1)*size + 3 {
			was.Fuse = fuse
			holdFormat(t, was, "first")
			d, x, e := journal.Format(was, "first")
			whole := fuse >= (n+1)*size
			if whole != (e == api.OK) || !whole && (e != api.ErrDown || !d.Down || x != (api.Rec{})) || whole && d.Fuse != fuse-(n+1)*size {
				t.Error(n, fuse, d.Fuse, d.Down, x, e)
			}
			// What Format has cleared stays so; what it hasn't come to is there.
			for i := range n {
				if came := fuse >= i*size; !whole && came == (d.Sectors[i] == was.Sectors[i]) {
					t.Error(n, fuse, i)
				}
			}
		}
	}
}

// P13.1: of 64 sectors each record lies in its place, round and round; Last tells each of them.
func TestRound(t *testing.T) {
	for _, n := range []int{2, 3, 10, 64} {
		d, _ := block.New(n)
		d, _, e := journal.Format(d, "")
		if e != api.OK {
			t.Fatal(n, e)
		}
		for seq := 2; seq < 3*n+2; seq++ {
			gen, want := 1+seq/2*3, api.Rec{Seq: seq, Gen: 1 + seq/2*3, Note: strings.Repeat("k", seq%31)}
			var x api.Rec
			before := deep(d)
			d, x, e = journal.Write(d, gen, want.Note)
			if x != want || e != api.OK || d.Sectors[seq%n] != must(t, want) {
				t.Fatal(n, seq, x, e)
			}
			for i := range n {
				if i != seq%n && d.Sectors[i] != before.Sectors[i] {
					t.Error("another sector:", n, seq, i)
				}
			}
			if y, e := journal.Last(d); y != want || e != api.OK {
				t.Error(n, seq, y, e)
			}
		}
	}
}

// P13.1: up to the last number, and not beyond it.
func TestUsedUp(t *testing.T) {
	d := disk(make([]sector, 3)...)
	d.Sectors[(maxVersion-2)%3] = must(t, api.Rec{Seq: maxVersion - 2, Gen: maxVersion - 2})
	for n := maxVersion - 1; n <= maxVersion; n++ {
		x, e := api.Rec{}, api.OK
		if d, x, e = journal.Next(d, "l"); x != (api.Rec{Seq: n, Gen: n, Note: "l"}) || e != api.OK {
			t.Fatal(n, x, e)
		}
	}
	for range 3 {
		x, y, e := journal.Next(d, "l")
		z, w, f := journal.Write(d, maxVersion, "l")
		if !block.Same(x, d) || y != (api.Rec{}) || e != api.ErrUsed || !block.Same(z, d) || w != (api.Rec{}) || f != api.ErrUsed {
			t.Error(y, e, w, f)
		}
	}
	if x, e := journal.Last(d); x != (api.Rec{Seq: maxVersion, Gen: maxVersion, Note: "l"}) || e != api.OK {
		t.Error(x, e)
	}
}

// P13.2: no sector that is torn has a record: each record that may be, at each byte, over whatever stood there.
func TestTornHasNone(t *testing.T) {
	for _, x := range rightRecs() {
		whole := must(t, x)
		for bytes := range size {
			b := whole
			clear(b[bytes:])
			if y, e := journal.Find(b); y != (api.Rec{}) || e != api.ErrTorn {
				t.Errorf("%v: %d bytes: %v, %d", x, bytes, y, e)
			}
		}
	}
}

// P13.2: the power at each byte of a write, on disks of any kind that have a last record: it stays the last one, or the new one is.
func TestTornWrites(t *testing.T) {
	tried := 0
	for _, d := range disks(t) {
		was, e := journal.Last(d)
		if e != api.OK || len(d.Sectors) < 2 || was.Seq == maxVersion || was.Gen == maxVersion {
			continue
		}
		tried++
		for fuse := range size + 2 {
			armed, _ := block.Arm(d, fuse)
			for k := range 2 {
				want := api.Rec{Seq: was.Seq + 1, Gen: was.Gen + k, Note: "under way"}
				var x api.Disk
				var y api.Rec
				if k == 0 {
					x, y, e = journal.Write(armed, was.Gen, "under way")
				} else {
					x, y, e = journal.Next(armed, "under way")
				}
				if fuse < size && (e != api.ErrDown || y != (api.Rec{}) || !x.Down) || fuse >= size && (e != api.OK || y != want || x.Down) {
					t.Error(len(d.Sectors), was, fuse, y, e)
				}
				if fuse < size {
					want = was
				}
				x, _ = block.Wake(x)
				if z, e := journal.Last(x); z != want || e != api.OK {
					t.Error("awake:", len(d.Sectors), was, fuse, z, e)
				}
			}
		}
	}
	if tried < 100 {
		t.Error("too few:", tried)
	}
}

// P13.2: lives of many disks, the power going wherever it does: each generation that is answered is greater than all before; what was answered stays, until more is.
func TestLives(t *testing.T) {
	r := rand.New(rand.NewSource(134))
	torn, answered := 0, 0
	for range 200 {
		d, _ := block.New(2 + r.Intn(6))
		d, last, e := journal.Format(d, "")
		if e != api.OK {
			t.Fatal(e)
		}
		had := map[int]bool{1: true}
		for range 80 {
			if r.Intn(3) > 0 {
				d, _ = block.Arm(d, r.Intn(5*size))
			}
			note := strings.Repeat("\xa5", r.Intn(31))
			want, x := api.Rec{Seq: last.Seq + 1, Gen: last.Gen, Note: note}, api.Rec{}
			if r.Intn(3) == 0 {
				d, x, e = journal.Write(d, last.Gen, note)
			} else {
				want.Gen++
				d, x, e = journal.Next(d, note)
				if e == api.OK && had[x.Gen] {
					t.Fatal("again:", x)
				}
			}
			switch {
			case e == api.OK && x == want && !d.Down:
				last = x
				had[x.Gen] = true
				answered++
			case e == api.ErrDown && x == (api.Rec{}) && d.Down:
				torn++
			default:
				t.Fatal(last, x, e)
			}
			if y, e := journal.Last(d); d.Down && (y != (api.Rec{}) || e != api.ErrDown) || !d.Down && (y != last || e != api.OK) {
				t.Fatal(last, y, e)
			}
			d, _ = block.Wake(d)
			if y, e := journal.Last(d); y != last || e != api.OK {
				t.Fatal("awake:", last, y, e)
			}
		}
	}
	if torn < 2000 || answered < 2000 {
		t.Error("too few:", torn, answered)
	}
}
