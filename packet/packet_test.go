package packet_test

import (
	"bytes"
	"encoding/binary"
	"math"
	"math/rand"
	"slices"
	"strings"
	"testing"

	"bellwether/api"
	"bellwether/label"
	"bellwether/packet"
)

// The document's numbers, written out anew.
const (
	errArg   = 1
	errShort = 2
	errForm  = 3
	errLong  = 4
	errLoop  = 15

	mostBytes = 65535
	mostList  = 100
	mostData  = 1000
	cutFlag   = 0x200
)

var edges = []int{math.MinInt, math.MinInt32, -65536, -65535, -256, -1, 0, 1, 255, 256, 65535, 65536, 65537, 1 << 30, 1<<31 - 1, 1 << 31, 1<<32 - 1, 1 << 32, math.MaxInt - 1, math.MaxInt}

// plainName: part by part, each by a call of its own, with what was read ahead of it.
func plainName(b []byte, at int) (string, int, api.Errno) {
	if at < 0 || at > len(b) {
		return "", 0, errArg
	}
	return plainFrom(b, at, at, 0, "")
}

func plainFrom(b []byte, at, began, jumps int, ahead string) (string, int, api.Errno) {
	rest := b[at:]
	if len(rest) == 0 {
		return "", 0, errShort
	}
	n := int(rest[0])
	switch n / 64 {
	case 0:
		if n == 0 {
			return ahead + "\x00", at + 1, 0
		}
		if len(rest) < n+1 {
			return "", 0, errShort
		}
		ahead += string(rest[:n+1])
		if len(ahead) >= 255 {
			return "", 0, errLong
		}
		return plainFrom(b, at+n+1, began, jumps, ahead)
	case 3:
		if len(rest) < 2 {
			return "", 0, errShort
		}
		to := n%64*256 + int(rest[1])
		if to >= began || jumps >= 16 {
			return "", 0, errLoop
		}
		name, _, e := plainFrom(b, to, to, jumps+1, ahead)
		if e != 0 {
			return "", 0, e
		}
		return name, at + 2, 0
	}
	return "", 0, errForm
}

// plainLists: the records' lists; the tests write none of them any other way.
func plainLists(p *api.Packet) []*[]api.Record {
	return []*[]api.Record{&p.Answer, &p.Auth, &p.More}
}

// isName: what is read of it, with something behind it, is just it.
func isName(s string) bool {
	name, next, e := plainName([]byte(s+"x"), 0)
	return e == 0 && name == s && next == len(s)
}

func plainRight(p api.Packet) bool {
	short := []int{p.ID, p.Flags}
	long, sizes := []int{}, []int{len(p.Question), len(p.Answer), len(p.Auth), len(p.More)}
	for _, n := range sizes {
		if n >= 101 {
			return false
		}
	}
	for _, q := range p.Question {
		if !isName(q.Name) {
			return false
		}
		short = append(short, q.Type, q.Class)
	}
	for _, x := range slices.Concat(p.Answer, p.Auth, p.More) {
		if !isName(x.Name) || len(x.Data) >= 1001 {
			return false
		}
		short = append(short, x.Type, x.Class)
		long = append(long, x.TTL)
	}
	outside := func(top int) func(int) bool { return func(n int) bool { return n < 0 || n >= top } }
	return !slices.ContainsFunc(short, outside(65536)) && !slices.ContainsFunc(long, outside(2147483648))
}

func u16(n int) string { return string(binary.BigEndian.AppendUint16(nil, uint16(n))) }

func u32(n int) string { return string(binary.BigEndian.AppendUint32(nil, uint32(n))) }

func questionBytes(q api.Question) string { return q.Name + u16(q.Type) + u16(q.Class) }

func recordBytes(x api.Record) string {
	return x.Name + u16(x.Type) + u16(x.Class) + u32(x.TTL) + u16(len(x.Data)) + x.Data
}

// wholeBytes: a packet's bytes, all names in full; whether it may be or not.
func wholeBytes(p api.Packet) string {
	out := u16(p.ID) + u16(p.Flags) + u16(len(p.Question)) + u16(len(p.Answer)) + u16(len(p.Auth)) + u16(len(p.More))
	for _, q := range p.Question {
		out += questionBytes(q)
	}
	for _, x := range slices.Concat(p.Answer, p.Auth, p.More) {
		out += recordBytes(x)
	}
	return out
}

// lower: small letters, by hand; no length of a label is a letter.
func lower(name string) string {
	b := []byte(name)
	for i, c := range b {
		if 65 <= c && c <= 90 {
			b[i] = c + 32
		}
	}
	return string(b)
}

// pointed: the packet whose names in full are what is laid of another one's.
func pointed(p api.Packet) api.Packet {
	for _, l := range plainLists(&p) {
		*l = slices.Clone(*l)
		for i := range *l {
			if len(p.Question) > 0 && lower((*l)[i].Name) == lower(p.Question[0].Name) {
				(*l)[i].Name = "\xc0\x0c"
			}
		}
	}
	return p
}

// firsts: of all records the first ones alone.
func firsts(p api.Packet, many int) api.Packet {
	for _, l := range plainLists(&p) {
		n := min(many, len(*l))
		*l = (*l)[:n]
		many -= n
	}
	return p
}

func records(p api.Packet) int { return len(p.Answer) + len(p.Auth) + len(p.More) }

// plainBuild: as many records as there is room for, from all of them down to none.
func plainBuild(p api.Packet, limit int) (string, api.Errno) {
	if !plainRight(p) {
		return "", errArg
	}
	for n := records(p); n >= 0; n-- {
		cut := pointed(firsts(p, n))
		if n < records(p) {
			cut.Flags |= cutFlag
		}
		if s := wholeBytes(cut); len(s) <= limit {
			return s, 0
		}
	}
	return "", errLong
}

// scan: what is read of bytes, from one place to the next one.
type scan struct {
	b  []byte
	at int
}

func (s *scan) number(size int) (int, bool) {
	if len(s.b)-s.at < size {
		return 0, false
	}
	n := 0
	for range size {
		n = n*256 + int(s.b[s.at])
		s.at++
	}
	return n, true
}

// question: 0 where all of it is there.
func (s *scan) question() (q api.Question, e api.Errno) {
	if q.Name, s.at, e = plainName(s.b, s.at); e != 0 {
		return q, e
	}
	var ok bool
	if q.Type, ok = s.number(2); !ok {
		return q, errShort
	}
	if q.Class, ok = s.number(2); !ok {
		return q, errShort
	}
	return q, 0
}

func (s *scan) record() (x api.Record, e api.Errno) {
	q, e := s.question()
	if e != 0 {
		return x, e
	}
	ttl, ok := s.number(4)
	size, there := s.number(2)
	if !ok || !there || len(s.b)-s.at < size {
		return x, errShort
	}
	data := string(s.b[s.at : s.at+size])
	s.at += size
	return api.Record{Name: q.Name, Type: q.Type, Class: q.Class, TTL: ttl, Data: data}, 0
}

func plainParse(b []byte) (p api.Packet, e api.Errno) {
	if len(b) < 12 {
		return p, errShort
	}
	if len(b) > mostBytes {
		return p, errLong
	}
	s := &scan{b: b}
	var head [6]int
	for i := range head {
		head[i], _ = s.number(2)
	}
	out := api.Packet{ID: head[0], Flags: head[1]}
	for range head[2] {
		q, e := s.question()
		if e != 0 {
			return p, e
		}
		out.Question = append(out.Question, q)
	}
	for i, l := range plainLists(&out) {
		for range head[3+i] {
			x, e := s.record()
			if e != 0 {
				return p, e
			}
			*l = append(*l, x)
		}
	}
	if s.at != len(b) {
		return p, errForm
	}
	if !plainRight(out) {
		return p, errArg
	}
	return out, 0
}

// plainSame: all fields of both, one behind the other.
func plainSame(a, b api.Packet) bool {
	same := a.ID == b.ID && a.Flags == b.Flags && len(a.Question) == len(b.Question)
	for i := 0; same && i < len(a.Question); i++ {
		x, y := a.Question[i], b.Question[i]
		same = x.Name == y.Name && x.Type == y.Type && x.Class == y.Class
	}
	others := plainLists(&b)
	for k, l := range plainLists(&a) {
		o := *others[k]
		same = same && len(*l) == len(o)
		for i := 0; same && i < len(o); i++ {
			x, y := (*l)[i], o[i]
			same = x.Name == y.Name && x.Type == y.Type && x.Class == y.Class && x.TTL == y.TTL && x.Data == y.Data
		}
	}
	return same
}

// nothing: is it a packet's zero value?
func nothing(p api.Packet) bool { return plainSame(p, api.Packet{}) }

// holdName: Name at a place against the plain working-out; what is told is a name, from the place on.
func holdName(t *testing.T, b []byte, at int) api.Errno {
	t.Helper()
	name, next, e := packet.Name(b, at)
	if want, n, f := plainName(b, at); name != want || next != n || e != f {
		t.Fatalf("%q at %d: %q %d %d, not %q %d %d", b, at, name, next, e, want, n, f)
	}
	if e == 0 && (!label.Right(name) || next <= at || next > len(b)) {
		t.Fatalf("%q at %d: %q, %d", b, at, name, next)
	}
	return e
}

// holdNames: at each place there is, and at both that there aren't.
func holdNames(t *testing.T, b []byte) {
	t.Helper()
	for at := -1; at <= len(b)+1; at++ {
		holdName(t, b, at)
	}
}

// holdParse: Parse against the plain working-out; what is parsed may be, and may be built.
func holdParse(t *testing.T, b []byte) api.Errno {
	t.Helper()
	p, e := packet.Parse(b)
	if want, f := plainParse(b); e != f || !plainSame(p, want) {
		t.Fatalf("%q: %+v %d, not %+v %d", b, p, e, want, f)
	}
	if e == 0 {
		if back, f := packet.Build(p, math.MaxInt); !packet.Right(p) || f != 0 {
			t.Fatalf("%q: parsed as %+v, which is built as %q %d", b, p, back, f)
		}
	}
	return e
}

// holdBuild: Build against the plain working-out; P17.2 of what is built.
func holdBuild(t *testing.T, p api.Packet, limit int) api.Errno {
	t.Helper()
	b, e := packet.Build(p, limit)
	if want, f := plainBuild(p, limit); string(b) != want || e != f {
		t.Fatalf("%+v in %d: %q %d, not %q %d", p, limit, b, e, want, f)
	}
	if e == 0 && len(b) <= mostBytes {
		holdBack(t, p, b, limit)
	}
	return e
}

// holdBack: P17.2: what is built is parsed as it was, but for letters; what is cut has the first records, as many as there is room for.
func holdBack(t *testing.T, p api.Packet, b []byte, limit int) {
	t.Helper()
	x, e := packet.Parse(b)
	n := records(x)
	if e != 0 || len(b) > limit || n > records(p) {
		t.Fatalf("%+v in %d: %q, parsed as %+v %d", p, limit, b, x, e)
	}
	want := firsts(p, n)
	if n < records(p) {
		want.Flags |= cutFlag
		if more, f := plainBuild(firsts(p, n+1), math.MaxInt); f != 0 || len(more) <= limit {
			t.Fatalf("%+v in %d: cut, though of %d records there are %d bytes", p, limit, n+1, len(more))
		}
	}
	for i, l := range plainLists(&want) {
		*l = slices.Clone(*l)
		for k := range *l {
			was, is := &(*l)[k].Name, (*plainLists(&x)[i])[k].Name
			if len(p.Question) > 0 && label.Same(*was, p.Question[0].Name) {
				*was = p.Question[0].Name
			}
			if *was != is {
				t.Fatalf("%+v in %d: a record of %q is one of %q", p, limit, *was, is)
			}
		}
	}
	if !plainSame(x, want) || !packet.Same(x, want) {
		t.Fatalf("%+v in %d: %+v, not %+v", p, limit, x, want)
	}
}

// holdLimits: in each limit around what there is, and at all edges.
func holdLimits(t *testing.T, p api.Packet) {
	t.Helper()
	all, _ := plainBuild(p, math.MaxInt)
	for limit := -2; limit <= len(all)+2; limit++ {
		holdBuild(t, p, limit)
	}
	for _, limit := range edges {
		holdBuild(t, p, limit)
	}
}

// holdRight: Right against the plain working-out, and what Build says of it.
func holdRight(t *testing.T, p api.Packet, want bool) {
	t.Helper()
	if got := packet.Right(p); got != want || got != plainRight(p) {
		t.Fatalf("%+v: %t", p, got)
	}
	for _, limit := range []int{-1, 0, 600000} {
		b, e := packet.Build(p, limit)
		if (e == errArg) != !want || e != 0 && b != nil {
			t.Fatalf("%+v in %d: %q %d", p, limit, b, e)
		}
	}
}

// sized: a name's bytes whose labels have these lengths.
func sized(lengths ...int) string {
	out := ""
	for i, n := range lengths {
		out += string([]byte{byte(n)}) + strings.Repeat(string([]byte{byte('a' + i%26)}), n)
	}
	return out + "\x00"
}

// lists: all lists of these things up to that many, joined.
func lists(things []string, most int) []string {
	all, last := []string{""}, []string{""}
	for range most {
		var next []string
		for _, s := range last {
			for _, x := range things {
				next = append(next, s+x)
			}
		}
		all, last = append(all, next...), next
	}
	return all
}

func oneOf[T any](r *rand.Rand, l ...T) T { return l[r.Intn(len(l))] }

// anyName: one of a few labels, or of any.
func anyName(r *rand.Rand) string {
	if r.Intn(3) > 0 {
		return oneOf(r, "\x00", "\x01a\x00", "\x01A\x00", "\x01b\x00", "\x01a\x02bc\x00", "\x01A\x02bC\x00", "\x02n1\x01a\x00", "\x01\x00\x00")
	}
	out := ""
	for range r.Intn(5) {
		l := make([]byte, 1+r.Intn(oneOf(r, 2, 8, 63)))
		r.Read(l)
		if len(out)+1+len(l) > 254 {
			break
		}
		out += string([]byte{byte(len(l))}) + string(l)
	}
	return out + "\x00"
}

func anyData(r *rand.Rand) string {
	b := make([]byte, r.Intn(oneOf(r, 1, 5, 30, 30, 1001)))
	r.Read(b)
	return string(b)
}

func anyShort(r *rand.Rand) int { return oneOf(r, 0, 1, 255, 256, 65535, r.Intn(65536)) }

func anyRecords(r *rand.Rand) []api.Record {
	var l []api.Record
	for range r.Intn(oneOf(r, 1, 2, 4, 4, 12)) {
		l = append(l, api.Record{Name: anyName(r), Type: anyShort(r), Class: anyShort(r), TTL: oneOf(r, 0, 255, 256, 65535, 65536, 1<<24-1, 1<<24, 1<<31-1, r.Intn(1<<31)), Data: anyData(r)})
	}
	return l
}

// anyPacket: one that may be.
func anyPacket(r *rand.Rand) api.Packet {
	p := api.Packet{ID: anyShort(r), Flags: anyShort(r), Answer: anyRecords(r), Auth: anyRecords(r), More: anyRecords(r)}
	for range oneOf(r, 0, 1, 1, 1, 2, 5) {
		p.Question = append(p.Question, api.Question{Name: anyName(r), Type: anyShort(r), Class: anyShort(r)})
	}
	return p
}

// full: a packet that may be, with just so many things in its lists.
func full(questions, answers, auths, mores int) api.Packet {
	l := func(n int) []api.Record {
		return slices.Repeat([]api.Record{{Name: "\x01r\x00", Type: 1, Class: 1, TTL: 5, Data: "four"}}, n)
	}
	return api.Packet{ID: 7, Question: slices.Repeat([]api.Question{{Name: "\x01q\x00", Type: 1, Class: 1}}, questions), Answer: l(answers), Auth: l(auths), More: l(mores)}
}

// noNames: what is no name.
var noNames = []string{"", "a", "\x01", "\x01a", "\x02a\x00", "\x00\x00", "\x01a\x00\x00", "\x01a\x00\x01b\x00", "\xc0\x0c", "\x01a\xc0\x0c", "\x40\x00", "\x40" + strings.Repeat("a", 64) + "\x00", sized(63, 63, 63, 62), sized(63, 63, 63, 63)}

// P17.1: names by hand.
func TestNameByHand(t *testing.T) {
	long := sized(63, 63, 63, 61)
	for _, x := range []struct {
		b    string
		at   int
		name string
		next int
		e    api.Errno
	}{
		{"\x00", 0, "\x00", 1, 0}, {"x\x00y", 1, "\x00", 2, 0}, {"\x00", 1, "", 0, errShort}, {"\x00", 2, "", 0, errArg}, {"\x00", -1, "", 0, errArg}, {"\x00", math.MaxInt, "", 0, errArg}, {"\x00", math.MinInt, "", 0, errArg},
		{"", 0, "", 0, errShort}, {"", 1, "", 0, errArg}, {"", -1, "", 0, errArg},
		{"\x01a\x02bC\x00zz", 0, "\x01a\x02bC\x00", 6, 0}, {"\x01a\x02bC\x00zz", 2, "\x02bC\x00", 6, 0}, {"\x01\x00\x00", 0, "\x01\x00\x00", 3, 0}, {"\x02\xc0\x0c\x00", 0, "\x02\xc0\x0c\x00", 4, 0},
		{"\x01", 0, "", 0, errShort}, {"\x01a", 0, "", 0, errShort}, {"\x02a", 0, "", 0, errShort}, {"\x01a\x01", 0, "", 0, errShort}, {"\x02a\x00", 0, "", 0, errShort}, {"\x01a\xc0", 0, "", 0, errShort}, {"\xc0", 0, "", 0, errShort}, {"\x00\xff", 1, "", 0, errShort},
		{"\x40", 0, "", 0, errForm}, {"\x7f\x00", 0, "", 0, errForm}, {"\x80", 0, "", 0, errForm}, {"\xbf", 0, "", 0, errForm}, {"\x01a\x40", 0, "", 0, errForm}, {"\x01a\xbf\x00", 0, "", 0, errForm},
		// A pointer's place lies ahead of where the labels that led there began.
		{"\x00\xc0\x00", 1, "\x00", 3, 0}, {"\xc0\x00", 0, "", 0, errLoop}, {"\x00\xc0\x01", 1, "", 0, errLoop}, {"\x00\xc0\x02\x00", 1, "", 0, errLoop}, {"\x00\xc0\x03\x00", 1, "", 0, errLoop}, {"\x00\xff\xff", 1, "", 0, errLoop},
		{"\x00\x01a\xc0\x00", 1, "\x01a\x00", 5, 0}, {"\x00\x01a\xc0\x01", 1, "", 0, errLoop}, {"\x00\x01a\xc0\x02", 1, "", 0, errLoop}, {"\x00\x01a\xc0\x03", 1, "", 0, errLoop}, {"\x01a\xc0\x00", 0, "", 0, errLoop},
		{"\x01a\x01b\x00\x01c\xc0\x00z", 5, "\x01c\x01a\x01b\x00", 9, 0}, {"\x01a\x01b\x00\x01c\xc0\x02z", 5, "\x01c\x01b\x00", 9, 0}, {"\x01a\x01b\x00\x01c\xc0\x04z", 5, "\x01c\x00", 9, 0}, {"\x01a\x01b\x00\x01c\xc0\x01b", 5, "", 0, errForm},
		// It is held against where those labels began that the last pointer led to, not against where all of them did.
		{"\x00\x01a\xc0\x05\x00\x01b\xc0\x01", 6, "", 0, errLoop}, {"\x00\x01a\xc0\x01\x01b\xc0\x01", 5, "", 0, errLoop}, {"\x00\x01a\xc0\x00\x01b\xc0\x01z", 5, "\x01b\x01a\x00", 9, 0}, {"\x00\xc0\x00\x01b\xc0\x01z", 3, "\x01b\x00", 7, 0}, {"\x00\xc0\x03\xc0\x01", 3, "", 0, errLoop},
		// Where it leads there may be what is wrong, too.
		{"\x40\xc0\x00", 1, "", 0, errForm}, {"\x3f\xc0\x00", 1, "", 0, errShort}, {"\x03\xc0\x00", 1, "", 0, errShort}, {"\x02\xc0\x00", 1, "", 0, errShort}, {"\x02\xc0\x00\x00", 3, "\x00", 4, 0},
		// 255 bytes are let, one more isn't; what isn't all there, or is no label, is told first.
		{long, 0, long, 255, 0}, {"\x01z" + long, 0, "", 0, errLong}, {"\x01z" + long, 2, long, 257, 0}, {sized(63, 63, 63, 62), 0, "", 0, errLong}, {sized(63, 63, 63, 62)[:255], 0, "", 0, errLong}, {sized(63, 63, 63, 63)[:255], 0, "", 0, errShort}, {sized(63, 63, 63, 63)[:256], 0, "", 0, errLong},
		{long[:254], 0, "", 0, errShort}, {long[:254] + "\x40", 0, "", 0, errForm}, {long[:254] + "\xc0", 0, "", 0, errShort}, {long[:254] + "\xc0\x00", 0, "", 0, errLoop}, {long[:254] + "\x01", 0, "", 0, errShort}, {long[:254] + "\x01a", 0, "", 0, errLong}, {long[:254] + "\x05abcd", 0, "", 0, errShort},
		{"\x00" + long[:254] + "\xc0\x00", 1, long, 257, 0}, {"\x01q\x00" + long[:254] + "\xc0\x00", 3, "", 0, errLong}, {strings.Repeat("\x01a", 127) + "\x00", 0, strings.Repeat("\x01a", 127) + "\x00", 255, 0}, {strings.Repeat("\x01a", 128) + "\x00", 0, "", 0, errLong},
	} {
		if name, next, e := packet.Name([]byte(x.b), x.at); name != x.name || next != x.next || e != x.e {
			t.Errorf("%q at %d: %q %d %d", x.b, x.at, name, next, e)
		}
		holdNames(t, []byte(x.b))
	}
}

// P17.1: a pointer tells its place with all bits but the highest two.
func TestFarPointers(t *testing.T) {
	b := make([]byte, 16400)
	copy(b, "\x01a\x00")
	copy(b[0x1234:], "\x01m\xc0\x00")
	copy(b[16380:], "\x01b\x00\xc0\x00\xd2\x34\xff\xfc\xff\xfd\xff\xff\xff\xfe\x00")
	for _, x := range []struct {
		at   int
		name string
		next int
		e    api.Errno
	}{
		{16380, "\x01b\x00", 16383, 0}, {16383, "\x01a\x00", 16385, 0}, {16385, "\x01m\x01a\x00", 16387, 0}, {16387, "\x01b\x00", 16389, 0}, {16389, "", 0, errForm}, {16391, "\x01a\x00", 16393, 0}, {16393, "\x00", 16395, 0}, {16399, "\x00", 16400, 0}, {16400, "", 0, errShort}, {16401, "", 0, errArg},
	} {
		if name, next, e := packet.Name(b, x.at); name != x.name || next != x.next || e != x.e {
			t.Errorf("at %d: %q %d %d", x.at, name, next, e)
		}
	}
	for at := range b {
		holdName(t, b, at)
	}
	// Each place, from where it is let and where it isn't.
	for to := range 1 << 14 {
		for _, at := range []int{to, to + 1, 16384} {
			c := make([]byte, at, at+2)
			c = append(c, byte(0xc0+to>>8), byte(to))
			if e := holdName(t, c, at); (e == 0) != (to < at) || e != 0 && e != errLoop {
				t.Fatalf("from %d to %d: %d", at, to, e)
			}
		}
	}
}

// P17.1: sixteen pointers are let, with labels between them and without; next is behind the first one.
func TestManyPointers(t *testing.T) {
	for _, between := range []string{"", "\x01a", "\x02ab\x01c"} {
		for _, end := range []string{"\x00", "\x01e\x00"} {
			b, last := []byte(end), 0
			name := end
			for jumps := 1; jumps <= 40; jumps++ {
				at := len(b)
				b = append(append(b, between...), 0xc0, byte(last))
				last = at
				name = between + name
				if at > 255 {
					break
				}
				got, next, e := packet.Name(b, at)
				if jumps <= 16 && (got != name || next != len(b) || e != 0) {
					t.Errorf("%d pointers, %q between: %q %d %d", jumps, between, got, next, e)
				}
				if jumps > 16 && (got != "" || next != 0 || e != errLoop) {
					t.Errorf("%d pointers, %q between: %q %d %d", jumps, between, got, next, e)
				}
				holdName(t, b, at)
			}
		}
	}
	// What is wrong where a 16th leads to is told; a 17th is told ahead of it.
	for pointers, bad := range map[int]api.Errno{16: errForm, 17: errLoop, 18: errLoop} {
		b := []byte("\x40\xc0\x00")
		for range pointers - 1 {
			b = append(b, 0xc0, byte(max(1, len(b)-2)))
		}
		if e := holdName(t, b, len(b)-2); e != bad {
			t.Errorf("%d pointers to what is wrong: %d", pointers, e)
		}
	}
}

// P17.1: all short bytes at which something turns, from each place.
func TestNameOfAllSmall(t *testing.T) {
	for _, s := range lists([]string{"\x00", "\x01", "\x02", "\x03", "\x3f", "\x40", "a", "\xbf", "\xc0", "\xff"}, 5) {
		holdNames(t, []byte(s))
	}
	for _, s := range lists([]string{"\x00", "\x01", "\x02", "\xc0"}, 8) {
		holdNames(t, []byte(s))
	}
	for _, s := range lists([]string{"\x00", "\x01", "\x01a", "\xc0\x00", "\xc0\x02", "\xc0\x03", "\xc0\x05"}, 5) {
		holdNames(t, []byte(s))
	}
}

// P17.1: each first byte of a part, with each number of bytes behind it; alone and behind a label.
func TestNameOfAllParts(t *testing.T) {
	for c := range 256 {
		for behind := range 70 {
			part := string([]byte{byte(c)}) + strings.Repeat("\x00", behind)
			var want api.Errno
			switch {
			case c >= 192 && behind == 0, c < 64 && c > 0 && behind < c+1:
				want = errShort
			case c > 192:
				want = errLoop
			case c >= 64 && c < 192:
				want = errForm
			}
			if e := holdName(t, []byte("\x00"+part), 1); e != want {
				t.Errorf("%d, %d bytes behind it: %d, not %d", c, behind, e, want)
			}
			if e := holdName(t, []byte("\x00\x01a"+part), 1); e != want {
				t.Errorf("%d behind a label, %d bytes behind it: %d, not %d", c, behind, e, want)
			}
		}
	}
}

// P17.1: each length of all, in one piece and over a pointer.
func TestNameOfLengths(t *testing.T) {
	for first := 1; first <= 63; first++ {
		for last := 1; last <= 63; last++ {
			labels := sized(first, 63, 63, last)
			want := api.Errno(0)
			if len(labels) > 255 {
				want = errLong
			}
			if e := holdName(t, []byte(labels), 0); e != want {
				t.Errorf("%d bytes: %d", len(labels), e)
			}
			for _, cut := range []int{first + 1, first + 65, first + 129} {
				tail := labels[cut:]
				b := []byte(tail + labels[:cut] + "\xc0\x00")
				if e := holdName(t, b, len(tail)); e != want {
					t.Errorf("%d bytes over a pointer: %d", len(labels), e)
				}
			}
		}
	}
}

// P17.1: bytes of any kind, most of them nearly names.
func TestNameOfAny(t *testing.T) {
	r := rand.New(rand.NewSource(171))
	often := map[api.Errno]int{}
	for i := range 20000 {
		var b []byte
		places := []int{0}
		for range r.Intn(40) {
			places = append(places, len(b))
			switch r.Intn(6 + i%2) {
			case 0:
				b = append(b, 0)
			case 1:
				b = append(b, byte(r.Intn(256)))
			case 2:
				b = append(b, anyName(r)...)
			case 3:
				l := make([]byte, r.Intn(64))
				b = append(append(b, byte(len(l))), l...)
			case 6: // labels without an end
				l := sized(1+r.Intn(63), 1+r.Intn(63), 1+r.Intn(63), 1+r.Intn(63))
				b = append(b, l[:len(l)-1]...)
			default:
				to := r.Intn(len(b) + 2)
				b = append(b, byte(0xc0+to>>8), byte(to))
			}
		}
		for range 6 {
			often[holdName(t, b, r.Intn(len(b)+3)-1)]++
			often[holdName(t, b, oneOf(r, places...))]++
		}
	}
	for _, e := range []api.Errno{0, errArg, errShort, errForm, errLong, errLoop} {
		if often[e] < 1000 {
			t.Error("too few of", e, often)
		}
	}
}

// P17.1: what is very long ends, too.
func TestVeryLong(t *testing.T) {
	const many = 1 << 22
	for part, want := range map[string]api.Errno{"\x00": 0, "\x01a": errLong, "\xc0\x00": errLoop, "\xff": errLoop, "\x40": errForm} {
		b := bytes.Repeat([]byte(part), many)
		if e := holdName(t, b, 0); e != want {
			t.Errorf("%q: %d", part, e)
		}
		holdName(t, b, len(b))
		if p, e := packet.Parse(b); !nothing(p) || e != errLong {
			t.Errorf("%q: %d", part, e)
		}
	}
	// As many questions as there can be, each with as many pointers as are let; as many records as are told.
	b := []byte("\x00\x00\x00\x00\xff\xff\xff\xff\xff\xff\xff\xff" + sized(63, 63, 63, 61) + "\x00\x00\x00\x00")
	last := 12
	for len(b) < mostBytes-6 {
		at := len(b)
		b = append(b, byte(0xc0+last>>8), byte(last), 0, 0, 0, 0)
		if at < 12+259+15*6 {
			last = at
		}
	}
	if e := holdParse(t, b); e != errShort {
		t.Error(e)
	}
}

// P17.1: Right at both edges of each number, at each place of each list.
func TestRightOfNumbers(t *testing.T) {
	for _, n := range append(edges, 2, 512, 1<<15, 1<<24, -2) {
		short, long := n >= 0 && n <= 65535, n >= 0 && n <= 2147483647
		holdRight(t, api.Packet{ID: n}, short)
		holdRight(t, api.Packet{Flags: n}, short)
		for place := range 3 {
			for _, change := range []func(*api.Question){func(q *api.Question) { q.Type = n }, func(q *api.Question) { q.Class = n }} {
				p := full(3, 3, 3, 3)
				change(&p.Question[place])
				holdRight(t, p, short)
			}
			for list := range 3 {
				for _, change := range []func(*api.Record){func(x *api.Record) { x.Type = n }, func(x *api.Record) { x.Class = n }} {
					p := full(3, 3, 3, 3)
					change(&(*plainLists(&p)[list])[place])
					holdRight(t, p, short)
				}
				p := full(3, 3, 3, 3)
				(*plainLists(&p)[list])[place].TTL = n
				holdRight(t, p, long)
			}
		}
	}
}

// P17.1: Right of names and data, at each place of each list.
func TestRightOfTexts(t *testing.T) {
	names := map[string]bool{"\x00": true, "\x01\x00\x00": true, "\x01A\x00": true, "\x01.\x00": true, sized(63, 63, 63, 61): true, strings.Repeat("\x01a", 127) + "\x00": true}
	for _, n := range noNames {
		names[n] = false
	}
	for name, want := range names {
		for place := range 3 {
			p := full(3, 3, 3, 3)
			p.Question[place].Name = name
			holdRight(t, p, want)
			for list := range 3 {
				p := full(3, 3, 3, 3)
				(*plainLists(&p)[list])[place].Name = name
				holdRight(t, p, want)
				p.Question = nil
				holdRight(t, p, want)
			}
		}
	}
	for _, n := range []int{0, 1, 255, 256, 512, 999, 1000, 1001, 1002, 65535, 65536, 1 << 17} {
		for place := range 3 {
			for list := range 3 {
				p := full(3, 3, 3, 3)
				(*plainLists(&p)[list])[place].Data = strings.Repeat("\xff", n)
				holdRight(t, p, n <= mostData)
			}
		}
	}
}

// P17.1: Right of each list's length; what may not be may stand last of the most, too.
func TestRightOfLengths(t *testing.T) {
	for _, n := range []int{0, 1, 2, 99, 100, 101, 102, 200, 256, 65535, 65536, 70000} {
		for list := range 4 {
			var sizes [4]int
			sizes[list] = n
			holdRight(t, full(sizes[0], sizes[1], sizes[2], sizes[3]), n <= mostList)
		}
	}
	holdRight(t, full(100, 100, 100, 100), true)
	holdRight(t, full(34, 34, 34, 34), true)
	for place := range mostList {
		p := full(100, 0, 0, 0)
		p.Question[place].Class = -1
		holdRight(t, p, false)
		for list := range 3 {
			p := full(0, 100, 100, 100)
			(*plainLists(&p)[list])[place].Name = ""
			holdRight(t, p, false)
		}
	}
}

// P17.1: the document's example.
func TestExample(t *testing.T) {
	p := api.Packet{Question: []api.Question{{Name: "\x00", Type: 1, Class: 1}}}
	want := "\x00\x00\x00\x00\x00\x01\x00\x00\x00\x00\x00\x00\x00\x00\x01\x00\x01"
	if b, e := packet.Build(p, 17); string(b) != want || e != api.OK {
		t.Errorf("%q %d", b, e)
	}
	if x, e := packet.Parse([]byte(want)); !packet.Same(x, p) || e != api.OK {
		t.Errorf("%+v %d", x, e)
	}
	if b, e := packet.Build(p, 16); b != nil || e != api.ErrLong {
		t.Errorf("%q %d", b, e)
	}
	holdLimits(t, p)
}

// P17.1: bytes by hand: each field has a place and bytes of its own.
func TestBuildByHand(t *testing.T) {
	p := api.Packet{
		ID: 0x0102, Flags: 0x0304,
		Question: []api.Question{{Name: "\x02Aa\x00", Type: 0x0506, Class: 0x0708}, {Name: "\x02aA\x00", Type: 0x090a, Class: 0x0b0c}},
		Answer:   []api.Record{{Name: "\x02aa\x00", Type: 0x0d0e, Class: 0x0f10, TTL: 0x11121314, Data: "d"}},
		Auth:     []api.Record{{Name: "\x02AA\x00", Type: 0xfffe, Class: 0xfdfc, TTL: 0x7f80ff81}, {Name: "\x02ab\x00", Type: 1, Class: 2, TTL: 3, Data: strings.Repeat("e", 258)}},
		More:     []api.Record{{Name: "\x00"}, {Name: "\x01x\x02Aa\x00", Data: "\xc0\x0c\x00"}, {Name: "\x02Aa\x00", TTL: 1 << 16}},
	}
	want := "\x01\x02\x03\x04\x00\x02\x00\x01\x00\x02\x00\x03" +
		"\x02Aa\x00\x05\x06\x07\x08" + "\x02aA\x00\x09\x0a\x0b\x0c" +
		"\xc0\x0c\x0d\x0e\x0f\x10\x11\x12\x13\x14\x00\x01d" +
		"\xc0\x0c\xff\xfe\xfd\xfc\x7f\x80\xff\x81\x00\x00" + "\x02ab\x00\x00\x01\x00\x02\x00\x00\x00\x03\x01\x02" + strings.Repeat("e", 258) +
		"\x00" + strings.Repeat("\x00", 10) + "\x01x\x02Aa\x00" + strings.Repeat("\x00", 9) + "\x03\xc0\x0c\x00" + "\xc0\x0c\x00\x00\x00\x00\x00\x01\x00\x00\x00\x00"
	b, e := packet.Build(p, len(want))
	if string(b) != want || e != api.OK {
		t.Fatalf("%q %d, not %q", b, e, want)
	}
	x, e := packet.Parse(b)
	for _, name := range []*string{&p.Answer[0].Name, &p.Auth[0].Name, &p.More[2].Name} {
		*name = "\x02Aa\x00"
	}
	if !packet.Same(x, p) || e != api.OK {
		t.Errorf("%+v %d", x, e)
	}
	holdLimits(t, p)
}

// P17.1: which names are the two bytes of a pointer: those that are the first question's but for letters, no other ones.
func TestPointedNames(t *testing.T) {
	names := []string{"\x00", "\x01a\x00", "\x01A\x00", "\x01@\x00", "\x01`\x00", "\x01[\x00", "\x01{\x00", "\x01a\x01b\x00", "\x01A\x01B\x00", "\x01b\x01a\x00", "\x03a\x01b\x00", "\x01\xc1\x00", "\x01\xe1\x00", "\x01\x00\x00", sized(63, 63, 63, 61), strings.ToUpper(sized(63, 63, 63, 61))}
	for _, first := range names {
		for _, name := range names {
			q := []api.Question{{Name: first, Type: 1, Class: 1}, {Name: name, Type: 1, Class: 1}}
			x := []api.Record{{Name: name, Type: 1, Class: 1}}
			for _, p := range []api.Packet{{Question: q[:1], Answer: x}, {Question: q[:1], Auth: x}, {Question: q[:1], More: x}, {Question: q, Answer: x, Auth: x, More: x}, {Answer: x, More: x}, {Question: q}} {
				holdLimits(t, p)
			}
			b, _ := packet.Build(api.Packet{Question: q[:1], Answer: x}, 1000)
			same := lower(first) == lower(name)
			if got := bytes.Contains(b[12+len(first)+4:], []byte("\xc0\x0c")); got != same {
				t.Errorf("%q behind a question of %q: %q", name, first, b)
			}
		}
	}
}

// P17.1, P17.2: what there is no room for: the first such record, and all behind it, smaller ones, too; in each list.
func TestCut(t *testing.T) {
	big, small := api.Record{Name: "\x01b\x00", Data: strings.Repeat("b", 100)}, api.Record{Name: "\x01s\x00"}
	rows := [][]api.Record{nil, {small}, {big}, {small, big}, {big, small}, {small, big, small}, {big, big}}
	for _, answer := range rows {
		for _, auth := range rows {
			for _, more := range rows {
				for _, q := range [][]api.Question{nil, {{Name: "\x01b\x00"}}} {
					p := api.Packet{Flags: 0x8500, Question: q, Answer: answer, Auth: auth, More: more}
					all, _ := plainBuild(p, 10000)
					for _, limit := range []int{-1, 0, 11, 12, 13, 18, 19, 20, 31, 32, 33, 100, 120, 131, 132, 133, 144, 145, 146, len(all) - 13, len(all) - 1, len(all), len(all) + 1} {
						holdBuild(t, p, limit)
					}
				}
			}
		}
	}
	p := api.Packet{ID: 9, Flags: 0x8180, Answer: []api.Record{small, big, small}, Auth: []api.Record{small}, More: []api.Record{small}}
	want := "\x00\x09\x83\x80\x00\x00\x00\x01\x00\x00\x00\x00\x01s\x00" + strings.Repeat("\x00", 10)
	for _, limit := range []int{25, 26, 50, 137} {
		if b, e := packet.Build(p, limit); string(b) != want || e != api.OK {
			t.Errorf("in %d: %q %d", limit, b, e)
		}
	}
	// The flag may be there already; no other one changes, and where there is room for all none does.
	for flags := range 1 << 16 {
		p.Flags = flags
		cut, _ := packet.Build(p, 30)
		whole, _ := packet.Build(p, 512)
		if binary.BigEndian.Uint16(cut[2:]) != uint16(flags|cutFlag) || binary.BigEndian.Uint16(whole[2:]) != uint16(flags) {
			t.Fatalf("%x: %q, %q", flags, cut[:12], whole[:12])
		}
	}
}

// P17.1: header and questions are told whole or not at all.
func TestBuildOfQuestions(t *testing.T) {
	for n := range 5 {
		p := full(n, 1, 0, 1)
		least := 12 + 7*n
		for limit := -1; limit < least; limit++ {
			if b, e := packet.Build(p, limit); b != nil || e != api.ErrLong {
				t.Errorf("%d in %d: %q %d", n, limit, b, e)
			}
		}
		b, e := packet.Build(p, least)
		x, f := packet.Parse(b)
		if len(b) != least || e != 0 || f != 0 || len(x.Question) != n || records(x) != 0 || x.Flags != cutFlag {
			t.Errorf("%d: %q %d, %+v %d", n, b, e, x, f)
		}
		holdLimits(t, p)
	}
	long := api.Packet{Question: slices.Repeat([]api.Question{{Name: sized(63, 63, 63, 61), Type: 65535, Class: 65535}}, 100)}
	for limit, want := range map[int]api.Errno{12 + 259*100: 0, 12 + 259*100 - 1: errLong, 512: errLong, 0: errLong, math.MinInt: errLong, math.MaxInt: 0} {
		if e := holdBuild(t, long, limit); e != want {
			t.Errorf("in %d: %d", limit, e)
		}
	}
	// What may not be is told first.
	long.ID = -1
	if e := holdBuild(t, long, 0); e != errArg {
		t.Error(e)
	}
}

// P17.1: of bytes the least and the most that are parsed.
func TestParseOfLengths(t *testing.T) {
	for n := range 20 {
		b := make([]byte, n)
		want := api.Errno(errForm)
		if n < 12 {
			want = errShort
		} else if n == 12 {
			want = 0
		}
		if e := holdParse(t, b); e != want {
			t.Errorf("%d: %d", n, e)
		}
		for i := range b {
			b[i] = 0xff
		}
		want = errLoop // of a pointer to far behind
		if n < 14 {
			want = errShort
		}
		if e := holdParse(t, b); e != want {
			t.Errorf("%d: %d", n, e)
		}
	}
	if p, e := packet.Parse(nil); !nothing(p) || e != errShort {
		t.Error(p, e)
	}
	p := full(0, 64, 1, 0)
	for i := range p.Answer {
		p.Answer[i] = api.Record{Name: "\x00", Data: strings.Repeat("d", 1000)}
	}
	for n := 810; n > 800; n-- {
		p.Auth[0] = api.Record{Name: "\x00", Data: strings.Repeat("e", n)}
		b := []byte(wholeBytes(p))
		want := api.Errno(0)
		if len(b) >= 65536 {
			want = errLong
		}
		if e := holdParse(t, b); e != want || (len(b) == 65535) != (n == 808) {
			t.Errorf("%d bytes: %d", len(b), e)
		}
		if got, e := packet.Build(p, len(b)); !bytes.Equal(got, b) || e != 0 {
			t.Errorf("%d bytes: built as %d", len(b), len(got))
		}
	}
	// Too long is told ahead of whatever else is wrong.
	for c, want := range map[byte]api.Errno{0: errForm, 2: errLong, 63: errLong, 0x40: errForm, 0xff: errLoop} {
		for n, want := range map[int]api.Errno{65536: errLong, 65535: want} {
			if e := holdParse(t, bytes.Repeat([]byte{c}, n)); e != want {
				t.Errorf("%d times %d: %d", n, c, e)
			}
		}
	}
}

// P17.1: what is wrong, by hand: in which order it is told.
func TestParseByHand(t *testing.T) {
	head := func(questions, answers, auths, mores int) string {
		return "\x12\x34\x81\x80" + u16(questions) + u16(answers) + u16(auths) + u16(mores)
	}
	q, x := "\x01a\x00\x00\x01\x00\x01", "\xc0\x0c\x00\x01\x00\x01\x00\x00\x00\x05\x00\x04abcd"
	bigTTL := "\x01a\x00\x00\x01\x00\x01\x80\x00\x00\x00\x00\x00"
	bigData := "\x01a\x00\x00\x01\x00\x01\x00\x00\x00\x05\x03\xe9" + strings.Repeat("d", 1001)
	loop, form, longName := "\xff\xff", "\x40", strings.Repeat("\x01a", 128)
	rest := "\x00\x01\x00\x01\x00\x00\x00\x05\x00\x00"
	for i, row := range []struct {
		b string
		e api.Errno
	}{
		{head(0, 0, 0, 0), 0}, {head(1, 0, 0, 0) + q, 0}, {head(2, 0, 0, 0) + q + q, 0}, {head(1, 1, 0, 0) + q + x, 0}, {head(1, 0, 1, 0) + q + x, 0}, {head(1, 0, 0, 1) + q + x, 0}, {head(1, 1, 1, 1) + q + x + x + x, 0}, {head(0, 1, 0, 0) + "\x00" + rest, 0},
		// One more, or fewer, than there are.
		{head(1, 0, 0, 0), errShort}, {head(0, 1, 0, 0), errShort}, {head(0, 0, 1, 0), errShort}, {head(0, 0, 0, 1), errShort}, {head(2, 0, 0, 0) + q, errShort}, {head(1, 2, 0, 0) + q + x, errShort}, {head(1, 0, 2, 0) + q + x, errShort}, {head(1, 0, 0, 2) + q + x, errShort}, {head(0, 0, 0, 0) + q, errForm}, {head(1, 0, 0, 0) + q + q, errForm}, {head(1, 0, 0, 0) + q + x, errForm}, {head(1, 1, 0, 0) + q + x + "\x00", errForm},
		// Names' errors, wherever they stand; the name of one whose rest isn't there is told first.
		{head(1, 0, 0, 0) + loop, errLoop}, {head(1, 0, 0, 0) + form, errForm}, {head(1, 0, 0, 0) + longName, errLong}, {head(1, 0, 0, 0) + "\x01", errShort}, {head(1, 1, 0, 0) + q + loop, errLoop}, {head(1, 0, 1, 0) + q + form, errForm}, {head(1, 0, 0, 1) + q + longName, errLong}, {head(1, 1, 0, 0) + q + loop + rest, errLoop},
		{head(1, 0, 0, 0) + "\x01a\x00\x00\x01\x00", errShort}, {head(1, 0, 0, 0) + "\x01a\x00", errShort}, {head(1, 0, 0, 0) + "\x01a\x00\x00\x01", errShort},
		// The first one that is wrong is told, not one behind it.
		{head(2, 0, 0, 0) + loop + rest[:4] + form, errLoop}, {head(2, 0, 0, 0) + form + rest[:4] + loop, errForm}, {head(2, 0, 0, 0) + q + loop, errLoop}, {head(1, 1, 0, 0) + form + x, errForm}, {head(1, 1, 0, 0) + "\x01a\x00\x00\x40", errShort}, {head(1, 1, 0, 0) + "\x01a\x00\x40", errShort}, {head(1, 1, 0, 0) + "\x01a\x00" + loop, errShort}, {head(1, 1, 1, 0) + q + "\x00" + rest[:8] + "\x00\x02\x40", errShort},
		// A record's rest, and its data.
		{head(0, 1, 0, 0) + "\x00" + rest[:9], errShort}, {head(0, 1, 0, 0) + "\x00" + rest[:8] + "\x00\x01", errShort}, {head(0, 1, 0, 0) + "\x00" + rest[:8] + "\x00\x01d", 0}, {head(0, 1, 0, 0) + "\x00" + rest[:8] + "\x00\x01de", errForm}, {head(0, 1, 0, 0) + "\x00" + rest[:8] + "\xff\xff", errShort},
		// What may not be is told behind all that isn't there, or is left.
		{head(1, 1, 0, 0) + q + bigTTL, errArg}, {head(1, 0, 1, 0) + q + bigTTL, errArg}, {head(1, 0, 0, 1) + q + bigTTL, errArg}, {head(1, 1, 0, 0) + q + bigData, errArg}, {head(1, 0, 1, 0) + q + bigData, errArg}, {head(1, 0, 0, 1) + q + bigData, errArg}, {head(1, 1, 0, 0) + q + bigTTL + "\x00", errForm}, {head(1, 1, 1, 0) + q + bigTTL, errShort}, {head(1, 1, 1, 0) + q + bigData + loop, errLoop}, {head(1, 2, 0, 0) + q + bigTTL + form, errForm},
		{head(100, 0, 0, 0) + strings.Repeat(q, 100), 0}, {head(101, 0, 0, 0) + strings.Repeat(q, 101), errArg}, {head(0, 100, 100, 100) + strings.Repeat("\x00"+rest, 300), 0}, {head(0, 101, 0, 0) + strings.Repeat("\x00"+rest, 101), errArg}, {head(0, 0, 101, 0) + strings.Repeat("\x00"+rest, 101), errArg}, {head(0, 0, 0, 101) + strings.Repeat("\x00"+rest, 101), errArg}, {head(101, 0, 0, 0) + strings.Repeat(q, 101) + "\x00", errForm}, {head(102, 0, 0, 0) + strings.Repeat(q, 101), errShort}, {head(256, 0, 0, 0) + strings.Repeat(q, 256), errArg},
		// A name may begin in the header, or in what stands in data.
		{"\x01z\x00\x00\x00\x01\x00\x00\x00\x00\x00\x00\xc0\x00\x00\x01\x00\x01", 0}, {"\x01z\x00\x00\x00\x01\x00\x00\x00\x00\x00\x00\xc0\x0b\x00\x01\x00\x01", 0}, {head(0, 2, 0, 0) + "\x00" + rest[:8] + "\x00\x03\x01d\x00" + "\xc0\x17" + rest, 0}, {head(1, 0, 0, 0) + "\xc0\x0c" + rest[:4], errLoop},
	} {
		if e := holdParse(t, []byte(row.b)); e != row.e {
			t.Errorf("%d: %q: %d, not %d", i, row.b, e, row.e)
		}
	}
}

// P17.1: each beginning of a packet's bytes, each byte changed, taken away and laid twice.
func TestParseOfNearlyPackets(t *testing.T) {
	often := map[api.Errno]int{}
	for _, p := range []api.Packet{
		{ID: 0x1234, Flags: 0x8400, Question: []api.Question{{Name: "\x01a\x00", Type: 33, Class: 1}}, Answer: []api.Record{{Name: "\x01A\x00", Type: 33, Class: 1, TTL: 5, Data: "xy"}}},
		{Question: []api.Question{{Name: "\x00", Type: 1, Class: 1}, {Name: "\x02bc\x01a\x00"}}, Auth: []api.Record{{Name: "\x00"}, {Name: "\x02bc\x01a\x00", TTL: 1<<31 - 1, Data: "\x00"}}, More: []api.Record{{Name: "\x00", Data: "\x01a\x00"}}},
	} {
		for _, s := range []string{wholeBytes(p), wholeBytes(pointed(p))} {
			for n := range len(s) {
				if e := holdParse(t, []byte(s[:n])); e != errShort {
					t.Errorf("%q: %d", s[:n], e)
				}
				if n >= 12 {
					holdParse(t, []byte(s[:n]+s[n+1:]))
				}
				for c := range 256 {
					c := string([]byte{byte(c)})
					often[holdParse(t, []byte(s[:n]+c+s[n+1:]))]++
					often[holdParse(t, []byte(s[:n]+c+s[n:]))]++
					if e := holdParse(t, []byte(s+c)); e != errForm {
						t.Errorf("%q: %d", s+c, e)
					}
				}
			}
			if e := holdParse(t, []byte(s)); e != 0 {
				t.Errorf("%q: %d", s, e)
			}
		}
	}
	for _, e := range []api.Errno{0, errArg, errShort, errForm, errLoop} {
		if often[e] < 20 {
			t.Error("too few of", e, often)
		}
	}
}

// anyBytes: a header, and about as many questions and records as it says, with all that may be wrong here and there.
func anyBytes(r *rand.Rand) []byte {
	s := u16(r.Intn(65536)) + u16(r.Intn(65536))
	var many [4]int
	for i := range many {
		many[i] = oneOf(r, 0, 0, 0, 1, 1, 2, 3)
		s += u16(many[i] + r.Intn(20)/19)
	}
	for i := range many {
		for range many[i] {
			pointer := "\xc0" + string([]byte{byte(r.Intn(len(s) + 3))})
			s += oneOf(r, anyName(r), anyName(r), anyName(r), "\xc0\x0c", "\x01a\xc0\x0c", pointer) + u16(r.Intn(65536)) + u16(1)
			if r.Intn(20) == 0 { // the next one's name
				s += oneOf(r, "\x40", "\xff\xff", sized(63, 63, 63, 62), "\x00")
			}
			if i > 0 {
				d := anyData(r)
				s += u32(oneOf(r, 5, 5, 5, 5, 5, 5, 5, 1<<31-1, 1<<31, 1<<32-1)) + u16(len(d)) + d
			}
		}
	}
	return []byte(s + oneOf(r, "", "", "", "", "", "\x00"))
}

// P17.1: bytes of any kind: junk, and such as are nearly packets.
func TestParseOfAny(t *testing.T) {
	r := rand.New(rand.NewSource(172))
	often := map[api.Errno]int{}
	for range 30000 {
		b := make([]byte, r.Intn(60))
		for i := range b {
			b[i] = byte(r.Intn(256)) >> r.Intn(9)
		}
		holdParse(t, b)
		often[holdParse(t, anyBytes(r))]++
	}
	for _, e := range []api.Errno{0, errArg, errShort, errForm, errLong, errLoop} {
		if often[e] < 100 {
			t.Error("too few of", e, often)
		}
	}
}

// P17.1, P17.2: many packets that may be, within any limits; and such as may nearly be.
func TestThereAndBack(t *testing.T) {
	r := rand.New(rand.NewSource(173))
	whole, cut := 0, 0
	for range 6000 {
		p := anyPacket(r)
		b, e := packet.Build(p, math.MaxInt)
		if e != 0 {
			t.Fatalf("%+v: %d", p, e)
		}
		holdBuild(t, p, math.MaxInt)
		for range 6 {
			limit := oneOf(r, 512, len(b), len(b)-1, len(b)+1, r.Intn(len(b)+2), 12+r.Intn(100), r.Intn(1<<20), mostBytes)
			if holdBuild(t, p, limit) == 0 {
				if limit < len(b) {
					cut++
				} else {
					whole++
				}
			}
		}
		holdBuild(t, broken(r, p), oneOf(r, -1, 0, 512, 1<<20))
	}
	if whole < 5000 || cut < 5000 {
		t.Error("too few", whole, cut)
	}
}

// broken: what is nearly the packet that is handed in, and may not be.
func broken(r *rand.Rand, p api.Packet) api.Packet {
	short := func() int {
		return oneOf(r, -1, 65536, math.MinInt, math.MaxInt, -r.Intn(1<<40)-1, 65536+r.Intn(1<<40))
	}
	l := plainLists(&p)[r.Intn(3)]
	*l = append(slices.Clone(*l), api.Record{Name: "\x00"})
	x := &(*l)[r.Intn(len(*l))]
	p.Question = append(slices.Clone(p.Question), api.Question{Name: "\x00"})
	q := &p.Question[r.Intn(len(p.Question))]
	switch r.Intn(10) {
	case 0:
		p.ID = short()
	case 1:
		p.Flags = short()
	case 2:
		x.Type = short()
	case 3:
		x.Class = short()
	case 4:
		q.Type = short()
	case 5:
		q.Class = short()
	case 6:
		x.TTL = oneOf(r, -1, 1<<31, math.MinInt, math.MaxInt, 1<<31+r.Intn(1<<40))
	case 7:
		x.Data = strings.Repeat("x", 1001+r.Intn(3))
	case 8:
		x.Name = noNames[r.Intn(len(noNames))]
	case 9:
		q.Name = noNames[r.Intn(len(noNames))]
	}
	return p
}

// P17.1: greatest packets: all that may be, and each limit at which one record more has room.
func TestGreatest(t *testing.T) {
	x := api.Record{Name: sized(63, 63, 63, 61), Type: 65535, Class: 65535, TTL: 1<<31 - 1, Data: strings.Repeat("\xff", 1000)}
	l := slices.Repeat([]api.Record{x}, 100)
	p := api.Packet{ID: 65535, Flags: 65535, Question: slices.Repeat([]api.Question{{Name: "\x00", Type: 65535, Class: 65535}}, 100), Answer: l, Auth: l, More: l}
	all := 12 + 500 + 300*1265
	b, e := packet.Build(p, all)
	if len(b) != all || e != 0 || string(b) != wholeBytes(p) {
		t.Errorf("%d bytes, %d", len(b), e)
	}
	if x, e := packet.Parse(b); !nothing(x) || e != errLong {
		t.Errorf("%+v %d", x, e)
	}
	for _, n := range []int{0, 1, 50, 51, 99, 100, 101, 199, 200, 201, 299, 300} {
		for more := -1; more <= 1; more++ {
			limit := 12 + 500 + n*1265 + more
			b, e := packet.Build(p, limit)
			many := n
			if more < 0 {
				many--
			}
			if many < 0 {
				if b != nil || e != errLong {
					t.Errorf("in %d: %d bytes, %d", limit, len(b), e)
				}
				continue
			}
			if want := wholeBytes(firsts(p, many)); string(b) != want || e != 0 {
				t.Errorf("in %d: %d bytes, %d, not %d", limit, len(b), e, len(want))
			}
			if len(b) <= mostBytes {
				holdBack(t, p, b, limit)
			}
		}
	}
}

// variants: the packet, and each that differs from it in one thing.
func variants() []api.Packet {
	plain := func() api.Packet {
		p := full(2, 2, 2, 2)
		p.ID, p.Flags = 1, 2
		return p
	}
	all := []api.Packet{plain()}
	change := func(f func(p *api.Packet)) {
		p := plain()
		f(&p)
		all = append(all, p)
	}
	change(func(p *api.Packet) { p.ID = 2 })
	change(func(p *api.Packet) { p.ID = -1 })
	change(func(p *api.Packet) { p.Flags = 1 })
	change(func(p *api.Packet) { p.ID, p.Flags = 2, 1 })
	change(func(p *api.Packet) { p.Question = nil })
	for i := range 2 {
		change(func(p *api.Packet) { p.Question[i].Name = "\x01Q\x00" })
		change(func(p *api.Packet) { p.Question[i].Name = "" })
		change(func(p *api.Packet) { p.Question[i].Type = 9 })
		change(func(p *api.Packet) { p.Question[i].Class = 9 })
		change(func(p *api.Packet) { p.Question = p.Question[:i] })
	}
	change(func(p *api.Packet) { p.Question = append(p.Question, api.Question{}) })
	for list := range 3 {
		for i := range 2 {
			for _, f := range []func(x *api.Record){
				func(x *api.Record) { x.Name = "\x01R\x00" }, func(x *api.Record) { x.Name = "" }, func(x *api.Record) { x.Type = -9 }, func(x *api.Record) { x.Class = 9 }, func(x *api.Record) { x.TTL = 9 },
				func(x *api.Record) { x.Data = "Four" }, func(x *api.Record) { x.Data = "four " }, func(x *api.Record) { x.Data = "" }, func(x *api.Record) { x.Type, x.Class = 5, 1 },
			} {
				change(func(p *api.Packet) { f(&(*plainLists(p)[list])[i]) })
			}
			change(func(p *api.Packet) { l := plainLists(p)[list]; *l = (*l)[:i] })
		}
		change(func(p *api.Packet) { l := plainLists(p)[list]; *l = append(*l, api.Record{}) })
		change(func(p *api.Packet) {
			l, o := plainLists(p)[list], plainLists(p)[(list+1)%3]
			*l, *o = append(*l, (*o)[0]), (*o)[1:]
		})
	}
	change(func(p *api.Packet) { *p = api.Packet{} })
	return all
}

// P17.1: Same of all pairs of packets that differ in one thing, or in two; of such as may not be, too.
func TestSame(t *testing.T) {
	all, again := variants(), variants()
	seen := map[bool]int{}
	for i, a := range all {
		for k, b := range again {
			got := packet.Same(a, b)
			if got != plainSame(a, b) || i == k && !got {
				t.Fatalf("%+v, %+v: %t", a, b, got)
			}
			if got && i != k && i < k && !packet.Same(b, a) {
				t.Fatalf("%+v, %+v: not so turned round", a, b)
			}
			if i == 0 && got && k != 0 {
				t.Fatalf("%d: no change", k)
			}
			seen[got]++
		}
	}
	if seen[false] < 1000 {
		t.Error(seen)
	}
	// A list that holds nothing may be nil or empty.
	none := api.Packet{Question: []api.Question{}, Answer: []api.Record{}, Auth: []api.Record{}, More: []api.Record{}}
	if !packet.Same(none, api.Packet{}) || !packet.Same(api.Packet{}, none) || !packet.Right(none) {
		t.Error("of nothing")
	}
	holdLimits(t, none)
	// The same things in another order, or twice, aren't.
	p := full(2, 2, 2, 2)
	p.Answer[0].TTL, p.Question[0].Type = 1, 2
	o := full(2, 2, 2, 2)
	o.Answer[1].TTL, o.Question[0].Type = 1, 2
	if packet.Same(p, o) || packet.Same(o, p) {
		t.Error("turned round")
	}
	r := rand.New(rand.NewSource(174))
	for range 3000 {
		a, b := anyPacket(r), anyPacket(r)
		if packet.Same(a, b) != plainSame(a, b) || !packet.Same(a, a) || packet.Same(a, broken(r, a)) {
			t.Fatalf("%+v, %+v", a, b)
		}
	}
}

// copied: a packet of its own, with that much room behind each list, in which there stands something.
func copied(p api.Packet, room int) api.Packet {
	q := append(slices.Clone(p.Question), slices.Repeat([]api.Question{{Name: "left", Type: -771}}, room)...)
	p.Question = q[:len(p.Question)]
	for _, l := range plainLists(&p) {
		x := append(slices.Clone(*l), slices.Repeat([]api.Record{{Name: "left", TTL: -772}}, room)...)
		*l = x[:len(*l)]
	}
	return p
}

// roomLeft: does there stand in the room what stood there?
func roomLeft(p api.Packet, room int) bool {
	n := len(p.Question)
	for _, q := range p.Question[n : n+room] {
		if q != (api.Question{Name: "left", Type: -771}) {
			return false
		}
	}
	for _, l := range plainLists(&p) {
		for _, x := range (*l)[len(*l) : len(*l)+room] {
			if x != (api.Record{Name: "left", TTL: -772}) {
				return false
			}
		}
	}
	return true
}

// P17.1: what is handed in stays as it was, its spare room, too; what is answered doesn't change with it.
func TestNewMemory(t *testing.T) {
	r := rand.New(rand.NewSource(175))
	for range 2000 {
		was := anyPacket(r)
		p := copied(was, 2)
		limit := r.Intn(600)
		b, e := packet.Build(p, limit)
		want := bytes.Clone(b)
		packet.Right(p)
		packet.Same(p, p)
		if !plainSame(p, was) || !roomLeft(p, 2) {
			t.Fatalf("%+v: changed", was)
		}
		if other, _ := packet.Build(p, limit); len(other) > 0 {
			clear(other[:cap(other)])
		}
		clear(p.Question)
		for _, l := range plainLists(&p) {
			clear(*l)
		}
		if e != 0 {
			continue
		}
		if !bytes.Equal(b, want) {
			t.Fatalf("%q: changes with another answer, or with what was handed in", want)
		}
		// Room behind the bytes must not be read, nor changed.
		in := append(bytes.Clone(b), "left alone"...)
		x, e := packet.Parse(in[:len(b)])
		name, next, f := packet.Name(in[:len(b)], min(12, len(b)))
		keep := copied(x, 0)
		if string(in[len(b):]) != "left alone" || !bytes.Equal(in[:len(b)], b) || e != 0 {
			t.Fatalf("%q: changed, %d", b, e)
		}
		again, _ := packet.Parse(in[:len(b)])
		clear(again.Question[:cap(again.Question)])
		for _, l := range plainLists(&again) {
			clear((*l)[:cap(*l)])
		}
		clear(in)
		if !plainSame(x, keep) {
			t.Fatalf("%+v: what was parsed changes with what was handed in", keep)
		}
		if n, to, g := packet.Name(b, 12); n != name || next != to || f != g {
			t.Fatalf("%q: %q changes", b, name)
		}
	}
}
