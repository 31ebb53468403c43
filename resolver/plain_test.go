package resolver_test

import (
	"encoding/binary"
	"math"
	"math/rand"
	"slices"
	"strings"
	"testing"

	"bellwether/api"
	"bellwether/packet"
	"bellwether/resolver"
	"bellwether/service"
	"bellwether/view"
)

// The document's numbers, written out anew.
const (
	replied = 0x8000
	kinds   = 0x7800
	own     = 0x0400
	cutFlag = 0x0200
	asked   = 0x0100

	codeForm    = 1
	codeNone    = 3
	codeNot     = 4
	codeRefused = 5

	typeV4      = 1
	typeServer  = 2
	typeStart   = 6
	typeV6      = 28
	typeService = 33

	mostBytes = 65535
	mostReply = 512
	mostName  = 255
	nodes     = 8

	v4   = "\x7f\x00\x00\x01"
	v6   = "0123456789abcdef"
	bell = "\x04bell\x00"
)

var edges = []int{math.MinInt, math.MinInt32, -65536, -65535, -256, -1, 0, 1, 255, 256, 65534, 65535, 65536, 65537, 1 << 30, 1<<31 - 1, 1 << 31, 1<<32 - 1, 1 << 32, 1<<32 + 1, math.MaxInt - 1, math.MaxInt}

func u16(n int) string { return string(binary.BigEndian.AppendUint16(nil, uint16(n))) }

func u32(n int) string { return string(binary.BigEndian.AppendUint32(nil, uint32(n))) }

func sized(label string) string { return string([]byte{byte(len(label))}) + label }

// lower: small letters, by hand; no length of a label is a letter.
func lower(name string) string {
	b := []byte(name)
	for i, c := range b {
		if 65 <= c && c <= 90 {
			b[i] = c + 32
		}
	}
	return string(b)
}

// isName: label by label, from the first one on.
func isName(name string) bool {
	if len(name) >= 256 {
		return false
	}
	for name != "" && name[0] != 0 && name[0] < 64 && int(name[0]) < len(name) {
		name = name[1+int(name[0]):]
	}
	return name == "\x00"
}

// isUnder: without some labels of its beginning, or none, it is the other one.
func isUnder(name, top string) bool {
	if !isName(name) || !isName(top) {
		return false
	}
	for lower(name) != lower(top) {
		if name == "\x00" {
			return false
		}
		name = name[1+int(name[0]):]
	}
	return true
}

// header: of a packet's bytes.
func header(id, flags, questions, answer, auth, more int) string {
	return u16(id) + u16(flags) + u16(questions) + u16(answer) + u16(auth) + u16(more)
}

// ask: the bytes of one question.
func ask(id, flags int, name string, typ, class int) string {
	return header(id, flags, 1, 0, 0, 0) + name + u16(typ) + u16(class)
}

// recordBytes: in full.
func recordBytes(x api.Record) string {
	return x.Name + u16(x.Type) + u16(x.Class) + u32(x.TTL) + u16(len(x.Data)) + x.Data
}

// scan: bytes, how far they are read, and whether there was something wrong.
type scan struct {
	b   string
	at  int
	bad bool
}

func (s *scan) take(size int) string {
	if s.bad || len(s.b)-s.at < size {
		s.bad = true
		return ""
	}
	s.at += size
	return s.b[s.at-size : s.at]
}

func (s *scan) number(size int) int {
	n := 0
	for _, c := range []byte(s.take(size)) {
		n = n*256 + int(c)
	}
	return n
}

// name: what stands there, and then what each pointer leads to.
func (s *scan) name() string {
	out, jumps, began, far := "", 0, s.at, scan{b: s.b, at: s.at, bad: s.bad}
	for !far.bad {
		n := far.number(1)
		switch {
		case far.bad:
		case n == 0:
			if jumps == 0 {
				s.at = far.at
			}
			return out + "\x00"
		case n >= 192:
			to := (n-192)*256 + far.number(1)
			if jumps == 0 {
				s.at = far.at
			}
			jumps++
			far.bad = far.bad || to >= began || jumps > 16
			far.at, began = to, to
		case n >= 64:
			far.bad = true
		default:
			out += sized(far.take(n))
			far.bad = far.bad || len(out)+1 > mostName
		}
	}
	s.bad = true
	return ""
}

// plainQuestion: the one that bytes ask, if they are a packet's with just one.
func plainQuestion(b string) (api.Question, bool) {
	s := scan{b: b, at: 4}
	var many [4]int
	for i := range many {
		many[i] = s.number(2)
	}
	var first api.Question
	for range many[0] {
		q := api.Question{Name: s.name(), Type: s.number(2), Class: s.number(2)}
		if s.at > mostBytes || s.bad {
			return api.Question{}, false
		}
		first = q
	}
	for range many[1] + many[2] + many[3] {
		s.name()
		s.number(4)
		ttl, data := s.number(4), s.take(s.number(2))
		if s.bad || ttl > math.MaxInt32 || len(data) > 1000 {
			return api.Question{}, false
		}
	}
	ok := !s.bad && s.at == len(b) && len(b) <= mostBytes && slices.Max(many[:]) <= 100 && many[0] == 1
	return first, ok
}

// place: an endpoint as it is told in plain words: what the table of one says is made of it, and what is replied is worked out of it.
type place struct {
	node         int
	alive, there bool
	status       string // none, where empty
	addresses    [2]string
	offers       []offer
}

// offer: a value of a table, and the service that it is, if it is one.
type offer struct {
	value string
	is    bool
	s     api.Service
}

// offers: an offer of each service.
func offers(t testing.TB, l ...api.Service) []offer {
	t.Helper()
	var out []offer
	for _, s := range l {
		v, e := service.Encode(s)
		if e != 0 {
			t.Fatalf("%+v may not be", s)
		}
		out = append(out, offer{v, true, s})
	}
	return out
}

// apps: the table of a place; its keys rise.
func (p place) apps() []api.Entry {
	var l []api.Entry
	lay := func(key int, v string) {
		l = append(l, api.Entry{Key: key, Ver: 1 + len(l), Val: v})
	}
	if p.status != "" {
		lay(0, p.status)
	}
	for i, a := range p.addresses {
		if a != "" {
			lay(1+i, a)
		}
	}
	for i, o := range p.offers {
		lay(3+i, o.value)
	}
	return l
}

// counts: is it alive, known and up?
func (p place) counts() bool { return p.alive && p.there && p.status == "up" }

// sceneOf: the scene of places that rise, and a domain.
func sceneOf(t testing.TB, l []place, domain string) api.Scene {
	t.Helper()
	s := api.Scene{Domain: domain}
	for _, p := range l {
		if p.alive {
			s.Alive = append(s.Alive, p.node)
		}
		if p.there {
			s.View = append(s.View, api.Named{Node: p.node, State: api.State{Gen: 1 + p.node, Beat: 3, Apps: p.apps()}})
		}
	}
	if !view.Right(s.View) {
		t.Fatalf("%+v: such a view may not be", l)
	}
	return s
}

// host: a place's, by its bytes; empty where it would be too long.
func (p place) host(domain string) string {
	if len(domain) > mostName-3 {
		return ""
	}
	return "\x02n" + "01234567"[p.node:p.node+1] + domain
}

// plainStart: the data of type 6, if the domain has them.
func plainStart(domain string) (string, bool) {
	if !isName(domain) || len(domain) > mostName-5 {
		return "", false
	}
	return "\x02ns" + domain + "\x04root" + domain + u32(1) + strings.Repeat(u32(5), 4), true
}

// plainTold: the data that are told of a name and a type, and whether there is that name.
func plainTold(l []place, domain, name string, typ int) (data []string, there bool) {
	tell := func(n int, d string) {
		if n == typ {
			data = append(data, d)
		}
	}
	if lower(name) == lower(domain) {
		there = true
		if len(domain) <= mostName-3 {
			tell(typeServer, "\x02ns"+domain)
		}
		if d, ok := plainStart(domain); ok {
			tell(typeStart, d)
		}
	}
	for _, p := range l {
		if !p.counts() {
			continue
		}
		if lower(name) == lower(p.host(domain)) {
			there = true
			if len(p.addresses[0]) == 4 {
				tell(typeV4, p.addresses[0])
			}
			if len(p.addresses[1]) == 16 {
				tell(typeV6, p.addresses[1])
			}
		}
		for _, o := range p.offers {
			if o.is && o.s.Well && lower(name) == lower(sized("_"+o.s.Name)+sized("_"+o.s.Proto)+domain) {
				there = true
				tell(typeService, u16(o.s.Priority)+u16(o.s.Weight)+u16(o.s.Port)+p.host(domain))
			}
		}
	}
	return data, there
}

// plainAnswer: the reply to bytes as a packet, row by row of the chapter's table.
func plainAnswer(b string, l []place, domain string) (api.Packet, bool) {
	if len(b) < 12 || b[2] >= 128 {
		return api.Packet{}, false
	}
	bit := int(b[2]) % 2
	p := api.Packet{ID: int(b[0])*256 + int(b[1]), Flags: replied + bit*asked}
	if kind := int(b[2]) / 8; kind != 0 {
		p.Flags += kind*2048 + codeNot
		return p, true
	}
	q, ok := plainQuestion(b)
	if !ok {
		p.Flags += codeForm
		return p, true
	}
	p.Question = []api.Question{q}
	if q.Class != 1 {
		p.Flags += codeNot
		return p, true
	}
	if !isUnder(q.Name, domain) {
		p.Flags += codeRefused
		return p, true
	}
	p.Flags += own
	data, there := plainTold(l, domain, q.Name, q.Type)
	for _, d := range data {
		p.Answer = append(p.Answer, api.Record{Name: q.Name, Type: q.Type, Class: 1, TTL: 5, Data: d})
	}
	if d, ok := plainStart(domain); ok && len(data) == 0 {
		p.Auth = []api.Record{{Name: domain, Type: typeStart, Class: 1, TTL: 5, Data: d}}
	}
	if !there {
		p.Flags += codeNone
	}
	return p, true
}

// plainBytes: a reply's, in 512, and how many records they have. (No reply has records both in Answer and in Auth.)
func plainBytes(p api.Packet) (string, int) {
	questions, records := "", ""
	for _, q := range p.Question {
		questions += q.Name + u16(q.Type) + u16(q.Class)
	}
	many := 0
	l := slices.Concat(p.Answer, p.Auth)
	for _, x := range l {
		if lower(x.Name) == lower(p.Question[0].Name) {
			x.Name = "\xc0\x0c"
		}
		if 12+len(questions)+len(records)+len(recordBytes(x)) > mostReply {
			break
		}
		records += recordBytes(x)
		many++
	}
	if many < len(l) {
		p.Flags |= cutFlag
	}
	return header(p.ID, p.Flags, len(p.Question), min(many, len(p.Answer)), min(many, len(p.Auth)), 0) + questions + records, many
}

// hold: the replies to bytes against what was worked out; P19.2 beside each of them.
func hold(t testing.TB, b string, s api.Scene, l []place) {
	t.Helper()
	want, is := plainAnswer(b, l, s.Domain)
	got, ok := resolver.Answer([]byte(b), s)
	if ok != is || !packet.Same(got, want) {
		t.Fatalf("%q in %+v: %+v %t, not %+v %t", b, s, got, ok, want, is)
	}
	bytes, ok := resolver.Reply([]byte(b), s)
	wantBytes, many := "", 0
	if is {
		wantBytes, many = plainBytes(want)
	}
	if ok != is || string(bytes) != wantBytes {
		t.Fatalf("%q in %+v: %q %t, not %q %t", b, s, bytes, ok, wantBytes, is)
	}
	if !ok {
		if bytes != nil {
			t.Fatalf("%q: %q beside false", b, bytes)
		}
		return
	}
	holdBytes(t, b, bytes, got, many)
}

// holdBytes: P19.2 of a reply's bytes: they may be parsed, have the ID that was asked, are at most 512, and have whole records alone, the first ones.
func holdBytes(t testing.TB, b string, bytes []byte, whole api.Packet, many int) {
	t.Helper()
	p, e := packet.Parse(bytes)
	if e != 0 || len(bytes) > 512 || u16(p.ID) != b[:2] || !packet.Right(whole) {
		t.Fatalf("%q: the reply %q: %v", b, bytes, e)
	}
	all, left := slices.Concat(whole.Answer, whole.Auth), slices.Concat(p.Answer, p.Auth, p.More)
	if len(left) != many || many < len(all) != (p.Flags&cutFlag != 0) || !slices.Equal(p.Question, whole.Question) {
		t.Fatalf("%q: the reply %+v, of %+v", b, p, whole)
	}
	for i, x := range left {
		y := all[i]
		if lower(x.Name) != lower(y.Name) || x.Type != y.Type || x.Class != y.Class || x.TTL != y.TTL || x.Data != y.Data {
			t.Fatalf("%q: the reply's record %+v, of %+v", b, x, y)
		}
	}
}

var (
	http = api.Service{Name: "http", Proto: "tcp", Port: 80, Well: true}
	dns  = api.Service{Name: "dns", Proto: "udp", Port: 0x3501, Priority: 0x0102, Weight: 0xfffe, Well: true}
)

func ill(s api.Service) api.Service {
	s.Well = false
	return s
}

// some: places of each kind.
func some(t testing.TB) []place {
	t.Helper()
	return []place{
		{0, true, true, "up", [2]string{v4, v6}, offers(t, http, dns)},
		{1, true, true, "gone", [2]string{v4, v6}, offers(t, http)},
		{2, false, true, "up", [2]string{v4, v6}, offers(t, http)},
		{3, true, false, "up", [2]string{v4, v6}, offers(t, http)},
		{4, true, true, "", [2]string{v4, v6}, offers(t, http)},
		{5, true, true, "up", [2]string{"abc", "abcd"}, offers(t, ill(http), dns)},
		{7, true, true, "up", [2]string{"", v6}, offers(t, dns, http, http)},
	}
}

// asks: names of all kinds beside a domain: those that are there, those that only look like such ones, and those that are not under it.
func asks(domain string) []string {
	var l []string
	for _, ahead := range []string{"", "\x02n0", "\x02n1", "\x02N2", "\x02n3", "\x02n4", "\x02n5", "\x02N7", "\x02n8", "\x03n00", "\x02n0\x02n0", "\x02ns", "\x04root", "\x01x", "\x05_http\x04_tcp", "\x05_HTTP\x04_Tcp", "\x05_http\x04_udp", "\x04_dns\x04_udp", "\x04_tcp", "\x05_http", "\x04_tcp\x05_http", "\x04http\x03tcp", "\x01x\x05_http\x04_tcp", "\x02n0\x05_http\x04_tcp"} {
		l = append(l, ahead+domain)
	}
	return append(l, "\x00", "\x01b\x00", "\x05xbell\x00", "\x05bellx\x00", "\x04bell\x01x\x00", "\x02n0\x00", "\x05_http\x04_tcp\x00", "\x04bull\x00", "\x06\x04bell\x00\x00")
}

// of: a domain of that many bytes; its labels' letters are small and great ones.
func of(size int) string {
	out := ""
	for size > 1 {
		n := min(63, size-2)
		if size-2-n == 1 { // no label has no bytes
			n--
		}
		out += sized(strings.Repeat("aZ", 32)[:n])
		size -= n + 1
	}
	return out + "\x00"
}

// turned: letters' size turned where a bit is set.
func turned(name string, bits int) string {
	b := []byte(name)
	k := 0
	for i, c := range b {
		if 65 <= c && c <= 90 || 97 <= c && c <= 122 {
			if bits>>(k%62)&1 != 0 {
				b[i] = c ^ 0x20
			}
			k++
		}
	}
	return string(b)
}

// anyService: of few words, so that names meet.
func anyService(r *rand.Rand) api.Service {
	words := []string{"http", "tcp", "udp", "a", "x-1", "aaaaaaaaaaaaaaaaaaaa", "0"}
	number := func() int { return []int{0, 1, 255, 256, 65535, r.Intn(65536)}[r.Intn(6)] }
	return api.Service{Name: words[r.Intn(len(words))], Proto: words[r.Intn(3)], Port: max(1, number()), Priority: number(), Weight: number(), Well: r.Intn(4) > 0}
}

// anyOffer: a service's value, or what is nearly one.
func anyOffer(t testing.TB, r *rand.Rand) offer {
	o := offers(t, anyService(r))[0]
	switch r.Intn(8) {
	case 0:
		return offer{value: ""}
	case 1:
		return offer{value: o.value + "\x00"}
	case 2:
		return offer{value: o.value[:len(o.value)-1]}
	}
	return o
}

// anyPlaces: some of the eight.
func anyPlaces(t testing.TB, r *rand.Rand) []place {
	var l []place
	text := func(n int) string {
		b := make([]byte, []int{0, 1, n, n, n, n, n + 1, 16}[r.Intn(8)])
		r.Read(b)
		return string(b)
	}
	for node := range nodes {
		if r.Intn(3) == 0 {
			continue
		}
		p := place{node: node, alive: r.Intn(4) > 0, there: r.Intn(5) > 0, addresses: [2]string{text(4), text(16)}}
		p.status = []string{"up", "up", "up", "up", "gone", "", "down"}[r.Intn(7)]
		for range r.Intn(10) {
			p.offers = append(p.offers, anyOffer(t, r))
		}
		l = append(l, p)
	}
	return l
}

// anyDomain: a name, or nearly one.
func anyDomain(r *rand.Rand) string {
	switch r.Intn(6) {
	case 0:
		return "\x00"
	case 1:
		return of(3 + r.Intn(258))
	case 2:
		b := []byte(bell)
		b[r.Intn(len(b))] = byte(r.Intn(256))
		return string(b)
	}
	return turned("\x07cluster\x04bell\x00", r.Intn(1<<11))
}

// anyName: one that is there in those places, or nearly.
func anyName(r *rand.Rand, l []place, domain string) string {
	s := anyService(r)
	ahead := []string{"", sized("_"+s.Name) + sized("_"+s.Proto), sized(s.Name), "\x02n8", "\x01x"}
	for _, p := range l {
		ahead = append(ahead, "\x02n"+"01234567"[p.node:p.node+1])
		for _, o := range p.offers {
			ahead = append(ahead, sized("_"+o.s.Name)+sized("_"+o.s.Proto))
		}
	}
	name := ahead[r.Intn(len(ahead))] + domain
	if r.Intn(3) == 0 {
		name = turned(name, r.Intn(1<<30))
	}
	return name
}

// anyAsk: bytes that ask, some of them with something wrong.
func anyAsk(r *rand.Rand, l []place, domain string) string {
	typ := []int{typeV4, typeV6, typeServer, typeStart, typeService, typeService, 255, r.Intn(65536)}[r.Intn(8)]
	class := []int{1, 1, 1, 1, 1, 1, 1, 3}[r.Intn(8)]
	flags := []int{0, asked, asked, 0x01f0, r.Intn(65536)}[r.Intn(5)]
	b := []byte(ask(r.Intn(65536), flags, anyName(r, l, domain), typ, class))
	switch r.Intn(8) {
	case 0:
		b[r.Intn(len(b))] = byte(r.Intn(256))
	case 1:
		b = b[:r.Intn(len(b)+1)]
	case 2:
		b = append(b, byte(r.Intn(256)))
	case 3:
		more := recordBytes(api.Record{Name: []string{"\x00", "\xc0\x0c", domain, "\xc0\xff"}[r.Intn(4)], Type: 41, Class: 4096, TTL: r.Intn(1 << 33), Data: strings.Repeat("d", r.Intn(1200))})
		b[11]++
		b = append(b, more...)
	}
	return string(b)
}
