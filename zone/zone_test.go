package zone_test

import (
	"encoding/binary"
	"math"
	"math/rand"
	"slices"
	"strings"
	"testing"

	"bellwether/api"
	"bellwether/service"
	"bellwether/view"
	"bellwether/zone"
)

// The document's numbers, written out anew.
const (
	typeV4      = 1
	typeServer  = 2
	typeStart   = 6
	typeV6      = 28
	typeService = 33

	maxDomain = 255
	nodes     = 8
	v4        = "\x7f\x00\x00\x01"
	v6        = "0123456789abcdef"
)

var edges = []int{math.MinInt, math.MinInt32, -65536, -2, -1, 8, 9, 10, 11, 255, 256, 65535, 65536, 1 << 30, 1<<31 - 1, 1 << 32, math.MaxInt}

// types: those of which something is told, what is near them, and what is the same as they in their lowest bytes.
var types = slices.Concat(edges, []int{0, 1, 2, 3, 5, 6, 7, 12, 15, 16, 27, 28, 29, 32, 33, 34, 65537, 65538, 65542, 65564, 65569, 257, 289, 1<<32 + 1, 1<<32 + 33})

// place: an endpoint as it is told in plain words: what the table of one says is made of it, and what the zone says of it is worked out of it.
type place struct {
	node         int
	alive, there bool
	status       string // none, where empty
	addresses    [2]string
	offers       []offer
}

// offer: a value of a table, and the service that it is, if it is one.
type offer struct {
	value string
	is    bool
	s     api.Service
}

// offers: an offer of each service.
func offers(t testing.TB, l ...api.Service) []offer {
	t.Helper()
	var out []offer
	for _, s := range l {
		v, e := service.Encode(s)
		if e != 0 {
			t.Fatalf("%+v may not be", s)
		}
		out = append(out, offer{v, true, s})
	}
	return out
}

// apps: the table of a place; its keys rise.
func (p place) apps() []api.Entry {
	var l []api.Entry
	lay := func(key int, v string) {
		l = append(l, api.Entry{Key: key, Ver: 1 + len(l), Val: v})
	}
	if p.status != "" {
		lay(0, p.status)
	}
	for i, a := range p.addresses {
		if a != "" {
			lay(1+i, a)
		}
	}
	for i, o := range p.offers {
		lay(3+i, o.value)
	}
	return l
}

// sceneOf: the scene of places that rise, and a domain.
func sceneOf(t testing.TB, l []place, domain string) api.Scene {
	t.Helper()
	s := api.Scene{Domain: domain}
	for _, p := range l {
		if p.alive {
			s.Alive = append(s.Alive, p.node)
		}
		if p.there {
			s.View = append(s.View, api.Named{Node: p.node, State: api.State{Gen: 1 + p.node, Beat: 3, Apps: p.apps()}})
		}
	}
	if !view.Right(s.View) {
		t.Fatalf("%+v: such a view may not be", l)
	}
	return s
}

// fact: what is told of a name, that in small letters.
type fact struct {
	name string
	typ  int
	data string
}

// plainZone: all that is told, and of which names, in small letters.
type plainZone struct {
	counts []int
	names  []string
	facts  []fact
}

// lower: small letters, by hand; no length of a label is a letter.
func lower(name string) string {
	b := []byte(name)
	for i, c := range b {
		if 65 <= c && c <= 90 {
			b[i] = c + 32
		}
	}
	return string(b)
}

// isName: label by label, from the first one on.
func isName(name string) bool {
	if len(name) >= 256 {
		return false
	}
	for name != "" && name[0] != 0 && name[0] < 64 && int(name[0]) < len(name) {
		name = name[1+int(name[0]):]
	}
	return name == "\x00"
}

func sized(label string) string { return string([]byte{byte(len(label))}) + label }

func u16(n int) string { return string(binary.BigEndian.AppendUint16(nil, uint16(n))) }

// plainHost: by its bytes.
func plainHost(domain string, node int) (string, bool) {
	if !isName(domain) || node < 0 || node > 7 || len(domain) > maxDomain-3 {
		return "", false
	}
	return "\x02n" + "01234567"[node:node+1] + domain, true
}

// plainStart: the data of type 6.
func plainStart(domain string) (string, bool) {
	if !isName(domain) || len(domain) > maxDomain-5 {
		return "", false
	}
	return "\x02ns" + domain + "\x04root" + domain + "\x00\x00\x00\x01\x00\x00\x00\x05\x00\x00\x00\x05\x00\x00\x00\x05\x00\x00\x00\x05", true
}

// work: the whole zone of places, name by name.
func work(l []place, domain string) plainZone {
	var z plainZone
	names := func(name string) bool {
		if !isName(domain) || len(name) > maxDomain {
			return false
		}
		z.names = append(z.names, lower(name))
		return true
	}
	tell := func(name string, typ int, data string) {
		z.facts = append(z.facts, fact{lower(name), typ, data})
	}
	if names(domain) {
		if len(domain) <= maxDomain-3 {
			tell(domain, typeServer, "\x02ns"+domain)
		}
		if data, ok := plainStart(domain); ok {
			tell(domain, typeStart, data)
		}
	}
	for _, p := range l {
		if !p.alive || !p.there || p.status != "up" {
			continue
		}
		z.counts = append(z.counts, p.node)
		host, _ := plainHost(domain, p.node)
		if host != "" && names(host) {
			if len(p.addresses[0]) == 4 {
				tell(host, typeV4, p.addresses[0])
			}
			if len(p.addresses[1]) == 16 {
				tell(host, typeV6, p.addresses[1])
			}
		}
		for _, o := range p.offers {
			name := sized("_"+o.s.Name) + sized("_"+o.s.Proto) + domain
			if o.is && o.s.Well && names(name) {
				tell(name, typeService, u16(o.s.Priority)+u16(o.s.Weight)+u16(o.s.Port)+host)
			}
		}
	}
	return z
}

// told: the records of a name and a type.
func (z plainZone) told(name string, typ int) []api.Record {
	var l []api.Record
	for _, f := range z.facts {
		if f.name == lower(name) && f.typ == typ {
			l = append(l, api.Record{Name: name, Type: typ, Class: 1, TTL: 5, Data: f.data})
		}
	}
	return l
}

// hold: all calls of a scene against the zone that was worked out; P18.2 beside each name.
func hold(t *testing.T, s api.Scene, l []place, ask []string, typ []int) {
	t.Helper()
	z := work(l, s.Domain)
	if got := zone.Counts(s); !slices.Equal(got, z.counts) {
		t.Fatalf("%+v: counts %v, not %v", s, got, z.counts)
	}
	for _, node := range append(edges, 0, 1, 2, 3, 4, 5, 6, 7) {
		got, ok := zone.Host(s, node)
		if want, is := plainHost(s.Domain, node); got != want || ok != is {
			t.Fatalf("%q: host %d: %q %t, not %q %t", s.Domain, node, got, ok, want, is)
		}
	}
	holdStart(t, s)
	for _, name := range slices.Concat(ask, z.names, []string{s.Domain}) {
		there := slices.Contains(z.names, lower(name))
		if got := zone.Exists(s, name); got != there {
			t.Fatalf("%+v: %q is there: %t", s, name, got)
		}
		for _, n := range typ {
			got := zone.Tell(s, name, n)
			if want := z.told(name, n); !slices.Equal(got, want) || len(got) > 0 && !there {
				t.Fatalf("%+v: of %q, type %d: %+v, not %+v", s, name, n, got, want)
			}
		}
		holdLiving(t, s, name, zone.Tell(s, name, typeService))
	}
}

// holdStart: Start against the plain bytes, and beside what Tell answers.
func holdStart(t *testing.T, s api.Scene) {
	t.Helper()
	got, ok := zone.Start(s)
	data, is := plainStart(s.Domain)
	want := api.Record{Name: s.Domain, Type: 6, Class: 1, TTL: 5, Data: data}
	if !is {
		want = api.Record{}
	}
	if got != want || ok != is {
		t.Fatalf("%q: start %+v %t, not %+v %t", s.Domain, got, ok, want, is)
	}
	if l := zone.Tell(s, s.Domain, 6); len(l) != 0 != ok || ok && l[0] != got {
		t.Fatalf("%q: start %+v, but told is %+v", s.Domain, got, l)
	}
}

// holdLiving: P18.2 by the view itself: as many are told as endpoints that count offer and are well under that name, each at the host of one.
func holdLiving(t *testing.T, s api.Scene, name string, got []api.Record) {
	t.Helper()
	var want []string
	for _, x := range s.View {
		if !slices.Contains(s.Alive, x.Node) || !service.Up(x.State.Apps) {
			continue
		}
		for _, o := range service.All(x.State.Apps) {
			if o.Well && isName(s.Domain) && isName(name) && lower(name) == lower(sized("_"+o.Name)+sized("_"+o.Proto)+s.Domain) {
				want = append(want, u16(o.Priority)+u16(o.Weight)+u16(o.Port)+sized("n"+string(rune('0'+x.Node)))+s.Domain)
			}
		}
	}
	var data []string
	for _, r := range got {
		data = append(data, r.Data)
	}
	if !slices.Equal(data, want) || len(want) > 0 != (len(got) > 0 && zone.Exists(s, name)) {
		t.Fatalf("%+v: of %q: %q, but offered are %q", s, name, data, want)
	}
}

var (
	http = api.Service{Name: "http", Proto: "tcp", Port: 80, Well: true}
	dns  = api.Service{Name: "dns", Proto: "udp", Port: 0x3501, Priority: 0x0102, Weight: 0xfffe, Well: true}
)

func ill(s api.Service) api.Service {
	s.Well = false
	return s
}

// asks: names of all kinds beside a domain: hosts, services, those that only look like such ones.
func asks(domain string) []string {
	var l []string
	for _, ahead := range []string{"", "\x02n0", "\x02n1", "\x02N2", "\x02n3", "\x02n4", "\x02n5", "\x02n6", "\x02n7", "\x02n8", "\x02n9", "\x03n10", "\x03n00", "\x03n-1", "\x01n", "\x010", "\x02nn", "\x02n0\x02n0", "\x02ns", "\x04root", "\x01x", "\x02m0", "\x02_0", "\x0200"} {
		l = append(l, ahead+domain)
	}
	for _, ahead := range []string{"\x05_http\x04_tcp", "\x05_HTTP\x04_Tcp", "\x05_http\x04_udp", "\x04_dns\x04_udp", "\x04_dns\x04_tcp", "\x04_tcp", "\x05_http", "\x04_tcp\x05_http", "\x04http\x03tcp", "\x05_http\x03tcp", "\x04http\x04_tcp", "\x06__http\x04_tcp", "\x0a_http\x04_tcp", "\x09_http._tcp", "\x01x\x05_http\x04_tcp", "\x02n0\x05_http\x04_tcp", "\x05_http\x02n0\x04_tcp", "\x04_htt\x04_tcp", "\x05_httq\x04_tcp", "\x05_http\x04_tcq", "\x01_\x01_"} {
		l = append(l, ahead+domain)
	}
	return append(l, "", "\x00", "\x01", "n0", "n0.bell.", "\x02n0\x00", "\x05_http\x04_tcp\x00", "\x05_http\x04_tcp", domain+"\x00", "\x00"+domain, strings.TrimSuffix(domain, "\x00"), "\xc0\x0c", "\x02n0\xc0\x0c")
}

const bell = "\x04bell\x00"

// P18.1: the example of the chapter.
func TestExample(t *testing.T) {
	l := []place{{2, true, true, "up", [2]string{v4, v6}, offers(t, http)}}
	s := sceneOf(t, l, bell)
	want := api.Record{Name: "\x05_http\x04_tcp\x04bell\x00", Type: api.TypeSRV, Class: api.ClassIN, TTL: 5, Data: "\x00\x00\x00\x00\x00\x50\x02n2\x04bell\x00"}
	if got := zone.Tell(s, want.Name, api.TypeSRV); !slices.Equal(got, []api.Record{want}) || !zone.Exists(s, want.Name) {
		t.Error(got)
	}
	hold(t, s, l, asks(bell), types)
}

// P18.1: each call by hand, of a scene with one of each kind.
func TestByHand(t *testing.T) {
	l := []place{
		{0, true, true, "up", [2]string{v4, v6}, offers(t, http, dns)},
		{1, true, true, "gone", [2]string{v4, v6}, offers(t, http)},
		{2, false, true, "up", [2]string{v4, v6}, offers(t, http)},
		{3, true, false, "up", [2]string{v4, v6}, offers(t, http)},
		{4, true, true, "", [2]string{v4, v6}, offers(t, http)},
		{5, true, true, "up", [2]string{"abc", "abcd"}, offers(t, ill(http), dns)},
		{7, true, true, "up", [2]string{"", v6}, offers(t, dns, http, http)},
	}
	s := sceneOf(t, l, bell)
	if got := zone.Counts(s); !slices.Equal(got, []int{0, 5, 7}) {
		t.Error("counts", got)
	}
	for _, x := range []struct {
		ahead string
		typ   int
		there bool
		data  []string
	}{
		{"", 2, true, []string{"\x02ns\x04bell\x00"}},
		{"", 6, true, []string{"\x02ns\x04bell\x00\x04root\x04bell\x00\x00\x00\x00\x01\x00\x00\x00\x05\x00\x00\x00\x05\x00\x00\x00\x05\x00\x00\x00\x05"}},
		{"", 1, true, nil}, {"", 28, true, nil}, {"", 33, true, nil}, {"", 255, true, nil}, {"", 0, true, nil},
		{"\x02ns", 1, false, nil}, {"\x02ns", 2, false, nil}, {"\x04root", 6, false, nil},
		{"\x02n0", 1, true, []string{v4}}, {"\x02n0", 28, true, []string{v6}}, {"\x02n0", 33, true, nil}, {"\x02n0", 2, true, nil}, {"\x02n0", 6, true, nil}, {"\x02n0", 0, true, nil},
		{"\x02n1", 1, false, nil}, {"\x02n2", 1, false, nil}, {"\x02n3", 1, false, nil}, {"\x02n4", 1, false, nil}, {"\x02n6", 1, false, nil}, {"\x02n8", 1, false, nil},
		{"\x02n5", 1, true, nil}, {"\x02n5", 28, true, nil}, {"\x02n7", 1, true, nil}, {"\x02n7", 28, true, []string{v6}}, {"\x02N7", 28, true, []string{v6}},
		{"\x05_http\x04_tcp", 33, true, []string{"\x00\x00\x00\x00\x00\x50\x02n0\x04bell\x00", "\x00\x00\x00\x00\x00\x50\x02n7\x04bell\x00", "\x00\x00\x00\x00\x00\x50\x02n7\x04bell\x00"}},
		{"\x04_DNS\x04_udp", 33, true, []string{"\x01\x02\xff\xfe\x35\x01\x02n0\x04bell\x00", "\x01\x02\xff\xfe\x35\x01\x02n5\x04bell\x00", "\x01\x02\xff\xfe\x35\x01\x02n7\x04bell\x00"}},
		{"\x05_http\x04_tcp", 1, true, nil}, {"\x05_http\x04_tcp", 28, true, nil}, {"\x05_http\x04_tcp", 2, true, nil}, {"\x05_http\x04_tcp", 6, true, nil},
		{"\x05_http\x04_udp", 33, false, nil}, {"\x04_dns\x04_tcp", 33, false, nil}, {"\x04_tcp", 33, false, nil}, {"\x04http\x03tcp", 33, false, nil}, {"\x04_tcp\x05_http", 33, false, nil},
	} {
		var want []api.Record
		for _, d := range x.data {
			want = append(want, api.Record{Name: x.ahead + bell, Type: x.typ, Class: 1, TTL: 5, Data: d})
		}
		if got := zone.Tell(s, x.ahead+bell, x.typ); !slices.Equal(got, want) || zone.Exists(s, x.ahead+bell) != x.there {
			t.Errorf("%q, type %d: %+v, %t", x.ahead, x.typ, got, !x.there)
		}
	}
	hold(t, s, l, asks(bell), types)
}

// P18.1: an endpoint alone, in all ways in which it may be or not, at each place.
func TestOneEndpoint(t *testing.T) {
	for node := range nodes {
		for _, p := range []place{{status: "up"}, {status: "gone"}, {status: ""}, {status: "Up"}, {status: "up "}, {status: "u"}} {
			for k := range 4 {
				p.node, p.alive, p.there = node, k&1 != 0, k&2 != 0
				p.addresses, p.offers = [2]string{v4, v6}, offers(t, http)
				l := []place{p}
				s := sceneOf(t, l, bell)
				if got := zone.Exists(s, "\x02n"+string(rune('0'+node))+bell); got != (k == 3 && p.status == "up") {
					t.Errorf("%+v is there: %t", p, got)
				}
				hold(t, s, l, asks(bell), types)
			}
		}
	}
}

// P18.1: all eight, each of them one of some kinds.
func TestAllEight(t *testing.T) {
	kinds := []place{
		{alive: true, there: true, status: "up", addresses: [2]string{v4, ""}, offers: offers(t, http)},
		{alive: true, there: true, status: "gone", addresses: [2]string{v4, v6}, offers: offers(t, http, dns)},
		{alive: false, there: true, status: "up", addresses: [2]string{v4, v6}, offers: offers(t, http, dns)},
		{alive: true, there: true, status: "up", addresses: [2]string{"", v6}, offers: offers(t, ill(http), dns)},
	}
	for k := range 1 << 16 {
		if k%29 != 0 {
			continue
		}
		var l []place
		for node := range nodes {
			p := kinds[k>>(2*node)&3]
			p.node = node
			l = append(l, p)
		}
		hold(t, sceneOf(t, l, bell), l, []string{"\x02n0\x04bell\x00", "\x02n7\x04bell\x00", "\x05_http\x04_tcp\x04bell\x00", "\x04_dns\x04_udp\x04bell\x00"}, []int{1, 28, 33})
	}
}

// P18.1: who is alive may stand in any order, twice, and beside any numbers.
func TestAlive(t *testing.T) {
	l := []place{
		{1, true, true, "up", [2]string{v4, v6}, offers(t, http)},
		{4, true, true, "up", [2]string{v4, v6}, offers(t, http)},
		{6, false, true, "up", [2]string{v4, v6}, offers(t, http)},
	}
	s := sceneOf(t, l, bell)
	for _, alive := range [][]int{{1, 4}, {4, 1}, {4, 4, 1, 1, 4}, slices.Concat(edges, []int{4, 1}), {1, 0, 2, 3, 4, 5, 7}, {4, -6, 1, 262, 6 + 1<<32}} {
		s.Alive = alive
		hold(t, s, l, asks(bell), types)
	}
	s.Alive = nil
	if got := zone.Counts(s); len(got) != 0 {
		t.Error("counts", got)
	}
	s = api.Scene{Alive: []int{0, 1, 2}, Domain: bell}
	hold(t, s, nil, asks(bell), types)
}

// of: a domain of that many bytes; its labels' letters are small and great ones.
func of(size int) string {
	out := ""
	for size > 1 {
		n := min(63, size-2)
		if size-2-n == 1 { // no label has no bytes
			n--
		}
		out += sized(strings.Repeat("aZ", 32)[:n])
		size -= n + 1
	}
	return out + "\x00"
}

// P18.1: domains of each length there is: which names are too long.
func TestLengths(t *testing.T) {
	short := api.Service{Name: "a", Proto: "b", Port: 1, Well: true}
	long := api.Service{Name: strings.Repeat("s", 20), Proto: strings.Repeat("p", 20), Port: 65535, Priority: 65535, Weight: 65535, Well: true}
	mid := api.Service{Name: "abcdefgh", Proto: "t", Port: 256, Well: true}
	l := []place{{0, true, true, "up", [2]string{v4, v6}, offers(t, short, mid)}, {7, true, true, "up", [2]string{v4, v6}, offers(t, long, short)}}
	for size := 1; size <= 300; size++ {
		if size == 2 { // a label of no bytes
			continue
		}
		domain := of(size)
		if len(domain) != size || isName(domain) != (size <= maxDomain) {
			t.Fatalf("%d: %q", size, domain)
		}
		s := sceneOf(t, l, domain)
		ask := append(asks(domain), sized("_a")+sized("_b")+domain, sized("_"+long.Name)+sized("_"+long.Proto)+domain, sized("_"+mid.Name)+sized("_t")+domain)
		hold(t, s, l, ask, []int{1, 2, 6, 28, 33})
		for _, x := range []struct {
			name  string
			typ   int
			most  int
			there int
		}{
			{domain, typeServer, 252, 255}, {domain, typeStart, 250, 255}, {"\x02n0" + domain, typeV4, 252, 252}, {"\x02n7" + domain, typeV6, 252, 252},
			{ask[len(ask)-3], typeService, 249, 249}, {ask[len(ask)-2], typeService, 211, 211}, {ask[len(ask)-1], typeService, 242, 242},
		} {
			if got := len(zone.Tell(s, x.name, x.typ)) > 0; got != (size <= x.most) || zone.Exists(s, x.name) != (size <= x.there) {
				t.Errorf("of %d bytes: %q, type %d: %t", size, x.name, x.typ, got)
			}
		}
		if _, ok := zone.Host(s, 3); ok != (size <= 252) {
			t.Errorf("of %d bytes: a host: %t", size, ok)
		}
		if _, ok := zone.Start(s); ok != (size <= 250) {
			t.Errorf("of %d bytes: a start: %t", size, ok)
		}
	}
}

// P18.1: domains that are none: nothing is there, nothing is told, but the endpoints count as ever; and those that look strange, but are names.
func TestDomains(t *testing.T) {
	l := []place{{0, true, true, "up", [2]string{v4, v6}, offers(t, http, dns)}, {3, true, true, "up", [2]string{v4, v6}, offers(t, http)}}
	for _, domain := range []string{"", "bell", "bell.", ".", "\x01", "\x04bell", "\x04bell\x00\x00", "\x00\x04bell\x00", "\x05bell\x00", "\x03bell\x00", "\x00\x00", "\xc0\x0c", "\x04bell\xc0\x00", sized(strings.Repeat("x", 64)) + "\x00", strings.Repeat("\x01x", 128) + "\x00", strings.Repeat("x", 1<<16)} {
		s := sceneOf(t, l, domain)
		hold(t, s, l, append(asks(domain), asks(bell)...), types)
		if got := zone.Counts(s); !slices.Equal(got, []int{0, 3}) {
			t.Errorf("%q: counts %v", domain, got)
		}
		for _, name := range append(asks(domain), asks("\x00")...) {
			if zone.Exists(s, name) || slices.ContainsFunc(types, func(n int) bool { return len(zone.Tell(s, name, n)) > 0 }) {
				t.Errorf("%q, no domain, has %q", domain, name)
			}
		}
	}
	for _, domain := range []string{"\x00", "\x02n0\x00", "\x02n0\x02n3\x00", "\x04_tcp\x00", "\x05_http\x04_tcp\x00", "\x04_udp\x05_http\x04_tcp\x00", "\x02ns\x00", "\x01.\x00", "\x03a.b\x00", "\x01\x00\x00", "\x02\x00\x00\x00", "\x03\xff\xc0\x80\x00", "\x04BeLL\x01Z\x00", "\x04@[`{\x00", "\x03\u212a\x00"} {
		s := sceneOf(t, l, domain)
		hold(t, s, l, append(asks(domain), asks(bell)...), types)
		if !zone.Exists(s, domain) || !zone.Exists(s, "\x02n3"+domain) || zone.Exists(s, "\x02n1"+domain) || !zone.Exists(s, "\x05_http\x04_tcp"+domain) {
			t.Errorf("%q: not its own names", domain)
		}
	}
}

// turned: letters' size turned where a bit is set.
func turned(name string, bits int) string {
	b := []byte(name)
	k := 0
	for i, c := range b {
		if 65 <= c && c <= 90 || 97 <= c && c <= 122 {
			if bits>>k&1 != 0 {
				b[i] = c ^ 0x20
			}
			k++
		}
	}
	return string(b)
}

// P18.1: small and great letters are one, in what is asked and in the domain; told is the name that was asked, and the data have the domain as it is.
func TestLetters(t *testing.T) {
	for own := range 16 {
		domain := turned(bell, own)
		l := []place{{4, true, true, "up", [2]string{v4, v6}, offers(t, http)}}
		s := sceneOf(t, l, domain)
		for bits := range 1 << 11 {
			for _, x := range []struct {
				name string
				typ  int
				data string
			}{
				{"\x05_http\x04_tcp" + domain, typeService, "\x00\x00\x00\x00\x00\x50\x02n4" + domain},
				{"\x02n4" + domain, typeV4, v4},
				{domain, typeServer, "\x02ns" + domain},
			} {
				name := turned(x.name, bits)
				if got := zone.Tell(s, name, x.typ); len(got) != 1 || got[0] != (api.Record{Name: name, Type: x.typ, Class: 1, TTL: 5, Data: x.data}) || !zone.Exists(s, name) {
					t.Fatalf("%q: of %q: %+v", domain, name, got)
				}
			}
		}
		hold(t, s, l, asks(turned(bell, own^5)), types)
	}
	// What is no letter isn't turned.
	s := sceneOf(t, []place{{0, true, true, "up", [2]string{v4, v6}, offers(t, http)}}, "\x02[@\x00")
	for _, name := range []string{"\x02{@\x00", "\x02[`\x00", "\x02\x0e0\x02[@\x00", "\x02n\x10\x02[@\x00"} {
		if zone.Exists(s, name) {
			t.Errorf("%q is there", name)
		}
	}
}

// P18.1: each byte at each place of names that are there.
func TestAllBytes(t *testing.T) {
	l := []place{{0, true, true, "up", [2]string{v4, v6}, offers(t, http)}, {5, true, true, "up", [2]string{v4, v6}, offers(t, dns)}}
	s := sceneOf(t, l, bell)
	for _, name := range []string{bell, "\x02n0" + bell, "\x05_http\x04_tcp" + bell} {
		var ask []string
		for i := range name {
			for c := range 256 {
				b := []byte(name)
				b[i] = byte(c)
				ask = append(ask, string(b))
			}
			ask = append(ask, name[:i], name[i:])
		}
		hold(t, s, l, ask, []int{1, 2, 6, 28, 33})
	}
}

// P18.1: each number of services, at all edges, each of them by its two bytes, and each type.
func TestNumbers(t *testing.T) {
	at := []int{0, 1, 2, 127, 128, 254, 255, 256, 257, 511, 512, 32767, 32768, 65279, 65280, 65534, 65535}
	for _, a := range at {
		for _, b := range at {
			var l []api.Service
			for _, x := range [][3]int{{a, b, 80}, {80, a, max(b, 1)}, {b, 7, max(a, 1)}} {
				l = append(l, api.Service{Name: "x", Proto: "y", Priority: x[0], Weight: x[1], Port: x[2], Well: true})
			}
			p := []place{{1, true, true, "up", [2]string{v4, v6}, offers(t, l...)}}
			hold(t, sceneOf(t, p, bell), p, []string{"\x02_x\x02_y" + bell}, []int{33})
		}
	}
	p := []place{{1, true, true, "up", [2]string{v4, v6}, offers(t, http)}}
	var all []int
	for n := -70; n < 600; n++ {
		all = append(all, n)
	}
	hold(t, sceneOf(t, p, bell), p, []string{bell, "\x02n1" + bell, "\x05_http\x04_tcp" + bell}, all)
}

// P18.1: addresses of each length, whatever bytes they are.
func TestAddresses(t *testing.T) {
	for n := range 20 {
		for m := range 20 {
			p := []place{{6, true, true, "up", [2]string{strings.Repeat("\xfe", n), strings.Repeat("\x00", m)}, nil}}
			s := sceneOf(t, p, bell)
			hold(t, s, p, []string{"\x02n6" + bell}, []int{0, 1, 2, 28, 33})
			if four, six := zone.Tell(s, "\x02n6"+bell, 1), zone.Tell(s, "\x02n6"+bell, 28); len(four) == 1 != (n == 4) || len(six) == 1 != (m == 16) {
				t.Errorf("of %d and %d bytes: %+v %+v", n, m, four, six)
			}
		}
	}
}

// P18.2: of a service that turns ill, whose endpoint falls, shuts down or goes, nothing is told; nor is its name there, unless somebody else offers it.
func TestOfTheLivingAlone(t *testing.T) {
	const name = "\x05_http\x04_tcp" + bell
	one := place{2, true, true, "up", [2]string{v4, v6}, offers(t, http)}
	change := []func(p *place){
		func(p *place) { p.alive = false },
		func(p *place) { p.there = false },
		func(p *place) { p.status = "gone" },
		func(p *place) { p.status = "" },
		func(p *place) { p.offers = offers(t, ill(http)) },
		func(p *place) { p.offers = nil },
		func(p *place) { p.offers = []offer{{value: ""}} },
		func(p *place) { p.offers = []offer{{value: p.offers[0].value + "\x00"}} },
	}
	for i, f := range change {
		changed := one
		f(&changed)
		other := place{5, true, true, "up", [2]string{v4, v6}, offers(t, http)}
		for _, x := range []struct {
			l    []place
			many int
		}{{[]place{one}, 1}, {[]place{changed}, 0}, {[]place{one, other}, 2}, {[]place{changed, other}, 1}} {
			s := sceneOf(t, x.l, bell)
			if got := zone.Tell(s, name, 33); len(got) != x.many || zone.Exists(s, name) != (x.many > 0) {
				t.Errorf("%d: %+v: %+v", i, x.l, got)
			}
			hold(t, s, x.l, asks(bell), types)
		}
	}
}

// anyService: of few words, so that names meet.
func anyService(r *rand.Rand) api.Service {
	words := []string{"http", "tcp", "udp", "a", "x-1", "aaaaaaaaaaaaaaaaaaaa", "0"}
	number := func() int { return []int{0, 1, 255, 256, 65535, r.Intn(65536)}[r.Intn(6)] }
	return api.Service{Name: words[r.Intn(len(words))], Proto: words[r.Intn(3)], Port: max(1, number()), Priority: number(), Weight: number(), Well: r.Intn(4) > 0}
}

// anyOffer: a service's value, or what is nearly one.
func anyOffer(t *testing.T, r *rand.Rand) offer {
	o := offers(t, anyService(r))[0]
	switch r.Intn(8) {
	case 0:
		return offer{value: ""}
	case 1:
		return offer{value: o.value + "\x00"}
	case 2:
		return offer{value: o.value[:len(o.value)-1]}
	case 3:
		return offer{value: o.value[:len(o.value)-1] + "\x02"}
	}
	return o
}

// anyPlaces: some of the eight.
func anyPlaces(t *testing.T, r *rand.Rand) []place {
	var l []place
	text := func(n int) string {
		b := make([]byte, []int{0, 1, n, n, n, n, n + 1, 16}[r.Intn(8)])
		r.Read(b)
		return string(b)
	}
	for node := range nodes {
		if r.Intn(3) == 0 {
			continue
		}
		p := place{node: node, alive: r.Intn(4) > 0, there: r.Intn(5) > 0, addresses: [2]string{text(4), text(16)}}
		p.status = []string{"up", "up", "up", "up", "gone", "", "down"}[r.Intn(7)]
		for range r.Intn(10) {
			p.offers = append(p.offers, anyOffer(t, r))
		}
		l = append(l, p)
	}
	return l
}

// anyDomain: a name, or nearly one.
func anyDomain(r *rand.Rand) string {
	switch r.Intn(6) {
	case 0:
		return "\x00"
	case 1:
		return of(3 + r.Intn(258))
	case 2:
		b := []byte(bell)
		b[r.Intn(len(b))] = byte(r.Intn(256))
		return string(b)
	}
	return turned("\x07cluster\x04bell\x00", r.Intn(1<<11))
}

// P18.1, P18.2: many scenes of any kind, asked for all that is there, turned, and for much that isn't.
func TestAnyScenes(t *testing.T) {
	r := rand.New(rand.NewSource(181))
	for range 600 {
		l := anyPlaces(t, r)
		s := sceneOf(t, l, anyDomain(r))
		r.Shuffle(len(s.Alive), func(i, k int) { s.Alive[i], s.Alive[k] = s.Alive[k], s.Alive[i] })
		ask := asks(s.Domain)
		for _, name := range work(l, s.Domain).names {
			ask = append(ask, turned(name, r.Intn(1<<30)), name[:r.Intn(len(name))], "\x01x"+name)
		}
		for range 10 {
			o := anyService(r)
			ask = append(ask, sized("_"+o.Name)+sized("_"+o.Proto)+s.Domain, sized(o.Name)+sized(o.Proto)+s.Domain)
		}
		hold(t, s, l, ask, []int{0, 1, 2, 6, 28, 33, 255, -1, 65569})
	}
}

// P18.1: a view with all services that there is room for tells each of them.
func TestFull(t *testing.T) {
	var l []place
	for node := range nodes {
		var all []api.Service
		for k := range 9 {
			all = append(all, api.Service{Name: "http", Proto: "tcp", Port: 1 + k, Weight: node, Well: true})
		}
		l = append(l, place{node, true, true, "up", [2]string{v4, v6}, offers(t, all...)})
	}
	s := sceneOf(t, l, of(200))
	if got := zone.Tell(s, "\x05_http\x04_tcp"+of(200), 33); len(got) != 72 {
		t.Error(len(got))
	}
	hold(t, s, l, asks(s.Domain), types)
}

// P18.1: views that may not be: every call ends, and tells no host that is none.
func TestViewsThatMayNotBe(t *testing.T) {
	r := rand.New(rand.NewSource(182))
	for range 300 {
		var s api.Scene
		s.Domain = []string{bell, "\x00", "", of(252)}[r.Intn(4)]
		for range r.Intn(6) {
			p := place{status: "up", addresses: [2]string{v4, v6}, offers: offers(t, http)}
			apps := p.apps()
			r.Shuffle(len(apps), func(i, k int) { apps[i], apps[k] = apps[k], apps[i] })
			node := slices.Concat(edges, []int{0, 1, 2})[r.Intn(len(edges)+3)]
			s.View = append(s.View, api.Named{Node: node, State: api.State{Gen: -node, Beat: node, Apps: apps}})
			s.Alive = append(s.Alive, node)
		}
		zone.Counts(s)
		zone.Start(s)
		for _, name := range asks(s.Domain) {
			zone.Exists(s, name)
			for _, n := range types {
				zone.Tell(s, name, n)
			}
		}
	}
	var none api.Scene
	hold(t, none, nil, asks(""), types)
}

// P18.1: what is handed in stays as it was, its spare room, too; what is answered is of its own; nothing is kept.
func TestNewMemory(t *testing.T) {
	l := []place{{1, true, true, "up", [2]string{v4, v6}, offers(t, http, dns, http)}, {2, true, true, "up", [2]string{v4, v6}, offers(t, http)}}
	was := sceneOf(t, l, bell)
	s := api.Scene{View: view.Copy(was.View), Alive: slices.Concat(was.Alive, []int{-77, -78})[:len(was.Alive)], Domain: bell}
	spare := api.Named{Node: -79}
	s.View = append(s.View, spare)[:len(s.View)]
	for i := range s.View {
		apps := s.View[i].State.Apps
		s.View[i].State.Apps = append(apps, api.Entry{Key: 3, Ver: -80, Val: "left"})[:len(apps)]
	}
	const name = "\x05_http\x04_tcp" + bell
	counts, told := zone.Counts(s), zone.Tell(s, name, 33)
	kept, keptTold := slices.Clone(counts), slices.Clone(told)
	hold(t, s, l, asks(bell), types)
	for i := range counts[:cap(counts)] {
		counts[:cap(counts)][i] = -1
	}
	for i := range told[:cap(told)] {
		told[:cap(told)][i] = api.Record{Name: "wiped"}
	}
	if !view.Same(s.View, was.View) || !slices.Equal(s.Alive, was.Alive) {
		t.Fatalf("%+v: changed", s)
	}
	if left := s.Alive[:len(s.Alive)+2]; left[2] != -77 || left[3] != -78 || s.View[:3][2].Node != -79 {
		t.Fatalf("the spare room: %v", left)
	}
	for _, x := range s.View {
		if n := len(x.State.Apps); x.State.Apps[:n+1][n] != (api.Entry{Key: 3, Ver: -80, Val: "left"}) {
			t.Fatalf("%+v: the spare room", x)
		}
	}
	if !slices.Equal(zone.Counts(s), kept) || !slices.Equal(zone.Tell(s, name, 33), keptTold) {
		t.Fatalf("%+v: what is answered hangs on what was", s)
	}
	hold(t, s, l, asks(bell), types)
	counts, told = zone.Counts(s), zone.Tell(s, name, 33)
	clear(s.Alive)
	clear(s.View)
	if !slices.Equal(counts, kept) || !slices.Equal(told, keptTold) {
		t.Fatal("what was answered changes with what was handed in")
	}
	hold(t, s, nil, asks(bell), types)
}
