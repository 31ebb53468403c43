package resolver_test

import (
	"fmt"
	"math/rand"
	"slices"
	"strings"
	"testing"

	"bellwether/api"
	"bellwether/packet"
	"bellwether/resolver"
	"bellwether/service"
	"bellwether/view"
)

// startData: what the record of type 6 of the domain bell has; startTail: all of that record behind its name.
const startData = "\x02ns\x04bell\x00\x04root\x04bell\x00\x00\x00\x00\x01\x00\x00\x00\x05\x00\x00\x00\x05\x00\x00\x00\x05\x00\x00\x00\x05"
const startTail = "\x00\x06\x00\x01\x00\x00\x00\x05\x00\x28" + startData

// P19.1: the example of the chapter, by all its bytes.
func TestExample(t *testing.T) {
	s := sceneOf(t, some(t), bell)
	b := resolver.Ask(0x1234, "\x04nope\x04bell\x00", 1)
	if string(b) != "\x12\x34\x01\x00\x00\x01\x00\x00\x00\x00\x00\x00\x04nope\x04bell\x00\x00\x01\x00\x01" {
		t.Fatalf("%q", b)
	}
	got, ok := resolver.Reply(b, s)
	if !ok || string(got) != "\x12\x34\x85\x03\x00\x01\x00\x00\x00\x01\x00\x00\x04nope\x04bell\x00\x00\x01\x00\x01"+bell+startTail {
		t.Errorf("%q %t", got, ok)
	}
	p, ok := resolver.Answer(b, s)
	want := api.Packet{
		ID: 0x1234, Flags: api.FlagReply | api.FlagOwn | api.FlagAsked | api.CodeNone,
		Question: []api.Question{{Name: "\x04nope\x04bell\x00", Type: api.TypeA, Class: api.ClassIN}},
		Auth:     []api.Record{{Name: bell, Type: api.TypeSOA, Class: api.ClassIN, TTL: 5, Data: startData}},
	}
	if !ok || !packet.Same(p, want) {
		t.Errorf("%+v %t", p, ok)
	}
}

// P19.1: each row of the table by hand, by the bytes that come and those of the reply.
func TestByHand(t *testing.T) {
	l := some(t)
	s := sceneOf(t, l, bell)
	const name = "\x05_http\x04_tcp" + bell
	for i, x := range []struct {
		b, reply string
		ok       bool
	}{
		{"", "", false},
		{"\x00\x07\x01\x00\x00\x01\x00\x00\x00\x00\x00", "", false},
		{"\x00\x07\x81\x00\x00\x01\x00\x00\x00\x00\x00\x00" + bell + "\x00\x01\x00\x01", "", false},
		{"\x00\x07\x29\xff\x00\x01\x00\x00\x00\x00\x00\x00" + bell + "\x00\x01\x00\x01", "\x00\x07\xa9\x04\x00\x00\x00\x00\x00\x00\x00\x00", true},
		{"\xab\xcd\x00\x00\x00\x01\x00\x00\x00\x00\x00\x00", "\xab\xcd\x80\x01\x00\x00\x00\x00\x00\x00\x00\x00", true},
		{"\xab\xcd\x01\x00\x00\x00\x00\x00\x00\x00\x00\x00", "\xab\xcd\x81\x01\x00\x00\x00\x00\x00\x00\x00\x00", true},
		{"\xab\xcd\x01\x00\x00\x02\x00\x00\x00\x00\x00\x00" + bell + "\x00\x01\x00\x01" + bell + "\x00\x01\x00\x01", "\xab\xcd\x81\x01\x00\x00\x00\x00\x00\x00\x00\x00", true},
		{ask(7, 0, bell, 1, 3), "\x00\x07\x80\x04\x00\x01\x00\x00\x00\x00\x00\x00" + bell + "\x00\x01\x00\x03", true},
		{ask(7, 0, "\x04bull\x00", 6, 1), "\x00\x07\x80\x05\x00\x01\x00\x00\x00\x00\x00\x00\x04bull\x00\x00\x06\x00\x01", true},
		{ask(7, 0x100, "\x02n1\x04bell\x00", 1, 1), "\x00\x07\x85\x03\x00\x01\x00\x00\x00\x01\x00\x00\x02n1\x04bell\x00\x00\x01\x00\x01" + bell + startTail, true},
		{ask(7, 0, "\x02n5\x04BELL\x00", 1, 1), "\x00\x07\x84\x00\x00\x01\x00\x00\x00\x01\x00\x00\x02n5\x04BELL\x00\x00\x01\x00\x01" + bell + startTail, true},
		{ask(7, 0, "\x04BELL\x00", 33, 1), "\x00\x07\x84\x00\x00\x01\x00\x00\x00\x01\x00\x00\x04BELL\x00\x00\x21\x00\x01\xc0\x0c" + startTail, true},
		{ask(7, 0, bell, 6, 1), "\x00\x07\x84\x00\x00\x01\x00\x01\x00\x00\x00\x00" + bell + "\x00\x06\x00\x01\xc0\x0c" + startTail, true},
		{ask(7, 0, bell, 2, 1), "\x00\x07\x84\x00\x00\x01\x00\x01\x00\x00\x00\x00" + bell + "\x00\x02\x00\x01\xc0\x0c\x00\x02\x00\x01\x00\x00\x00\x05\x00\x09\x02ns" + bell, true},
		{ask(7, 0x100, "\x02N0\x04bell\x00", 1, 1), "\x00\x07\x85\x00\x00\x01\x00\x01\x00\x00\x00\x00\x02N0\x04bell\x00\x00\x01\x00\x01\xc0\x0c\x00\x01\x00\x01\x00\x00\x00\x05\x00\x04" + v4, true},
		{ask(7, 0, "\x02n7\x04bell\x00", 28, 1), "\x00\x07\x84\x00\x00\x01\x00\x01\x00\x00\x00\x00\x02n7\x04bell\x00\x00\x1c\x00\x01\xc0\x0c\x00\x1c\x00\x01\x00\x00\x00\x05\x00\x10" + v6, true},
		{ask(7, 0, name, 33, 1), "\x00\x07\x84\x00\x00\x01\x00\x03\x00\x00\x00\x00" + name + "\x00\x21\x00\x01" +
			"\xc0\x0c\x00\x21\x00\x01\x00\x00\x00\x05\x00\x0f\x00\x00\x00\x00\x00\x50\x02n0" + bell +
			strings.Repeat("\xc0\x0c\x00\x21\x00\x01\x00\x00\x00\x05\x00\x0f\x00\x00\x00\x00\x00\x50\x02n7"+bell, 2), true},
		{ask(7, 0, "\x05_http\x04_udp"+bell, 33, 1), "\x00\x07\x84\x03\x00\x01\x00\x00\x00\x01\x00\x00\x05_http\x04_udp" + bell + "\x00\x21\x00\x01" + bell + startTail, true},
	} {
		got, ok := resolver.Reply([]byte(x.b), s)
		if ok != x.ok || string(got) != x.reply {
			t.Errorf("%d: %q: %q %t, not %q", i, x.b, got, ok, x.reply)
		}
		hold(t, x.b, s, l)
	}
}

// row: bytes to which one row of the table applies at the least, laid over others.
type row struct {
	what string
	lay  func(b string) string
}

// P19.1: of two rows that apply the first one counts.
func TestOrder(t *testing.T) {
	l := some(t)
	s := sceneOf(t, l, bell)
	rows := []row{
		{"short", func(b string) string { return b[:min(len(b), 11)] }},
		{"a reply", func(b string) string { return b[:2] + string([]byte{b[2] | 0x80}) + b[3:] }},
		{"another kind", func(b string) string { return b[:2] + string([]byte{b[2] | 0x10}) + b[3:] }},
		{"bytes left", func(b string) string { return b + "\x00" }},
		{"another class", func(b string) string { return b[:len(b)-1] + "\x02" }},
		{"another domain", func(b string) string { return strings.Replace(b, "bell", "bull", 1) }},
		{"no such name", func(b string) string { return strings.Replace(b, "n0", "n9", 1) }},
	}
	want := []string{"", "", "\x00\x07\x91\x04\x00\x00", "\x00\x07\x81\x01\x00\x00", "\x00\x07\x81\x04\x00\x01", "\x00\x07\x81\x05\x00\x01", "\x00\x07\x85\x03\x00\x01"}
	plain := ask(7, asked, "\x02n0"+bell, 1, 1)
	// From the last row on, so that each one is laid over what others have left of the bytes.
	for set := range 1 << len(rows) {
		b, first := plain, -1
		for i := len(rows) - 1; i >= 0; i-- {
			if set>>i&1 != 0 {
				b, first = rows[i].lay(b), i
			}
		}
		if first < 0 {
			continue
		}
		got, ok := resolver.Reply([]byte(b), s)
		if ok != (first >= 2) || !strings.HasPrefix(string(got), want[first]) {
			t.Errorf("%s of %b: %q: %q %t", rows[first].what, set, b, got, ok)
		}
		hold(t, b, s, l)
	}
}

// P19.1: nothing is said of fewer than 12 bytes, whatever they are; of 12 there is a reply.
func TestShort(t *testing.T) {
	l := some(t)
	s := sceneOf(t, l, bell)
	r := rand.New(rand.NewSource(191))
	hold(t, "", s, l)
	if b, ok := resolver.Reply(nil, s); ok || b != nil {
		t.Errorf("%q %t", b, ok)
	}
	for n := range 40 {
		for k := range 300 {
			b := make([]byte, n)
			r.Read(b)
			if k%3 == 0 && n > 2 {
				b[2] &= 0x07
			}
			hold(t, string(b), s, l)
			if _, ok := resolver.Answer(b, s); ok != (n >= 12 && b[2] < 0x80) {
				t.Errorf("%q: %t", b, ok)
			}
		}
	}
	hold(t, strings.Repeat("\x00", 12), s, l)
	hold(t, strings.Repeat("\x00", 11), s, l)
}

// P19.1: all flags that there are, with a question of each kind.
func TestFlags(t *testing.T) {
	l := some(t)
	s := sceneOf(t, l, bell)
	tails := []struct {
		questions  int
		tail       string
		own, code  int
		records    int
		isQuestion int
	}{
		{1, "\x02n0" + bell + "\x00\x01\x00\x01", own, 0, 1, 1},
		{1, "\x02n0" + bell + "\x00\x21\x00\x01", own, 0, 1, 1},
		{1, "\x02n9" + bell + "\x00\x01\x00\x01", own, 3, 1, 1},
		{1, "\x02n0\x00\x00\x01\x00\x01", 0, 5, 0, 1},
		{1, "\x02n0" + bell + "\x00\x01\x00\x02", 0, 4, 0, 1},
		{1, "\x02n0" + bell + "\x00\x01\x00", 0, 1, 0, 0},
		{0, "", 0, 1, 0, 0},
	}
	for flags := range 1 << 16 {
		for _, x := range tails {
			b := header(7, flags, x.questions, 0, 0, 0) + x.tail
			p, ok := resolver.Answer([]byte(b), s)
			want := 0x8000 | flags&0x0100 | x.own | x.code
			records, questions := x.records, x.isQuestion
			if flags&kinds != 0 {
				want, records, questions = 0x8000|flags&0x7900|4, 0, 0
			}
			if flags >= replied {
				want, records, questions = 0, 0, 0
			}
			if ok != (flags < replied) || p.Flags != want || len(p.Answer)+len(p.Auth) != records || len(p.More) != 0 || len(p.Question) != questions {
				t.Fatalf("%x: %q: %x %t, not %x", flags, b, p.Flags, ok, want)
			}
		}
		hold(t, header(7, flags, 1, 0, 0, 0)+tails[flags%5].tail, s, l)
	}
}

// P19.1, P19.2: each ID is that of the reply, whatever the reply is.
func TestIDs(t *testing.T) {
	l := some(t)
	s := sceneOf(t, l, bell)
	for id := range 1 << 16 {
		for _, b := range []string{ask(id, 0, bell, 6, 1), ask(id, 0x2000, bell, 6, 1), ask(id, 0, bell, 6, 1) + "x"} {
			p, ok := resolver.Answer([]byte(b), s)
			if got, is := resolver.Reply([]byte(b), s); !ok || !is || p.ID != id || string(got[:2]) != u16(id) {
				t.Fatalf("%d: %+v %q", id, p, got)
			}
		}
		if got := resolver.Ask(id, bell, 6); string(got) != ask(id, 0x100, bell, 6, 1) {
			t.Fatalf("%d: %q", id, got)
		}
	}
}

// P19.1: all classes and all types, of each kind of name.
func TestClassesAndTypes(t *testing.T) {
	l := some(t)
	s := sceneOf(t, l, bell)
	names := []string{bell, "\x02n0" + bell, "\x05_http\x04_tcp" + bell, "\x02n9" + bell, "\x04bull\x00"}
	for n := range 1 << 16 {
		for i, name := range names {
			if n%5 != i && n > 600 && n&0xff > 33 {
				continue
			}
			p, _ := resolver.Answer([]byte(ask(1, 0, name, 1, n)), s)
			if n != 1 && (p.Flags != 0x8004 || len(p.Answer)+len(p.Auth) > 0 || p.Question[0].Class != n) {
				t.Fatalf("%q, class %d: %+v", name, n, p)
			}
			p, _ = resolver.Answer([]byte(ask(1, 0, name, n, 1)), s)
			if p.Question[0] != (api.Question{Name: name, Type: n, Class: 1}) {
				t.Fatalf("%q, type %d: %+v", name, n, p)
			}
			hold(t, ask(n, asked, name, n, 1), s, l)
		}
		hold(t, ask(n, asked, names[n%5], 1, n), s, l)
	}
	many := func(name string, typ int) int {
		p, _ := resolver.Answer([]byte(ask(1, 0, name, typ, 1)), s)
		return len(p.Answer)
	}
	for _, x := range []struct {
		name      string
		typ, many int
	}{{bell, 2, 1}, {bell, 6, 1}, {bell, 33, 0}, {names[1], 1, 1}, {names[1], 28, 1}, {names[1], 6, 0}, {names[2], 33, 3}, {names[2], 1, 0}, {names[2], 255, 0}, {names[2], 33 + 256, 0}} {
		if got := many(x.name, x.typ); got != x.many {
			t.Errorf("%q, type %d: %d records", x.name, x.typ, got)
		}
	}
}

// P19.1: just one question, and how many there are said to be beside those that there are; records of the bytes change nothing, as long as they may be.
func TestCounts(t *testing.T) {
	l := some(t)
	s := sceneOf(t, l, bell)
	q := "\x02n0" + bell + "\x00\x01\x00\x01"
	for _, said := range []int{0, 1, 2, 3, 99, 100, 101, 255, 256, 257, 65535} {
		for _, there := range []int{0, 1, 2, 3, 99, 100, 101, 257} {
			b := header(7, 0, said, 0, 0, 0) + strings.Repeat(q, there)
			p, ok := resolver.Answer([]byte(b), s)
			if good := said == 1 && there == 1; !ok || p.Flags&15 == 0 != good || p.Flags&15 == 1 != !good || len(p.Question) == 1 != good {
				t.Errorf("%d said, %d there: %+v %t", said, there, p, ok)
			}
			hold(t, b, s, l)
		}
	}
	x := api.Record{Name: "\x00", Type: 41, Class: 4096, TTL: 1, Data: "d"}
	for list := range 3 {
		for _, said := range []int{0, 1, 2, 99, 100, 101, 256, 65535} {
			for _, there := range []int{0, 1, 2, 99, 100, 101, 256} {
				var many [3]int
				many[list] = said
				b := header(7, 0, 1, many[0], many[1], many[2]) + q + strings.Repeat(recordBytes(x), there)
				p, ok := resolver.Answer([]byte(b), s)
				good := said == there && said <= 100
				if !ok || good != (p.Flags == 0x8400) || good != (len(p.Answer) == 1) || !good != (p.Flags == 0x8001) || len(p.Auth)+len(p.More) > 0 {
					t.Errorf("%d: %d said, %d there: %+v %t", list, said, there, p, ok)
				}
				hold(t, b, s, l)
			}
		}
	}
	for _, ttl := range []int{0, 1<<31 - 1, 1 << 31, 1<<32 - 1} {
		for _, size := range []int{0, 1, 999, 1000, 1001, 40000} {
			x.TTL, x.Data = ttl, strings.Repeat("d", size)
			b := header(7, 0, 1, 0, 0, 1) + q + recordBytes(x)
			if p, ok := resolver.Answer([]byte(b), s); !ok || p.Flags&15 == 0 != (ttl < 1<<31 && size <= 1000) {
				t.Errorf("TTL %d, %d bytes: %+v", ttl, size, p)
			}
			hold(t, b, s, l)
			hold(t, b[:len(b)-1], s, l)
			hold(t, b+"x", s, l)
		}
	}
}

// full: bytes that ask, and so many of them, by what else they have.
func full(size int) string {
	const many = 65
	b := header(7, 0, 1, 0, 0, many) + "\x02n0" + bell + "\x00\x01\x00\x01"
	for i := range many {
		x := api.Record{Name: "\x00", Type: 16, Class: 1}
		x.Data = strings.Repeat("x", (size-len(b))/(many-i)-len(recordBytes(x)))
		b += recordBytes(x)
	}
	return b
}

// P19.1: bytes up to, and beyond, what a packet may have: of more than that the question isn't read, but the header is.
func TestLong(t *testing.T) {
	l := some(t)
	s := sceneOf(t, l, bell)
	most := full(mostBytes)
	for _, x := range []struct {
		b          string
		size, code int
	}{
		{full(65534), 65534, 0}, {most, 65535, 0}, {full(65536), 65536, 1}, {full(65537), 65537, 1},
		{most[:65534], 65534, 1}, {most + "x", 65536, 1}, {most + strings.Repeat("x", 1<<20), 65535 + 1<<20, 1},
	} {
		p, ok := resolver.Answer([]byte(x.b), s)
		if !ok || len(x.b) != x.size || p.Flags&15 != x.code || p.ID != 7 || len(p.Answer) == 1 != (x.code == 0) {
			t.Errorf("of %d bytes: %+v", len(x.b), p)
		}
		hold(t, x.b, s, l)
		hold(t, x.b[:2]+"\x10"+x.b[3:], s, l)
		hold(t, x.b[:2]+"\x80"+x.b[3:], s, l)
	}
}

// P19.1: names with pointers, good ones and bad ones: of those that can be read the question has none.
func TestPointers(t *testing.T) {
	l := some(t)
	s := sceneOf(t, l, bell)
	// The header has zeros, which end a name that a pointer leads there.
	for _, x := range []struct {
		name, read string
	}{
		{"\xc0\x0c", ""}, {"\xc0\x0d", ""}, {"\xc0\x0e", ""}, {"\xff\xff", ""}, {"\xc0", ""}, {"\x02n0\xc0\x0c", ""}, {"\x02n0\xc0\x0f", ""}, {"\x02n0\xc0\x10", ""},
		{"\x40bell\x00", ""}, {"\x80bell\x00", ""}, {"\xbfbell\x00", ""}, {"\x05bell\x00", ""}, {"\x3fbell\x00", ""},
		{"\xc0\x04", "\x00"}, {"\x02n0\xc0\x06", "\x02n0\x00"}, {"\x04bell\xc0\x04", bell}, {"\x02n0\x04bell\xc0\x0b", "\x02n0\x04bell\x00"}, {"\x02N0\x04Bell\xc0\x08", "\x02N0\x04Bell\x00"},
	} {
		b := ask(0, 0, x.name, 1, 1)
		p, ok := resolver.Answer([]byte(b), s)
		if !ok || p.Flags&15 == 1 != (x.read == "") || len(p.Question) > 0 != (x.read != "") || len(p.Question) > 0 && p.Question[0].Name != x.read {
			t.Errorf("%q: %+v %t", x.name, p, ok)
		}
		hold(t, b, s, l)
	}
	// With this ID the header begins with a name: the label n, and the 0 of the flags.
	hold(t, ask(0x016e, 0, "\xc0\x00", 1, 1), s, l)
	l = []place{{0, true, true, "up", [2]string{v4, v6}, offers(t, http)}}
	s = sceneOf(t, l, "\x01n\x00")
	for _, x := range []struct {
		name, read string
		typ        int
	}{{"\xc0\x00", "\x01n\x00", 6}, {"\x02n0\xc0\x00", "\x02n0\x01n\x00", 1}, {"\x05_http\x04_tcp\xc0\x00", "\x05_http\x04_tcp\x01n\x00", 33}} {
		b := ask(0x016e, 0, x.name, x.typ, 1)
		p, ok := resolver.Answer([]byte(b), s)
		if !ok || p.Flags != 0x8400 || len(p.Question) != 1 || p.Question[0].Name != x.read || len(p.Answer) != 1 || p.Answer[0].Name != x.read {
			t.Errorf("%q: %+v %t", x.name, p, ok)
		}
		hold(t, b, s, l)
	}
}

// P19.1: domains of each length, and those that are none: which names are under them, and whether there is a record of type 6, and room for it.
func TestLengths(t *testing.T) {
	long := api.Service{Name: strings.Repeat("s", 20), Proto: strings.Repeat("p", 20), Port: 65535, Priority: 65535, Weight: 65535, Well: true}
	l := []place{{0, true, true, "up", [2]string{v4, v6}, offers(t, http, long)}, {7, true, true, "up", [2]string{v4, ""}, offers(t, long, dns)}}
	for size := 1; size <= 300; size++ {
		if size == 2 { // a label of no bytes
			continue
		}
		domain := of(size)
		if len(domain) != size || isName(domain) != (size <= mostName) {
			t.Fatalf("%d: %q", size, domain)
		}
		s := sceneOf(t, l, domain)
		for _, name := range append(asks(domain), sized("_"+long.Name)+sized("_"+long.Proto)+domain, domain[max(0, len(domain)-20):], turned(domain, 0x5a5a5a)) {
			for _, typ := range []int{typeV4, typeServer, typeStart, typeV6, typeService} {
				hold(t, ask(size, asked, name, typ, 1), s, l)
			}
		}
		p, ok := resolver.Answer([]byte(ask(1, 0, domain, 1, 1)), s)
		switch {
		case size > mostName:
			ok = ok && p.Flags == 0x8001
		case size > mostName-5:
			ok = ok && p.Flags == 0x8400 && len(p.Auth) == 0 && len(p.Answer) == 0
		default:
			ok = ok && p.Flags == 0x8400 && len(p.Auth) == 1 && p.Auth[0].Name == domain
		}
		if !ok {
			t.Errorf("of %d bytes: %+v", size, p)
		}
		// All bytes of that reply: header, question, pointer and the record, whose data have the domain twice.
		b, _ := resolver.Reply([]byte(ask(1, 0, domain, 1, 1)), s)
		room := 12 + size + 4 + 2 + 10 + 3 + size + 5 + size + 20
		if size <= mostName-5 && (len(b) == room != (room <= 512) || b[2]&2 != 0 != (room > 512) || len(b) == 12+size+4 != (room > 512)) {
			t.Errorf("of %d bytes: %q, of %d", size, b, room)
		}
	}
}

// P19.1: where the domain is no name, nothing is under it; where it is the root, everything is.
func TestDomains(t *testing.T) {
	l := some(t)
	for _, domain := range []string{"", "bell", "bell.", ".", "\x01", "\x04bell", "\x04bell\x00\x00", "\x00\x04bell\x00", "\x05bell\x00", "\x03bell\x00", "\xc0\x0c", "\x04bell\xc0\x00", sized(strings.Repeat("x", 64)) + "\x00", strings.Repeat("\x01x", 128) + "\x00", strings.Repeat("x", 1<<16)} {
		s := sceneOf(t, l, domain)
		for _, name := range asks(bell) {
			b := ask(7, 0, name, 6, 1)
			p, ok := resolver.Answer([]byte(b), s)
			if !ok || p.Flags != 0x8005 || len(p.Question) != 1 || len(p.Answer)+len(p.Auth) > 0 {
				t.Errorf("%q, no domain: %q: %+v", domain, name, p)
			}
			hold(t, b, s, l)
		}
	}
	for _, domain := range []string{"\x00", "\x02n0\x00", "\x02n0\x02n7\x00", "\x04_tcp\x00", "\x05_http\x04_tcp\x00", "\x03a.b\x00", "\x01\x00\x00", "\x04BeLL\x01Z\x00", "\x04@[`{\x00", "\x02\xff\xc0\x00"} {
		s := sceneOf(t, l, domain)
		for _, name := range append(asks(domain), asks(bell)...) {
			for _, typ := range []int{typeV4, typeServer, typeStart, typeV6, typeService, 255} {
				hold(t, ask(7, asked, name, typ, 1), s, l)
			}
		}
	}
	s := sceneOf(t, l, "\x00")
	for _, name := range []string{"\x00", "\x02n0\x00", bell, "\x01x" + bell} {
		if p, ok := resolver.Answer([]byte(ask(7, 0, name, 255, 1)), s); !ok || p.Flags&15 == 5 || len(p.Auth) != 1 {
			t.Errorf("%q under the root: %+v", name, p)
		}
	}
}

// P19.1: small and great letters are one, in what is asked and in the domain; the question and the names of what is told are as they were asked, Start's as the domain is.
func TestLetters(t *testing.T) {
	l := []place{{4, true, true, "up", [2]string{v4, v6}, offers(t, http)}}
	for have := range 16 {
		domain := turned(bell, have)
		s := sceneOf(t, l, domain)
		for bits := range 1 << 11 {
			for _, x := range []struct {
				name string
				typ  int
				data string
			}{
				{"\x05_http\x04_tcp" + domain, typeService, "\x00\x00\x00\x00\x00\x50\x02n4" + domain},
				{"\x02n4" + domain, typeV4, v4},
				{domain, typeServer, "\x02ns" + domain},
				{"\x02n3" + domain, typeV4, ""},
			} {
				name := turned(x.name, bits)
				p, ok := resolver.Answer([]byte(ask(7, 0, name, x.typ, 1)), s)
				var want []api.Record
				if x.data != "" {
					want = []api.Record{{Name: name, Type: x.typ, Class: 1, TTL: 5, Data: x.data}}
				}
				if !ok || p.Question[0].Name != name || !slices.Equal(p.Answer, want) || len(p.Auth) > 0 != (want == nil) || len(p.Auth) > 0 && p.Auth[0].Name != domain {
					t.Fatalf("%q: of %q: %+v", domain, name, p)
				}
			}
		}
		for _, name := range asks(turned(bell, have^5)) {
			hold(t, ask(7, 0, name, typeService, 1), s, l)
			hold(t, ask(7, 0, name, typeStart, 1), s, l)
		}
	}
}

// spread: so many services of one name, over as many places as they need.
func spread(t *testing.T, name string, many int) []place {
	var l []place
	for node := 0; many > 0; node++ {
		var o []api.Service
		for k := range min(9, many) {
			o = append(o, api.Service{Name: name, Proto: "t", Port: 1 + k, Well: true})
		}
		l = append(l, place{node, true, true, "up", [2]string{v4, v6}, offers(t, o...)})
		many -= len(o)
	}
	return l
}

// P19.1, P19.2: replies around 512 bytes: as many whole records as there is room for, and FlagCut where one is left out.
func TestCut(t *testing.T) {
	sizes := map[int]int{}
	for size := 3; size <= 240; size++ {
		for n := 1; n <= 8; n++ {
			word, domain := strings.Repeat("h", n), of(size)
			name := sized("_"+word) + "\x02_t" + domain
			// The first 16 are the header and what is behind the question's name; a record has a pointer, ten bytes, six of numbers, and the host.
			ahead, each := 16+len(name), 2+10+6+3+size
			room := (512 - ahead) / each
			for _, many := range []int{0, 1, room - 1, room, room + 1, room + 2} {
				if many < 0 || many > 72 {
					continue
				}
				l := spread(t, word, many)
				s := sceneOf(t, l, domain)
				b := ask(7, asked, name, typeService, 1)
				hold(t, b, s, l)
				whole := ahead + many*each
				sizes[whole]++
				p, _ := resolver.Answer([]byte(b), s)
				got, ok := resolver.Reply([]byte(b), s)
				if !ok || len(p.Answer) != many || p.Flags&cutFlag != 0 || many > 0 && (got[2]&2 != 0 != (whole > 512) || len(got) != ahead+min(many, room)*each) {
					t.Fatalf("of %d bytes: %q", whole, got)
				}
			}
		}
	}
	for n := 505; n <= 520; n++ {
		if sizes[n] == 0 {
			t.Errorf("no reply would be of %d bytes", n)
		}
	}
}

// P19.1: the most that may be told: all eight with nine services each.
func TestFull(t *testing.T) {
	var l []place
	for node := range nodes {
		var o []api.Service
		for k := range 9 {
			o = append(o, api.Service{Name: "http", Proto: "tcp", Port: 1 + k, Weight: node, Well: true})
		}
		l = append(l, place{node, true, true, "up", [2]string{v4, v6}, offers(t, o...)})
	}
	for _, domain := range []string{"\x00", bell, of(200), of(243)} {
		s := sceneOf(t, l, domain)
		b := ask(7, asked, "\x05_http\x04_tcp"+domain, typeService, 1)
		p, ok := resolver.Answer([]byte(b), s)
		if got, is := resolver.Reply([]byte(b), s); !ok || !is || len(p.Answer) != 72 || got[2] != 0x87 {
			t.Errorf("%q: %d records: %q", domain, len(p.Answer), got)
		}
		hold(t, b, s, l)
	}
}

// P19.1: each byte of bytes that ask turned to each one, each beginning of them, and one byte more behind them.
func TestAllBytes(t *testing.T) {
	l := some(t)
	s := sceneOf(t, l, bell)
	more := recordBytes(api.Record{Name: "\xc0\x0c", Type: 41, Class: 512, TTL: 9, Data: "xy"})
	for _, whole := range []string{
		ask(0x0102, asked, bell, typeStart, 1),
		ask(0xfffe, 0, "\x02n0"+bell, typeV4, 1),
		ask(3, asked, "\x05_http\x04_tcp"+bell, typeService, 1),
		header(4, 0, 1, 0, 0, 1) + "\x02n7" + bell + "\x00\x1c\x00\x01" + more,
		header(5, 0, 2, 0, 0, 0) + bell + "\x00\x1c\x00\x01\xc0\x0c\x00\x01\x00\x01",
	} {
		for i := range whole {
			for c := range 256 {
				b := []byte(whole)
				b[i] = byte(c)
				hold(t, string(b), s, l)
			}
			hold(t, whole[:i], s, l)
			hold(t, whole[i:], s, l)
		}
		for c := range 256 {
			hold(t, whole+string([]byte{byte(c)}), s, l)
		}
	}
}

// P19.1: Ask by hand, at all edges; its bytes are parsed as what was asked.
func TestAsk(t *testing.T) {
	for _, id := range edges {
		for _, typ := range edges {
			for _, name := range asks(bell) {
				got := resolver.Ask(id, name, typ)
				want := ""
				if id == id&0xffff && typ == typ&0xffff && isName(name) {
					want = ask(id, 0x100, name, typ, 1)
				}
				if string(got) != want || want == "" && got != nil {
					t.Fatalf("%d, %q, %d: %q", id, name, typ, got)
				}
			}
		}
	}
	for size := 1; size <= 300; size++ {
		if size == 2 {
			continue
		}
		name := of(size)
		got := resolver.Ask(9, name, 33)
		p, e := packet.Parse(got)
		want := api.Packet{ID: 9, Flags: 0x100, Question: []api.Question{{Name: name, Type: 33, Class: 1}}}
		if good := size <= mostName; good != (len(got) == 12+size+4) || good != (e == 0) || good && !packet.Same(p, want) || !good && got != nil {
			t.Errorf("of %d bytes: %q", size, got)
		}
	}
	for _, name := range []string{"", "bell", "\x04bell", "\x04bell\x00\x00", "\xc0\x0c", "\x02n0\xc0\x00", "\x40" + strings.Repeat("x", 64) + "\x00", strings.Repeat("x", 1<<16)} {
		if got := resolver.Ask(1, name, 1); got != nil {
			t.Errorf("%q: %q", name, got)
		}
	}
}

// P19.2: of a service that turns ill, whose endpoint falls, shuts down or goes, nothing is told; nor is its name there, unless somebody else offers it.
func TestOfTheLivingAlone(t *testing.T) {
	const name = "\x05_http\x04_tcp" + bell
	one := place{2, true, true, "up", [2]string{v4, v6}, offers(t, http)}
	change := []func(p *place){
		func(p *place) { p.alive = false },
		func(p *place) { p.there = false },
		func(p *place) { p.status = "gone" },
		func(p *place) { p.status = "" },
		func(p *place) { p.offers = offers(t, ill(http)) },
		func(p *place) { p.offers = nil },
		func(p *place) { p.offers = []offer{{value: ""}} },
		func(p *place) { p.offers = []offer{{value: p.offers[0].value + "\x00"}} },
	}
	for i, f := range change {
		changed := one
		f(&changed)
		other := place{5, true, true, "up", [2]string{v4, v6}, offers(t, http)}
		for _, x := range []struct {
			l    []place
			data []string
		}{{[]place{one}, []string{"\x02n2"}}, {[]place{changed}, nil}, {[]place{one, other}, []string{"\x02n2", "\x02n5"}}, {[]place{changed, other}, []string{"\x02n5"}}} {
			s := sceneOf(t, x.l, bell)
			b, ok := resolver.Reply(resolver.Ask(7, name, 33), s)
			p, e := packet.Parse(b)
			var data []string
			for _, r := range p.Answer {
				data = append(data, strings.TrimSuffix(strings.TrimPrefix(r.Data, "\x00\x00\x00\x00\x00\x50"), bell))
			}
			code := 0
			if x.data == nil {
				code = codeNone
			}
			if !ok || e != 0 || !slices.Equal(data, x.data) || p.Flags != 0x8500|code || len(p.Auth) == 1 != (x.data == nil) {
				t.Errorf("%d: %+v: %+v", i, x.l, p)
			}
			for _, n := range asks(bell) {
				hold(t, ask(7, 0, n, 33, 1), s, x.l)
				hold(t, ask(7, 0, n, 1, 1), s, x.l)
			}
		}
	}
}

// living: what is well, alive and up under a name, as the view itself says it.
func living(s api.Scene, name string) []string {
	var out []string
	for _, x := range s.View {
		if !slices.Contains(s.Alive, x.Node) || !service.Up(x.State.Apps) {
			continue
		}
		for _, o := range service.All(x.State.Apps) {
			if o.Well && lower(name) == lower(sized("_"+o.Name)+sized("_"+o.Proto)+s.Domain) {
				out = append(out, fmt.Sprintf("%d %d %d at %d", o.Priority, o.Weight, o.Port, x.Node))
			}
		}
	}
	return out
}

// P19.1, P19.2: many scenes of any kind, asked for all that is there and for much that isn't, by bytes of which some have something wrong.
func TestAnyScenes(t *testing.T) {
	r := rand.New(rand.NewSource(192))
	found := 0
	for range 3000 {
		l := anyPlaces(t, r)
		s := sceneOf(t, l, anyDomain(r))
		r.Shuffle(len(s.Alive), func(i, k int) { s.Alive[i], s.Alive[k] = s.Alive[k], s.Alive[i] })
		for range 20 {
			hold(t, anyAsk(r, l, s.Domain), s, l)
		}
		name := anyName(r, l, s.Domain)
		p, ok := resolver.Answer(resolver.Ask(7, name, 33), s)
		if ok != isName(name) {
			t.Fatalf("%q: %+v %t", name, p, ok)
		}
		if !ok || !isUnder(name, s.Domain) {
			continue
		}
		var data []string
		for _, x := range p.Answer {
			host := x.Data[6:]
			data = append(data, fmt.Sprintf("%d %d %d at %s", int(x.Data[0])<<8|int(x.Data[1]), int(x.Data[2])<<8|int(x.Data[3]), int(x.Data[4])<<8|int(x.Data[5]), host[2:3]))
		}
		if want := living(s, name); !slices.Equal(data, want) {
			t.Fatalf("%+v: of %q: %q, not %q", s, name, data, want)
		}
		if len(data) > 0 {
			found++
		}
	}
	if found < 200 {
		t.Errorf("of %d services alone something is told", found)
	}
}

// P19.2: junk of all kinds.
func TestJunk(t *testing.T) {
	l := some(t)
	s := sceneOf(t, l, bell)
	r := rand.New(rand.NewSource(193))
	for range 40000 {
		b := make([]byte, r.Intn(60))
		r.Read(b)
		if len(b) >= 12 && r.Intn(2) == 0 {
			// A header that lets the rest be read.
			copy(b[2:], []byte{byte(r.Intn(2)), 0, 0, byte(r.Intn(2)), 0, byte(r.Intn(2)), 0, 0, 0, 0})
			for i := range b[12:] {
				b[12+i] &= []byte{0x03, 0xc3, 0x0f, 0xff}[r.Intn(4)]
			}
		}
		hold(t, string(b), s, l)
	}
}

// P19.1: views that may not be, and scenes of nothing: every call ends, and what it answers may be parsed, if it is anything.
func TestViewsThatMayNotBe(t *testing.T) {
	r := rand.New(rand.NewSource(194))
	for k := range 300 {
		var s api.Scene
		s.Domain = []string{bell, "\x00", "", of(252)}[r.Intn(4)]
		for range []int{r.Intn(6), 60}[k%2] {
			p := place{status: "up", addresses: [2]string{v4, v6}, offers: offers(t, http)}
			apps := p.apps()
			r.Shuffle(len(apps), func(i, k int) { apps[i], apps[k] = apps[k], apps[i] })
			node := slices.Concat(edges, []int{0, 1, 2})[r.Intn(len(edges)+3)]
			s.View = append(s.View, api.Named{Node: node, State: api.State{Gen: -node, Beat: node, Apps: apps}})
			s.Alive = append(s.Alive, node)
		}
		for _, name := range asks(s.Domain) {
			for _, typ := range []int{1, 2, 6, 28, 33} {
				b, ok := resolver.Reply([]byte(ask(7, 0, name, typ, 1)), s)
				if p, e := packet.Parse(b); ok != (e == 0) || ok && p.ID != 7 || !ok && b != nil {
					t.Fatalf("%+v: %q: %q %t", s, name, b, ok)
				}
			}
		}
	}
	var none api.Scene
	for _, name := range asks(bell) {
		hold(t, ask(7, 0, name, 6, 1), none, nil)
	}
	// Of more than 100 records there is no packet.
	one := sceneOf(t, []place{{2, true, true, "up", [2]string{v4, v6}, offers(t, http)}}, bell)
	for _, many := range []int{99, 100, 101, 102} {
		s := api.Scene{View: slices.Repeat(one.View, many), Alive: []int{2}, Domain: bell}
		b, ok := resolver.Reply(resolver.Ask(7, "\x05_http\x04_tcp"+bell, 33), s)
		if ok != (many <= 100) || ok != (len(b) > 0) {
			t.Errorf("%d records: %q %t", many, b, ok)
		}
	}
}

// P19.1: what is handed in stays as it was, its spare room, too; what is answered is of its own; nothing is kept.
func TestNewMemory(t *testing.T) {
	l := []place{{1, true, true, "up", [2]string{v4, v6}, offers(t, http, dns, http)}, {2, true, true, "up", [2]string{v4, v6}, offers(t, http)}}
	was := sceneOf(t, l, bell)
	for _, q := range []string{ask(7, 0, "\x05_http\x04_tcp"+bell, 33, 1), ask(7, 0, "\x02n9"+bell, 1, 1), ask(7, 0, bell, 1, 2), ask(7, 0, bell, 1, 1) + "x", ask(7, 0x800, bell, 1, 1), ask(7, 0x8000, bell, 1, 1)} {
		s := api.Scene{View: view.Copy(was.View), Alive: slices.Concat(was.Alive, []int{-77, -78})[:len(was.Alive)], Domain: bell}
		s.View = append(s.View, api.Named{Node: -79})[:len(s.View)]
		b := append([]byte(q), "left"...)[:len(q)]
		p, _ := resolver.Answer(b, s)
		bytes, _ := resolver.Reply(b, s)
		kept, keptBytes := copied(p), slices.Clone(bytes)
		if string(b[:len(q)+4]) != q+"left" || !view.Same(s.View, was.View) || !slices.Equal(s.Alive[:len(s.Alive)+2], slices.Concat(was.Alive, []int{-77, -78})) || s.View[:len(s.View)+1][len(s.View)].Node != -79 {
			t.Fatalf("%q: %q, %+v: changed", q, b, s)
		}
		clear(bytes[:cap(bytes)])
		wiped := copied(p)
		clear(p.Question)
		clear(p.Answer)
		clear(p.Auth)
		p, _ = resolver.Answer(b, s)
		if bytes, _ = resolver.Reply(b, s); !packet.Same(p, kept) || !packet.Same(wiped, kept) || !slices.Equal(bytes, keptBytes) {
			t.Fatalf("%q: what is answered hangs on what was", q)
		}
		clear(b[:cap(b)])
		clear(s.View)
		clear(s.Alive)
		if !packet.Same(p, kept) || !slices.Equal(bytes, keptBytes) {
			t.Fatalf("%q: what was answered changes with what was handed in", q)
		}
		hold(t, q, was, l)
	}
	first := resolver.Ask(1, bell, 1)
	clear(first)
	if got := resolver.Ask(1, bell, 1); string(got) != ask(1, 0x100, bell, 1, 1) {
		t.Fatalf("%q: hangs on what was", got)
	}
}

// copied: a packet with lists of its own.
func copied(p api.Packet) api.Packet {
	p.Question, p.Answer, p.Auth = slices.Clone(p.Question), slices.Clone(p.Answer), slices.Clone(p.Auth)
	return p
}
