package packet

import "bellwether/api"

// reader: bytes, how far they have been read, and the first error there. Behind that nothing is read any more, so that it need be asked for but once, at the end.
type reader struct {
	b  []byte
	at int
	e  api.Errno
}

// packet: header, questions and records.
func (r *reader) packet() api.Packet {
	p := api.Packet{ID: r.number(2), Flags: r.number(2)}
	questions := r.number(2)
	many := [3]int{r.number(2), r.number(2), r.number(2)}
	p.Question = several(r, questions, (*reader).question)
	var l [3][]api.Record
	for i, n := range many {
		l[i] = several(r, n, (*reader).record)
	}
	p.Answer, p.Auth, p.More = l[0], l[1], l[2]
	return p
}

// several: so many things, one behind the other, as long as there is no error.
func several[T any](r *reader, many int, one func(*reader) T) []T {
	var out []T
	for range many {
		x := one(r)
		if r.e != api.OK {
			break
		}
		out = append(out, x)
	}
	return out
}

// question: the next one. (Go makes a literal's calls in the order in which they are written.)
func (r *reader) question() api.Question {
	return api.Question{Name: r.name(), Type: r.number(2), Class: r.number(2)}
}

// record: the next one.
func (r *reader) record() api.Record {
	return api.Record{Name: r.name(), Type: r.number(2), Class: r.number(2), TTL: r.number(4), Data: string(r.take(r.number(2)))}
}

// name: the next one.
func (r *reader) name() string {
	if r.e != api.OK {
		return ""
	}
	var name string
	name, r.at, r.e = Name(r.b, r.at)
	return name
}

// number: the next one, of so many bytes.
func (r *reader) number(size int) int {
	n := 0
	for _, c := range r.take(size) {
		n = n<<8 | int(c)
	}
	return n
}

// take: the next bytes.
func (r *reader) take(size int) []byte {
	if r.e == api.OK && size > len(r.b)-r.at {
		r.e = api.ErrShort
	}
	if r.e != api.OK {
		return nil
	}
	from := r.at
	r.at += size
	return r.b[from:r.at]
}
