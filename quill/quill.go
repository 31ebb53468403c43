// Package quill is layer 1: numbers and texts as bytes, the lowest seven bits first. See shared/doc/01-quill.md.
package quill

import "bellwether/api"

const (
	greatest = 1 << 62 // of the numbers
	longest  = 9       // bytes of a number: so many the greatest one has
	more     = 0x80    // in each byte of a number but the last one
	bits     = 7       // of a number in a byte
	low      = 1<<bits - 1
)

// Num: numbers' bytes behind others.
func Num(b []byte, l ...int) []byte {
	room := 0
	for _, n := range l {
		room += Size(n)
	}
	out := withRoom(b, room)
	for _, n := range l {
		out = lay(out, n)
	}
	return out
}

// Text: a text's bytes behind others.
func Text(b []byte, s string) []byte {
	out := withRoom(b, Size(len(s))+len(s))
	return append(lay(out, len(s)), s...)
}

// Take: the number that bytes begin with.
func Take(b []byte) (n int, rest []byte, e api.Errno) {
	for i := range longest {
		if i == len(b) {
			return 0, nil, api.ErrShort
		}
		n |= int(b[i]&low) << (bits * i)
		if b[i] >= more {
			continue
		}
		// Nine times seven bits are within an int, so that what is too great shows here: it has size 0.
		if Size(n) != i+1 {
			return 0, nil, api.ErrForm
		}
		return n, behind(b, i+1), api.OK
	}
	return 0, nil, api.ErrForm
}

// TakeText: the text that bytes begin with.
func TakeText(b []byte, most int) (s string, rest []byte, e api.Errno) {
	n, rest, e := Take(b)
	switch {
	case e != api.OK:
		return "", nil, e
	case n > most:
		return "", nil, api.ErrLong
	case n > len(rest):
		return "", nil, api.ErrShort
	}
	return string(rest[:n]), behind(rest, n), api.OK
}

// Size: how many bytes a number has.
func Size(n int) int {
	if n < 0 || n > greatest {
		return 0
	}
	size := 1
	for n > low {
		n >>= bits
		size++
	}
	return size
}

// withRoom: the same bytes in new memory, with room for some more, so that nothing is written into the room behind b.
func withRoom(b []byte, room int) []byte {
	return append(make([]byte, 0, len(b)+room), b...)
}

// lay: a number's bytes behind others, in their room; none of what is no number.
func lay(b []byte, n int) []byte {
	if Size(n) == 0 {
		return b
	}
	for n > low {
		b = append(b, byte(n&low)|more)
		n >>= bits
	}
	return append(b, byte(n))
}

// behind: what is behind the first n bytes; without the room behind b, so that who lays more behind it doesn't write there.
func behind(b []byte, n int) []byte {
	return b[n:len(b):len(b)]
}
