// Package octet is layer 1: see shared/doc/01-octet.md.
package octet

import (
	"strings"

	"callboy/api"
)

// maxShort is the greatest length, and the greatest count, that one byte holds.
const maxShort = 255

// Read is a text that is read from the front.
type Read struct {
	S   string
	At  int
	Bad api.Errno
}

// Open begins.
func Open(s string) Read { return Read{S: s} }

// Num reads a number.
func Num(r Read, width int) (Read, int) {
	r = checked(r)
	if r.Bad != api.OK {
		return r, 0
	}
	if !isWidth(width) {
		return failed(r, api.ErrArg), 0
	}
	if len(r.S)-r.At < width {
		return failed(r, api.ErrCut), 0
	}
	n := 0
	for i := range width {
		n = n<<8 | int(r.S[r.At+i])
	}
	r.At += width
	return r, n
}

// Text reads a short text.
func Text(r Read, most int) (Read, string) {
	body, size := Num(r, 1)
	if body.Bad != api.OK {
		return body, ""
	}
	// Only body's place stands behind the length: an error is told of r, whose place stays.
	if size > most {
		return failed(r, api.ErrLong), ""
	}
	if Left(body) < size {
		return failed(r, api.ErrCut), ""
	}
	end := body.At + size
	s := part(body.S, body.At, end)
	body.At = end
	return body, s
}

// Rest reads all that is left.
func Rest(r Read) (Read, string) {
	r = checked(r)
	if r.Bad != api.OK {
		return r, ""
	}
	s := part(r.S, r.At, len(r.S))
	r.At = len(r.S)
	return r, s
}

// Left tells how many bytes are left.
func Left(r Read) int {
	if checked(r).Bad != api.OK {
		return 0
	}
	return len(r.S) - r.At
}

// Done tells what went wrong, if something did.
func Done(r Read) api.Errno {
	r = checked(r)
	if r.Bad != api.OK {
		return r.Bad
	}
	if r.At < len(r.S) {
		return api.ErrForm
	}
	return api.OK
}

// Lay tells a number's bytes.
func Lay(n, width int) ([]byte, api.Errno) {
	if !isWidth(width) {
		return nil, api.ErrArg
	}
	if n < 0 || n>>(8*width) != 0 {
		return nil, api.ErrRange
	}
	b := make([]byte, width)
	for i := range width {
		b[width-1-i] = byte(n >> (8 * i))
	}
	return b, api.OK
}

// Say tells a short text's bytes.
func Say(s string, most int) ([]byte, api.Errno) {
	if len(s) > most || len(s) > maxShort {
		return nil, api.ErrLong
	}
	b := make([]byte, 0, 1+len(s))
	b = append(b, byte(len(s)))
	return append(b, s...), api.OK
}

// Pack tells texts' bytes.
func Pack(l []string, most int) ([]byte, api.Errno) {
	if len(l) > maxShort {
		return nil, api.ErrLong
	}
	b := []byte{byte(len(l))}
	for _, s := range l {
		said, e := Say(s, most)
		if e != api.OK {
			return nil, e
		}
		b = append(b, said...)
	}
	return b, api.OK
}

// Unpack reads texts.
func Unpack(s string, most int) ([]string, api.Errno) {
	r, count := Num(Open(s), 1)
	var l []string
	for range count {
		var t string
		r, t = Text(r, most)
		if r.Bad != api.OK {
			return nil, r.Bad
		}
		l = append(l, t)
	}
	if e := Done(r); e != api.OK {
		return nil, e
	}
	return l, api.OK
}

// isWidth tells whether numbers may have so many bytes.
func isWidth(width int) bool {
	switch width {
	case 1, 2, 4, 6:
		return true
	}
	return false
}

// checked is what r counts as: one that is at no place of its text is bad, but its first error stays.
func checked(r Read) Read {
	if r.Bad == api.OK && (r.At < 0 || r.At > len(r.S)) {
		r.Bad = api.ErrArg
	}
	return r
}

// failed is r with an error, where it was.
func failed(r Read, e api.Errno) Read {
	r.Bad = e
	return r
}

// part is a copy of a part of s, so that a short text does not hold on to all that it was read from.
func part(s string, from, to int) string { return strings.Clone(s[from:to]) }
