// Package code: codes on paper: see doc/02-code.md.
package code

import (
	"strings"

	"leeboard/api"
	"leeboard/octet"
	"leeboard/ticket"
)

const (
	signs   = "0123456789ABCDEFGHJKLMNPQRSTUVW"
	base    = len(signs)
	places  = 13 // signs of a code ahead of its mark
	maxMark = 20 // signs that one mark may stand for
	width   = 8  // bytes of a ticket
)

// Mark of signs.
func Mark(s string) (string, api.Errno) {
	if len(s) > maxMark {
		return "", api.ErrMany
	}
	values, ok := valuesOf(s)
	if !ok || len(values) == 0 {
		return "", api.ErrForm
	}
	return put(check(values)), api.OK
}

// Print a ticket.
func Print(t api.Ticket) (string, api.Errno) {
	s, e := ticket.Encode(t)
	if e != api.OK {
		return "", e
	}
	values := digits(octet.Number(s))
	return put(append(values, check(values))...), api.OK
}

// Parse a text.
func Parse(s string) (api.Ticket, api.Errno) {
	number, ok := numberIn(s)
	if !ok {
		return api.Ticket{}, api.ErrForm
	}
	t, e := ticket.Decode(octet.Put(width, number))
	if e != api.OK {
		return api.Ticket{}, api.ErrForm
	}
	// The number may have wrapped round, and nobody has looked at the mark yet: printing it again tells of both.
	if again, _ := Print(t); again != s {
		return api.Ticket{}, api.ErrForm
	}
	return t, api.OK
}

// numberIn a code, of which 13 signs can tell more than 64 bits: such a number wraps round.
func numberIn(s string) (uint64, bool) {
	var body string
	whole := octet.Whole(s, func(r *octet.Reader) {
		body = r.Take(places)
		r.Take(1)
	})
	if !whole {
		return 0, false
	}
	values, ok := valuesOf(body)
	var n uint64
	for _, v := range values {
		n = n*uint64(base) + uint64(v)
	}
	return n, ok
}

// digits of a number by the base, with noughts ahead, the greatest first.
func digits(n uint64) []int {
	values := make([]int, places)
	for i := places - 1; i >= 0; i-- {
		values[i] = int(n % uint64(base))
		n /= uint64(base)
	}
	return values
}

// check is the value that makes the weighted sum a multiple of the base. The first weight is 2, so that the mark's own is 1.
func check(values []int) int {
	sum := 0
	for i, v := range values {
		sum += v * (i + 2)
	}
	return (base - sum%base) % base
}

// valuesOf signs; false, if one is none.
func valuesOf(s string) ([]int, bool) {
	values := make([]int, 0, len(s))
	for i := range len(s) {
		v := strings.IndexByte(signs, s[i])
		if v < 0 {
			return nil, false
		}
		values = append(values, v)
	}
	return values, true
}

// put the signs of values one behind another.
func put(values ...int) string {
	out := make([]byte, 0, len(values))
	for _, v := range values {
		out = append(out, signs[v])
	}
	return string(out)
}
