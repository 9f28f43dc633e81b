// Package octet: texts of bytes, put together from numbers and taken apart again.
package octet

// missing has a type of its own, so that no other panic is taken for a text that ends too early.
type missing struct{}

// Reader takes a text apart, from its beginning on, while Whole runs.
type Reader struct{ rest string }

// Take the next n bytes. Where they are not there it panics, so that who reads need not ask after each piece: Whole catches it.
func (r *Reader) Take(n int) string {
	if len(r.rest) < n {
		panic(missing{})
	}
	piece := r.rest[:n]
	r.rest = r.rest[n:]
	return piece
}

// Number of the next width bytes.
func (r *Reader) Number(width int) uint64 {
	return Number(r.Take(width))
}

// Whole tells whether read found all the bytes that it took from s, and left none.
func Whole(s string, read func(r *Reader)) (whole bool) {
	defer func() {
		gone := recover()
		if gone == nil {
			return
		}
		if _, ok := gone.(missing); !ok {
			panic(gone) // a fault of read's own is not to pass for a short text
		}
		whole = false
	}()
	r := Reader{rest: s}
	read(&r)
	return r.rest == ""
}

// Number that at most eight bytes are, the greatest one first.
func Number(s string) uint64 {
	var n uint64
	for i := range len(s) {
		n = n<<8 | uint64(s[i])
	}
	return n
}

// Put numbers one behind another, each in width bytes, the greatest one first.
func Put(width int, numbers ...uint64) string {
	out := make([]byte, 0, width*len(numbers))
	for _, n := range numbers {
		for left := width - 1; left >= 0; left-- {
			out = append(out, byte(n>>(8*left)))
		}
	}
	return string(out)
}
