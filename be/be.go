// Package be is layer 1: numbers and texts as bytes of fixed widths, the higher first.
package be

import "cellaret/api"

const (
	maxWidth = 8   // bytes of a number
	maxRow   = 512 // numbers of a row
)

func widthMayBe(width int) bool { return width >= 1 && width <= maxWidth }

// Put lays a number.
func Put(n, width int) (string, api.Errno) {
	if !widthMayBe(width) {
		return "", api.ErrArg
	}
	if n < 0 || width < maxWidth && n>>(8*width) != 0 {
		return "", api.ErrRange
	}
	b := make([]byte, width)
	for i := range width {
		b[width-1-i] = byte(n >> (8 * i))
	}
	return string(b), api.OK
}

// Get reads a number.
func Get(s string) (int, api.Errno) {
	switch {
	case s == "":
		return 0, api.ErrShort
	case len(s) > maxWidth:
		return 0, api.ErrBig
	case len(s) == maxWidth && s[0] >= 0x80:
		return 0, api.ErrRange
	}
	n := 0
	for i := range len(s) {
		n = n<<8 | int(s[i])
	}
	return n, api.OK
}

// Pad makes a text longer.
func Pad(s string, width int) (string, api.Errno) {
	if width < 0 || width > api.MaxText {
		return "", api.ErrArg
	}
	if len(s) > width {
		return "", api.ErrBig
	}
	b := make([]byte, width)
	copy(b, s)
	return string(b), api.OK
}

// gatherer makes what lays the numbers of one row, and what tells all that was laid.
func gatherer(width int) (lay func(int) api.Errno, told func() string) {
	var row []byte
	lay = func(n int) api.Errno {
		s, e := Put(n, width)
		row = append(row, s...)
		return e
	}
	return lay, func() string { return string(row) }
}

// Row lays numbers.
func Row(width int, l ...int) (string, api.Errno) {
	if len(l) > maxRow {
		return "", api.ErrBig
	}
	if !widthMayBe(width) {
		return "", api.ErrArg
	}
	lay, told := gatherer(width)
	for _, n := range l {
		if e := lay(n); e != api.OK {
			return "", e
		}
	}
	return told(), api.OK
}

// Xor tells the bits of which just one is 1.
func Xor(a, b string) (string, api.Errno) {
	if len(a) != len(b) {
		return "", api.ErrForm
	}
	x := make([]byte, len(a))
	for i := range len(a) {
		x[i] = a[i] ^ b[i]
	}
	return string(x), api.OK
}

// Reader is bytes, and how far they were read.
type Reader struct {
	s  string
	at int
}

// Read begins to read.
func Read(s string) *Reader { return &Reader{s: s} }

// Left tells how many bytes are left.
func (r *Reader) Left() int {
	if r == nil {
		return 0
	}
	return len(r.s) - r.at
}

// Bytes reads bytes.
func (r *Reader) Bytes(n int) (string, api.Errno) {
	switch {
	case r == nil:
		return "", api.ErrNil
	case n < 0:
		return "", api.ErrArg
	case n > r.Left():
		return "", api.ErrShort
	}
	s := r.s[r.at : r.at+n]
	r.at += n
	return s, api.OK
}

// Num reads a number.
func (r *Reader) Num(width int) (int, api.Errno) {
	if r == nil {
		return 0, api.ErrNil
	}
	if !widthMayBe(width) {
		return 0, api.ErrArg
	}
	next, before := r.Bytes, r.at
	s, e := next(width)
	if e != api.OK {
		return 0, e
	}
	n, e := Get(s)
	if e != api.OK {
		r.at = before // what is no number was not read
	}
	return n, e
}

// End tells whether all was read.
func (r *Reader) End() api.Errno {
	if r == nil {
		return api.ErrNil
	}
	if r.Left() > 0 {
		return api.ErrForm
	}
	return api.OK
}
