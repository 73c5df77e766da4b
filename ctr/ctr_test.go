package ctr_test

import (
	"crypto/aes"
	"crypto/cipher"
	"encoding/binary"
	"math"
	"strings"
	"testing"

	my "cellaret/aes"
	"cellaret/api"
	"cellaret/ctr"
)

func text(from, n int) string {
	b := make([]byte, n)
	for i := range b {
		b[i] = byte(from + i*13)
	}
	return string(b)
}

func key(t *testing.T, from int) (*my.Key, string) {
	s := text(from, 32)
	k, e := my.New(s)
	if e != api.OK {
		t.Fatal(int(e))
	}
	return k, s
}

// theirs is the library's stream with the number ahead in the counter.
func theirs(key string, number, n int) string {
	block, _ := aes.NewCipher([]byte(key))
	iv := make([]byte, 16)
	binary.BigEndian.PutUint64(iv, uint64(number))
	out := make([]byte, n)
	cipher.NewCTR(block, iv).XORKeyStream(out, out)
	return string(out)
}

func TestStreamCrypt(t *testing.T) { // P5.1
	k, s := key(t, 1)
	for _, number := range []int{0, 1, 255, 1 << 33, 1 << 40} {
		for _, n := range []int{0, 1, 15, 16, 17, 48, 64, 4095, 4096} {
			want := theirs(s, number, n)
			if x, e := ctr.Stream(k, number, n); x != want || e != api.OK {
				t.Fatal(number, n)
			}
			if x, e := ctr.Crypt(k, number, strings.Repeat("\x00", n)); x != want || e != api.OK {
				t.Fatal(number, n)
			}
		}
	}
	big := strings.Repeat("x", 4097)
	for _, c := range []struct {
		k         *my.Key
		number, n int
		e         api.Errno
	}{
		{nil, -1, -1, api.ErrNil}, {k, -1, -1, api.ErrArg}, {k, 1<<40 + 1, 1, api.ErrArg}, {k, math.MinInt, 1, api.ErrArg},
		{k, 1, -1, api.ErrBig}, {k, 1, 4097, api.ErrBig}, {k, 1, math.MinInt, api.ErrBig},
	} {
		if x, e := ctr.Stream(c.k, c.number, c.n); x != "" || e != c.e {
			t.Error(c.number, c.n, int(e))
		}
	}
	_, e1 := ctr.Crypt(nil, -1, big)
	_, e2 := ctr.Crypt(k, -1, big)
	_, e3 := ctr.Crypt(k, 0, big)
	if e1 != api.ErrNil || e2 != api.ErrArg || e3 != api.ErrBig {
		t.Error(int(e1), int(e2), int(e3))
	}
	x, _ := ctr.Crypt(k, 7, "some text")
	if y, _ := ctr.Crypt(k, 7, x); y != "some text" || x == y {
		t.Error(y)
	}
}

func TestSealLay(t *testing.T) { // P5.2
	k, s := key(t, 2)
	data := text(9, 48)
	x, e := ctr.Seal(k, 258, data)
	if e != api.OK || x[:16] != "\x00\x00\x00\x00\x00\x00\x01\x02\x01\x00\x00\x00\x00\x00\x00\x00" {
		t.Errorf("%q", x)
	}
	stream := theirs(s, 258, 48)
	for i := range 48 {
		if x[16+i] != data[i]^stream[i] {
			t.Fatal(i)
		}
	}
	if x, e := ctr.Lay(258, data); e != api.OK || x != "\x00\x00\x00\x00\x00\x00\x01\x02\x02\x00\x00\x00\x00\x00\x00\x00"+data {
		t.Errorf("%q", x)
	}
	for _, c := range []struct {
		k      *my.Key
		number int
		n      int
		e      api.Errno
	}{{nil, -1, 1, api.ErrNil}, {k, -1, 1, api.ErrArg}, {k, 1<<40 + 1, 48, api.ErrArg}, {k, 0, 47, api.ErrForm}, {k, 0, 49, api.ErrForm}, {k, 0, 0, api.ErrForm}} {
		if x, e := ctr.Seal(c.k, c.number, text(0, c.n)); x != "" || e != c.e {
			t.Error(c.number, c.n, int(e))
		}
		if x, e := ctr.Lay(c.number, text(0, c.n)); c.k != nil && (x != "" || e != c.e) {
			t.Error(c.number, c.n, int(e))
		}
	}
}

func TestKind(t *testing.T) { // P5.3
	k, _ := key(t, 3)
	good, _ := ctr.Seal(k, 1<<40, text(1, 48))
	if n, kind, e := ctr.Kind(good); n != 1<<40 || kind != ctr.Sealed || e != api.OK {
		t.Error(n, kind, int(e))
	}
	plain, _ := ctr.Lay(3, text(1, 48))
	if n, kind, e := ctr.Kind(plain); n != 3 || kind != ctr.Plain || e != api.OK {
		t.Error(n, kind, int(e))
	}
	bad := []string{"", good[:63], good + "x", strings.Repeat("\x00", 64), "\x80" + good[1:],
		"\x00\x00\x01\x00\x00\x00\x00\x01" + good[8:], good[:8] + "\x03" + good[9:], good[:8] + "\x00" + good[9:]}
	for i := 9; i < 16; i++ {
		bad = append(bad, good[:i]+"\x01"+good[i+1:])
	}
	for i, s := range bad {
		if n, kind, e := ctr.Kind(s); n != 0 || kind != 0 || e != api.ErrForm {
			t.Error(i, n, kind, int(e))
		}
		if x, e := ctr.Unseal(k, s); x != "" || e != api.ErrForm {
			t.Error(i, int(e))
		}
		if _, e := ctr.Unseal(nil, s); e != api.ErrForm {
			t.Error(i, int(e))
		}
	}
	if x, e := ctr.Unseal(nil, plain); x != text(1, 48) || e != api.OK {
		t.Error(x, int(e))
	}
	if x, e := ctr.Unseal(nil, good); x != "" || e != api.ErrNil {
		t.Error(x, int(e))
	}
}

func TestThereAndBack(t *testing.T) { // P5.4
	k, _ := key(t, 4)
	for _, number := range []int{0, 5, 1 << 20, 1 << 40} {
		data := text(number, 48)
		x, _ := ctr.Seal(k, number, data)
		y, _ := ctr.Lay(number, data)
		for _, s := range []string{x, y} {
			if z, e := ctr.Unseal(k, s); z != data || e != api.OK {
				t.Error(number)
			}
		}
		if x[16:] == data {
			t.Error("as it was", number)
		}
	}
}

func TestAlike(t *testing.T) { // P5.5
	k, _ := key(t, 5)
	a, b := text(1, 48), text(77, 48)
	x, _ := ctr.Seal(k, 9, a)
	y, _ := ctr.Seal(k, 9, b)
	for i := range 64 {
		want := byte(0)
		if i >= 16 {
			want = a[i-16] ^ b[i-16]
		}
		if x[i]^y[i] != want {
			t.Error(i)
		}
	}
	z, _ := ctr.Seal(k, 10, a)
	if z[16:] == x[16:] {
		t.Error("another number, the same body")
	}
}
