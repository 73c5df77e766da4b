package aes_test

import (
	"crypto/aes"
	"encoding/hex"
	"math"
	"testing"

	my "cellaret/aes"
	"cellaret/api"
)

func row(from, step, n int) string {
	b := make([]byte, n)
	for i := range b {
		b[i] = byte(from + i*step)
	}
	return string(b)
}

func TestBox(t *testing.T) { // P4.1, P4.5
	seen := [256]bool{}
	for i := range 256 {
		b := my.Box(byte(i))
		if seen[b] {
			t.Error("one image of two bytes", b)
		}
		seen[b] = true
		if my.Unbox(b) != byte(i) {
			t.Error("Unbox", i)
		}
	}
	for in, out := range map[byte]byte{0x53: 0xed, 0: 0x63, 1: 0x7c, 0xff: 0x16, 0x10: 0xca, 0x9a: 0xb8} {
		if my.Box(in) != out {
			t.Errorf("%x: %x", in, my.Box(in))
		}
	}
}

func TestNewWord(t *testing.T) { // P4.2
	for _, n := range []int{0, 16, 31, 33} {
		if k, e := my.New(row(0, 1, n)); k != nil || e != api.ErrArg {
			t.Error(n)
		}
	}
	var none *my.Key
	if _, e := none.Word(99); e != api.ErrNil {
		t.Error(int(e))
	}
	key, _ := hex.DecodeString("603deb1015ca71be2b73aef0857d77811f352c073b6108d72d9810a30914dff4")
	k, e := my.New(string(key))
	if e != api.OK {
		t.Fatal(int(e))
	}
	for i, w := range map[int]uint32{0: 0x603deb10, 7: 0x0914dff4, 8: 0x9ba35411, 9: 0x8e6925af, 12: 0xa8b09c1a, 16: 0xd59aecb8, 59: 0x706c631e} {
		if x, e := k.Word(i); x != w || e != api.OK {
			t.Errorf("word %d: %x", i, x)
		}
	}
	for _, i := range []int{-1, 60, math.MinInt, math.MaxInt} {
		if x, e := k.Word(i); x != 0 || e != api.ErrRange {
			t.Error(i)
		}
	}
}

func TestEncryptDecrypt(t *testing.T) { // P4.3, P4.4
	var none *my.Key
	_, e1 := none.Encrypt("")
	_, e2 := none.Decrypt("")
	if e1 != api.ErrNil || e2 != api.ErrNil {
		t.Error("nil")
	}
	k, _ := my.New(row(0, 1, 32))
	if s, e := k.Encrypt(row(0, 0x11, 16)); hex.EncodeToString([]byte(s)) != "8ea2b7ca516745bfeafc49904b496089" || e != api.OK {
		t.Errorf("%x", s)
	}
	for _, n := range []int{0, 15, 17, 32} {
		if s, e := k.Encrypt(row(0, 0, n)); s != "" || e != api.ErrForm {
			t.Error(n)
		}
		if s, e := k.Decrypt(row(0, 0, n)); s != "" || e != api.ErrForm {
			t.Error(n)
		}
	}
	for i := range 60 {
		key, s := row(i*31, i*5+1, 32), row(i*7, i*i+3, 16)
		k, _ := my.New(key)
		theirs, _ := aes.NewCipher([]byte(key))
		want := make([]byte, 16)
		theirs.Encrypt(want, []byte(s))
		x, e := k.Encrypt(s)
		if x != string(want) || e != api.OK {
			t.Fatalf("%d: %x", i, x)
		}
		if y, e := k.Decrypt(x); y != s || e != api.OK {
			t.Fatalf("%d: %x", i, y)
		}
		y, _ := k.Decrypt(s)
		if z, _ := k.Encrypt(y); z != s {
			t.Fatalf("%d: %x", i, z)
		}
	}
}
