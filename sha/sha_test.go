package sha_test

import (
	"crypto/sha256"
	"encoding/hex"
	"math"
	"math/big"
	"strings"
	"testing"

	"cellaret/api"
	"cellaret/sha"
)

func text(n int) string {
	b := make([]byte, n)
	for i := range b {
		b[i] = byte(i*7 + i/251)
	}
	return string(b)
}

func TestSum(t *testing.T) { // P3.1
	for n := range 400 {
		if s := text(n); sha.Sum(s) != api.Digest(sha256.Sum256([]byte(s))) {
			t.Fatal(n)
		}
	}
	if sha.Hex(sha.Sum("abc")) != "ba7816bf8f01cfea414140de5dae2223b00361a396177a9cb410ff61f20015ad" {
		t.Error("abc")
	}
	if s := strings.Repeat("a", 1000000); sha.Sum(s) != api.Digest(sha256.Sum256([]byte(s))) {
		t.Error("a million")
	}
}

func TestPad(t *testing.T) { // P3.1
	for n := range 200 {
		s, p := text(n), sha.Pad(text(n))
		if len(p)%64 != 0 || len(p) < n+9 || len(p) > n+72 || p[:n] != s || p[n] != 0x80 {
			t.Fatal(n, len(p))
		}
		if strings.Trim(p[n+1:len(p)-8], "\x00") != "" {
			t.Fatal(n)
		}
		if new(big.Int).SetBytes([]byte(p[len(p)-8:])).Int64() != int64(8*n) {
			t.Fatal(n)
		}
	}
}

func TestWordsAndWork(t *testing.T) { // P3.1
	if sha.Words() != [8]uint32{0x6a09e667, 0xbb67ae85, 0x3c6ef372, 0xa54ff53a, 0x510e527f, 0x9b05688c, 0x1f83d9ab, 0x5be0cd19} {
		t.Error(sha.Words())
	}
	w := sha.Words()
	w[0] = 0
	if sha.Words()[0] != 0x6a09e667 {
		t.Error("what was told is shared")
	}
	h := sha.Words()
	for p := sha.Pad(text(150)); p != ""; p = p[64:] {
		var e api.Errno
		if h, e = sha.Work(h, p[:64]); e != api.OK {
			t.Fatal(int(e))
		}
	}
	if d := sha256.Sum256([]byte(text(150))); h[0] != uint32(d[0])<<24|uint32(d[1])<<16|uint32(d[2])<<8|uint32(d[3]) {
		t.Errorf("%x", h)
	}
	for _, n := range []int{0, 63, 65, 128} {
		if h, e := sha.Work(sha.Words(), text(n)); e != api.ErrForm || h != [8]uint32{} {
			t.Error(n, int(e))
		}
	}
}

func TestConstants(t *testing.T) { // P3.1, P3.4
	for _, k := range []int{-1, 64, math.MinInt, math.MaxInt} {
		if c, e := sha.Constant(k); e != api.ErrRange || c != 0 {
			t.Error(k)
		}
	}
	k := 0
	for p := 2; k < 64; p++ {
		if !big.NewInt(int64(p)).ProbablyPrime(10) {
			continue
		}
		c, e := sha.Constant(k)
		if e != api.OK {
			t.Fatal(k)
		}
		whole := int64(1)
		for (whole+1)*(whole+1)*(whole+1) <= int64(p) {
			whole++
		}
		// whole + c / 2^32 is the cube root, if its cube is at most p, and that of 1 more in 2^32 is above it.
		x := new(big.Int).Add(new(big.Int).Lsh(big.NewInt(whole), 32), big.NewInt(int64(c)))
		y := new(big.Int).Add(x, big.NewInt(1))
		all := new(big.Int).Lsh(big.NewInt(int64(p)), 96)
		cube := func(z *big.Int) *big.Int { return new(big.Int).Exp(z, big.NewInt(3), nil) }
		if cube(x).Cmp(all) > 0 || cube(y).Cmp(all) <= 0 {
			t.Errorf("constant %d: %x", k, c)
		}
		k++
	}
}

func TestHasher(t *testing.T) { // P3.2
	var none *sha.Hasher
	if none.Add("x") != nil || none.Digest() != sha.Sum("") || sha.New().Digest() != sha.Sum("") {
		t.Error("nil")
	}
	h := sha.New()
	if h.Add("ab") != h || h.Digest() != sha.Sum("ab") || h.Digest() != sha.Sum("ab") {
		t.Error("Add")
	}
	if h.Add(text(130)).Digest() != sha.Sum("ab"+text(130)) || h.Add("").Digest() != sha.Sum("ab"+text(130)) {
		t.Error("more")
	}
	if s := sha.Hex(sha.Sum(text(9))); len(s) != 64 || s != strings.ToLower(s) {
		t.Error(s)
	}
	d := sha.Sum("q")
	if sha.Hex(d) != hex.EncodeToString(d[:]) {
		t.Error("Hex")
	}
}

func TestInParts(t *testing.T) { // P3.3
	for _, n := range []int{0, 1, 55, 56, 63, 64, 65, 127, 128, 200} {
		s := text(n)
		for _, part := range []int{1, 3, 55, 63, 64, 65, 100} {
			h := sha.New()
			for i := 0; i < n; i += part {
				h.Add(s[i:min(n, i+part)])
			}
			if h.Digest() != sha.Sum(s) {
				t.Error(n, part)
			}
		}
	}
}
