package chain_test

import (
	"crypto/sha256"
	"math"
	"strings"
	"testing"

	"cellaret/api"
	"cellaret/chain"
	"cellaret/oracle"
)

func sum(s string) api.Digest { return sha256.Sum256([]byte(s)) }

func full(c string) string { return strings.Repeat(c, 64) }

func blocks(n int) []string {
	var l []string
	for i := range n {
		l = append(l, full(string([]byte{byte(i)})))
	}
	return l
}

func TestStart(t *testing.T) { // P14.1
	o := oracle.New()
	for d := range 2 {
		for area := range 2 {
			want := sum("start" + string([]byte{byte(d), byte(area)}) + full("s"))
			if a, e := chain.Start(o, full("s"), d, area); a != want || e != api.OK {
				t.Error(d, area)
			}
			if a, e := chain.Start(nil, full("s"), d, area); a != want || e != api.OK {
				t.Error(d, area)
			}
		}
	}
	for i, c := range []struct {
		super   string
		d, area int
		e       api.Errno
	}{{"", 2, 0, api.ErrArg}, {"", 0, 2, api.ErrArg}, {"", -1, 0, api.ErrArg}, {"", 0, -1, api.ErrArg}, {"", math.MaxInt, 0, api.ErrArg}, {"", 0, 0, api.ErrForm}, {full("x") + "x", 0, 0, api.ErrForm}} {
		if a, e := chain.Start(o, c.super, c.d, c.area); a != (api.Digest{}) || e != c.e {
			t.Error(i, int(e))
		}
	}
	if o.Len() != 4 {
		t.Error("the oracle's sums", o.Len())
	}
}

func TestNext(t *testing.T) { // P14.1
	o, a := oracle.New(), sum("a")
	for _, n := range []int{1, 2, 80} {
		want := sum("next" + string(a[:]) + strings.Join(blocks(n), ""))
		if b, e := chain.Next(o, a, blocks(n)); b != want || e != api.OK {
			t.Error(n)
		}
		if b, e := chain.Next(nil, a, blocks(n)); b != want || e != api.OK {
			t.Error(n)
		}
	}
	short := blocks(3)
	short[2] = short[2][1:]
	long := blocks(1)
	long[0] += "x"
	for i, l := range [][]string{nil, {}, blocks(81), short, long, {""}} {
		if b, e := chain.Next(o, a, l); b != (api.Digest{}) || e != api.ErrForm {
			t.Error(i, int(e))
		}
	}
	if o.Len() != 3 {
		t.Error(o.Len())
	}
}

func TestAlong(t *testing.T) { // P14.1
	o, a := oracle.New(), sum("a")
	if b, e := chain.Along(o, a, nil); b != a || e != api.OK {
		t.Error("no rows")
	}
	rows := [][]string{blocks(2), blocks(1), blocks(5)}
	want := a
	for _, r := range rows {
		want, _ = chain.Next(nil, want, r)
	}
	if b, e := chain.Along(o, a, rows); b != want || e != api.OK || o.Len() != 3 {
		t.Error(int(e))
	}
	if b, e := chain.Along(o, a, [][]string{blocks(7), {}}); b != (api.Digest{}) || e != api.ErrForm {
		t.Error(int(e))
	}
}

func TestCheck(t *testing.T) { // P14.1
	o := oracle.New()
	k := strings.Repeat("k", 32)
	want := sum("key" + k)
	if s, e := chain.Check(o, k); s != string(want[:]) || e != api.OK || o.Len() != 1 {
		t.Error(int(e))
	}
	if s, e := chain.Check(nil, k); s != string(want[:]) || e != api.OK {
		t.Error(int(e))
	}
	for _, n := range []int{0, 31, 33} {
		if s, e := chain.Check(o, strings.Repeat("k", n)); s != "" || e != api.ErrArg {
			t.Error(n)
		}
	}
}

func TestApart(t *testing.T) { // P14.2
	o, a := oracle.New(), sum("a")
	seen := map[api.Digest]int{}
	rows := [][]string{blocks(1), blocks(2), blocks(3), {full("x")}, {full("x"), full("x")}, {full("y"), full("x")}, {full("x"), full("y")}}
	for i, r := range rows {
		b, _ := chain.Next(o, a, r)
		if j, ok := seen[b]; ok {
			if _, _, found := o.Collide(); !found {
				t.Error("rows", i, j)
			}
		}
		seen[b] = i
	}
	b, _ := chain.Next(o, sum("b"), rows[0])
	if _, ok := seen[b]; ok {
		t.Error("another anchor, the same next one")
	}
}
