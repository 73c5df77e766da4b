package record_test

import (
	"math"
	"strings"
	"testing"

	"cellaret/api"
	"cellaret/record"
)

func block(i int) string { return strings.Repeat(string([]byte{byte(i), 'x'}), 32) }

func rec(seq, puts int) api.Record {
	x := api.Record{Seq: seq, Root: api.Digest{1, 2, byte(seq)}}
	for i := range puts {
		x.Puts = append(x.Puts, api.Put{At: 161 + 2*i - 2*i/64, B: block(i)})
	}
	return x
}

func sameTexts(a, b []string) bool {
	return strings.Join(a, "|") == strings.Join(b, "|")
}

func TestCheckLength(t *testing.T) { // P13.1
	put := func(at int, b string) api.Record { return api.Record{Puts: []api.Put{{At: at, B: b}}} }
	two := func(a, b int) api.Record {
		return api.Record{Puts: []api.Put{{At: a, B: block(1)}, {At: b, B: block(2)}}}
	}
	for i, c := range []struct {
		x api.Record
		e api.Errno
	}{
		{api.Record{}, 0}, {rec(1<<32-1, 64), 0}, {put(161, block(1)), 0}, {put(287, block(1)), 0}, {two(200, 201), 0},
		{api.Record{Seq: -1, Puts: make([]api.Put, 65)}, api.ErrBig}, {api.Record{Seq: -1}, api.ErrArg}, {api.Record{Seq: 1 << 32}, api.ErrArg}, {api.Record{Seq: math.MinInt}, api.ErrArg},
		{put(160, block(1)), api.ErrArg}, {put(288, block(1)), api.ErrArg}, {put(math.MinInt, block(1)), api.ErrArg}, {put(math.MaxInt, block(1)), api.ErrArg},
		{put(200, ""), api.ErrArg}, {put(200, block(1)+"x"), api.ErrArg}, {put(200, block(1)[1:]), api.ErrArg}, {two(200, 200), api.ErrArg}, {two(201, 200), api.ErrArg},
	} {
		if e := record.Check(c.x); e != c.e {
			t.Error(i, int(e))
		}
		if l, e := record.Lay(c.x); e != c.e || e != 0 && l != nil {
			t.Error(i, int(e))
		}
	}
	for puts, n := range map[int]int{0: 1, 1: 3, 32: 34, 33: 36, 64: 67, 65: 0, -1: 0, math.MinInt: 0, math.MaxInt: 0} {
		if record.Length(puts) != n {
			t.Error(puts, record.Length(puts))
		}
	}
}

func TestLay(t *testing.T) { // P13.1
	x := rec(258, 33)
	l, e := record.Lay(x)
	if e != api.OK || len(l) != 36 {
		t.Fatal(len(l), int(e))
	}
	if l[0] != "rc\x00\x00\x01\x02\x00\x21"+string(x.Root[:])+strings.Repeat("\x00", 24) {
		t.Errorf("%q", l[0])
	}
	at := ""
	for i, p := range x.Puts {
		if i < 32 {
			at += string([]byte{byte(p.At >> 8), byte(p.At)})
		}
		if l[3+i] != p.B {
			t.Error(i)
		}
	}
	if l[1] != at || l[2] != string([]byte{byte(x.Puts[32].At >> 8), byte(x.Puts[32].At)})+strings.Repeat("\x00", 62) {
		t.Errorf("%q %q", l[1], l[2])
	}
}

func TestParse(t *testing.T) { // P13.2
	good, _ := record.Lay(rec(7, 33))
	with := func(i int, s string) []string {
		l := append([]string(nil), good...)
		l[i] = s
		return l
	}
	set := func(i, k int, c byte) []string { return with(i, good[i][:k]+string([]byte{c})+good[i][k+1:]) }
	form, short := api.ErrForm, api.ErrShort
	for i, c := range []struct {
		l []string
		e api.Errno
	}{
		{nil, short}, {[]string{}, short}, {[]string{""}, form}, {with(0, good[0][:63]), form}, {with(0, good[0]+"x"), form}, {set(0, 0, 'x'), form}, {set(0, 1, 'x'), form},
		{set(0, 40, 1), form}, {set(0, 63, 1), form}, {set(0, 7, 65), form}, {set(0, 6, 1), form}, {good[:35], short}, {good[:1], short}, {set(0, 7, 66), form}, {set(0, 7, 64), short},
		{set(0, 0, 'x')[:1], form}, {set(0, 40, 1)[:1], form}, {set(0, 7, 65)[:1], form}, {set(0, 1, 'x')[:35], form}, // ahead of what is missing
		{with(5, "x"), form}, {with(35, good[35]+"x"), form}, {with(1, good[1][:62]), form}, {set(1, 1, 0), form}, {set(1, 0, 2), form}, {set(1, 3, good[1][1]), form}, {set(2, 2, 1), form}, {set(2, 63, 1), form}, {set(2, 1, 5), form},
	} {
		x, n, e := record.Parse(c.l)
		if e != c.e || n != 0 || !record.Same(x, api.Record{}) {
			t.Error(i, n, int(e))
		}
		if l, e := record.All(append([]string(nil), c.l...)); len(c.l) > 0 && (l != nil || e != c.e) {
			t.Error(i, int(e))
		}
	}
	x, n, e := record.Parse(append(append([]string(nil), good...), "something else"))
	if !record.Same(x, rec(7, 33)) || n != 36 || e != api.OK {
		t.Error(n, int(e))
	}
}

func TestAll(t *testing.T) { // P13.2
	var l []string
	for i, puts := range []int{0, 5, 64, 0, 1} {
		b, _ := record.Lay(rec(i, puts))
		l = append(l, b...)
	}
	all, e := record.All(l)
	if e != api.OK || len(all) != 5 {
		t.Fatal(len(all), int(e))
	}
	for i, puts := range []int{0, 5, 64, 0, 1} {
		if !record.Same(all[i], rec(i, puts)) {
			t.Error(i)
		}
	}
	if all, e := record.All(l[:len(l)-1]); all != nil || e != api.ErrShort {
		t.Error(int(e))
	}
	if all, e := record.All(append(append([]string(nil), l...), "x")); all != nil || e != api.ErrForm {
		t.Error(int(e))
	}
}

func TestSame(t *testing.T) { // P13.3
	x := rec(3, 2)
	if !record.Same(x, rec(3, 2)) || !record.Same(api.Record{Puts: []api.Put{}}, api.Record{}) {
		t.Error("same")
	}
	for i, c := range []func(*api.Record){
		func(y *api.Record) { y.Seq++ }, func(y *api.Record) { y.Root[31]++ }, func(y *api.Record) { y.Puts = y.Puts[:1] },
		func(y *api.Record) { y.Puts[1].At++ }, func(y *api.Record) { y.Puts[0].B = block(9) }, func(y *api.Record) { y.Puts = nil },
	} {
		y := rec(3, 2)
		c(&y)
		if record.Same(x, y) || record.Same(y, x) {
			t.Error(i)
		}
	}
}

func TestBack(t *testing.T) { // P13.4
	for puts := 0; puts <= 64; puts++ {
		x := rec(puts*1000, puts)
		l, _ := record.Lay(x)
		y, n, e := record.Parse(l)
		if !record.Same(x, y) || n != record.Length(puts) || n != len(l) || e != api.OK {
			t.Fatal(puts)
		}
		for k := range l { // whatever is parsed is laid as the very blocks
			for _, at := range []int{0, 3, 5, 7, 9, 63} {
				m := append([]string(nil), l...)
				m[k] = m[k][:at] + "\x01" + m[k][at+1:]
				if z, n, e := record.Parse(m); e == api.OK {
					if back, e := record.Lay(z); e != api.OK || !sameTexts(back, m[:n]) {
						t.Fatal(puts, k, at)
					}
				}
			}
		}
	}
}

func TestNotChanged(t *testing.T) { // R3
	x := rec(1, 40)
	l, _ := record.Lay(x)
	l[1], l[5] = "x", "y"
	if !record.Same(x, rec(1, 40)) {
		t.Error("changed")
	}
}
