package ivs_test

import (
	"math"
	"testing"

	"cellaret/api"
	"cellaret/ivs"
)

func row(t *testing.T, from, many int) *ivs.Row {
	t.Helper()
	r, e := ivs.New(from, many)
	if e != api.OK || r == nil {
		t.Fatal(int(e))
	}
	return r
}

func need(t *testing.T, r *ivs.Row, want int, ok bool) {
	t.Helper()
	if top, b := r.Need(); top != want || b != ok {
		t.Error(top, b)
	}
}

func TestNew(t *testing.T) { // P20.1
	for _, c := range [][2]int{{0, 0}, {0, -1}, {0, 1<<40 + 1}, {-1, 5}, {6, 5}, {math.MinInt, math.MaxInt}, {math.MaxInt, 5}} {
		if r, e := ivs.New(c[0], c[1]); r != nil || e != api.ErrArg {
			t.Error(c)
		}
	}
	for _, c := range [][2]int{{0, 1}, {5, 30}, {30, 30}, {0, 1 << 40}, {1 << 40, 1 << 40}} {
		if r := row(t, c[0], c[1]); r.Top() != c[0] || r.Left() != c[1]-c[0] {
			t.Error(c)
		}
	}
}

func TestNeedRaiseTake(t *testing.T) { // P20.2
	var none *ivs.Row
	n, e := none.Take()
	if n != 0 || e != api.ErrNil || none.Raise(5) != api.ErrNil {
		t.Error("nil")
	}
	need(t, none, 0, false)
	if ivs.Batch != 16 {
		t.Error("Batch")
	}
	r := row(t, 5, 30)
	need(t, r, 21, true)
	if n, e := r.Take(); n != 0 || e != api.ErrState {
		t.Error(n, int(e))
	}
	for _, top := range []int{5, 4, 31, -1, math.MaxInt, math.MinInt} {
		if r.Raise(top) != api.ErrArg || r.Top() != 5 {
			t.Error(top)
		}
	}
	if r.Raise(21) != api.OK || r.Top() != 21 {
		t.Error("Raise")
	}
	for i := 5; i < 21; i++ {
		need(t, r, 0, false)
		if n, e := r.Take(); n != i || e != api.OK || r.Left() != 30-i-1 {
			t.Error(i, n, int(e))
		}
	}
	need(t, r, 30, true)
	if _, e := r.Take(); e != api.ErrState || r.Left() != 9 {
		t.Error(int(e))
	}
	if r.Raise(22) != api.OK {
		t.Error("Raise by one")
	}
	if n, e := r.Take(); n != 21 || e != api.OK {
		t.Error(n)
	}
	need(t, r, 30, true)
	r.Raise(30)
	for i := 22; i < 30; i++ {
		if n, e := r.Take(); n != i || e != api.OK {
			t.Error(i, n)
		}
	}
	need(t, r, 0, false)
	if n, e := r.Take(); n != 0 || e != api.ErrExhausted || r.Left() != 0 || r.Raise(31) != api.ErrArg {
		t.Error(n, int(e))
	}
	full := row(t, 7, 7)
	need(t, full, 0, false)
	if _, e := full.Take(); e != api.ErrExhausted {
		t.Error(int(e))
	}
}

func TestLooks(t *testing.T) { // P20.3
	var none *ivs.Row
	if none.Left() != 0 || none.Top() != 0 || none.Copy() != nil {
		t.Error("nil")
	}
	r := row(t, 0, 9)
	r.Raise(4)
	c := r.Copy()
	r.Take()
	r.Raise(9)
	if c.Left() != 9 || c.Top() != 4 || r.Left() != 8 || r.Top() != 9 {
		t.Error("rows are one")
	}
	if n, e := c.Take(); n != 0 || e != api.OK {
		t.Error(n)
	}
}

func TestOnce(t *testing.T) { // P20.4
	seen := map[int]bool{}
	said, many := 0, 200
	for crash := range 100 {
		r := row(t, said, many)
		for range crash % 23 {
			if top, ok := r.Need(); ok {
				said = top
				if r.Raise(top) != api.OK {
					t.Fatal(top)
				}
			}
			n, e := r.Take()
			if e == api.ErrExhausted {
				break
			}
			if e != api.OK || seen[n] || n < 0 || n >= many || n >= said {
				t.Fatal(n, int(e))
			}
			seen[n] = true
		}
	}
	if said != many || len(seen) < 50 {
		t.Error(said, len(seen))
	}
}
