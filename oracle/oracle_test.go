package oracle_test

import (
	"crypto/sha256"
	"math"
	"testing"

	"cellaret/api"
	"cellaret/oracle"
)

func sum(s string) api.Digest { return sha256.Sum256([]byte(s)) }

func texts(o *oracle.Oracle) []string {
	var l []string
	for i := range o.Len() {
		s, d, e := o.Input(i)
		if e != api.OK || d != sum(s) {
			return nil
		}
		l = append(l, s)
	}
	return l
}

func same(a []string, b ...string) bool {
	if len(a) != len(b) {
		return false
	}
	for i := range a {
		if a[i] != b[i] {
			return false
		}
	}
	return true
}

func TestSumLenInput(t *testing.T) { // P6.1
	var none *oracle.Oracle
	if none.Sum("abc") != sum("abc") || none.Len() != 0 {
		t.Error("nil")
	}
	if _, _, e := none.Input(-1); e != api.ErrNil {
		t.Error(int(e))
	}
	o := oracle.New()
	if o.Len() != 0 {
		t.Error("new")
	}
	for _, s := range []string{"b", "", "a", "b", "", "c"} {
		if o.Sum(s) != sum(s) {
			t.Error(s)
		}
	}
	if !same(texts(o), "b", "", "a", "c") {
		t.Error(texts(o))
	}
	for _, i := range []int{-1, 4, math.MinInt, math.MaxInt} {
		if s, d, e := o.Input(i); s != "" || d != (api.Digest{}) || e != api.ErrRange {
			t.Error(i)
		}
	}
}

func TestForget(t *testing.T) { // P6.2
	var none *oracle.Oracle
	if none.Forget("x") != api.ErrNil {
		t.Error("nil")
	}
	o := oracle.New()
	for _, s := range []string{"a", "b", "c", "d"} {
		o.Sum(s)
	}
	if o.Forget("x") != api.ErrNone || o.Forget("b") != api.OK || o.Forget("b") != api.ErrNone || !same(texts(o), "a", "c", "d") {
		t.Error(texts(o))
	}
	if o.Forget("d") != api.OK || !same(texts(o), "a", "c") {
		t.Error(texts(o))
	}
	o.Sum("c")
	o.Sum("b")
	if !same(texts(o), "a", "c", "b") || o.Forget("a") != api.OK || o.Forget("b") != api.OK || !same(texts(o), "c") {
		t.Error(texts(o))
	}
}

func TestPair(t *testing.T) { // P6.3
	d := func(l ...byte) []api.Digest {
		var out []api.Digest
		for _, x := range l {
			out = append(out, api.Digest{x})
		}
		return out
	}
	for i, c := range []struct {
		l    []string
		d    []api.Digest
		a, b int
		ok   bool
	}{
		{[]string{"a", "b"}, d(1, 1), 0, 1, true}, {nil, nil, 0, 0, false}, {[]string{"a", "a"}, d(1, 1), 0, 0, false},
		{[]string{"a", "b"}, d(1, 2), 0, 0, false}, {[]string{"a", "b"}, d(1), 0, 0, false}, {[]string{"a"}, d(1, 1), 0, 0, false},
		{[]string{"a", "a", "b", "c"}, d(1, 1, 1, 1), 0, 2, true}, {[]string{"x", "a", "y", "b", "c"}, d(2, 1, 3, 1, 2), 1, 3, true},
		{[]string{"x", "a", "y", "b"}, d(2, 1, 2, 1), 0, 2, true},
	} {
		if a, b, ok := oracle.Pair(c.l, c.d); a != c.a || b != c.b || ok != c.ok {
			t.Error(i, a, b, ok)
		}
	}
}

func TestCollide(t *testing.T) { // P6.3, P6.4
	var none *oracle.Oracle
	if a, b, ok := none.Collide(); a != "" || b != "" || ok {
		t.Error("nil")
	}
	o := oracle.New()
	for i := range 500 {
		o.Sum(string([]byte{byte(i), byte(i >> 8)}))
	}
	a, b, ok := o.Collide()
	if ok && (a == b || sum(a) != sum(b)) || !ok && (a != "" || b != "") {
		t.Error(a, b)
	}
	if ok {
		t.Error("SHA-256 is broken, or the oracle")
	}
}
