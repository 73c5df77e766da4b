package over_test

import (
	"math"
	"testing"

	"cellaret/api"
	"cellaret/over"
)

func puts(s *over.Sheet, want ...api.Put) bool {
	l := s.Puts()
	if len(l) != len(want) || s.Len() != len(want) {
		return false
	}
	for i := range l {
		if l[i] != want[i] {
			return false
		}
	}
	return true
}

func put(at int, b string) api.Put { return api.Put{At: at, B: b} }

func TestSetGetDrop(t *testing.T) { // P16.1
	s := over.New()
	if b, ok := s.Get(5); b != "" || ok || s.Drop(5) {
		t.Error("new")
	}
	if !s.Set(5, "a") || !s.Set(3, "b") || !s.Set(3, "c") || !s.Set(-7, "") || !s.Set(math.MaxInt, "m") || !s.Set(math.MinInt, "n") {
		t.Error("Set")
	}
	if b, ok := s.Get(3); b != "c" || !ok {
		t.Error(b)
	}
	if b, ok := s.Get(-7); b != "" || !ok {
		t.Error(b)
	}
	if !puts(s, put(math.MinInt, "n"), put(-7, ""), put(3, "c"), put(5, "a"), put(math.MaxInt, "m")) {
		t.Error(s.Puts())
	}
	if !s.Drop(3) || s.Drop(3) || !s.Drop(-7) {
		t.Error("Drop")
	}
	if b, ok := s.Get(3); b != "" || ok || s.Len() != 3 {
		t.Error(b)
	}
}

func TestNil(t *testing.T) { // P16.1, P16.2
	var none *over.Sheet
	none.Clear()
	if b, ok := none.Get(1); b != "" || ok || none.Set(1, "a") || none.Drop(1) || none.Len() != 0 || len(none.Puts()) != 0 {
		t.Error("nil")
	}
	if c := none.Copy(); c == nil || !puts(c) || !c.Set(1, "a") {
		t.Error("Copy")
	}
	if c := none.Over(nil); c == nil || !puts(c) || !c.Set(1, "a") {
		t.Error("Over")
	}
	s := over.New()
	s.Set(1, "a")
	if c := none.Over(s); !puts(c, put(1, "a")) {
		t.Error("Over")
	}
	if c := s.Over(nil); !puts(c, put(1, "a")) {
		t.Error("Over")
	}
}

func TestLooks(t *testing.T) { // P16.2
	s, u := over.New(), over.New()
	s.Set(5, "a")
	s.Set(3, "b")
	u.Set(3, "x")
	u.Set(4, "y")
	if !puts(s, put(3, "b"), put(5, "a")) {
		t.Error(s.Puts())
	}
	c, w := s.Copy(), s.Over(u)
	if !puts(c, put(3, "b"), put(5, "a")) || !puts(w, put(3, "b"), put(4, "y"), put(5, "a")) || !puts(u.Over(s), put(3, "x"), put(4, "y"), put(5, "a")) {
		t.Error(w.Puts())
	}
	c.Set(9, "c")
	w.Drop(3)
	l := s.Puts()
	l[0].B = "changed"
	s.Set(5, "z")
	if !puts(s, put(3, "b"), put(5, "z")) || !puts(u, put(3, "x"), put(4, "y")) || !puts(c, put(3, "b"), put(5, "a"), put(9, "c")) || !puts(w, put(4, "y"), put(5, "a")) {
		t.Error("sheets are one")
	}
	c.Clear()
	if !puts(c) || !puts(s, put(3, "b"), put(5, "z")) || !c.Set(1, "q") || !puts(c, put(1, "q")) {
		t.Error("Clear")
	}
}

func TestLast(t *testing.T) { // P16.3
	s := over.New()
	var model [7]string
	var there [7]bool
	for i := range 500 {
		at := i * i % 7
		switch {
		case i%5 == 3:
			if s.Drop(at) != there[at] {
				t.Fatal(i)
			}
			there[at], model[at] = false, ""
		case i%97 == 96:
			s.Clear()
			there, model = [7]bool{}, [7]string{}
		default:
			model[at], there[at] = string([]byte{byte(i)}), true
			s.Set(at, model[at])
		}
		for k := range 7 {
			if b, ok := s.Get(k); b != model[k] || ok != there[k] {
				t.Fatal(i, k)
			}
		}
	}
}
