package plan_test

import (
	"math"
	"math/rand"
	"slices"
	"strings"
	"testing"

	"cellaret/api"
	"cellaret/plan"
)

func full(c string) string { return strings.Repeat(c, 64) }

func put(at int, c string) api.Put { return api.Put{At: at, B: full(c)} }

func row(l ...api.Put) []api.Put { return l }

func image() string {
	s := ""
	for i := range 288 {
		s += full(string([]byte{byte(i)}))
	}
	return s
}

func TestOf(t *testing.T) { // P32.1
	a := api.Record{Puts: row(put(161, "a"), put(170, "b"), put(287, "c"))}
	b := api.Record{Seq: 9, Root: api.Digest{7}, Puts: row(put(161, "d"), put(169, "e"))}
	for i, c := range []struct {
		l    []api.Record
		want []api.Put
	}{
		{nil, nil}, {[]api.Record{{}}, nil}, {[]api.Record{a}, a.Puts}, {[]api.Record{a, b}, row(put(161, "d"), put(169, "e"), put(170, "b"), put(287, "c"))}, {[]api.Record{b, a}, row(put(161, "a"), put(169, "e"), put(170, "b"), put(287, "c"))},
		{[]api.Record{{Puts: row(put(161, "a"))}, {Puts: row(put(161, "b"))}}, row(put(161, "b"))},
	} {
		if l, e := plan.Of(c.l); !slices.Equal(l, c.want) || e != api.OK {
			t.Error(i, len(l), int(e))
		}
	}
	wrong, big := api.Record{Seq: -1}, api.Record{Puts: make([]api.Put, 65)}
	for i, c := range []struct {
		l []api.Record
		e api.Errno
	}{{[]api.Record{a, wrong}, api.ErrArg}, {[]api.Record{a, big, wrong}, api.ErrBig}, {[]api.Record{wrong, big}, api.ErrArg}, {[]api.Record{{Puts: row(put(160, "a"))}}, api.ErrArg}} {
		if l, e := plan.Of(c.l); l != nil || e != c.e {
			t.Error(i, int(e))
		}
	}
	if d, e := plan.Root([]api.Record{a, b}); d != b.Root || e != api.OK {
		t.Error("Root")
	}
	if d, e := plan.Root([]api.Record{b, wrong}); d != (api.Digest{}) || e != api.OK {
		t.Error("Root")
	}
	if d, e := plan.Root(nil); d != (api.Digest{}) || e != api.ErrNone {
		t.Error("Root")
	}
	l, _ := plan.Of([]api.Record{a})
	l[0].At = 5
	if a.Puts[0].At != 161 {
		t.Error("shared")
	}
}

func TestApplyMissing(t *testing.T) { // P32.2
	m := image()
	for i, c := range []struct {
		s string
		l []api.Put
		e api.Errno
	}{
		{"", row(put(999, "a")), api.ErrForm}, {m[64:], nil, api.ErrForm}, {m + full("x"), nil, api.ErrForm}, {m[1:], nil, api.ErrForm}, {m, row(put(288, "a")), api.ErrRange}, {m, row(put(-1, "a")), api.ErrRange}, {m, row(put(math.MaxInt, "a"), api.Put{}), api.ErrRange},
		{m, row(api.Put{At: 1}, put(999, "a")), api.ErrForm}, {m, row(api.Put{At: 999}), api.ErrRange}, {m, row(put(0, "a"), api.Put{At: 1, B: full("a") + "a"}), api.ErrForm}, {m, row(api.Put{At: math.MinInt, B: "x"}), api.ErrRange},
	} {
		if s, e := plan.Apply(c.s, c.l); s != "" || e != c.e {
			t.Error(i, int(e))
		}
		if l, e := plan.Missing(c.s, c.l); l != nil || e != c.e {
			t.Error(i, int(e))
		}
	}
	l := row(put(287, "a"), put(0, "b"), put(5, "c"), put(0, "d"))
	want := full("d") + m[64:320] + full("c") + m[384:287*64] + full("a")
	if s, e := plan.Apply(m, l); s != want || e != api.OK {
		t.Error("Apply")
	}
	if s, e := plan.Apply(m, nil); s != m || e != api.OK {
		t.Error("Apply of nothing")
	}
	if p, e := plan.Missing(m, l); !slices.Equal(p, []int{287, 0, 5, 0}) || e != api.OK {
		t.Error(p)
	}
	if p, e := plan.Missing(want, l); !slices.Equal(p, []int{0}) || e != api.OK {
		t.Error(p)
	}
	if p, e := plan.Missing(m, row(put(1, "\x01"), put(2, "\x03"))); !slices.Equal(p, []int{2}) || e != api.OK {
		t.Error(p)
	}
}

func TestBehind(t *testing.T) { // P32.3
	a := row(put(9, "a"), put(-5, "b"), put(9, "c"))
	b := row(put(1<<40, "d"), put(-5, "e"), put(3, "f"), put(3, "g"))
	for i, c := range []struct{ a, b, want []api.Put }{
		{nil, nil, nil}, {a, nil, row(put(-5, "b"), put(9, "c"))}, {nil, b, row(put(-5, "e"), put(3, "g"), put(1<<40, "d"))}, {a, b, row(put(-5, "e"), put(3, "g"), put(9, "c"), put(1<<40, "d"))}, {b, a, row(put(-5, "b"), put(3, "g"), put(9, "c"), put(1<<40, "d"))},
	} {
		if l := plan.Behind(c.a, c.b); !slices.Equal(l, c.want) {
			t.Error(i, l)
		}
	}
	if a[0] != put(9, "a") || a[2] != put(9, "c") || b[0] != put(1<<40, "d") {
		t.Error("changed")
	}
	room := make([]api.Put, 1, 5)
	room[0] = put(1, "a")
	plan.Behind(room, b)
	if room[:2][1] != (api.Put{}) {
		t.Error("spare room was changed")
	}
}

func TestAlike(t *testing.T) { // P32.4 .. P32.6
	for seed := range 30 {
		rnd := rand.New(rand.NewSource(int64(seed)))
		var l []api.Record
		for range rnd.Intn(6) {
			var x api.Record
			for at := 161 + rnd.Intn(20); at < 288; at += 1 + rnd.Intn(20) {
				x.Puts = append(x.Puts, put(at, string([]byte{byte(rnd.Intn(256))})))
			}
			l = append(l, x)
		}
		p, e := plan.Of(l)
		if e != api.OK {
			t.Fatal(int(e))
		}
		s := image()
		one := s
		for _, x := range l {
			one, _ = plan.Apply(one, x.Puts)
		}
		all, _ := plan.Apply(s, p)
		if one != all {
			t.Fatal("record by record")
		}
		if again, _ := plan.Apply(all, p); again != all {
			t.Fatal("twice")
		}
		part, _ := plan.Apply(s, p[:rnd.Intn(len(p)+1)])
		if again, _ := plan.Apply(part, p); again != all {
			t.Fatal("over a part")
		}
		if m, _ := plan.Missing(all, p); len(m) != 0 {
			t.Fatal(m)
		}
		k := rnd.Intn(len(l) + 1)
		a, _ := plan.Of(l[:k])
		b, _ := plan.Of(l[k:])
		if !slices.Equal(plan.Behind(a, b), p) {
			t.Fatal("in parts")
		}
	}
}
