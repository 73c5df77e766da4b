package jrnl_test

import (
	"strings"
	"testing"

	"cellaret/api"
	"cellaret/chain"
	"cellaret/geom"
	"cellaret/jrnl"
	"cellaret/oracle"
	"cellaret/record"
	"cellaret/rig"
)

func full(c string) string { return strings.Repeat(c, 64) }

func rec(seq, puts int) api.Record {
	x := api.Record{Seq: seq, Root: api.Digest{9, byte(seq)}}
	for i := range puts {
		x.Puts = append(x.Puts, api.Put{At: 170 + i, B: full(string([]byte{byte(i + seq)}))})
	}
	return x
}

func where(d, area int) jrnl.Where { return jrnl.Where{Super: full("s"), D: d, Area: area} }

func begun(t *testing.T, r *rig.Rig, o *oracle.Oracle, d, area, seq int) *jrnl.Journal {
	t.Helper()
	j, e := jrnl.Begin(r, o, where(d, area), rec(seq, 0))
	if e != api.OK || j == nil {
		t.Fatal(int(e))
	}
	return j
}

func TestBegin(t *testing.T) { // P15.1, P15.4
	r := rig.New()
	base := rec(5, 0)
	wrong := rec(5, 1)
	wrong.Seq = -1
	for i, c := range []struct {
		r    *rig.Rig
		at   jrnl.Where
		base api.Record
		e    api.Errno
	}{
		{nil, where(2, 0), wrong, api.ErrNil}, {r, where(2, 0), wrong, api.ErrArg}, {r, jrnl.Where{Super: full("s"), D: 0, Area: 3}, wrong, api.ErrArg}, {r, jrnl.Where{Super: "x"}, wrong, api.ErrForm},
		{r, where(0, 0), wrong, api.ErrArg}, {r, where(0, 0), rec(1, 1), api.ErrArg}, {r, where(0, 0), rec(1, 65), api.ErrBig},
	} {
		if j, e := jrnl.Begin(c.r, nil, c.at, c.base); j != nil || e != c.e {
			t.Error(i, int(e))
		}
	}
	if r.Calls() != 0 {
		t.Error("steps")
	}
	r.Fault(1)
	if j, e := jrnl.Begin(r, nil, where(0, 0), base); j != nil || e != api.ErrIO {
		t.Error(int(e))
	}
	for d := range 2 {
		for area := range 2 {
			before := r.Calls()
			j := begun(t, r, nil, d, area, 5)
			blocks, _ := record.Lay(base)
			start, _ := chain.Start(nil, full("s"), d, area)
			anchor, _ := chain.Next(nil, start, blocks)
			if j.Used() != 1 || j.Area() != area || j.Seq() != 5 || j.Root() != base.Root || j.Anchor() != anchor || r.Calls() != before+1 {
				t.Error(d, area)
			}
			at, _ := geom.AreaAt(area, 0)
			if s, _ := r.Dev(d).Read(at); s != blocks[0] {
				t.Error("not written")
			}
		}
	}
}

func TestAppendRoom(t *testing.T) { // P15.3
	var none *jrnl.Journal
	if none.Append(api.Record{Seq: -1}) != api.ErrNil || none.Room(0) {
		t.Error("nil")
	}
	r := rig.New()
	j := begun(t, r, oracle.New(), 1, 1, 3)
	anchor := j.Anchor()
	for i, c := range []struct {
		x api.Record
		e api.Errno
	}{{api.Record{Seq: -1}, api.ErrArg}, {rec(4, 65), api.ErrBig}, {rec(3, 1), api.ErrArg}, {rec(5, 1), api.ErrArg}} {
		if e := j.Append(c.x); e != c.e {
			t.Error(i, int(e))
		}
	}
	if e := j.Append(rec(4, 1)); e != api.OK || j.Used() != 4 || j.Seq() != 4 || j.Root() != rec(4, 1).Root || r.Calls() != 4 {
		t.Error(int(e), j.Used())
	}
	blocks, _ := record.Lay(rec(4, 1))
	want, _ := chain.Next(nil, anchor, blocks)
	if j.Anchor() != want {
		t.Error("anchor")
	}
	for i, b := range blocks {
		at, _ := geom.AreaAt(1, 1+i)
		if s, _ := r.Dev(1).Read(at); s != b {
			t.Error(i)
		}
	}
	if !j.Room(0) || !j.Room(64) || j.Room(65) || j.Room(-1) {
		t.Error("Room")
	}
	j.Append(rec(5, 64)) // 71
	if j.Used() != 71 || !j.Room(7) || j.Room(8) || j.Room(64) {
		t.Error(j.Used())
	}
	if e := j.Append(rec(6, 8)); e != api.ErrFull {
		t.Error(int(e))
	}
	if e := j.Append(rec(7, 8)); e != api.ErrArg {
		t.Error(int(e))
	}
	if e := j.Append(rec(6, 7)); e != api.OK || j.Used() != 80 || j.Room(0) || j.Append(rec(7, 0)) != api.ErrFull {
		t.Error(int(e))
	}
}

func TestAppendFails(t *testing.T) { // P15.3
	for n := 1; n <= 4; n++ {
		r := rig.New()
		j := begun(t, r, nil, 0, 0, 1)
		j.Append(rec(2, 0))
		was, used := j.Anchor(), j.Used()
		r.Fault(n)
		if e := j.Append(rec(3, 2)); e != api.ErrIO || j.Anchor() != was || j.Used() != used || j.Seq() != 2 || j.Root() != rec(2, 0).Root || j.Area() != 0 {
			t.Error(n, int(e))
		}
	}
}

func TestLeastAndMost(t *testing.T) { // P15.2, P15.5
	r := rig.New()
	j := begun(t, r, nil, 1, 0, 7)
	if k, all, e := jrnl.Load(r, nil, where(1, 0), 1, j.Anchor()); e != api.OK || len(all) != 1 || k.Seq() != 7 || k.Used() != 1 {
		t.Error(int(e))
	}
	if e := j.Append(rec(8, 64)); e != api.OK {
		t.Error(int(e))
	}
	if e := j.Append(rec(9, 10)); e != api.OK || j.Used() != 80 {
		t.Error(int(e), j.Used())
	}
	if k, all, e := jrnl.Load(r, nil, where(1, 0), 80, j.Anchor()); e != api.OK || len(all) != 3 || !record.Same(all[1], rec(8, 64)) || k.Room(0) {
		t.Error(int(e))
	}
}

func TestLooksOfNil(t *testing.T) { // P15.4
	var j *jrnl.Journal
	if j.Anchor() != (api.Digest{}) || j.Used() != 0 || j.Area() != 0 || j.Seq() != 0 || j.Root() != (api.Digest{}) {
		t.Error("nil")
	}
}

func journal(t *testing.T, o *oracle.Oracle) (*rig.Rig, *jrnl.Journal, []api.Record) {
	r := rig.New()
	j := begun(t, r, o, 0, 1, 10)
	l := []api.Record{rec(10, 0)}
	for i, puts := range []int{1, 33, 0, 5} {
		l = append(l, rec(11+i, puts))
		if e := j.Append(l[1+i]); e != api.OK {
			t.Fatal(int(e))
		}
	}
	return r, j, l
}

func TestLoad(t *testing.T) { // P15.2, P15.5
	r, j, l := journal(t, nil)
	at, used, anchor := where(0, 1), j.Used(), j.Anchor()
	before := r.Calls()
	k, all, e := jrnl.Load(r, nil, at, used, anchor)
	if e != api.OK || len(all) != len(l) || r.Calls() != before+used {
		t.Fatal(int(e), len(all), r.Calls()-before)
	}
	for i := range l {
		if !record.Same(l[i], all[i]) {
			t.Error(i)
		}
	}
	if k.Anchor() != anchor || k.Used() != used || k.Area() != 1 || k.Seq() != 14 || k.Root() != l[4].Root {
		t.Error("looks")
	}
	if e := k.Append(rec(15, 2)); e != api.OK {
		t.Error(int(e))
	}
	if _, all, e := jrnl.Load(r, nil, at, k.Used(), k.Anchor()); e != api.OK || len(all) != 6 {
		t.Error(int(e))
	}
	if _, all, e := jrnl.Load(r, nil, at, used, anchor); e != api.OK || len(all) != 5 { // what stands behind does not count
		t.Error(int(e))
	}
	for i, c := range []struct {
		r    *rig.Rig
		at   jrnl.Where
		used int
		e    api.Errno
	}{
		{nil, where(9, 9), 0, api.ErrNil}, {r, where(9, 0), 0, api.ErrArg}, {r, jrnl.Where{}, 0, api.ErrForm}, {r, at, 0, api.ErrTamper}, {r, at, 81, api.ErrTamper}, {r, at, -1, api.ErrTamper},
		{r, at, used - 1, api.ErrTamper}, {r, at, used + 1, api.ErrTamper}, {r, at, 1, api.ErrTamper}, {r, where(0, 0), used, api.ErrTamper}, {r, where(1, 1), used, api.ErrTamper},
		{r, jrnl.Where{Super: full("x"), D: 0, Area: 1}, used, api.ErrTamper},
	} {
		if k, all, e := jrnl.Load(c.r, nil, c.at, c.used, anchor); k != nil || all != nil || e != c.e {
			t.Error(i, int(e))
		}
	}
	if k, all, e := jrnl.Load(r, nil, at, used, api.Digest{}); k != nil || all != nil || e != api.ErrTamper {
		t.Error(int(e))
	}
	for n := 1; n <= used; n++ {
		r.Fault(n)
		if k, all, e := jrnl.Load(r, nil, at, used, anchor); k != nil || all != nil || e != api.ErrIO {
			t.Error(n, int(e))
		}
	}
	r.Arm(1)
	if _, _, e := jrnl.Load(r, nil, at, used, anchor); e != api.ErrDown {
		t.Error(int(e))
	}
}

// laid writes records as they come, and tells the anchor.
func laid(r *rig.Rig, l ...api.Record) (int, api.Digest) {
	a, _ := chain.Start(nil, full("s"), 0, 0)
	n := 0
	for _, x := range l {
		blocks, _ := record.Lay(x)
		a, _ = chain.Next(nil, a, blocks)
		for _, b := range blocks {
			at, _ := geom.AreaAt(0, n)
			r.Write(0, at, b)
			n++
		}
	}
	return n, a
}

func TestNoJournal(t *testing.T) { // P15.2
	for i, l := range [][]api.Record{{rec(1, 1)}, {rec(1, 1), rec(2, 0)}, {rec(1, 0), rec(1, 0)}, {rec(1, 0), rec(3, 1)}, {rec(2, 0), rec(1, 1)}} {
		r := rig.New()
		n, a := laid(r, l...)
		if j, all, e := jrnl.Load(r, nil, where(0, 0), n, a); j != nil || all != nil || e != api.ErrTamper {
			t.Error(i, int(e))
		}
	}
	r := rig.New()
	n, a := laid(r, rec(1, 0), rec(2, 1))
	if _, all, e := jrnl.Load(r, nil, where(0, 0), n, a); len(all) != 2 || e != api.OK {
		t.Error(int(e))
	}
}

func TestLoadedBehindCrash(t *testing.T) { // P15.5
	r, j, _ := journal(t, nil)
	r.Flush(0)
	r.Crash(api.Loss{}, api.Loss{})
	if _, all, e := jrnl.Load(r, nil, where(0, 1), j.Used(), j.Anchor()); e != api.OK || len(all) != 5 {
		t.Error(int(e))
	}
}

func TestChanged(t *testing.T) { // P15.6
	o := oracle.New()
	r, j, l := journal(t, o)
	for i := range j.Used() {
		for _, k := range []int{0, 1, 7, 8, 40, 63} {
			at, _ := geom.AreaAt(1, i)
			was, _ := r.Dev(0).Read(at)
			b := []byte(was)
			b[k] ^= 1
			r.Tamper(0, at, string(b))
			if k, all, e := jrnl.Load(r, o, where(0, 1), j.Used(), j.Anchor()); e != api.ErrTamper || k != nil || all != nil {
				t.Error(i, k, int(e))
			}
			r.Tamper(0, at, was)
		}
	}
	if _, all, e := jrnl.Load(r, o, where(0, 1), j.Used(), j.Anchor()); e != api.OK || len(all) != len(l) {
		t.Error(int(e))
	}
	if o.Len() == 0 {
		t.Error("the oracle was not asked")
	}
}
