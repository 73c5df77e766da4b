package tree_test

import (
	"math"
	"math/rand"
	"strings"
	"testing"

	"cellaret/api"
	"cellaret/geom"
	"cellaret/node"
	"cellaret/oracle"
	"cellaret/rig"
	"cellaret/tree"
)

func full(c string) string { return strings.Repeat(c, 64) }

var zero = full("\x00")

// bare lays a tree of nothing on a device, and tells its root.
func bare(r *rig.Rig, d int) api.Digest {
	for n := range 63 {
		h, _ := node.High(n)
		b, _, _ := node.Bare(nil, h)
		at, _ := geom.NodeAt(n)
		r.Tamper(d, at, b)
	}
	_, root, _ := node.Bare(nil, 6)
	return root
}

func grown(t *testing.T, r *rig.Rig, o *oracle.Oracle, d int) *tree.Tree {
	t.Helper()
	x, e := tree.New(r, o, d, bare(r, d))
	if e != api.OK || x == nil {
		t.Fatal(int(e))
	}
	return x
}

func write(t *testing.T, r *rig.Rig, d int, x *tree.Tree) {
	t.Helper()
	for _, p := range x.Sheet().Puts() {
		if e := r.Write(d, p.At, p.B); e != api.OK {
			t.Fatal(int(e))
		}
	}
	x.Done()
}

func get(t *testing.T, x *tree.Tree, leaf int, want string) {
	t.Helper()
	b, ok, e := x.Get(leaf)
	if e != api.OK || b != want || ok != (want != "") {
		t.Fatalf("leaf %d: %q %v %d", leaf, b, ok, int(e))
	}
}

func TestNew(t *testing.T) { // P18.1
	if x, e := tree.New(nil, nil, 9, api.Digest{}); x != nil || e != api.ErrNil {
		t.Error(int(e))
	}
	r := rig.New()
	for _, d := range []int{-1, 2, math.MaxInt} {
		if x, e := tree.New(r, nil, d, api.Digest{}); x != nil || e != api.ErrArg {
			t.Error(d)
		}
	}
	x, e := tree.New(r, nil, 1, api.Digest{5})
	if e != api.OK || x.Root() != (api.Digest{5}) || x.Known() != 0 || x.Sheet() == nil || x.Sheet().Len() != 0 || r.Calls() != 0 {
		t.Error("new")
	}
}

func TestNil(t *testing.T) { // P18.2 .. P18.4
	var x *tree.Tree
	b, ok, e := x.Get(-1)
	x.Done()
	x.Forget()
	if b != "" || ok || e != api.ErrNil || x.Put(-1, "") != api.ErrNil || x.Clear(-1) != api.ErrNil || x.Root() != (api.Digest{}) || x.Sheet() != nil || x.Known() != 0 {
		t.Error("nil")
	}
}

func TestGet(t *testing.T) { // P18.2
	r := rig.New()
	x := grown(t, r, nil, 0)
	for _, leaf := range []int{-1, 64, math.MinInt, math.MaxInt} {
		if b, ok, e := x.Get(leaf); b != "" || ok || e != api.ErrRange {
			t.Error(leaf)
		}
	}
	get(t, x, 5, "")
	if r.Calls() != 7 || x.Known() != 6 || x.Sheet().Len() != 0 {
		t.Error(r.Calls(), x.Known())
	}
	get(t, x, 4, "")
	if r.Calls() != 8 || x.Known() != 6 {
		t.Error(r.Calls(), x.Known())
	}
	get(t, x, 63, "")
	if r.Calls() != 14 || x.Known() != 11 {
		t.Error(r.Calls(), x.Known())
	}
	for n := 1; n <= 7; n++ { // an error of the rig at each step of the way
		y, _ := tree.New(r, nil, 0, x.Root())
		r.Fault(n)
		if b, ok, e := y.Get(9); b != "" || ok || e != api.ErrIO || y.Known() != n-1 || y.Root() != x.Root() {
			t.Error(n, int(e), y.Known())
		}
		get(t, y, 9, "")
	}
}

func TestPut(t *testing.T) { // P18.3
	r := rig.New()
	x := grown(t, r, nil, 1)
	root := x.Root()
	for i, c := range []struct {
		leaf int
		b    string
		e    api.Errno
	}{{-1, "", api.ErrRange}, {64, "", api.ErrRange}, {math.MaxInt, zero, api.ErrRange}, {0, "", api.ErrForm}, {0, zero + "x", api.ErrForm}, {0, zero[1:], api.ErrForm}} {
		if e := x.Put(c.leaf, c.b); e != c.e {
			t.Error(i, int(e))
		}
	}
	if x.Clear(64) != api.ErrRange || r.Calls() != 0 || x.Sheet().Len() != 0 {
		t.Error("changed")
	}
	for n := 1; n <= 6; n++ {
		y, _ := tree.New(r, nil, 1, root)
		r.Fault(n)
		if e := y.Put(5, full("a")); e != api.ErrIO || y.Root() != root || y.Sheet().Len() != 0 {
			t.Error(n, int(e))
		}
	}
	before := r.Calls()
	if e := x.Put(5, full("a")); e != api.OK || r.Calls() != before+6 || x.Known() != 6 || x.Sheet().Len() != 7 {
		t.Error(int(e), r.Calls()-before, x.Sheet().Len())
	}
	get(t, x, 5, full("a"))
	// What the sheet has is the tree over that one leaf, by the definition.
	d, _ := node.Leaf(nil, full("a"))
	path, _ := node.Path(5)
	for _, n := range path {
		h, _ := node.High(n)
		block, _, _ := node.Bare(nil, h)
		side, _ := node.Side(5, n)
		block, _ = node.With(block, side, d)
		at, _ := geom.NodeAt(n)
		if b, ok := x.Sheet().Get(at); !ok || b != block {
			t.Error(n)
		}
		d, _ = node.Node(nil, block)
	}
	if x.Root() != d || x.Root() == root {
		t.Error("root")
	}
	if b, ok := x.Sheet().Get(229); !ok || b != full("a") {
		t.Error("leaf")
	}
	if x.Clear(5) != api.OK || x.Root() != root || x.Sheet().Len() != 7 {
		t.Error("Clear")
	}
	get(t, x, 5, "")
	if x.Put(6, zero) != api.OK {
		t.Error("Put of bytes 0")
	}
	get(t, x, 6, "")
}

func TestLooks(t *testing.T) { // P18.4
	r := rig.New()
	x := grown(t, r, nil, 0)
	x.Put(1, full("a"))
	sheet := x.Sheet()
	write(t, r, 0, x)
	if sheet.Len() != 0 || x.Sheet() != sheet || x.Known() != 6 {
		t.Error("Done")
	}
	x.Forget()
	if x.Known() != 0 {
		t.Error("Forget")
	}
	get(t, x, 1, full("a"))
	at, _ := geom.NodeAt(0)
	r.Tamper(0, at, zero)
	get(t, x, 1, full("a")) // it is known
	x.Forget()
	if _, _, e := x.Get(1); e != api.ErrTamper {
		t.Error(int(e))
	}
}

func TestAsPut(t *testing.T) { // P18.5
	for seed := range 6 {
		rnd := rand.New(rand.NewSource(int64(seed)))
		r, o := rig.New(), oracle.New()
		x := grown(t, r, o, seed%2)
		var model [64]string
		for i := range 300 {
			leaf := rnd.Intn(64)
			switch k := rnd.Intn(10); {
			case k < 4:
				b := full(string([]byte{byte(1 + i%255)}))
				if e := x.Put(leaf, b); e != api.OK {
					t.Fatal(int(e))
				}
				model[leaf] = b
			case k < 6:
				if e := x.Clear(leaf); e != api.OK {
					t.Fatal(int(e))
				}
				model[leaf] = ""
			case k < 8:
				write(t, r, seed%2, x)
				if k == 7 {
					x.Forget()
				}
			default:
				get(t, x, leaf, model[leaf])
			}
		}
		var sums []api.Digest
		for leaf, b := range model {
			get(t, x, leaf, b)
			if b == "" {
				b = zero
			}
			d, _ := node.Leaf(nil, b)
			sums = append(sums, d)
		}
		if d, _ := node.Root(nil, sums); d != x.Root() {
			t.Error("root")
		}
		write(t, r, seed%2, x)
		y, _ := tree.New(r, o, seed%2, x.Root())
		for leaf, b := range model {
			get(t, y, leaf, b)
		}
	}
}

func TestTampered(t *testing.T) { // P18.6
	r, o := rig.New(), oracle.New()
	x := grown(t, r, o, 0)
	model := map[int]string{5: full("a"), 6: full("b"), 40: full("c")}
	for leaf, b := range model {
		x.Put(leaf, b)
	}
	write(t, r, 0, x)
	caught := 0
	for at := 161; at < 288; at++ {
		was, _ := r.Dev(0).Read(at)
		for _, k := range []int{0, 31, 32, 63} {
			b := []byte(was)
			b[k] ^= 0x80
			r.Tamper(0, at, string(b))
			y, _ := tree.New(r, o, 0, x.Root())
			for _, leaf := range []int{5, 6, 7, 40, 63} {
				got, ok, e := y.Get(leaf)
				if e == api.ErrTamper && got == "" && !ok {
					caught++
				} else if e != api.OK || got != model[leaf] || ok != (model[leaf] != "") {
					t.Fatal(at, leaf, int(e))
				}
				if e := y.Put(leaf, full("z")); e != api.OK && e != api.ErrTamper {
					t.Fatal(at, leaf, int(e))
				} else if e == api.ErrTamper && (y.Root() != x.Root() || y.Sheet().Len() != 0) {
					t.Fatal("changed", at, leaf)
				}
				y, _ = tree.New(r, o, 0, x.Root())
			}
		}
		r.Tamper(0, at, was)
	}
	if caught < 100 {
		t.Error("caught", caught)
	}
	// An old leaf that was laid back, and one that is another's.
	x.Put(5, full("d"))
	write(t, r, 0, x)
	at, _ := geom.LeafAt(5)
	for _, b := range []string{full("a"), full("b"), zero} {
		r.Tamper(0, at, b)
		if got, ok, e := x.Get(5); got != "" || ok || e != api.ErrTamper {
			t.Error(int(e))
		}
	}
	if o.Len() < 7 {
		t.Error("the oracle was not asked")
	}
}
