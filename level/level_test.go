package level_test

import (
	"math"
	"math/rand"
	"slices"
	"testing"

	"cellaret/api"
	"cellaret/level"
)

func queue(t *testing.T, n int) *level.Queue {
	t.Helper()
	q, e := level.New(n)
	if e != api.OK || q == nil {
		t.Fatal(int(e))
	}
	return q
}

func ok(t *testing.T, l ...api.Errno) {
	t.Helper()
	for i, e := range l {
		if e != api.OK {
			t.Fatal(i, int(e))
		}
	}
}

func rows(t *testing.T, q *level.Queue, want ...[]int) {
	t.Helper()
	n := 0
	for l, row := range want {
		if !slices.Equal(q.List(l), row) {
			t.Errorf("level %d: %v, not %v", l, q.List(l), row)
		}
		n += len(row)
	}
	if q.Len() != n {
		t.Error(q.Len())
	}
}

func TestNewAddRemove(t *testing.T) { // P24.1
	for _, n := range []int{0, -1, 17, math.MinInt, math.MaxInt} {
		if q, e := level.New(n); q != nil || e != api.ErrArg {
			t.Error(n)
		}
	}
	var none *level.Queue
	if none.Add(99, 99) != api.ErrNil || none.Remove(99) != api.ErrNil {
		t.Error("nil")
	}
	queue(t, 1)
	queue(t, 16)
	q := queue(t, 3)
	rows(t, q, nil, nil, nil, nil)
	for i, c := range []struct{ got, want api.Errno }{
		{q.Add(-1, 0), api.ErrRange}, {q.Add(3, 0), api.ErrRange}, {q.Add(0, -1), api.ErrRange}, {q.Add(0, 4), api.ErrRange}, {q.Add(math.MaxInt, math.MinInt), api.ErrRange},
		{q.Add(1, 2), 0}, {q.Add(1, 0), api.ErrExist}, {q.Add(1, 9), api.ErrRange}, {q.Add(2, 2), 0}, {q.Add(0, 2), 0},
		{q.Remove(3), api.ErrRange}, {q.Remove(-1), api.ErrRange},
	} {
		if c.got != c.want {
			t.Error(i, int(c.got))
		}
	}
	rows(t, q, nil, nil, []int{1, 2, 0}, nil)
	ok(t, q.Remove(2))
	rows(t, q, nil, nil, []int{1, 0}, nil)
	if q.Remove(2) != api.ErrNone {
		t.Error("none")
	}
	ok(t, q.Remove(1), q.Add(1, 2))
	rows(t, q, nil, nil, []int{0, 1}, nil)
	ok(t, q.Remove(1), q.Remove(0))
	rows(t, q, nil, nil, nil, nil)
	ok(t, q.Add(2, 3))
	rows(t, q, nil, nil, nil, []int{2})
}

func TestTouchMove(t *testing.T) { // P24.2
	var none *level.Queue
	if none.Touch(99) != api.ErrNil || none.Move(99, 1) != api.ErrNil {
		t.Error("nil")
	}
	q := queue(t, 5)
	ok(t, q.Add(2, 1), q.Add(0, 1), q.Touch(2))
	rows(t, q, nil, []int{0, 2}, nil, nil)
	for _, i := range []int{-1, 5, math.MaxInt} {
		if q.Touch(i) != api.ErrRange || q.Move(i, 1) != api.ErrRange {
			t.Error(i)
		}
	}
	if q.Touch(1) != api.ErrNone || q.Move(1, 1) != api.ErrNone {
		t.Error("none")
	}
	ok(t, q.Add(3, 1), q.Touch(2), q.Touch(2))
	rows(t, q, nil, []int{0, 3, 2}, nil, nil)
	ok(t, q.Move(3, 1), q.Move(0, 1), q.Move(2, 0))
	rows(t, q, nil, []int{2}, []int{3, 0}, nil)
	ok(t, q.Move(3, 2), q.Move(2, -2), q.Move(0, math.MaxInt))
	rows(t, q, []int{2}, nil, nil, []int{3, 0})
	ok(t, q.Move(3, 5))
	rows(t, q, []int{2}, nil, nil, []int{0, 3})
	ok(t, q.Move(3, math.MinInt), q.Move(2, -1), q.Move(0, -1))
	rows(t, q, []int{3, 2}, nil, []int{0}, nil)
}

func TestLooks(t *testing.T) { // P24.3
	var none *level.Queue
	a, ok1 := none.Level(0)
	b, ok2 := none.Front(0)
	c, ok3 := none.Least()
	if a != 0 || b != 0 || c != 0 || ok1 || ok2 || ok3 || none.List(0) != nil || none.Len() != 0 || none.Copy() != nil || none.Balance(0) != 0 {
		t.Error("nil")
	}
	q := queue(t, 4)
	if i, there := q.Least(); i != 0 || there {
		t.Error("Least")
	}
	ok(t, q.Add(3, 2), q.Add(1, 2), q.Add(2, 3))
	for i, c := range []struct {
		got  func(int) (int, bool)
		in   int
		want int
		ok   bool
	}{
		{q.Level, 3, 2, true}, {q.Level, 0, 0, false}, {q.Level, -1, 0, false}, {q.Level, 4, 0, false}, {q.Level, math.MaxInt, 0, false},
		{q.Front, 2, 3, true}, {q.Front, 3, 2, true}, {q.Front, 0, 0, false}, {q.Front, -1, 0, false}, {q.Front, 4, 0, false}, {q.Front, math.MinInt, 0, false},
	} {
		if n, there := c.got(c.in); n != c.want || there != c.ok {
			t.Error(i, n, there)
		}
	}
	if q.List(-1) != nil || q.List(4) != nil {
		t.Error("List")
	}
	if i, there := q.Least(); i != 3 || !there {
		t.Error("Least")
	}
	ok(t, q.Add(0, 0))
	if i, there := q.Least(); i != 0 || !there {
		t.Error("Least")
	}
	c2 := q.Copy()
	ok(t, c2.Touch(3), c2.Remove(0))
	rows(t, q, []int{0}, nil, []int{3, 1}, []int{2})
	rows(t, c2, nil, nil, []int{1, 3}, []int{2})
	l := q.List(2)
	l[0] = 77
	rows(t, q, []int{0}, nil, []int{3, 1}, []int{2})
}

func TestBalance(t *testing.T) { // P24.4
	full := func() *level.Queue {
		q := queue(t, 9)
		for i := range 6 {
			ok(t, q.Add(i, 3))
		}
		ok(t, q.Add(6, 2), q.Add(7, 1), q.Add(8, 0))
		return q
	}
	q := full()
	if n := q.Balance(2); n != 4+3+2 {
		t.Error(n)
	}
	rows(t, q, []int{8, 7, 6}, []int{0, 1}, []int{2, 3}, []int{4, 5})
	if n := q.Balance(2); n != 0 {
		t.Error(n)
	}
	q = full()
	if n := q.Balance(-5); n != 6+7+8 {
		t.Error(n)
	}
	rows(t, q, []int{8, 7, 6, 0, 1, 2, 3, 4, 5}, nil, nil, nil)
	q = full()
	if n := q.Balance(math.MaxInt) + q.Balance(6); n != 0 {
		t.Error(n)
	}
	q = full()
	if n := q.Balance(math.MinInt); n != 21 {
		t.Error(n)
	}
	q = full()
	if n := q.Balance(5); n != 1 {
		t.Error(n)
	}
	rows(t, q, []int{8}, []int{7}, []int{6, 0}, []int{1, 2, 3, 4, 5})
}

func TestOne(t *testing.T) { // P24.5
	for seed := range 20 {
		rnd := rand.New(rand.NewSource(int64(seed)))
		n := 1 + rnd.Intn(16)
		q := queue(t, n)
		var model [4][]int
		take := func(i int) int {
			for l := range model {
				if k := slices.Index(model[l], i); k >= 0 {
					model[l] = slices.Delete(model[l], k, k+1)
					return l
				}
			}
			return -1
		}
		for range 300 {
			i, l := rnd.Intn(n), rnd.Intn(4)
			switch rnd.Intn(5) {
			case 0:
				if q.Add(i, l) == api.OK {
					model[l] = append(model[l], i)
				}
			case 1:
				if was := take(i); (was >= 0) != (q.Remove(i) == api.OK) {
					t.Fatal(i)
				}
			case 2:
				if was := take(i); was >= 0 {
					model[was] = append(model[was], i)
					ok(t, q.Touch(i))
				}
			case 3:
				if was := take(i); was >= 0 {
					to := min(max(was+l-2, 0), 3)
					model[to] = append(model[to], i)
					ok(t, q.Move(i, l-2))
				}
			case 4:
				moved := 0
				for k := 3; k > 0; k-- {
					for len(model[k]) > l {
						model[k-1] = append(model[k-1], model[k][0])
						model[k] = model[k][1:]
						moved++
					}
				}
				if q.Balance(l) != moved {
					t.Fatal(moved)
				}
			}
			rows(t, q, model[0], model[1], model[2], model[3])
			for l := range model {
				for _, i := range model[l] {
					if x, there := q.Level(i); x != l || !there {
						t.Fatal(i, x)
					}
				}
			}
		}
	}
}
