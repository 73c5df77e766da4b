package smq_test

import (
	"math"
	"math/rand"
	"testing"

	"cellaret/api"
	"cellaret/dice"
	"cellaret/smq"
)

type (
	groups = [api.MaxGroups]bool
	places = [api.MaxSlots]bool
)

func ok(t *testing.T, l ...api.Errno) {
	t.Helper()
	for i, e := range l {
		if e != api.OK {
			t.Fatal(i, int(e))
		}
	}
}

func hits(p *smq.Policy, group, n int) {
	for range n {
		p.Hit(group)
	}
}

// till ticks till a period ends.
func till(p *smq.Policy) {
	for p.Tick()%8 != 0 {
	}
}

func heat(t *testing.T, p *smq.Policy, group, want int) {
	t.Helper()
	l, there := p.Heat(group)
	if there != (want >= 0) || l != max(want, 0) {
		t.Errorf("group %d: %d %v, not %d", group, l, there, want)
	}
}

func warmth(t *testing.T, p *smq.Policy, slot, want int) {
	t.Helper()
	l, there := p.Warmth(slot)
	if there != (want >= 0) || l != max(want, 0) {
		t.Errorf("slot %d: %d %v, not %d", slot, l, there, want)
	}
}

func TestErrors(t *testing.T) { // P25.1
	var none *smq.Policy
	if none.Hit(99) != api.ErrNil || none.Enter(99) != api.ErrNil || none.Leave(99) != api.ErrNil || none.Use(99) != api.ErrNil {
		t.Error("nil")
	}
	p := smq.New()
	for _, n := range []int{-1, 16, math.MinInt, math.MaxInt} {
		if p.Hit(n) != api.ErrRange || p.Enter(n) != api.ErrRange || p.Leave(n) != api.ErrRange || p.Use(n) != api.ErrRange {
			t.Error(n)
		}
	}
	if p.Enter(8) != api.ErrRange || p.Leave(8) != api.ErrRange || p.Use(8) != api.ErrRange || p.Hit(8) != api.OK {
		t.Error(8)
	}
	if p.Use(3) != api.ErrNone || p.Leave(3) != api.ErrNone || p.Enter(3) != api.OK || p.Enter(3) != api.ErrExist || p.Use(3) != api.OK || p.Leave(3) != api.OK || p.Leave(3) != api.ErrNone {
		t.Error("slots")
	}
}

func TestHit(t *testing.T) { // P25.1
	p := smq.New()
	heat(t, p, 3, -1)
	ok(t, p.Hit(3))
	heat(t, p, 3, 0)
	hits(p, 3, 3)
	heat(t, p, 3, 0)
	till(p)
	heat(t, p, 3, 2) // the example
	if p.Clock() != 8 {
		t.Error(p.Clock())
	}
}

func TestCountsStay(t *testing.T) { // P25.1: at the greatest count it stays
	p := smq.New()
	hits(p, 1, 1<<20+5)
	till(p)
	heat(t, p, 1, 2) // a greater count would be none that has a beat
}

func TestPeriod(t *testing.T) { // P25.2
	// each line: at which ticks of a period group 0 is hit; what its level is behind it, from level 1 on.
	for _, c := range []struct {
		ticks []int
		level int
	}{
		{nil, 0}, {[]int{0}, 1}, {[]int{0, 5}, 1}, {[]int{0, 0, 0}, 2}, {[]int{0, 1, 2}, 2}, {[]int{0, 1, 2, 3}, 2}, {[]int{4, 1, 6, 3}, 2}, {[]int{0, 2, 4, 6}, 3}, {[]int{7, 7, 7, 7}, 3},
		{[]int{0, 1, 2, 3, 4}, 3}, {[]int{0, 1, 2, 3, 4, 5, 6, 7}, 2}, {[]int{0, 1, 0, 1}, 3},
	} {
		p := smq.New()
		hits(p, 0, 3)
		till(p)
		heat(t, p, 0, 1)
		for tick := range 8 {
			for _, x := range c.ticks {
				if x == tick {
					p.Hit(0)
				}
			}
			heat(t, p, 0, 1)
			if n := p.Tick(); n != 9+tick || p.Clock() != n {
				t.Error(n)
			}
		}
		heat(t, p, 0, c.level)
	}
	// It goes down, and out.
	p := smq.New()
	hits(p, 5, 4)
	for _, want := range []int{2, 1, 0, -1, -1} {
		till(p)
		heat(t, p, 5, want)
	}
	for range 6 { // at most level 3
		hits(p, 5, 9)
		till(p)
	}
	heat(t, p, 5, 3)
	var none *smq.Policy
	if none.Tick() != 0 {
		t.Error("nil")
	}
}

func TestSeldom(t *testing.T) { // P25.2: once or twice: it stays where it is, and in its place
	p := smq.New()
	p.Hit(1)
	hits(p, 2, 2)
	till(p)
	heat(t, p, 1, 0)
	heat(t, p, 2, 0)
	p = smq.New()
	for _, g := range []int{2, 3, 4, 5} {
		hits(p, g, 3)
	}
	till(p)
	for _, g := range []int{5, 4, 3, 2} {
		p.Hit(g)
	}
	hits(p, 9, 3)
	till(p) // 5, 4, 3, 2 on level 1, and 9 behind them: one too many
	for g, want := range map[int]int{5: 0, 4: 1, 3: 1, 2: 1, 9: 1} {
		heat(t, p, g, want)
	}
}

func TestBalance(t *testing.T) { // P25.2
	p := smq.New()
	for g := range 7 {
		hits(p, g, 3)
	}
	till(p)
	for g, want := range []int{0, 0, 0, 1, 1, 1, 1} { // at most 4 on level 1; those in front go down
		heat(t, p, g, want)
	}
	p = smq.New()
	for s := range 5 {
		ok(t, p.Enter(s), p.Use(s))
	}
	till(p) // all rise to level 2, of which two stay, and of the others two on level 1
	for s, want := range []int{0, 1, 1, 2, 2} {
		warmth(t, p, s, want)
	}
}

func TestHeld(t *testing.T) { // P25.1, P25.2
	p := smq.New()
	ok(t, p.Enter(0), p.Enter(1), p.Enter(2))
	warmth(t, p, 0, 1)
	warmth(t, p, 3, -1)
	ok(t, p.Use(1), p.Use(2), p.Leave(2), p.Enter(2))
	till(p)
	warmth(t, p, 0, 0)
	warmth(t, p, 1, 2)
	warmth(t, p, 2, 0) // it was not used since it entered
	till(p)
	warmth(t, p, 0, 0)
	warmth(t, p, 1, 1) // nothing is used any more
}

func TestPromote(t *testing.T) { // P25.3
	var none *smq.Policy
	if g, there := none.Promote(groups{}, 0); g != 0 || there {
		t.Error("nil")
	}
	p := smq.New()
	if g, there := p.Promote(groups{}, 0); g != 0 || there {
		t.Error("none is hot")
	}
	hits(p, 9, 4) // level 2
	hits(p, 4, 3) // level 1
	p.Hit(7)      // level 0
	if _, there := p.Promote(groups{}, 0); there {
		t.Error("level 0")
	}
	till(p)
	for draw := range 25 {
		want, _, _ := dice.Pick(draw, []int{0, 0, 0, 0, 1, 0, 0, 0, 0, 4, 0, 0, 0, 0, 0, 0})
		if g, there := p.Promote(groups{}, draw); g != want || !there || g != 4 && g != 9 {
			t.Error(draw, g)
		}
		if g, there := p.Promote(groups{4: true}, draw); g != 9 || !there {
			t.Error(draw, g)
		}
	}
	for _, draw := range []int{-1, math.MinInt} {
		if g, there := p.Promote(groups{}, draw); g != 0 || there {
			t.Error(draw)
		}
	}
	if g, there := p.Promote(groups{4: true, 9: true}, 3); g != 0 || there {
		t.Error("cached")
	}
	if g, there := p.Promote(groups{}, math.MaxInt); there && g != 4 && g != 9 || !there {
		t.Error(g)
	}
	hits(p, 9, 9)
	till(p)
	if g, _ := p.Promote(groups{}, 8); g != 9 { // 9 weighs 9 now, and 4 nothing
		t.Error(g)
	}
}

func TestDemote(t *testing.T) { // P25.3
	var none *smq.Policy
	if s, there := none.Demote(places{true}); s != 0 || there {
		t.Error("nil")
	}
	demote := func(p *smq.Policy, may places, want int) {
		t.Helper()
		if s, there := p.Demote(may); s != max(want, 0) || there != (want >= 0) {
			t.Error(may, s, there)
		}
	}
	all := places{true, true, true, true, true, true, true, true}
	p := smq.New()
	demote(p, places{}, -1)
	demote(p, places{3: true, 5: true}, 3)
	demote(p, all, 0)
	ok(t, p.Enter(6), p.Enter(5), p.Enter(2))
	demote(p, all, 6)
	demote(p, places{2: true, 5: true}, 5)
	demote(p, places{0: true, 2: true}, 2)
	demote(p, places{0: true, 7: true}, 0)
	ok(t, p.Use(6), p.Use(2))
	demote(p, all, 5)
	demote(p, places{6: true, 2: true}, 6)
	till(p) // 5 on level 0, 6 and 2 on level 2
	demote(p, all, 5)
	demote(p, places{6: true, 2: true}, 2) // they rose in the slots' order
	demote(p, places{6: true}, 6)
}

func TestLooks(t *testing.T) { // P25.4
	var none *smq.Policy
	a, ok1 := none.Heat(0)
	b, ok2 := none.Warmth(0)
	if a != 0 || b != 0 || ok1 || ok2 || none.Clock() != 0 || smq.Period != 8 {
		t.Error("nil")
	}
	p := smq.New()
	for _, n := range []int{-1, 16, 0, math.MaxInt} {
		heat(t, p, n, -1)
		warmth(t, p, n, -1)
	}
}

func TestAdvice(t *testing.T) { // P25.5
	for seed := range 20 {
		rnd := rand.New(rand.NewSource(int64(seed)))
		p := smq.New()
		told := 0
		for range 400 {
			switch rnd.Intn(5) {
			case 0:
				p.Hit(rnd.Intn(16))
			case 1:
				p.Enter(rnd.Intn(8))
			case 2:
				p.Use(rnd.Intn(8))
			case 3:
				p.Tick()
				hits(p, 3, 2)
			case 4:
				p.Leave(rnd.Intn(8))
			}
			var cached groups
			var may places
			any := false
			for g := range cached {
				cached[g] = rnd.Intn(2) == 0
			}
			for s := range may {
				may[s] = rnd.Intn(3) == 0
				any = any || may[s]
			}
			if g, there := p.Promote(cached, rnd.Int()); there {
				l, hot := p.Heat(g)
				if cached[g] || !hot || l < 1 {
					t.Fatal(g)
				}
				told++
			} else if g != 0 {
				t.Fatal(g)
			}
			if s, there := p.Demote(may); there != any || there && !may[s] || !there && s != 0 {
				t.Fatal(s)
			}
		}
		if told == 0 {
			t.Error("no advice")
		}
	}
}
