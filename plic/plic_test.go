package plic

import (
	"math"
	"testing"

	"mezzanine/api"
)

const last uint64 = math.MaxUint64

// The calls have the receivers of the chapter (asked of a value, changed by its address), and a plic may be held against another one.
var (
	_ func(*Plic, uint64, int) (uint64, bool) = (*Plic).Read
	_ func(*Plic, uint64, int, uint64) bool   = (*Plic).Write
	_ func(*Plic, int, bool) bool             = (*Plic).Level
	_ func(Plic, int) bool                    = Plic.Up
	_ func(Plic, int) int                     = Plic.Best
	_ func(Plic, int) bool                    = Plic.Line
	_ map[Plic]bool
)

// The kinds of the model's places.
const (
	priorities = iota
	pendings
	enables
	thresholds
	claims
)

// spot is a place: its kind, and the source or context it is of.
type spot struct{ kind, i int }

// spots is all places by their offsets.
var spots = func() map[uint64]spot {
	m := map[uint64]spot{
		0x1000:   {pendings, 0},
		0x2000:   {enables, 0},
		0x2080:   {enables, 1},
		0x200000: {thresholds, 0},
		0x201000: {thresholds, 1},
		0x200004: {claims, 0},
		0x201004: {claims, 1},
	}
	for s := range 32 {
		m[uint64(s)*4] = spot{priorities, s}
	}
	return m
}()

// claimsAt are the offsets of both contexts' claims, enablesAt and thresholdsAt those of what is enabled and of the thresholds.
var (
	claimsAt     = [2]uint64{0x200004, 0x201004}
	enablesAt    = [2]uint64{0x2000, 0x2080}
	thresholdsAt = [2]uint64{0x200000, 0x201000}
)

// lengths are how many bytes may be asked for, and may not.
var lengths = []int{math.MinInt, math.MinInt + 4, math.MinInt32, -8, -4, -1, 0, 1, 2, 3, 4, 5, 7, 8, 12, 16, 256 + 4, 1<<16 + 4, 1<<32 + 4, math.MaxInt - 3, math.MaxInt}

// noSources and noContexts are numbers that none has.
var (
	noSources  = []int{math.MinInt, math.MinInt + 3, math.MinInt32, -32, -29, -2, -1, 0, 32, 33, 35, 63, 64, 67, 128, 256 + 3, 1<<16 + 3, 1<<32 + 3, math.MaxInt - 1, math.MaxInt}
	noContexts = []int{math.MinInt, math.MinInt + 1, math.MinInt32, -2, -1, 2, 3, 31, 32, 64, 256, 257, 1 << 32, 1<<32 + 1, math.MaxInt}
)

// some are numbers at the edges of what is kept of them, and some without an order.
var some = []uint64{0, 1, 2, 3, 4, 5, 6, 7, 8, 9, 13, 15, 16, 31, 32, 0xff, 0x100, 1<<31 - 1, 1 << 31, 1<<32 - 2, 1<<32 - 1, 1 << 32, 1<<32 + 1, 1<<32 + 7, 0x0123456789abcdef, 0xfedcba9876543210, 1 << 63, last - 1, last}

// offsets are all at and about the places, and ones that come to a place only if they are cut or go round.
func offsets() []uint64 {
	var l []uint64
	near := func(from, to uint64) {
		for off := from; off != to; off++ {
			l = append(l, off)
		}
	}
	near(0, 0x3000)
	near(0x1ff000, 0x203000)
	for off := range spots {
		for _, far := range []uint64{0x4000, 0x10000, 0x200000, 0x3ff000, 0x400000, 1 << 31, 1 << 32, 1 << 48, 1 << 63, last - 0xfff, last - 0x3fffff, api.PlicBase} {
			if _, is := spots[off+far]; !is {
				l = append(l, off+far)
			}
		}
	}
	near(last-300, 0)
	return l
}

// source is what the model knows of one, context what it knows of one beside.
type source struct {
	priority          uint64
	up, pending, busy bool
	enabled           [2]bool
}

// model is a plic source by source; the number 0 is one, too, to which nothing ever comes.
type model struct {
	sources   [32]source
	threshold [2]uint64
}

// best is found by going down all priorities, and up all sources of each.
func (m *model) best(ctx int) int {
	for priority := uint64(7); priority > 0; priority-- {
		for s := 1; s < 32; s++ {
			x := m.sources[s]
			if x.priority == priority && x.pending && x.enabled[ctx] {
				return s
			}
		}
	}
	return 0
}

func (m *model) line(ctx int) bool {
	return m.sources[m.best(ctx)].priority > m.threshold[ctx]
}

// word is a word of the sources that are so.
func (m *model) word(so func(source) bool) uint64 {
	var w, worth uint64 = 0, 1
	for _, x := range m.sources {
		if so(x) {
			w += worth
		}
		worth *= 2
	}
	return w
}

func (m *model) read(at spot) uint64 {
	switch at.kind {
	case priorities:
		return m.sources[at.i].priority
	case pendings:
		return m.word(func(x source) bool { return x.pending })
	case enables:
		return m.word(func(x source) bool { return x.enabled[at.i] })
	case thresholds:
		return m.threshold[at.i]
	}
	s := m.best(at.i)
	if s > 0 {
		m.sources[s].pending, m.sources[s].busy = false, true
	}
	return uint64(s)
}

func (m *model) write(at spot, v uint64) {
	switch at.kind {
	case priorities:
		if at.i > 0 {
			m.sources[at.i].priority = v % 8
		}
	case enables:
		for s := range m.sources {
			m.sources[s].enabled[at.i] = s > 0 && v%2 == 1
			v /= 2
		}
	case thresholds:
		m.threshold[at.i] = v % 8
	case claims:
		if v %= 1 << 32; v < 32 && m.sources[v].enabled[at.i] && m.sources[v].busy {
			m.sources[v].busy = false
			m.look(int(v))
		}
	}
}

func (m *model) level(s int, up bool) {
	m.sources[s].up = up
	m.look(s)
}

func (m *model) look(s int) {
	if x := &m.sources[s]; x.up && !x.busy {
		x.pending = true
	}
}

// holds says whether p tells all that m does.
func (m *model) holds(t *testing.T, p Plic, when string) {
	t.Helper()
	as := p
	for off, at := range spots {
		if at.kind == claims {
			continue
		}
		if got, ok := p.Read(off, 4); got != m.read(at) || !ok {
			t.Fatalf("%s: Read(%#x, 4) is %#x, %v, not %#x", when, off, got, ok, m.read(at))
		}
	}
	for s := 1; s < 32; s++ {
		if p.Up(s) != m.sources[s].up {
			t.Fatalf("%s: Up(%d) is %v", when, s, p.Up(s))
		}
	}
	for ctx := range 2 {
		if p.Best(ctx) != m.best(ctx) || p.Line(ctx) != m.line(ctx) {
			t.Fatalf("%s: the context %d has %d, %v, not %d, %v", when, ctx, p.Best(ctx), p.Line(ctx), m.best(ctx), m.line(ctx))
		}
	}
	if p != as {
		t.Fatalf("%s: what is only asked changes it", when)
	}
	// Just those that are busy don't become pending when all lines come up.
	for s := 1; s < 32; s++ {
		p.Level(s, true)
	}
	free := m.word(func(x source) bool { return !x.busy }) - 1
	if got, _ := p.Read(0x1000, 4); got != free {
		t.Fatalf("%s: with all lines up %#x is pending, not %#x", when, got, free)
	}
}

// made is a plic of all that m has, by one way to come there.
func (m *model) made(t *testing.T) Plic {
	t.Helper()
	p := New()
	write(t, &p, 0x2000, last)
	for s := 1; s < 32; s++ {
		if m.sources[s].busy {
			write(t, &p, uint64(s)*4, 1)
			p.Level(s, true)
			if got, ok := p.Read(0x200004, 4); got != uint64(s) || !ok {
				t.Fatalf("a claim of the source %d is %d, %v", s, got, ok)
			}
		}
	}
	for s := 1; s < 32; s++ {
		if m.sources[s].pending {
			p.Level(s, true)
		}
		p.Level(s, m.sources[s].up)
	}
	for off, at := range spots {
		if at.kind != claims && at.kind != pendings {
			write(t, &p, off, m.read(at))
		}
	}
	return p
}

func write(t *testing.T, p *Plic, off, v uint64) {
	t.Helper()
	if !p.Write(off, 4, v) {
		t.Fatalf("Write(%#x, 4, %#x) is false", off, v)
	}
}

func reads(t *testing.T, p *Plic, off, want uint64) {
	t.Helper()
	if got, ok := p.Read(off, 4); got != want || !ok {
		t.Fatalf("Read(%#x, 4) is %#x, %v, not %#x", off, got, ok, want)
	}
}

// chance is numbers without an order, the same ones in each run.
type chance uint64

func (c *chance) next() uint64 {
	x := uint64(*c)
	x ^= x << 13
	x ^= x >> 7
	x ^= x << 17
	*c = chance(x)
	return x
}

func (c *chance) below(n int) int { return int(c.next() >> 11 % uint64(n)) }

// act does to p and m the same, and holds what p answers against m.
func (c *chance) act(t *testing.T, p *Plic, m *model) {
	t.Helper()
	s, ctx := 1+c.below(31), c.below(2)
	switch c.below(10) {
	case 0, 1, 2:
		up := c.below(3) > 0
		if !p.Level(s, up) {
			t.Fatalf("Level(%d, %v) is false", s, up)
		}
		m.level(s, up)
	case 3:
		v := c.next()
		write(t, p, uint64(s)*4, v)
		m.write(spot{priorities, s}, v)
	case 4:
		v := c.next() | c.next()
		write(t, p, enablesAt[ctx], v)
		m.write(spot{enables, ctx}, v)
	case 5:
		v := c.next() & c.next()
		write(t, p, thresholdsAt[ctx], v)
		m.write(spot{thresholds, ctx}, v)
	case 6, 7:
		reads(t, p, claimsAt[ctx], m.read(spot{claims, ctx}))
	default:
		v := c.next()<<32 + uint64(s)
		write(t, p, claimsAt[ctx], v)
		m.write(spot{claims, ctx}, v)
	}
}

// any is a plic to which much was done, and what it has.
func (c *chance) any(t *testing.T) (Plic, model) {
	t.Helper()
	p, m := New(), model{}
	for range 150 {
		c.act(t, &p, &m)
	}
	return p, m
}

// The chapter's examples

func TestExamplesOfTheChapter(t *testing.T) {
	p := New()
	is := func(what string, got, want bool) {
		t.Helper()
		if got != want {
			t.Errorf("%s is %v", what, got)
		}
	}
	write(t, &p, 12, 5)
	write(t, &p, 16, 5)
	write(t, &p, 0x2000, 0x18)

	is("Level(4, true)", p.Level(4, true), true)
	is("Line(0)", p.Line(0), true)
	is("Line(1)", p.Line(1), false)
	is("Level(3, true)", p.Level(3, true), true)
	reads(t, &p, 0x1000, 0x18)
	if p.Best(0) != 3 {
		t.Errorf("Best(0) is %d", p.Best(0))
	}

	reads(t, &p, 0x200004, 3)
	reads(t, &p, 0x200004, 4)
	reads(t, &p, 0x200004, 0)
	is("Line(0)", p.Line(0), false)

	is("Level(4, false)", p.Level(4, false), true)
	write(t, &p, 0x200004, 3)
	write(t, &p, 0x200004, 4)
	reads(t, &p, 0x1000, 8)

	write(t, &p, 0x200000, 13)
	is("Line(0)", p.Line(0), false)
	reads(t, &p, 0x200000, 5)
	reads(t, &p, 0x200004, 3)

	is("Level(0, true)", p.Level(0, true), false)
	is("Level(32, true)", p.Level(32, true), false)
	reads(t, &p, 0, 0)
	for _, x := range []struct {
		off uint64
		n   int
	}{{0x80, 4}, {0x1004, 4}, {0x2000, 8}} {
		if got, ok := p.Read(x.off, x.n); got != 0 || ok {
			t.Errorf("Read(%#x, %d) is %#x, %v", x.off, x.n, got, ok)
		}
	}
}

// P5.1

func TestNew(t *testing.T) {
	p, zero := New(), Plic{}
	if p != zero || p != New() {
		t.Error("a new plic is not as the zero one, or as another new one")
	}
	m := model{}
	m.holds(t, p, "New")
	m.holds(t, zero, "the zero one")
	for ctx := range 2 {
		reads(t, &p, claimsAt[ctx], 0)
	}
	if p != zero {
		t.Error("a claim of nothing changes it")
	}
}

func TestLevelOfEverySource(t *testing.T) {
	for s := 1; s < 32; s++ {
		p, m := New(), model{}
		for _, up := range []bool{false, true, true, false, false, true} {
			if !p.Level(s, up) {
				t.Fatalf("Level(%d, %v) is false", s, up)
			}
			m.level(s, up)
			m.holds(t, p, "behind Level")
		}
	}
}

func TestLevelOfNoSource(t *testing.T) {
	c := chance(0x9e3779b97f4a7c15)
	full, _ := c.any(t)
	for s := 1; s < 32; s++ {
		full.Level(s, true)
	}
	for _, p := range []Plic{New(), full} {
		as := p
		for _, s := range noSources {
			if p.Level(s, true) || p.Level(s, false) || p.Up(s) || p != as {
				t.Errorf("the source %d is taken for one", s)
			}
		}
	}
}

func TestLevelLooksAtASource(t *testing.T) {
	p := New()
	write(t, &p, 20, 1)
	write(t, &p, 0x2080, 1<<5)
	p.Level(5, true)
	reads(t, &p, 0x1000, 1<<5)
	reads(t, &p, 0x201004, 5)
	reads(t, &p, 0x1000, 0)
	p.Level(5, true)
	reads(t, &p, 0x1000, 0)
	p.Level(5, false)
	p.Level(5, true)
	reads(t, &p, 0x1000, 0)
	p.Level(5, false)
	write(t, &p, 0x201004, 5)
	reads(t, &p, 0x1000, 0)
	p.Level(5, true)
	p.Level(5, false)
	reads(t, &p, 0x1000, 1<<5)
}

// P5.2

func TestReadOfEveryOffset(t *testing.T) {
	c := chance(0x9e3779b97f4a7c15)
	p, m := c.any(t)
	for s := 1; s < 32; s++ {
		p.Level(s, true)
		m.level(s, true)
	}
	for _, off := range offsets() {
		for _, n := range lengths {
			at, has := spots[off]
			has = has && n == 4
			behind, then := p, m
			var want uint64
			if has {
				want = then.read(at)
			}
			if got, ok := behind.Read(off, n); got != want || ok != has {
				t.Fatalf("Read(%#x, %d) is %#x, %v, not %#x", off, n, got, ok, want)
			}
			if then == m && behind != p {
				t.Fatalf("Read(%#x, %d) changes it", off, n)
			}
			if then != m {
				then.holds(t, behind, "behind a claim")
			}
		}
	}
}

func TestClaimOfEverySource(t *testing.T) {
	for s := 1; s < 32; s++ {
		for ctx := range 2 {
			p, m := New(), model{}
			write(t, &p, uint64(s)*4, 7)
			m.write(spot{priorities, s}, 7)
			write(t, &p, enablesAt[ctx], 1<<s)
			m.write(spot{enables, ctx}, 1<<s)
			p.Level(s, true)
			m.level(s, true)
			reads(t, &p, claimsAt[1-ctx], 0)
			m.holds(t, p, "behind a claim of the other context")
			reads(t, &p, claimsAt[ctx], uint64(s))
			m.read(spot{claims, ctx})
			m.holds(t, p, "behind a claim")
			if !m.sources[s].busy || m.sources[s].pending {
				t.Fatal("the model")
			}
		}
	}
}

// A threshold holds a line down, and no claim.
func TestClaimBelowTheThreshold(t *testing.T) {
	for priority := uint64(0); priority < 8; priority++ {
		for threshold := uint64(0); threshold < 8; threshold++ {
			for ctx := range 2 {
				p := New()
				write(t, &p, 31*4, priority)
				write(t, &p, enablesAt[ctx], 1<<31)
				write(t, &p, thresholdsAt[ctx], threshold)
				p.Level(31, true)
				if p.Line(ctx) != (priority > threshold) || p.Line(1-ctx) {
					t.Errorf("the priority %d and the threshold %d: %v, %v", priority, threshold, p.Line(ctx), p.Line(1-ctx))
				}
				want := uint64(31)
				if priority == 0 {
					want = 0
				}
				reads(t, &p, claimsAt[ctx], want)
			}
		}
	}
}

// P5.3

func TestWriteOfNoPlace(t *testing.T) {
	c := chance(0x9e3779b97f4a7c15)
	p, _ := c.any(t)
	as := p
	for _, off := range offsets() {
		for _, n := range lengths {
			if _, is := spots[off]; is && n == 4 {
				continue
			}
			for _, v := range []uint64{0, 3, last} {
				if p.Write(off, n, v) || p != as {
					t.Fatalf("Write(%#x, %d, %#x) is done", off, n, v)
				}
			}
		}
	}
}

func TestWriteOfEveryPlace(t *testing.T) {
	c := chance(0x9e3779b97f4a7c15)
	for range 20 {
		p, m := c.any(t)
		for off, at := range spots {
			for _, v := range append(some, c.next(), c.next()) {
				behind, then := p, m
				write(t, &behind, off, v)
				then.write(at, v)
				then.holds(t, behind, "behind a write")
			}
		}
	}
}

func TestWriteKeepsWhatItMay(t *testing.T) {
	for _, v := range some {
		p := New()
		for off, at := range spots {
			want := v % 8
			switch {
			case off == 0 || at.kind == pendings || at.kind == claims:
				want = 0
			case at.kind == enables:
				want = v % (1 << 32) / 2 * 2
			}
			write(t, &p, off, v)
			reads(t, &p, off, want)
		}
	}
}

func TestCompleteByItsNumberAlone(t *testing.T) {
	busy := New()
	write(t, &busy, 12, 2)
	write(t, &busy, 0x2000, 1<<3)
	busy.Level(3, true)
	reads(t, &busy, 0x200004, 3)
	for _, v := range []uint64{0, 1, 2, 4, 31, 32, 35, 67, 1 << 3, 256 + 3, 1<<16 + 3, 1<<31 + 3, 1<<32 - 1, 3 << 32, last} {
		p := busy
		write(t, &p, 0x200004, v)
		if p != busy {
			t.Errorf("%#x completes something", v)
		}
	}
	for _, v := range []uint64{3, 1<<32 + 3, 1<<63 + 3, last - 1<<32 + 4} {
		p := busy
		write(t, &p, 0x200004, v)
		reads(t, &p, 0x1000, 1<<3)
		reads(t, &p, 0x200004, 3)
		p.Level(3, false)
		write(t, &p, 0x200004, v)
		reads(t, &p, 0x1000, 0)
		reads(t, &p, 0x200004, 0)
	}
}

func TestCompleteOfWhatIsEnabledAlone(t *testing.T) {
	p := New()
	write(t, &p, 12, 2)
	write(t, &p, 0x2000, 1<<3)
	p.Level(3, true)
	reads(t, &p, 0x200004, 3)
	as := p
	if write(t, &p, 0x201004, 3); p != as {
		t.Error("a context completes what is not enabled there")
	}
	write(t, &p, 0x2000, 1<<2)
	as = p
	if write(t, &p, 0x200004, 3); p != as {
		t.Error("a context completes what is not enabled any more")
	}
	write(t, &p, 0x2080, 1<<3)
	write(t, &p, 0x201004, 3)
	reads(t, &p, 0x1000, 1<<3)
	as = p
	if write(t, &p, 0x201004, 3); p != as {
		t.Error("a context completes what is not busy")
	}
}

// P5.4

func TestBestOfTwo(t *testing.T) {
	for a := 1; a < 32; a++ {
		for b := a + 1; b < 32; b++ {
			for x := uint64(0); x < 8; x++ {
				for y := uint64(0); y < 8; y++ {
					p := New()
					p.Write(uint64(a)*4, 4, x)
					p.Write(uint64(b)*4, 4, y)
					p.Write(0x2080, 4, last)
					p.Level(a, true)
					p.Level(b, true)
					want := a
					if y > x {
						want = b
					}
					if x == 0 && y == 0 {
						want = 0
					}
					if p.Best(1) != want || p.Best(0) != 0 || p.Line(1) != (want > 0) || p.Line(0) {
						t.Fatalf("of %d and %d with the priorities %d and %d the best is %d, %d", a, b, x, y, p.Best(1), p.Best(0))
					}
				}
			}
		}
	}
}

func TestNoContext(t *testing.T) {
	c := chance(0x9e3779b97f4a7c15)
	for range 20 {
		p, _ := c.any(t)
		as := p
		for _, ctx := range noContexts {
			if p.Best(ctx) != 0 || p.Line(ctx) || p != as {
				t.Errorf("the context %d is taken for one", ctx)
			}
		}
	}
}

// A threshold holds against the best's priority as it is now.
func TestLineFollowsPrioritiesAndThresholds(t *testing.T) {
	p := New()
	write(t, &p, 0x2000, 1<<9)
	write(t, &p, 36, 3)
	p.Level(9, true)
	p.Level(9, false)
	for i, x := range []struct {
		off, v uint64
		want   bool
	}{{0x200000, 2, true}, {0x200000, 3, false}, {36, 4, true}, {36, 3, false}, {0x201000, 0, false}, {0x200000, 0, true}, {0x201000, 7, true}, {36, 0, false}, {36, 1, true}, {0x2000, 1 << 8, false}, {0x2000, 1 << 9, true}} {
		if write(t, &p, x.off, x.v); p.Line(0) != x.want || p.Line(1) {
			t.Errorf("line %d: %v, %v", i, p.Line(0), p.Line(1))
		}
	}
}

// P5.5

func TestNilPlic(t *testing.T) {
	var p *Plic
	for off := range spots {
		for _, n := range lengths {
			if got, ok := p.Read(off, n); got != 0 || ok || p.Write(off, n, 1) {
				t.Errorf("a nil plic has the place %#x, %d", off, n)
			}
		}
	}
	for s := -1; s <= 33; s++ {
		if p.Level(s, true) || p.Level(s, false) {
			t.Errorf("a nil plic has the source %d", s)
		}
	}
}

func TestCopyGoesItsOwnWay(t *testing.T) {
	c := chance(0x9e3779b97f4a7c15)
	p, m := c.any(t)
	d, e := p, m
	for range 300 {
		c.act(t, &d, &e)
		m.holds(t, p, "while its copy goes on")
	}
	e.holds(t, d, "the copy")
}

func TestEqualByAnotherWay(t *testing.T) {
	c := chance(0x9e3779b97f4a7c15)
	for range 300 {
		p, m := c.any(t)
		if q := m.made(t); p != q {
			t.Fatalf("%+v and %+v tell the same", p, q)
		}
	}
}

func TestUnequalInOneThing(t *testing.T) {
	c := chance(0x9e3779b97f4a7c15)
	for range 10 {
		p, m := c.any(t)
		other := func(what string, s int, change func(*model)) {
			t.Helper()
			n := m
			change(&n)
			if q := n.made(t); p == q {
				t.Fatalf("equal, though not in %s %d", what, s)
			}
		}
		for s := 1; s < 32; s++ {
			x := m.sources[s]
			other("the priority of", s, func(n *model) { n.sources[s].priority = (x.priority + 1) % 8 })
			other("what the context 0 has enabled of", s, func(n *model) { n.sources[s].enabled[0] = !x.enabled[0] })
			other("what the context 1 has enabled of", s, func(n *model) { n.sources[s].enabled[1] = !x.enabled[1] })
			// What else a source may be hangs on these three: one whose line is up is pending or busy, and none is both.
			if x.busy || x.pending {
				other("the line of", s, func(n *model) { n.sources[s].up = !x.up })
			}
			if !x.busy && !x.up {
				other("whether it is pending, the source", s, func(n *model) { n.sources[s].pending = !x.pending })
			}
			if !x.pending && !x.up {
				other("whether it is busy, the source", s, func(n *model) { n.sources[s].busy = !x.busy })
			}
			if x.pending || x.busy {
				other("whether it is pending or busy, the source", s, func(n *model) { n.sources[s].busy, n.sources[s].pending = x.pending, x.busy })
			}
		}
		for ctx := range 2 {
			other("the threshold", ctx, func(n *model) { n.threshold[ctx] = (n.threshold[ctx] + 1) % 8 })
		}
	}
}

// P5.6

func TestManyCallsAgainstTheModel(t *testing.T) {
	c := chance(0x9e3779b97f4a7c15)
	for range 60 {
		p, m := New(), model{}
		for range 400 {
			c.act(t, &p, &m)
			m.holds(t, p, "on the way")
		}
	}
}

// The number that tells who is busy is kept here from what claims and completions say alone.
func TestClaimsTellASourceOnce(t *testing.T) {
	c := chance(0x9e3779b97f4a7c15)
	p := New()
	var claimed [32]bool
	var claimsMade int
	priority := func(s int) uint64 {
		v, _ := p.Read(uint64(s)*4, 4)
		return v
	}
	for range 60000 {
		s, ctx := 1+c.below(31), c.below(2)
		enabled, _ := p.Read(enablesAt[ctx], 4)
		switch c.below(9) {
		case 0, 1, 2:
			p.Level(s, c.below(2) == 0)
		case 3:
			p.Write(uint64(s)*4, 4, c.next())
		case 4:
			p.Write(enablesAt[ctx], 4, c.next())
		case 5, 6:
			before := p
			got, _ := p.Read(claimsAt[ctx], 4)
			if got == 0 {
				continue
			}
			claimsMade++
			if claimed[got] || priority(int(got)) == 0 || enabled>>got%2 == 0 {
				t.Fatalf("%d is claimed, though it is claimed, has the priority 0 or is not enabled", got)
			}
			pending, _ := before.Read(0x1000, 4)
			for o := 1; o < 32; o++ {
				if pending>>o%2 == 1 && enabled>>o%2 == 1 && priority(o) > priority(int(got)) {
					t.Fatalf("%d is claimed ahead of %d", got, o)
				}
			}
			claimed[got] = true
		default:
			p.Write(claimsAt[ctx], 4, uint64(s))
			if enabled>>s%2 == 1 {
				claimed[s] = false
			}
		}
		pending, _ := p.Read(0x1000, 4)
		for o := 1; o < 32; o++ {
			is := pending>>o%2 == 1
			if is && claimed[o] || p.Up(o) && !is && !claimed[o] {
				t.Fatalf("the source %d: pending %v, busy %v, its line %v", o, is, claimed[o], p.Up(o))
			}
		}
		if pending%2 == 1 || pending>>32 != 0 {
			t.Fatalf("%#x is pending", pending)
		}
	}
	if claimsMade < 1000 {
		t.Fatalf("%d claims alone", claimsMade)
	}
}

func TestPendingStaysTillItIsClaimed(t *testing.T) {
	for s := 1; s < 32; s++ {
		p := New()
		p.Level(s, true)
		p.Level(s, false)
		for off := range spots {
			if off != claimsAt[0] && off != claimsAt[1] {
				p.Write(off, 4, last)
				p.Write(off, 4, 0)
			}
		}
		p.Level(s, false)
		p.Write(claimsAt[0], 4, uint64(s))
		reads(t, &p, 0x1000, 1<<s)
		reads(t, &p, claimsAt[0], 0)
		write(t, &p, 0x2000, last)
		reads(t, &p, claimsAt[0], 0)
		write(t, &p, uint64(s)*4, 1)
		write(t, &p, 0x200000, 7)
		reads(t, &p, 0x1000, 1<<s)
		reads(t, &p, claimsAt[0], uint64(s))
		reads(t, &p, 0x1000, 0)
	}
}
