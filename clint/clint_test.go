package clint

import (
	"math"
	"testing"
)

const last uint64 = math.MaxUint64

// The calls have the receivers of the chapter (read as a value, changed by its address), and a clint may be held against another one.
var (
	_ func(Clint, uint64, int) (uint64, bool) = Clint.Read
	_ func(*Clint, uint64, int, uint64) bool  = (*Clint).Write
	_ func(*Clint, uint64)                    = (*Clint).Tick
	_ func(Clint) uint64                      = Clint.Time
	_ func(Clint) bool                        = Clint.Msip
	_ func(Clint) bool                        = Clint.Mtip
	_ map[Clint]bool
)

// places are all that a clint has, by their offsets and lengths.
var places = []struct {
	off uint64
	n   int
}{{0, 4}, {0x4000, 8}, {0x4000, 4}, {0x4004, 4}, {0xbff8, 8}, {0xbff8, 4}, {0xbffc, 4}}

// isPlace says whether there is such a place.
func isPlace(off uint64, n int) bool {
	for _, p := range places {
		if p.off == off && p.n == n {
			return true
		}
	}
	return false
}

// lengths are how many bytes may be asked for, and may not.
var lengths = []int{math.MinInt, math.MinInt + 4, math.MinInt32, -8, -4, -1, 0, 1, 2, 3, 4, 5, 6, 7, 8, 9, 12, 16, 32, 64, 256 + 4, 256 + 8, 1<<16 + 4, 1<<32 + 4, 1<<32 + 8, math.MaxInt - 3, math.MaxInt}

// offsets are all that lie in a clint and somewhat behind it, and ones that come to a place only if they are cut or go round.
func offsets() []uint64 {
	var l []uint64
	for off := range uint64(0x10100) {
		l = append(l, off)
	}
	for _, far := range []uint64{1 << 16, 1 << 31, 1 << 32, 1 << 48, 1 << 63, last - 0xffff, 0x02000000} {
		for _, p := range places {
			for d := range uint64(9) {
				l = append(l, far+p.off+d-4)
			}
		}
	}
	for d := range uint64(20) {
		l = append(l, last-d)
	}
	return l
}

// model is a clint's bytes, each by its offset; of the software word all bits but the lowest stay 0.
type model map[uint64]byte

// modelOf is a clint of these three numbers.
func modelOf(soft, compare, now uint64) model {
	m := model{}
	m.put(0, 4, soft)
	m.put(0x4000, 8, compare)
	m.put(0xbff8, 8, now)
	return m
}

func (m model) put(off uint64, n int, v uint64) {
	for i := range n {
		m[off+uint64(i)] = byte(v)
		v /= 256
	}
	m[0] %= 2
	m[1], m[2], m[3] = 0, 0, 0
}

func (m model) number(off uint64, n int) uint64 {
	var v uint64
	for i := n - 1; i >= 0; i-- {
		v = v*256 + uint64(m[off+uint64(i)])
	}
	return v
}

// holds says whether c tells all that m does.
func (m model) holds(t *testing.T, c Clint, when string) {
	t.Helper()
	for _, p := range places {
		if got, ok := c.Read(p.off, p.n); got != m.number(p.off, p.n) || !ok {
			t.Fatalf("%s: Read(%#x, %d) is %#x, %v, not %#x", when, p.off, p.n, got, ok, m.number(p.off, p.n))
		}
	}
	now, compare := m.number(0xbff8, 8), m.number(0x4000, 8)
	if c.Time() != now || c.Msip() != (m[0] == 1) || c.Mtip() != (now >= compare) {
		t.Fatalf("%s: Time %#x, Msip %v, Mtip %v, of the times %#x, %#x and the word %d", when, c.Time(), c.Msip(), c.Mtip(), now, compare, m[0])
	}
}

// made is a clint of these three numbers.
func made(t *testing.T, soft, compare, now uint64) Clint {
	t.Helper()
	c := New()
	if !c.Write(0, 4, soft) || !c.Write(0x4000, 8, compare) || !c.Write(0xbff8, 8, now) {
		t.Fatal("a place can't be written")
	}
	return c
}

// some are numbers at the edges of times and their halves, and some without an order.
var some = []uint64{0, 1, 2, 3, 255, 256, 1<<31 - 1, 1 << 31, 1<<32 - 1, 1 << 32, 1<<32 + 1, 1<<33 + 1, 0x0123456789abcdef, 1<<63 - 1, 1 << 63, 1<<63 + 1, 0xfedcba9876543210, last - 1<<32, last - 1<<32 + 1, last - 1, last}

// chance is numbers without an order, the same ones in each run.
type chance uint64

func (c *chance) next() uint64 {
	x := uint64(*c)
	x ^= x << 13
	x ^= x >> 7
	x ^= x << 17
	*c = chance(x)
	return x
}

func (c *chance) below(n int) int { return int(c.next() >> 11 % uint64(n)) }

// P4.1

func TestNew(t *testing.T) {
	modelOf(0, last, 0).holds(t, New(), "New")
	if New() != New() {
		t.Error("two new clints are not equal")
	}
}

func TestExamplesOfTheChapter(t *testing.T) {
	c := New()
	is := func(what string, got, want bool) {
		t.Helper()
		if got != want {
			t.Errorf("%s is %v", what, got)
		}
	}
	read := func(off uint64, n int, want uint64, has bool) {
		t.Helper()
		if got, ok := c.Read(off, n); got != want || ok != has {
			t.Errorf("Read(%#x, %d) is %#x, %v", off, n, got, ok)
		}
	}
	is("Mtip", c.Mtip(), false)
	is("Msip", c.Msip(), false)
	read(0x4000, 8, last, true)
	read(0xbff8, 8, 0, true)

	is("Write(0x4000, 4, 5)", c.Write(0x4000, 4, 5), true)
	read(0x4000, 8, last-1<<32+6, true)
	is("Write(0x4004, 4, 0)", c.Write(0x4004, 4, 0), true)
	c.Tick(4)
	is("Mtip", c.Mtip(), false)
	c.Tick(1)
	is("Mtip", c.Mtip(), true)

	is("Write(0, 4, 3)", c.Write(0, 4, 3), true)
	is("Msip", c.Msip(), true)
	read(0, 4, 1, true)
	read(0, 8, 0, false)
	read(4, 4, 0, false)
	is("Write(0xbffa, 2, 1)", c.Write(0xbffa, 2, 1), false)
	read(last, 1, 0, false)

	is("Write(0xbffc, 4, 2^33 + 1)", c.Write(0xbffc, 4, 1<<33+1), true)
	if c.Time() != 1<<32+5 {
		t.Errorf("Time is %#x", c.Time())
	}
}

func TestReadOfEveryOffset(t *testing.T) {
	c := made(t, 1, 0x8877665544332211, 0xffeeddccbbaa9988)
	m := modelOf(1, 0x8877665544332211, 0xffeeddccbbaa9988)
	as := c
	for _, off := range offsets() {
		for _, n := range lengths {
			var want uint64
			has := isPlace(off, n)
			if has {
				want = m.number(off, n)
			}
			if got, ok := c.Read(off, n); got != want || ok != has {
				t.Errorf("Read(%#x, %d) is %#x, %v", off, n, got, ok)
			}
		}
	}
	if c != as {
		t.Error("Read changes a clint")
	}
}

// P4.2

func TestWriteOfNoPlace(t *testing.T) {
	c := made(t, 1, 0x8877665544332211, 0xffeeddccbbaa9988)
	as := c
	for _, off := range offsets() {
		for _, n := range lengths {
			if isPlace(off, n) {
				continue
			}
			for _, v := range []uint64{0, last} {
				if c.Write(off, n, v) || c != as {
					t.Fatalf("Write(%#x, %d, %#x) is done", off, n, v)
				}
			}
		}
	}
}

func TestWriteOfEveryPlace(t *testing.T) {
	for _, old := range some {
		for _, v := range some {
			for _, p := range places {
				c, m := made(t, old, ^old, old), modelOf(old, ^old, old)
				if !c.Write(p.off, p.n, v) {
					t.Fatalf("Write(%#x, %d, %#x) is false", p.off, p.n, v)
				}
				m.put(p.off, p.n, v)
				m.holds(t, c, "behind a write")
			}
		}
	}
}

func TestSoftwareWordIsOneBit(t *testing.T) {
	for v, want := range map[uint64]uint64{0: 0, 1: 1, 2: 0, 3: 1, 0xfe: 0, 0xff: 1, 1 << 31: 0, 1<<31 + 1: 1, 1<<32 - 2: 0, 1 << 32: 0, 1<<32 + 1: 1, last: 1, last - 1: 0} {
		for _, old := range []uint64{0, 1} {
			c := made(t, old, last, 0)
			c.Write(0, 4, v)
			if got, ok := c.Read(0, 4); got != want || !ok || c.Msip() != (want == 1) || c != made(t, want, last, 0) {
				t.Errorf("Write(0, 4, %#x) on %d leaves %#x, Msip %v", v, old, got, c.Msip())
			}
		}
	}
}

func TestHalfIsWrittenAlone(t *testing.T) {
	for _, x := range []struct {
		off     uint64
		compare uint64
		now     uint64
	}{
		{0x4000, 0x11111111_99999999, 0x22222222_22222222},
		{0x4004, 0x99999999_11111111, 0x22222222_22222222},
		{0xbff8, 0x11111111_11111111, 0x22222222_99999999},
		{0xbffc, 0x11111111_11111111, 0x99999999_22222222},
	} {
		c := made(t, 1, 0x11111111_11111111, 0x22222222_22222222)
		if !c.Write(x.off, 4, 0x77777777_99999999) || c != made(t, 1, x.compare, x.now) {
			t.Errorf("Write(%#x, 4, ..) leaves %+v", x.off, c)
		}
	}
}

// P4.3

func TestTickAndTime(t *testing.T) {
	for _, now := range some {
		for _, n := range some {
			c := made(t, now, n, now)
			c.Tick(n)
			if c != made(t, now, n, now+n) || c.Time() != now+n {
				t.Errorf("Tick(%#x) at %#x: %+v", n, now, c)
			}
		}
	}
	c := made(t, 0, 0, last)
	c.Tick(1)
	if c.Time() != 0 {
		t.Errorf("one tick behind the last time is %#x", c.Time())
	}
	c.Tick(last)
	c.Tick(last)
	if c.Time() != last-1 {
		t.Errorf("twice all ticks is %#x", c.Time())
	}
}

func TestMtip(t *testing.T) {
	for _, x := range []struct {
		compare, now uint64
		want         bool
	}{
		{0, 0, true}, {1, 0, false}, {1, 1, true}, {1, 2, true}, {0, last, true}, {last, last, true}, {last, last - 1, false}, {last, 0, false},
		{1 << 63, 1<<63 - 1, false}, {1<<63 - 1, 1 << 63, true}, {1 << 63, 1 << 63, true}, {1 << 63, 1, false}, {1, 1 << 63, true}, {1 << 63, last, true},
		{1 << 32, 1<<32 - 1, false}, {1<<32 - 1, 1 << 32, true}, {1<<32 + 5, 6, false}, {6, 1 << 32, true}, {1<<32 + 5, 1<<32 + 5, true},
	} {
		if c := made(t, 0, x.compare, x.now); c.Mtip() != x.want {
			t.Errorf("Mtip of %#x, at %#x, is %v", x.compare, x.now, c.Mtip())
		}
	}
	for _, compare := range some {
		for _, now := range some {
			if c := made(t, 1, compare, now); c.Mtip() != (now >= compare) {
				t.Errorf("Mtip of %#x, at %#x, is %v", compare, now, c.Mtip())
			}
		}
	}
}

func TestMsipIsTheSoftwareWordAlone(t *testing.T) {
	for _, compare := range some {
		for _, now := range some {
			if made(t, 0, compare, now).Msip() || !made(t, 1, compare, now).Msip() {
				t.Errorf("Msip hangs on the times %#x, %#x", compare, now)
			}
		}
	}
}

// P4.4

func TestNil(t *testing.T) {
	var none *Clint
	for _, p := range places {
		if none.Write(p.off, p.n, 1) {
			t.Errorf("Write(%#x, %d, 1) of nil is true", p.off, p.n)
		}
	}
	if none.Write(1, 1, 1) || none.Write(last, -1, 1) {
		t.Error("Write of no place of nil is true")
	}
	none.Tick(0)
	none.Tick(last)
	write, tick := (*Clint).Write, (*Clint).Tick
	if write(nil, 0, 4, 1) {
		t.Error("Write of nil is true")
	}
	tick(nil, 1)
}

func TestZero(t *testing.T) {
	var c Clint
	modelOf(0, 0, 0).holds(t, c, "zero")
	if !c.Mtip() || c != made(t, 0, 0, 0) || c == New() {
		t.Errorf("the zero clint is %+v", c)
	}
	c.Tick(7)
	modelOf(0, 0, 7).holds(t, c, "zero, 7 ticks on")
	if !c.Write(0x4000, 8, last) || !c.Write(0xbff8, 8, 0) || c != New() {
		t.Error("the zero clint does not become a new one")
	}
}

func TestEqual(t *testing.T) {
	var l []Clint
	var numbers [][3]uint64
	for _, soft := range []uint64{0, 1} {
		for _, compare := range some {
			for _, now := range some {
				l = append(l, made(t, soft, compare, now))
				numbers = append(numbers, [3]uint64{soft, compare, now})
			}
		}
	}
	for i := range l {
		for k := range l {
			if (l[i] == l[k]) != (numbers[i] == numbers[k]) {
				t.Fatalf("%x and %x: == is %v", numbers[i], numbers[k], l[i] == l[k])
			}
		}
	}
}

func TestEqualOnWhateverWay(t *testing.T) {
	a, b := New(), Clint{}
	a.Tick(5)
	a.Write(0, 4, last)
	a.Write(0, 4, 6)
	a.Write(0x4000, 8, 1<<32+9)
	a.Write(0xbffc, 4, 3)
	b.Write(0xbff8, 8, 3<<32+4)
	b.Tick(1)
	b.Write(0x4004, 4, 1)
	b.Write(0x4000, 4, 7<<32+9)
	if a != b {
		t.Errorf("%+v and %+v", a, b)
	}
	b.Write(0, 4, 1)
	if a == b {
		t.Error("equal with two software words")
	}
	a.Write(0, 4, 9)
	if a != b {
		t.Error("not equal with one software word, written as 1 and as 9")
	}
}

func TestCopyGoesItsOwnWay(t *testing.T) {
	c := made(t, 0, 10, 3)
	d := c
	d.Tick(7)
	d.Write(0, 4, 1)
	d.Write(0x4004, 4, 2)
	modelOf(0, 10, 3).holds(t, c, "the first one")
	modelOf(1, 2<<32+10, 10).holds(t, d, "its copy")
	c.Tick(1)
	c.Write(0x4000, 8, 0)
	modelOf(0, 0, 4).holds(t, c, "the first one, behind its copy")
	modelOf(1, 2<<32+10, 10).holds(t, d, "its copy, behind the first one")
}

// P4.5

func TestWhatWasWrittenIsRead(t *testing.T) {
	for _, v := range some {
		for _, off := range []uint64{0x4000, 0xbff8} {
			halves, all := New(), New()
			if !all.Write(off, 8, v) || !halves.Write(off, 4, v) || !halves.Write(off+4, 4, v>>32) || all != halves {
				t.Errorf("%#x, written at %#x whole and in halves: %+v and %+v", v, off, all, halves)
			}
			if low, ok := all.Read(off, 4); low != v%(1<<32) || !ok {
				t.Errorf("the lower half of %#x is %#x", v, low)
			}
			if up, ok := all.Read(off+4, 4); up != v/(1<<32) || !ok {
				t.Errorf("the upper half of %#x is %#x", v, up)
			}
			if got, ok := halves.Read(off, 8); got != v || !ok {
				t.Errorf("%#x, written in halves, is %#x", v, got)
			}
		}
	}
}

func TestTicksAdd(t *testing.T) {
	for _, n := range some {
		for _, m := range some {
			a, b := made(t, 1, n, m), made(t, 1, n, m)
			a.Tick(n)
			a.Tick(m)
			b.Tick(n + m)
			if a != b {
				t.Errorf("ticks of %#x and %#x: %+v and %+v", n, m, a, b)
			}
		}
	}
}

func TestMtipStays(t *testing.T) {
	for _, compare := range some {
		for _, n := range []uint64{0, 1, 2, 1 << 31, 1 << 60} {
			c := made(t, 0, compare, compare)
			for range 40 {
				if !c.Mtip() {
					t.Fatalf("Mtip of %#x is false at %#x", compare, c.Time())
				}
				if n > last-c.Time() {
					break
				}
				c.Tick(n)
				c.Write(0, 4, c.Time())
			}
		}
	}
	c := made(t, 0, 5, last)
	if c.Tick(1); c.Mtip() {
		t.Error("Mtip is true behind the last time")
	}
	c = made(t, 0, 5, 9)
	if c.Write(0x4000, 4, 10); c.Mtip() {
		t.Error("Mtip is true ahead of another time to compare with")
	}
	if c.Write(0xbff8, 4, 10); !c.Mtip() {
		t.Error("Mtip is false at another time")
	}
	if c.Write(0xbff8, 4, 9); c.Mtip() {
		t.Error("Mtip is true at a time that was put back")
	}
}

func TestManyCallsAgainstTheModel(t *testing.T) {
	r := chance(0x9e3779b97f4a7c15)
	for range 50 {
		c, m := New(), modelOf(0, last, 0)
		for range 400 {
			v := some[r.below(len(some))]
			if r.below(2) == 0 {
				v = r.next() >> r.below(64)
			}
			switch r.below(4) {
			case 0:
				c.Tick(v)
				m.put(0xbff8, 8, m.number(0xbff8, 8)+v)
			case 1:
				off, n := r.next()>>48, lengths[r.below(len(lengths))]
				if ok := c.Write(off, n, v); ok != isPlace(off, n) {
					t.Fatalf("Write(%#x, %d, %#x) is %v", off, n, v, ok)
				} else if ok {
					m.put(off, n, v)
				}
			default:
				p := places[r.below(len(places))]
				if !c.Write(p.off, p.n, v) {
					t.Fatalf("Write(%#x, %d, %#x) is false", p.off, p.n, v)
				}
				m.put(p.off, p.n, v)
			}
			m.holds(t, c, "on the way")
		}
	}
}
