package uart

import (
	"bytes"
	"math"
	"slices"
	"testing"
)

const last uint64 = math.MaxUint64

// The calls have the receivers of the chapter.
var (
	_ func() *Uart                            = New
	_ func(*Uart, uint64, int) (uint64, bool) = (*Uart).Read
	_ func(*Uart, uint64, int, uint64) bool   = (*Uart).Write
	_ func(*Uart, byte) bool                  = (*Uart).Feed
	_ func(*Uart) int                         = (*Uart).Waiting
	_ func(*Uart) []byte                      = (*Uart).Out
	_ func(*Uart) bool                        = (*Uart).Line
	_ func(*Uart) *Uart                       = (*Uart).Twin
	_ func(*Uart, *Uart) bool                 = Same
)

// lengths are how many bytes may be asked for, and may not.
var lengths = []int{math.MinInt, math.MinInt + 1, math.MinInt32, -8, -2, -1, 0, 1, 2, 3, 4, 5, 7, 8, 9, 16, 64, 256 + 1, 1<<16 + 1, 1<<32 + 1, math.MaxInt - 1, math.MaxInt}

// anyOffsets are all at and about the places, and ones that come to a place only if they are cut or go round.
func anyOffsets() []uint64 {
	var l []uint64
	for off := range uint64(300) {
		l = append(l, off, last-off)
	}
	for off := range uint64(12) {
		for _, far := range []uint64{1 << 12, 1 << 16, 1 << 31, 1 << 32, 1 << 48, 1 << 63, last - 0xff, 0x10000000} {
			l = append(l, far+off)
		}
	}
	return l
}

// isPlace says whether there is such a place.
func isPlace(off uint64, n int) bool { return off <= 7 && n == 1 }

// model is a uart's registers as numbers, and its bytes as lists.
type model struct {
	ier, fcr, lcr, mcr, scr, dll, dlm uint64
	lost, sent                        bool
	in, out                           []byte
}

// twin is another model of the same.
func (m *model) twin() *model {
	t := *m
	t.in, t.out = slices.Clone(m.in), slices.Clone(m.out)
	return &t
}

// same says whether two models have the same.
func same(a, b *model) bool {
	return a.ier == b.ier && a.fcr == b.fcr && a.lcr == b.lcr && a.mcr == b.mcr && a.scr == b.scr && a.dll == b.dll && a.dlm == b.dlm &&
		a.lost == b.lost && a.sent == b.sent && string(a.in) == string(b.in) && string(a.out) == string(b.out)
}

func (m *model) feed(b byte) bool {
	if len(m.in) == 16 {
		m.lost = true
		return false
	}
	m.in = append(m.in, b)
	return true
}

// reason is 4, 2, or 1 if there is none.
func (m *model) reason() uint64 {
	if m.ier%2 == 1 && len(m.in) > 0 {
		return 4
	}
	if m.ier/2%2 == 1 && m.sent {
		return 2
	}
	return 1
}

func (m *model) line() bool { return m.reason() != 1 }

func (m *model) read(off uint64) uint64 {
	over := m.lcr >= 128
	switch {
	case off == 0 && over:
		return m.dll
	case off == 1 && over:
		return m.dlm
	case off == 0:
		if len(m.in) == 0 {
			return 0
		}
		b := m.in[0]
		m.in = slices.Clone(m.in[1:])
		return uint64(b)
	case off == 5:
		v := uint64(0x60)
		if len(m.in) > 0 {
			v++
		}
		if m.lost {
			v += 2
		}
		m.lost = false
		return v
	case off == 2:
		r := m.reason()
		if r == 2 {
			m.sent = false
		}
		return r + 0xc0*m.fcr
	}
	return map[uint64]uint64{1: m.ier, 3: m.lcr, 4: m.mcr, 6: 0xb0, 7: m.scr}[off]
}

func (m *model) write(off, v uint64) {
	b := v % 256
	over := m.lcr >= 128
	switch {
	case off == 0 && over:
		m.dll = b
	case off == 1 && over:
		m.dlm = b
	case off == 0:
		if len(m.out) < 65536 {
			m.out = append(m.out, byte(b))
		}
		m.sent = true
	case off == 1:
		if m.ier/2%2 == 0 && b/2%2 == 1 {
			m.sent = true
		}
		m.ier = b % 16
	case off == 2:
		m.fcr = b % 2
		if b/2%2 == 1 {
			m.in = nil
		}
	case off == 3:
		m.lcr = b
	case off == 4:
		m.mcr = b % 32
	case off == 7:
		m.scr = b
	}
}

// made is a uart that has what m has, by a way of its own.
func (m *model) made(t *testing.T) *Uart {
	t.Helper()
	u := New()
	if m.lost {
		for range 17 {
			u.Feed(1)
		}
	}
	write(t, u, 2, 2)
	for _, b := range m.out {
		u.Write(0, 1, uint64(b))
	}
	write(t, u, 1, 2)
	reads(t, u, 2, 2)
	if m.sent {
		write(t, u, 1, 0)
		write(t, u, 1, 2)
	}
	write(t, u, 1, m.ier)
	write(t, u, 3, 0x80)
	write(t, u, 0, m.dll)
	write(t, u, 1, m.dlm)
	write(t, u, 2, m.fcr)
	write(t, u, 4, m.mcr)
	write(t, u, 7, m.scr)
	write(t, u, 3, m.lcr)
	for _, b := range m.in {
		if !u.Feed(b) {
			t.Fatal("a byte is lost, though there is room")
		}
	}
	return u
}

// holds says whether u tells all that m does. Twins are asked, so that u stays as it is.
func (m *model) holds(t *testing.T, u *Uart, when string) {
	t.Helper()
	m.tells(t, u, when)
	over, plain := m.twin(), m.twin()
	a, b := u.Twin(), u.Twin()
	write(t, a, 3, 0x80)
	over.write(3, 0x80)
	over.tells(t, a, when+", overlaid")
	write(t, b, 3, 0)
	plain.write(3, 0)
	plain.tells(t, b, when+", not overlaid")
	for range 18 {
		reads(t, b, 0, plain.read(0))
	}
	plain.tells(t, b, when+", all of it read")
	if !Same(u, m.made(t)) || !Same(m.made(t), u) {
		t.Fatalf("%s: it is not the same as one that was made so: %+v and %+v", when, u, m)
	}
}

// tells says whether u tells all that m does as LCR stands.
func (m *model) tells(t *testing.T, u *Uart, when string) {
	t.Helper()
	if u.Waiting() != len(m.in) || u.Line() != m.line() || !bytes.Equal(u.Out(), m.out) {
		t.Fatalf("%s: Waiting %d, Line %v, Out %q, not %d, %v, %q", when, u.Waiting(), u.Line(), u.Out(), len(m.in), m.line(), m.out)
	}
	for off := range uint64(8) {
		v, n := u.Twin(), m.twin()
		for i := range 3 {
			want := n.read(off)
			if got, ok := v.Read(off, 1); got != want || !ok || v.Line() != n.line() || v.Waiting() != len(n.in) {
				t.Fatalf("%s: Read(%d, 1), done %d times before, is %#x, %v, not %#x; then Line %v, Waiting %d", when, off, i, got, ok, want, v.Line(), v.Waiting())
			}
		}
	}
}

func write(t *testing.T, u *Uart, off, v uint64) {
	t.Helper()
	if !u.Write(off, 1, v) {
		t.Fatalf("Write(%d, 1, %#x) is false", off, v)
	}
}

func reads(t *testing.T, u *Uart, off, want uint64) {
	t.Helper()
	if got, ok := u.Read(off, 1); got != want || !ok {
		t.Fatalf("Read(%d, 1) is %#x, %v, not %#x", off, got, ok, want)
	}
}

func is(t *testing.T, what string, got, want bool) {
	t.Helper()
	if got != want {
		t.Fatalf("%s is %v", what, got)
	}
}

func outIs(t *testing.T, u *Uart, want string) {
	t.Helper()
	if string(u.Out()) != want {
		t.Fatalf("Out is %q, not %q", u.Out(), want)
	}
}

// chance is numbers without an order, the same ones in each run.
type chance uint64

func (c *chance) next() uint64 {
	x := uint64(*c)
	x ^= x << 13
	x ^= x >> 7
	x ^= x << 17
	*c = chance(x)
	return x
}

func (c *chance) below(n int) int { return int(c.next() >> 11 % uint64(n)) }

const seed = chance(0x9e3779b97f4a7c15)

// act does to u and m the same, and holds what u answers against m.
func (c *chance) act(t *testing.T, u *Uart, m *model) {
	t.Helper()
	off, v := uint64(c.below(8)), c.next()
	switch k := c.below(12); {
	case k < 4:
		if got, want := u.Feed(byte(v)), m.feed(byte(v)); got != want {
			t.Fatalf("Feed is %v", got)
		}
	case k < 7:
		reads(t, u, off, m.read(off))
	default:
		// Bytes are taken away, and the first places overlaid, less often than not, so that there is much of all.
		if off == 2 && c.below(4) > 0 {
			v &^= 2
		}
		if off == 3 && c.below(3) > 0 {
			v &^= 0x80
		}
		write(t, u, off, v)
		m.write(off, v)
	}
}

// any is a uart to which much was done, and what it has.
func (c *chance) any(t *testing.T) (*Uart, *model) {
	t.Helper()
	u, m := New(), &model{}
	for range 20 + c.below(60) {
		c.act(t, u, m)
	}
	return u, m
}

// several are models of all marks, of no byte, some, and all that there is room for, each with a few registers.
func several() []*model {
	var l []*model
	for _, in := range []string{"", "a", "xyz", "0123456789abcdef"} {
		for marks := range 4 {
			for ier := range uint64(4) {
				for _, lcr := range []uint64{0x03, 0x83} {
					l = append(l, &model{ier: ier + 12, fcr: ier % 2, lcr: lcr, mcr: 0x15, scr: 0xc3, dll: 0x9a, dlm: 0x5b, lost: marks%2 == 1, sent: marks/2 == 1, in: []byte(in), out: []byte("told")})
				}
			}
		}
	}
	return l
}

// The chapter's examples

func TestExamplesOfTheChapter(t *testing.T) {
	u := New()
	is(t, "Feed(65)", u.Feed(65), true)
	is(t, "Line", u.Line(), false)
	is(t, "Write(1, 1, 1)", u.Write(1, 1, 1), true)
	is(t, "Line", u.Line(), true)
	reads(t, u, 2, 4)
	reads(t, u, 5, 0x61)
	reads(t, u, 0, 65)
	reads(t, u, 0, 0)
	reads(t, u, 2, 1)

	is(t, "Write(0, 1, 0x16b)", u.Write(0, 1, 0x16b), true)
	outIs(t, u, "k")
	is(t, "Line", u.Line(), false)
	is(t, "Write(1, 1, 2)", u.Write(1, 1, 2), true)
	is(t, "Line", u.Line(), true)
	reads(t, u, 2, 2)
	reads(t, u, 2, 1)

	is(t, "Write(3, 1, 0x83)", u.Write(3, 1, 0x83), true)
	is(t, "Write(0, 1, 9)", u.Write(0, 1, 9), true)
	reads(t, u, 0, 9)
	outIs(t, u, "k")
	is(t, "Write(3, 1, 3)", u.Write(3, 1, 3), true)
	reads(t, u, 0, 0)

	for _, v := range []*Uart{u, New()} {
		for i := range 17 {
			is(t, "Feed", v.Feed(byte(i)), i < 16)
		}
		reads(t, v, 5, 0x63)
		reads(t, v, 5, 0x61)
		is(t, "Write(2, 1, 3)", v.Write(2, 1, 3), true)
		if v.Waiting() != 0 {
			t.Fatalf("Waiting is %d", v.Waiting())
		}
		reads(t, v, 2, 0xc1)

		for _, x := range []struct {
			off uint64
			n   int
		}{{8, 1}, {0, 4}} {
			if got, ok := v.Read(x.off, x.n); got != 0 || ok {
				t.Errorf("Read(%d, %d) is %#x, %v", x.off, x.n, got, ok)
			}
		}
		is(t, "Write(0, 8, 1)", v.Write(0, 8, 1), false)
	}
}

// P6.1

func TestNew(t *testing.T) {
	u := New()
	(&model{}).holds(t, u, "New")
	if u == New() || !Same(u, New()) {
		t.Error("two new uarts are one, or not the same")
	}
	for off, want := range []uint64{0, 0, 1, 0, 0, 0x60, 0xb0, 0} {
		reads(t, u, uint64(off), want)
	}
	write(t, u, 3, 0x80)
	reads(t, u, 0, 0)
	reads(t, u, 1, 0)
}

func TestFeedAndWaiting(t *testing.T) {
	u, m := New(), &model{}
	for i := range 40 {
		if got := u.Feed(byte(200 + i)); got != (i < 16) || u.Waiting() != min(i+1, 16) {
			t.Fatalf("the byte %d: Feed %v, Waiting %d", i, got, u.Waiting())
		}
		m.feed(byte(200 + i))
		m.holds(t, u, "behind Feed")
	}
	for i := range 20 {
		want := 0
		if i < 16 {
			want = 200 + i
		}
		if reads(t, u, 0, uint64(want)); u.Waiting() != max(15-i, 0) {
			t.Fatalf("the byte %d is read: Waiting %d", i, u.Waiting())
		}
	}
	reads(t, u, 5, 0x62)
}

// One byte that is read makes room for just one.
func TestFeedWhenFull(t *testing.T) {
	u := New()
	for i := range 16 {
		u.Feed(byte(i))
	}
	for i := range 300 {
		is(t, "Feed of a full uart", u.Feed(99), false)
		reads(t, u, 5, 0x63)
		reads(t, u, 0, uint64(byte(i)))
		is(t, "Feed of one with room", u.Feed(byte(i+16)), true)
		reads(t, u, 5, 0x61)
	}
}

func TestEveryByteComesIn(t *testing.T) {
	for b := range 256 {
		u := New()
		is(t, "Feed", u.Feed(byte(b)), true)
		reads(t, u, 5, 0x61)
		reads(t, u, 0, uint64(b))
		reads(t, u, 5, 0x60)
	}
}

func TestLine(t *testing.T) {
	for ier := range uint64(16) {
		for _, in := range []bool{false, true} {
			for _, sent := range []bool{false, true} {
				m := &model{ier: ier, sent: sent}
				if in {
					m.in = []byte{0}
				}
				u := m.made(t)
				cameIn, wasSent := ier%2 == 1 && in, ier/2%2 == 1 && sent
				want := uint64(1)
				if wasSent {
					want = 2
				}
				if cameIn {
					want = 4
				}
				is(t, "Line", u.Line(), cameIn || wasSent)
				reads(t, u, 2, want)
				// Just the number 2 takes the mark away.
				m.sent = m.sent && want != 2
				m.holds(t, u, "behind the reason")
			}
		}
	}
}

// P6.2

func TestReadOfEveryOffset(t *testing.T) {
	for _, m := range several() {
		u := m.made(t)
		m.holds(t, u, "as it was made")
		for _, off := range anyOffsets() {
			for _, n := range lengths {
				if isPlace(off, n) {
					continue
				}
				if got, ok := u.Read(off, n); got != 0 || ok {
					t.Fatalf("Read(%#x, %d) is %#x, %v", off, n, got, ok)
				}
			}
		}
		m.holds(t, u, "behind reading what is no place")
		for off := range uint64(8) {
			v, then := u.Twin(), m.twin()
			reads(t, v, off, then.read(off))
			then.holds(t, v, "behind a read")
		}
	}
}

func TestReadOfTheStatus(t *testing.T) {
	for _, m := range several() {
		u := m.made(t)
		want := uint64(0x60)
		if len(m.in) > 0 {
			want |= 1
		}
		first := want
		if m.lost {
			first |= 2
		}
		reads(t, u, 5, first)
		reads(t, u, 5, want)
		u.Write(3, 1, 0)
		for range m.in {
			u.Read(0, 1)
		}
		reads(t, u, 5, 0x60)
	}
}

// The mark lost stays, whatever is done to what came in, until it is told.
func TestLostStaysTillItIsTold(t *testing.T) {
	u := New()
	for range 17 {
		u.Feed(1)
	}
	for range 16 {
		reads(t, u, 0, 1)
	}
	write(t, u, 2, 3)
	u.Feed(2)
	for off := range uint64(8) {
		if off != 5 {
			u.Read(off, 1)
			u.Write(off, 1, 0)
		}
		u.Write(5, 1, 0)
	}
	reads(t, u, 5, 0x62)
	reads(t, u, 5, 0x60)
}

func TestReadOfTheReasonWithAFifo(t *testing.T) {
	for fcr, more := range []uint64{0, 0xc0} {
		u := New()
		write(t, u, 2, uint64(fcr))
		reads(t, u, 2, 1+more)
		write(t, u, 1, 3)
		u.Feed(7)
		// The reason that goes ahead leaves the mark sent as it is.
		reads(t, u, 2, 4+more)
		reads(t, u, 2, 4+more)
		reads(t, u, 0, 7)
		is(t, "Line", u.Line(), true)
		reads(t, u, 2, 2+more)
		is(t, "Line", u.Line(), false)
		reads(t, u, 2, 1+more)
	}
}

// P6.3

func TestWriteOfNoPlace(t *testing.T) {
	for _, m := range several() {
		u := m.made(t)
		as := u.Twin()
		for _, off := range anyOffsets() {
			for _, n := range lengths {
				if isPlace(off, n) {
					continue
				}
				for _, v := range []uint64{0, 3, last} {
					if u.Write(off, n, v) || u.Waiting() != len(m.in) {
						t.Fatalf("Write(%#x, %d, %#x) is done", off, n, v)
					}
				}
			}
		}
		if !Same(u, as) {
			t.Fatal("writing what is no place changes something")
		}
		m.holds(t, u, "behind writing what is no place")
	}
}

func TestWriteOfEveryByte(t *testing.T) {
	for i, m := range several() {
		// All bytes where much differs, a few of them elsewhere.
		step := uint64(37)
		if i%13 == 0 {
			step = 1
		}
		for off := range uint64(8) {
			for b := uint64(0); b < 256; b += step {
				u, then := m.made(t), m.twin()
				write(t, u, off, b)
				then.write(off, b)
				then.tells(t, u, "behind a write")
				if !Same(u, then.made(t)) {
					t.Fatalf("Write(%d, 1, %#x) leaves something else", off, b)
				}
				for _, far := range []uint64{1 << 8, 1 << 31, 1 << 32, 1 << 63, last - 255} {
					v := m.made(t)
					if write(t, v, off, far+b); !Same(u, v) {
						t.Fatalf("Write(%d, 1, %#x) is not as Write(%d, 1, %#x)", off, far+b, off, b)
					}
				}
			}
		}
	}
}

func TestWriteKeepsWhatItMay(t *testing.T) {
	for b := range uint64(256) {
		u := New()
		for off, want := range map[uint64]uint64{1: b % 16, 4: b % 32, 5: 0x60, 6: 0xb0, 7: b} {
			write(t, u, off, b)
			reads(t, u, off, want)
		}
		// Of FCR the bit 0 alone is seen.
		u = New()
		write(t, u, 2, b)
		reads(t, u, 2, 1+b%2*0xc0)
		other := New()
		write(t, other, 2, b%2)
		is(t, "Same, with one FCR", Same(u, other), true)
		// LCR comes last, since it lays the two over the others.
		write(t, u, 3, b)
		reads(t, u, 3, b)
		write(t, u, 3, 0x80)
		write(t, u, 0, b)
		write(t, u, 1, ^b)
		reads(t, u, 0, b)
		reads(t, u, 1, 255-b)
		write(t, u, 3, 0x7f)
		reads(t, u, 0, 0)
		reads(t, u, 1, 0)
		outIs(t, u, "")
		is(t, "Line", u.Line(), false)
	}
}

// Both lie at one offset, and neither touches the other.
func TestOverlaidRegistersAreTheirOwn(t *testing.T) {
	u := New()
	u.Feed(33)
	write(t, u, 1, 5)
	write(t, u, 3, 0x80)
	write(t, u, 0, 0xd1)
	write(t, u, 1, 0xd2)
	reads(t, u, 0, 0xd1)
	reads(t, u, 0, 0xd1)
	reads(t, u, 1, 0xd2)
	reads(t, u, 2, 4)
	write(t, u, 3, 0)
	reads(t, u, 1, 5)
	reads(t, u, 0, 33)
	write(t, u, 0, 34)
	write(t, u, 1, 9)
	outIs(t, u, "\x22")
	write(t, u, 3, 0xff)
	reads(t, u, 0, 0xd1)
	reads(t, u, 1, 0xd2)
	write(t, u, 3, 0x7f)
	reads(t, u, 1, 9)
}

// The mark sent is set by a byte and by IER's bit 1 that comes up, and by nothing else.
func TestMarkSent(t *testing.T) {
	for _, before := range []uint64{0, 1, 2, 3, 13, 14, 15} {
		for _, b := range []uint64{0, 1, 2, 3, 4, 12, 14, 0xf0, 0xf2, 0xff} {
			m := &model{ier: before}
			u := m.made(t)
			write(t, u, 1, b)
			if rises := before&2 == 0 && b&2 != 0; u.Line() != rises {
				t.Errorf("IER was %d and became %#x: Line %v", before, b, u.Line())
			}
			// One that fell again is remembered, until it is told.
			write(t, u, 1, 0)
			is(t, "Line", u.Line(), false)
			m.ier, m.sent = 0, before&2 == 0 && b&2 != 0
			m.holds(t, u, "behind IER")
		}
	}
	u := New()
	write(t, u, 1, 2)
	reads(t, u, 2, 2)
	for off := range uint64(8) {
		if off > 1 && off != 3 {
			write(t, u, off, last)
		}
		u.Read(off, 1)
		u.Feed(1)
	}
	is(t, "Line of nothing sent", u.Line(), false)
	write(t, u, 0, 0)
	is(t, "Line of a byte", u.Line(), true)
	reads(t, u, 2, 0xc2)
	is(t, "Line of what was told", u.Line(), false)
}

func TestNoMoreThanMaxOutIsSent(t *testing.T) {
	u := New()
	write(t, u, 1, 2)
	want := make([]byte, 65536)
	for i := range want {
		want[i] = byte(i * 7 / 3)
		write(t, u, 0, uint64(want[i]))
		if i == 65534 && len(u.Out()) != 65535 {
			t.Fatalf("%d bytes are sent", len(u.Out()))
		}
	}
	if !bytes.Equal(u.Out(), want) {
		t.Fatal("what is sent is not what was written")
	}
	full := u.Twin()
	for i := range 3 {
		reads(t, u, 2, 2)
		is(t, "Line", u.Line(), false)
		if write(t, u, 0, uint64(i)); !bytes.Equal(u.Out(), want) {
			t.Fatal("more than MaxOut bytes are sent")
		}
		is(t, "Line behind a byte without room", u.Line(), true)
		is(t, "Same, whatever has no room", Same(u, full), true)
	}
}

func TestWhatCameInIsTakenAway(t *testing.T) {
	for n := range 20 {
		for b := range uint64(256) {
			u := New()
			for i := range n {
				u.Feed(byte(i + 1))
			}
			write(t, u, 2, b)
			want := min(n, 16)
			if b/2%2 == 1 {
				want = 0
			}
			if u.Waiting() != want {
				t.Fatalf("of %d bytes Write(2, 1, %#x) leaves %d", n, b, u.Waiting())
			}
			if want == 0 {
				reads(t, u, 0, 0)
				u.Feed(77)
				reads(t, u, 0, 77)
			}
		}
	}
}

// P6.4

func TestTwinGoesItsOwnWay(t *testing.T) {
	c := seed
	for range 60 {
		u, m := c.any(t)
		v, n := u.Twin(), m.twin()
		is(t, "Same of a twin", Same(u, v), true)
		n.holds(t, v, "a twin")
		for range 40 {
			c.act(t, v, n)
			m.tells(t, u, "while its twin goes on")
			c.act(t, u, m)
			n.tells(t, v, "a twin, while the first one goes on")
			is(t, "Same, as both go on", Same(u, v), same(m, n))
		}
		m.holds(t, u, "the first one")
		n.holds(t, v, "its twin")
	}
}

// Both put another byte behind the same ones.
func TestTwinsShareNoRoom(t *testing.T) {
	for n := range 16 {
		u := New()
		for i := range 9 {
			u.Feed(0)
			write(t, u, 0, uint64(i+48))
		}
		for range 9 {
			reads(t, u, 0, 0)
		}
		for i := range n {
			u.Feed(byte(i))
		}
		v := u.Twin()
		u.Feed(100)
		v.Feed(200)
		write(t, u, 0, 'u')
		write(t, v, 0, 'v')
		outIs(t, u, "012345678u")
		outIs(t, v, "012345678v")
		for i := range n {
			reads(t, u, 0, uint64(i))
			reads(t, v, 0, uint64(i))
		}
		reads(t, u, 0, 100)
		reads(t, v, 0, 200)
	}
}

func TestSame(t *testing.T) {
	var uarts []*Uart
	var models []*model
	c := seed
	for range 25 {
		_, m := c.any(t)
		for _, change := range changes() {
			n := m.twin()
			change(n)
			uarts, models = append(uarts, n.made(t)), append(models, n)
		}
	}
	for i := range uarts {
		for k := range uarts {
			if Same(uarts[i], uarts[k]) != same(models[i], models[k]) {
				t.Fatalf("Same of %+v and %+v is %v", models[i], models[k], Same(uarts[i], uarts[k]))
			}
		}
		is(t, "Same of it and none", Same(uarts[i], nil), false)
		is(t, "Same of none and it", Same(nil, uarts[i]), false)
	}
	is(t, "Same of none and none", Same(nil, nil), true)
}

func TestUnequalInOneThing(t *testing.T) {
	c := seed
	for range 20 {
		u, m := c.any(t)
		for i, change := range changes() {
			n := m.twin()
			change(n)
			v := n.made(t)
			if Same(u, v) != (i == 0) || Same(v, u) != (i == 0) {
				t.Fatalf("the change %d of %+v", i, m)
			}
		}
	}
}

// changes are what leaves a model as it is, and what makes it another in one thing.
func changes() []func(*model) {
	l := []func(*model){
		func(*model) {},
		func(m *model) { m.fcr = 1 - m.fcr },
		func(m *model) { m.lost = !m.lost },
		func(m *model) { m.sent = !m.sent },
		func(m *model) { m.out = append(m.out, 0) },
		func(m *model) { m.out = append([]byte{0}, m.out...) },
		func(m *model) {
			if len(m.in) == 0 {
				m.in = []byte{0}
			} else {
				m.in = m.in[1:]
			}
		},
		func(m *model) {
			if len(m.in) == 0 {
				m.in = []byte{255}
			} else {
				m.in[len(m.in)-1] ^= 1
			}
		},
	}
	for bit := range 8 {
		l = append(l,
			func(m *model) { m.lcr ^= 1 << bit },
			func(m *model) { m.scr ^= 1 << bit },
			func(m *model) { m.dll ^= 1 << bit },
			func(m *model) { m.dlm ^= 1 << bit })
		if bit < 5 {
			l = append(l, func(m *model) { m.mcr ^= 1 << bit })
		}
		if bit < 4 {
			l = append(l, func(m *model) { m.ier ^= 1 << bit })
		}
	}
	return l
}

// P6.5

func TestNilUart(t *testing.T) {
	var u *Uart
	for _, off := range anyOffsets() {
		for _, n := range lengths {
			if got, ok := u.Read(off, n); got != 0 || ok || u.Write(off, n, 1) {
				t.Fatalf("a nil uart has the place %#x, %d", off, n)
			}
		}
	}
	is(t, "Feed", u.Feed(1), false)
	is(t, "Line", u.Line(), false)
	if u.Waiting() != 0 || len(u.Out()) != 0 || u.Twin() != nil {
		t.Errorf("a nil uart has %d, %q, %v", u.Waiting(), u.Out(), u.Twin())
	}
}

// One that New did not make is as a new one.
func TestZeroUart(t *testing.T) {
	(&model{}).holds(t, &Uart{}, "the zero one")
	u, m := &Uart{}, &model{}
	c := seed
	for range 300 {
		c.act(t, u, m)
	}
	m.holds(t, u, "the zero one, later")
}

func TestWhatIsToldIsNewMemory(t *testing.T) {
	for n := range 40 {
		u := New()
		var want string
		for i := range n {
			write(t, u, 0, uint64(i+33))
			want += string(rune(i + 33))
		}
		a, b := u.Out(), u.Out()
		for _, l := range [][]byte{a[:cap(a)], b[:cap(b)]} {
			for i := range l {
				l[i] = 1
			}
			outIs(t, u, want)
		}
		a = u.Out()
		clear(b[:cap(b)])
		if string(a) != want {
			t.Fatal("two answers share memory")
		}
		write(t, u, 0, 'x')
		outIs(t, u, want+"x")
		b = append(u.Out(), 'y')
		write(t, u, 0, 'z')
		if outIs(t, u, want+"xz"); string(a) != want || string(b) != want+"xy" {
			t.Fatal("an answer goes on as the uart does")
		}
	}
}

// P6.6

func TestManyCallsAgainstTheModel(t *testing.T) {
	c := seed
	for range 60 {
		u, m := New(), &model{}
		for range 300 {
			c.act(t, u, m)
			m.holds(t, u, "on the way")
		}
	}
}

// What was read, lost and taken away is counted here from what the calls say alone.
func TestWhatIsReadIsWhatCameIn(t *testing.T) {
	c := seed
	u := New()
	var came, told []byte
	var readHere, lost, dropped int
	for range 60000 {
		b := byte(c.next())
		switch k := c.below(40); {
		case k < 20:
			if u.Feed(b) {
				came = append(came, b)
			} else {
				lost++
			}
		case k < 33:
			waiting := u.Waiting()
			got, ok := u.Read(0, 1)
			if waiting != len(came) || !ok || waiting == 0 && got != 0 || waiting > 0 && got != uint64(came[0]) {
				t.Fatalf("Read(0, 1) is %#x, %v, of %q", got, ok, came)
			}
			if waiting > 0 {
				came = came[1:]
				readHere++
			}
		case k == 33:
			dropped += len(came)
			write(t, u, 2, c.next()|2)
			came = nil
		case k == 34:
			write(t, u, 2, c.next()&^2)
		case k == 35:
			write(t, u, 0, uint64(b))
			told = append(told, b)
		default:
			off := []uint64{1, 2, 4, 5, 6, 7}[c.below(6)]
			if c.below(2) == 0 {
				u.Read(off, 1)
			} else if off != 2 {
				u.Write(off, 1, c.next())
			}
		}
		if c.below(50) == 0 {
			outIs(t, u, string(told))
		}
	}
	outIs(t, u, string(told))
	if readHere < 10000 || lost < 1000 || dropped < 1000 || len(told) < 1000 {
		t.Fatalf("%d read, %d lost, %d taken away, %d told alone", readHere, lost, dropped, len(told))
	}
}

func TestWhatWasSentOnlyGrows(t *testing.T) {
	c := seed
	u, m := New(), &model{}
	var before []byte
	for range 20000 {
		c.act(t, u, m)
		now := u.Out()
		if !bytes.HasPrefix(now, before) || len(now) > len(before)+1 {
			t.Fatalf("%q was sent, then %q", before, now)
		}
		before = now
	}
	if len(before) < 500 {
		t.Fatalf("%d bytes are sent alone", len(before))
	}
}

func TestWhatChangesNothing(t *testing.T) {
	c := seed
	for range 200 {
		u, m := c.any(t)
		as := u.Twin()
		for _, off := range []uint64{3, 4, 6, 7} {
			if reads(t, u, off, m.read(off)); !Same(u, as) {
				t.Fatalf("Read(%d, 1) changes something", off)
			}
		}
		for _, off := range []uint64{5, 6} {
			for _, v := range []uint64{0, 1, 2, 3, 0x80, 0xff, c.next(), last} {
				if write(t, u, off, v); !Same(u, as) {
					t.Fatalf("Write(%d, 1, %#x) changes something", off, v)
				}
			}
		}
		u.Waiting()
		u.Out()
		u.Line()
		if u.Twin(); !Same(u, as) {
			t.Fatal("what is only asked changes something")
		}
		m.holds(t, u, "behind what changes nothing")
	}
}
