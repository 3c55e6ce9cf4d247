package bus

import (
	"bytes"
	"math"
	"testing"

	"mezzanine/api"
	"mezzanine/clint"
	"mezzanine/plic"
	"mezzanine/ram"
	"mezzanine/uart"
)

const last uint64 = math.MaxUint64

// The calls have the receivers of the chapter.
var (
	_ func(uint64, int) (*Bus, api.Errno)    = New
	_ func(*Bus, uint64, int) (uint64, bool) = (*Bus).Read
	_ func(*Bus, uint64, int, uint64) bool   = (*Bus).Write
	_ func(*Bus, uint64, int) bool           = (*Bus).IsRam
	_ func(*Bus) *ram.Ram                    = (*Bus).Ram
	_ func(*Bus, uint64)                     = (*Bus).Tick
	_ func(*Bus, int, byte) bool             = (*Bus).Feed
	_ func(*Bus, int, bool) bool             = (*Bus).Level
	_ func(*Bus, int) []byte                 = (*Bus).Out
	_ func(*Bus) api.Lines                   = (*Bus).Lines
	_ func(*Bus) *Bus                        = (*Bus).Twin
	_ func(*Bus, *Bus) bool                  = Same
)

// Where the regions begin, as numbers of the chapter.
const (
	clintAt = 0x02000000
	plicAt  = 0x0c000000
	uartAt  = 0x10000000
	ramAt   = 0x80000000
)

// lengths are how many bytes may be asked for, and may not.
var lengths = []int{math.MinInt, math.MinInt32, -8, -4, -2, -1, 0, 1, 2, 3, 4, 5, 6, 7, 8, 9, 16, 64, 256 + 1, 1<<16 + 4, 1<<32 + 1, 1<<32 + 8, math.MaxInt}

// numbers are what may stand for a uart, or a source, and may not.
func numbers() []int {
	l := []int{math.MinInt, math.MinInt + 1, math.MinInt + 10, math.MinInt32, math.MaxInt32, math.MaxInt - 9, math.MaxInt, 1 << 8, 1<<8 + 1, 1<<16 + 10, 1<<32 + 3, 1<<32 + 10, 1<<32 + 31}
	for i := -70; i < 100; i++ {
		l = append(l, i)
	}
	return l
}

// anyAddresses are all at and about the edges of regions and places, and ones that come to a place only if they are cut or go round.
func anyAddresses(size uint64) []uint64 {
	var l []uint64
	about := func(at uint64) {
		for d := range uint64(20) {
			l = append(l, at+d, at-d)
		}
	}
	edges := []uint64{0, clintAt, clintAt + 0x4000, clintAt + 0xbff8, clintAt + 0x10000, plicAt, plicAt + 0x80, plicAt + 0x1000, plicAt + 0x2000, plicAt + 0x2080, plicAt + 0x200000, plicAt + 0x201000, plicAt + 0x400000, ramAt, ramAt + 4096, ramAt + size, ramAt + size + 4096, ramAt + 1<<26}
	for i := range uint64(10) {
		edges = append(edges, uartAt+i*0x1000, uartAt+i*0x1000+0x800)
	}
	for _, at := range edges {
		about(at)
		about(at + 1<<32)
		about(at + 1<<63)
		about(-at)
	}
	return l
}

// model is the devices of a bus, each by itself.
type model struct {
	ram   *ram.Ram
	clint clint.Clint
	plic  plic.Plic
	uarts []*uart.Uart
}

func newModel(t *testing.T, size uint64, uarts int) *model {
	t.Helper()
	r, err := ram.New(ramAt, size)
	if err != api.OK {
		t.Fatalf("ram.New(.., %d) is %d", size, err)
	}
	m := &model{ram: r, clint: clint.New(), plic: plic.New()}
	for range uarts {
		m.uarts = append(m.uarts, uart.New())
	}
	return m
}

func (m *model) twin() *model {
	t := &model{ram: m.ram.Twin(), clint: m.clint, plic: m.plic}
	for _, u := range m.uarts {
		t.uarts = append(t.uarts, u.Twin())
	}
	return t
}

// drive tells the plic each uart's line.
func (m *model) drive() {
	for i, u := range m.uarts {
		m.plic.Level(10+i, u.Line())
	}
}

// uartOf is the number of the uart that has an address, and -1 if there is none.
func (m *model) uartOf(a uint64) int {
	for i := range m.uarts {
		if begin := uint64(uartAt + 0x1000*i); begin <= a && a <= begin+7 {
			return i
		}
	}
	return -1
}

func (m *model) read(a uint64, n int) (uint64, bool) {
	defer m.drive()
	switch i := m.uartOf(a); {
	case n != 1 && n != 2 && n != 4 && n != 8:
		return 0, false
	case i >= 0:
		return m.uarts[i].Read(a%8, n)
	case clintAt <= a && a < clintAt+0x10000:
		return m.clint.Read(a-clintAt, n)
	case plicAt <= a && a < plicAt+0x400000:
		return m.plic.Read(a-plicAt, n)
	}
	return m.ram.Read(a, n)
}

func (m *model) write(a uint64, n int, v uint64) bool {
	defer m.drive()
	switch i := m.uartOf(a); {
	case n != 1 && n != 2 && n != 4 && n != 8:
		return false
	case i >= 0:
		return m.uarts[i].Write(a%8, n, v)
	case clintAt <= a && a < clintAt+0x10000:
		return m.clint.Write(a-clintAt, n, v)
	case plicAt <= a && a < plicAt+0x400000:
		return m.plic.Write(a-plicAt, n, v)
	}
	return m.ram.Write(a, n, v)
}

func (m *model) feed(i int, x byte) bool {
	defer m.drive()
	return i >= 0 && i < len(m.uarts) && m.uarts[i].Feed(x)
}

func (m *model) level(source int, up bool) bool {
	return (source < 10 || source > 9+len(m.uarts)) && m.plic.Level(source, up)
}

func (m *model) lines() api.Lines {
	l := api.Lines{Msip: m.clint.Msip(), Mtip: m.clint.Mtip(), Meip: m.plic.Line(0), Seip: m.plic.Line(1), Time: m.clint.Time()}
	if m.plic.Up(31) {
		l.Geip = 2
	}
	return l
}

// places are all addresses and lengths at which something stands, but memory.
func places(uarts int) map[uint64]int {
	l := map[uint64]int{clintAt: 4, clintAt + 0x4000: 8, clintAt + 0xbff8: 8, plicAt + 0x1000: 4, plicAt + 0x2000: 4, plicAt + 0x2080: 4, plicAt + 0x200000: 4, plicAt + 0x200004: 4, plicAt + 0x201000: 4, plicAt + 0x201004: 4}
	for s := range uint64(32) {
		l[plicAt+4*s] = 4
	}
	for i := range uint64(uarts) {
		for off := range uint64(8) {
			l[uartAt+0x1000*i+off] = 1
		}
	}
	return l
}

// holds says whether b tells all that m does. Twins are asked of what is changed by being told.
func (m *model) holds(t *testing.T, b *Bus, when string) {
	t.Helper()
	if got, want := b.Lines(), m.lines(); got != want {
		t.Fatalf("%s: Lines is %+v, not %+v", when, got, want)
	}
	if !ram.Same(b.Ram(), m.ram) {
		t.Fatalf("%s: the memory is another one", when)
	}
	for i := -1; i <= 8; i++ {
		var want []byte
		if i >= 0 && i < len(m.uarts) {
			want = m.uarts[i].Out()
		}
		if !bytes.Equal(b.Out(i), want) {
			t.Fatalf("%s: Out(%d) is %q, not %q", when, i, b.Out(i), want)
		}
	}
	for a, n := range places(len(m.uarts)) {
		then, of := b.Twin(), m.twin()
		for range 2 {
			want, _ := of.read(a, n)
			reads(t, then, a, n, want)
		}
		if then.Lines() != of.lines() {
			t.Fatalf("%s: behind Read(%#x, %d) Lines is %+v, not %+v", when, a, n, then.Lines(), of.lines())
		}
		reads(t, then, plicAt+0x1000, 4, pendingOf(of))
	}
}

// pendingOf is which sources are pending.
func pendingOf(m *model) uint64 {
	v, _ := m.plic.Read(0x1000, 4)
	return v
}

func made(t *testing.T, size uint64, uarts int) *Bus {
	t.Helper()
	b, err := New(size, uarts)
	if b == nil || err != api.OK {
		t.Fatalf("New(%d, %d) is %v, %d", size, uarts, b, err)
	}
	return b
}

func write(t *testing.T, b *Bus, a uint64, n int, v uint64) {
	t.Helper()
	if !b.Write(a, n, v) {
		t.Fatalf("Write(%#x, %d, %#x) is false", a, n, v)
	}
}

func reads(t *testing.T, b *Bus, a uint64, n int, want uint64) {
	t.Helper()
	if got, ok := b.Read(a, n); got != want || !ok {
		t.Fatalf("Read(%#x, %d) is %#x, %v, not %#x", a, n, got, ok, want)
	}
}

// refuses says that there is nothing to be read and written.
func refuses(t *testing.T, b *Bus, a uint64, n int) {
	t.Helper()
	if got, ok := b.Read(a, n); got != 0 || ok {
		t.Fatalf("Read(%#x, %d) is %#x, %v", a, n, got, ok)
	}
	if b.Write(a, n, last) {
		t.Fatalf("Write(%#x, %d, ..) is true", a, n)
	}
}

func is(t *testing.T, what string, got, want bool) {
	t.Helper()
	if got != want {
		t.Fatalf("%s is %v", what, got)
	}
}

func linesAre(t *testing.T, b *Bus, want api.Lines) {
	t.Helper()
	if got := b.Lines(); got != want {
		t.Fatalf("Lines is %+v, not %+v", got, want)
	}
}

// chance is numbers without an order, the same ones in each run.
type chance uint64

func (c *chance) next() uint64 {
	x := uint64(*c)
	x ^= x << 13
	x ^= x >> 7
	x ^= x << 17
	*c = chance(x)
	return x
}

func (c *chance) below(n int) int { return int(c.next() >> 11 % uint64(n)) }

const seed = chance(0x9e3779b97f4a7c15)

// address is one at which much stands, most times, and a length that may be asked for there, most times.
func (c *chance) address(size uint64, uarts int) (uint64, int) {
	n := 1 << c.below(4)
	switch c.below(9) {
	case 0, 1:
		return ramAt + uint64(c.below(int(size))), n
	case 2:
		return clintAt + []uint64{0, 0x4000, 0x4004, 0xbff8, 0xbffc}[c.below(5)], 4 + c.below(2)*4
	case 3:
		return plicAt + uint64(4*c.below(33)), 4
	case 4, 5:
		return plicAt + []uint64{0x1000, 0x2000, 0x2080, 0x200000, 0x200004, 0x201000, 0x201004}[c.below(7)], 4
	case 6, 7:
		return uartAt + uint64(0x1000*c.below(uarts+1)+c.below(8)), 1
	}
	l := anyAddresses(size)
	return l[c.below(len(l))], lengths[c.below(len(lengths))]
}

// act does to b and m the same, and holds what b answers against m.
func (c *chance) act(t *testing.T, b *Bus, m *model) {
	t.Helper()
	a, n := c.address(m.ram.Size(), len(m.uarts))
	v := c.next() >> c.below(64)
	switch k := c.below(16); {
	case k < 5:
		want, there := m.read(a, n)
		if got, ok := b.Read(a, n); got != want || ok != there {
			t.Fatalf("Read(%#x, %d) is %#x, %v, not %#x, %v", a, n, got, ok, want, there)
		}
	case k < 10:
		// The uart's first places are overlaid less often than not, so that there is much of all.
		if m.uartOf(a) >= 0 && a%8 == 3 && c.below(3) > 0 {
			v &^= 0x80
		}
		is(t, "Write", b.Write(a, n, v), m.write(a, n, v))
	case k < 12:
		i := c.below(len(m.uarts)+2) - 1
		is(t, "Feed", b.Feed(i, byte(v)), m.feed(i, byte(v)))
	case k < 15:
		s, up := c.below(34)-1, c.below(2) == 0
		is(t, "Level", b.Level(s, up), m.level(s, up))
	default:
		b.Tick(v)
		m.clint.Tick(v)
	}
}

// any is a bus to which much was done, and what it has.
func (c *chance) any(t *testing.T, uarts int) (*Bus, *model) {
	t.Helper()
	b, m := made(t, 8192, uarts), newModel(t, 8192, uarts)
	for range 100 + c.below(200) {
		c.act(t, b, m)
	}
	return b, m
}

// The chapter's examples

func TestExamplesOfTheChapter(t *testing.T) {
	for _, x := range []struct {
		size  uint64
		uarts int
		err   api.Errno
	}{{0, 1, 1}, {4096, 9, 1}, {4096, -1, 1}, {1 << 26, 8, 0}} {
		if b, err := New(x.size, x.uarts); err != x.err || (b != nil) != (err == 0) {
			t.Errorf("New(%d, %d) is %v, %d", x.size, x.uarts, b, err)
		}
	}

	b := made(t, 4096, 1)
	is(t, "Write(0x80000ff8, 8, 7)", b.Write(0x80000ff8, 8, 7), true)
	reads(t, b, 0x80000ff8, 8, 7)
	refuses(t, b, 0x80000ffc, 8)
	refuses(t, b, 0x80001000, 1)
	refuses(t, b, 0x7fffffff, 2)
	refuses(t, b, 0x80000000, 3)

	b = made(t, 4096, 1)
	is(t, "Write(0x02004000, 8, 5)", b.Write(0x02004000, 8, 5), true)
	b.Tick(5)
	linesAre(t, b, api.Lines{Mtip: true, Time: 5})

	b = made(t, 4096, 1)
	is(t, "Write(0x10000001, 1, 1)", b.Write(0x10000001, 1, 1), true)
	is(t, "Feed(0, 65)", b.Feed(0, 65), true)
	is(t, "Write(0x0c000028, 4, 1)", b.Write(0x0c000028, 4, 1), true)
	is(t, "Write(0x0c002080, 4, 0x400)", b.Write(0x0c002080, 4, 0x400), true)
	linesAre(t, b, api.Lines{Seip: true})
	reads(t, b, 0x0c201004, 4, 10)

	b = made(t, 4096, 1)
	is(t, "Feed(1, 65)", b.Feed(1, 65), false)
	is(t, "Level(10, true)", b.Level(10, true), false)
	is(t, "Level(31, true)", b.Level(31, true), true)
	linesAre(t, b, api.Lines{Geip: 2})
	is(t, "Level(11, true)", b.Level(11, true), true)
	is(t, "Level(32, true)", b.Level(32, true), false)
	refuses(t, b, 0x10000008, 1)
	refuses(t, b, 0x10001000, 1)
}

// P7.1

func TestNew(t *testing.T) {
	sizes := []uint64{0, 1, 8, 4095, 4096, 4097, 6144, 8192, 12288, 1 << 20, 1<<26 - 4096, 1<<26 - 1, 1 << 26, 1<<26 + 1, 1<<26 + 4096, 1 << 27, 1 << 32, 1<<32 + 4096, 1 << 63, last - 4095, last}
	for _, size := range sizes {
		_, wrong := ram.New(ramAt, size)
		for _, uarts := range numbers() {
			want := api.Errno(1)
			if wrong == api.OK && uarts >= 0 && uarts <= 8 {
				want = 0
			}
			b, err := New(size, uarts)
			if err != want || (b == nil) != (want != 0) {
				t.Fatalf("New(%d, %d) is %v, %d, not %d", size, uarts, b, err, want)
			}
			if b != nil && (b.Ram().Base() != ramAt || b.Ram().Size() != size) {
				t.Fatalf("New(%d, ..) has memory of %d bytes from %#x on", size, b.Ram().Size(), b.Ram().Base())
			}
		}
	}
}

func TestNewIsAsAtFirst(t *testing.T) {
	for uarts := range 9 {
		b := made(t, 4096, uarts)
		newModel(t, 4096, uarts).holds(t, b, "New")
		linesAre(t, b, api.Lines{})
		reads(t, b, clintAt+0x4000, 8, last)
		is(t, "Same of two new ones", Same(b, made(t, 4096, uarts)), true)
		for i := range 10 {
			is(t, "Feed", b.Feed(i, 1), i < uarts)
		}
	}
}

// What is done to one bus is not done to another, and what is done to one uart not to another.
func TestNewOnesAreApart(t *testing.T) {
	c := seed
	for uarts := range 9 {
		a, b := made(t, 4096, uarts), made(t, 4096, uarts)
		m := newModel(t, 4096, uarts)
		for range 300 {
			c.act(t, a, m)
		}
		newModel(t, 4096, uarts).holds(t, b, "behind acts of another one")
		m.holds(t, a, "behind acts")
	}
}

// P7.2

func TestReadAndWriteOfEveryPlace(t *testing.T) {
	c := seed
	for _, uarts := range []int{0, 1, 3, 8} {
		b, m := c.any(t, uarts)
		for _, a := range anyAddresses(8192) {
			for _, n := range lengths {
				want, there := m.read(a, n)
				if got, ok := b.Read(a, n); got != want || ok != there {
					t.Fatalf("Read(%#x, %d) is %#x, %v, not %#x, %v", a, n, got, ok, want, there)
				}
				v := c.next()
				if ok := b.Write(a, n, v); ok != m.write(a, n, v) {
					t.Fatalf("Write(%#x, %d, %#x) is %v", a, n, v, ok)
				}
			}
		}
		m.holds(t, b, "behind all writes")
	}
}

func TestNothingBeyondTheRegions(t *testing.T) {
	for _, uarts := range []int{0, 1, 2, 7, 8} {
		b := made(t, 4096, uarts)
		as := b.Twin()
		holes := []uint64{0, clintAt - 1, clintAt + 0x10000, plicAt - 1, plicAt + 0x400000, uartAt - 1, ramAt - 1, ramAt + 4096, 1 << 32, 1<<32 + clintAt, 1<<32 + uartAt, 1<<32 + ramAt, 1<<63 + ramAt, last - 7, last}
		for i := range uint64(10) {
			at := uint64(uartAt + 0x1000*i)
			holes = append(holes, at+8, at+9, at+16, at+0x100, at+0x800, at+0xff8, at+0xfff)
			if i >= uint64(uarts) {
				holes = append(holes, at, at+1, at+5, at+7)
			}
		}
		for _, a := range holes {
			for _, n := range lengths {
				refuses(t, b, a, n)
			}
		}
		is(t, "Same, behind all that was refused", Same(b, as), true)
	}
}

func TestWrongLengths(t *testing.T) {
	b := made(t, 4096, 2)
	as := b.Twin()
	for _, a := range []uint64{clintAt, clintAt + 0x4000, clintAt + 0xbff8, plicAt + 12, plicAt + 0x1000, plicAt + 0x200004, uartAt, uartAt + 1, uartAt + 0x1005, ramAt, ramAt + 8, ramAt + 4088} {
		for _, n := range lengths {
			if n != 1 && n != 2 && n != 4 && n != 8 {
				refuses(t, b, a, n)
			}
		}
	}
	is(t, "Same, behind all that was refused", Same(b, as), true)
}

// A number that begins in a region and ends beyond it is refused.
func TestNumbersAcrossEnds(t *testing.T) {
	b := made(t, 4096, 2)
	as := b.Twin()
	for _, end := range []uint64{clintAt + 0x10000, plicAt + 0x400000, uartAt + 8, uartAt + 0x1008, ramAt + 4096} {
		for _, n := range []int{2, 4, 8} {
			for over := 1; over < n; over++ {
				refuses(t, b, end-uint64(n)+uint64(over), n)
			}
		}
	}
	for _, begin := range []uint64{clintAt, plicAt, uartAt, uartAt + 0x1000, ramAt} {
		for ahead := range uint64(8) {
			refuses(t, b, begin-ahead-1, 8)
		}
	}
	is(t, "Same, behind all that was refused", Same(b, as), true)
	for _, n := range []int{1, 2, 4, 8} {
		write(t, b, ramAt, n, 1)
		write(t, b, ramAt+4096-uint64(n), n, 1)
	}
}

// The memory is asked by the address itself, all else by offsets; what is read is what stands there now.
func TestReadIsOfNow(t *testing.T) {
	b := made(t, 4096, 8)
	for i := range uint64(50) {
		b.Tick(3)
		reads(t, b, clintAt+0xbff8, 8, 3*(i+1))
		reads(t, b, clintAt+0xbffc, 4, 0)
		write(t, b, clintAt+0x4000, 8, i)
		reads(t, b, clintAt+0x4000, 8, i)
		write(t, b, clintAt, 4, i)
		reads(t, b, clintAt, 4, i%2)
		write(t, b, plicAt+4*(i%31+1), 4, i%8)
		reads(t, b, plicAt+4*(i%31+1), 4, i%8)
		write(t, b, ramAt+8*i, 8, ^i)
		reads(t, b, ramAt+8*i, 8, ^i)
		write(t, b, uartAt+0x1000*(i%8)+7, 1, i)
		for u := range uint64(8) {
			want := i - (i-u)%8
			if u > i {
				want = 0
			}
			reads(t, b, uartAt+0x1000*u+7, 1, want)
		}
	}
}

// P7.3

func TestIsRam(t *testing.T) {
	for _, size := range []uint64{4096, 8192, 1 << 26} {
		b := made(t, size, 8)
		for _, a := range anyAddresses(size) {
			for _, n := range lengths {
				want := (n == 1 || n == 2 || n == 4 || n == 8) && a >= ramAt && a < ramAt+size && ramAt+size-a >= uint64(n)
				if got := b.IsRam(a, n); got != want {
					t.Fatalf("IsRam(%#x, %d) is %v", a, n, got)
				}
			}
		}
	}
}

func TestRam(t *testing.T) {
	b := made(t, 8192, 1)
	is(t, "Ram is one memory", b.Ram() == b.Ram(), true)
	is(t, "Ram's Write", b.Ram().Write(ramAt+4094, 4, 0x01020304), true)
	reads(t, b, ramAt+4094, 4, 0x01020304)
	reads(t, b, ramAt+4096, 1, 2)
	write(t, b, ramAt+8184, 8, 77)
	if v, ok := b.Ram().Read(ramAt+8184, 8); v != 77 || !ok {
		t.Fatalf("what is written by the bus is %d, %v in the memory", v, ok)
	}
	is(t, "Put", b.Ram().Put(ramAt, []byte("mezzanin")), true)
	reads(t, b, ramAt, 8, 0x6e696e617a7a656d)
}

// P7.4

func TestTick(t *testing.T) {
	b, m := made(t, 4096, 1), newModel(t, 4096, 1)
	write(t, b, clintAt+0x4000, 8, 1000)
	m.clint.Write(0x4000, 8, 1000)
	for _, n := range []uint64{0, 1, 998, 1, 0, 1 << 40, last, last - 1<<40 - 998, 5} {
		b.Tick(n)
		m.clint.Tick(n)
		m.holds(t, b, "behind Tick")
	}
}

func TestFeed(t *testing.T) {
	for uarts := range 9 {
		b, m := made(t, 4096, uarts), newModel(t, 4096, uarts)
		for _, i := range numbers() {
			is(t, "Feed", b.Feed(i, byte(i)), m.feed(i, byte(i)))
		}
		m.holds(t, b, "behind Feed")
		for i := range uarts {
			for k := range 18 {
				is(t, "Feed", b.Feed(i, byte(k)), k < 15)
			}
			reads(t, b, uartAt+0x1000*uint64(i)+5, 1, 0x63)
			reads(t, b, uartAt+0x1000*uint64(i), 1, uint64(i))
			reads(t, b, uartAt+0x1000*uint64(i), 1, 0)
			reads(t, b, uartAt+0x1000*uint64(i), 1, 1)
		}
	}
}

func TestLevel(t *testing.T) {
	for uarts := range 9 {
		b, m := made(t, 4096, uarts), newModel(t, 4096, uarts)
		for _, up := range []bool{true, false, true} {
			for _, s := range numbers() {
				free := s >= 1 && s <= 31 && (s < 10 || s >= 10+uarts)
				if got := b.Level(s, up); got != free || got != m.level(s, up) {
					t.Fatalf("of %d uarts: Level(%d, %v) is %v", uarts, s, up, got)
				}
			}
			m.holds(t, b, "behind Level")
		}
	}
}

// A uart's own line is not changed by what is said to be its level.
func TestLevelOfAUart(t *testing.T) {
	b := made(t, 4096, 2)
	write(t, b, uartAt+1, 1, 1)
	b.Feed(0, 1)
	reads(t, b, plicAt+0x1000, 4, 1<<10)
	is(t, "Level(10, false)", b.Level(10, false), false)
	is(t, "Level(11, true)", b.Level(11, true), false)
	reads(t, b, plicAt+0x1000, 4, 1<<10)
	// What is claimed and completed is pending again, since the line is still up.
	write(t, b, plicAt+40, 4, 1)
	write(t, b, plicAt+0x2000, 4, 1<<10)
	reads(t, b, plicAt+0x200004, 4, 10)
	reads(t, b, plicAt+0x1000, 4, 0)
	write(t, b, plicAt+0x200004, 4, 10)
	reads(t, b, plicAt+0x1000, 4, 1<<10)
}

func TestOut(t *testing.T) {
	b := made(t, 4096, 8)
	for i := range uint64(8) {
		for k := range i {
			write(t, b, uartAt+0x1000*i, 1, 'a'+i+k)
		}
	}
	for i := range 8 {
		if want := "abcdefghijklmnop"[i : 2*i]; string(b.Out(i)) != want {
			t.Errorf("Out(%d) is %q, not %q", i, b.Out(i), want)
		}
	}
	for _, i := range numbers() {
		if (i < 1 || i > 7) && len(b.Out(i)) != 0 {
			t.Errorf("Out(%d) is %q", i, b.Out(i))
		}
	}
	b.Out(3)[0] = 'x'
	copy(append(b.Out(3), "xxx"...), "xxxxxx")
	if string(b.Out(3)) != "def" {
		t.Errorf("what was told of Out is kept: %q", b.Out(3))
	}
}

// The uarts' sources

// Each uart drives the source of its own number, and no other one.
func TestEachUartDrivesItsSource(t *testing.T) {
	for uarts := 1; uarts < 9; uarts++ {
		for i := range uarts {
			b := made(t, 4096, uarts)
			at := uint64(uartAt + 0x1000*i)
			b.Feed(i, 7)
			reads(t, b, plicAt+0x1000, 4, 0)
			write(t, b, at+1, 1, 1)
			reads(t, b, plicAt+0x1000, 4, 1<<(10+i))
			is(t, "Up", b.plic.Up(10+i), true)
			reads(t, b, at, 1, 7)
			is(t, "Up, behind the read", b.plic.Up(10+i), false)
			reads(t, b, plicAt+0x1000, 4, 1<<(10+i))
		}
	}
}

// The line comes up, and falls, behind each kind of call.
func TestLineBehindEachCall(t *testing.T) {
	up := func(b *Bus, want bool) {
		t.Helper()
		if b.plic.Up(11) != want {
			t.Fatalf("the line is up: %v", b.plic.Up(11))
		}
	}
	b := made(t, 4096, 2)
	const at = uartAt + 0x1000
	write(t, b, at+1, 1, 1)
	up(b, false)
	is(t, "Feed", b.Feed(1, 1), true)
	up(b, true)
	is(t, "Feed", b.Feed(1, 2), true)
	reads(t, b, at, 1, 1)
	up(b, true)
	reads(t, b, at, 1, 2)
	up(b, false)
	is(t, "Feed", b.Feed(1, 3), true)
	write(t, b, at+2, 1, 2)
	up(b, false)
	write(t, b, at+1, 1, 2)
	up(b, true)
	reads(t, b, at+2, 1, 2)
	up(b, false)
	write(t, b, at, 1, 'a')
	up(b, true)
	write(t, b, at+1, 1, 0)
	up(b, false)
	// The places of another uart, and of other regions, leave it as it is.
	b.Feed(1, 4)
	write(t, b, uartAt+1, 1, 3)
	up(b, false)
	write(t, b, at+1, 1, 1)
	up(b, true)
	write(t, b, uartAt+1, 1, 0)
	write(t, b, ramAt, 8, 0)
	write(t, b, clintAt, 4, 1)
	write(t, b, plicAt+44, 4, 3)
	up(b, true)
	for range 20 {
		b.Feed(1, 5)
		up(b, true)
	}
}

// P7.5

func TestLines(t *testing.T) {
	b := made(t, 4096, 0)
	linesAre(t, b, api.Lines{})
	write(t, b, clintAt, 4, 1)
	linesAre(t, b, api.Lines{Msip: true})
	write(t, b, clintAt, 4, 2)
	linesAre(t, b, api.Lines{})
	write(t, b, clintAt+0x4000, 8, 9)
	b.Tick(8)
	linesAre(t, b, api.Lines{Time: 8})
	b.Tick(1)
	linesAre(t, b, api.Lines{Mtip: true, Time: 9})
	b.Tick(last - 9)
	linesAre(t, b, api.Lines{Mtip: true, Time: last})
	b.Tick(3)
	linesAre(t, b, api.Lines{Time: 2})
	write(t, b, clintAt+0xbff8, 8, 0)

	is(t, "Level", b.Level(31, true), true)
	linesAre(t, b, api.Lines{Geip: 2})
	is(t, "Level", b.Level(31, false), true)
	linesAre(t, b, api.Lines{})
	for s := 1; s < 31; s++ {
		b.Level(s, true)
		linesAre(t, b, api.Lines{})
	}
}

// A context's line is the one of its own mode; the guest's one hangs on the line alone, not on what is claimed.
func TestLinesOfThePlic(t *testing.T) {
	for ctx, want := range []api.Lines{{Meip: true}, {Seip: true}} {
		for s := 1; s < 32; s++ {
			if s == 31 {
				want.Geip = 2
			}
			b := made(t, 4096, 0)
			is(t, "Level", b.Level(s, true), true)
			write(t, b, plicAt+4*uint64(s), 4, 3)
			linesAre(t, b, api.Lines{Geip: want.Geip})
			write(t, b, plicAt+0x2000+0x80*uint64(ctx), 4, 1<<s)
			linesAre(t, b, want)
			write(t, b, plicAt+0x200000+0x1000*uint64(ctx), 4, 3)
			linesAre(t, b, api.Lines{Geip: want.Geip})
			write(t, b, plicAt+0x200000+0x1000*uint64(ctx), 4, 2)
			linesAre(t, b, want)
			reads(t, b, plicAt+0x200004+0x1000*uint64(ctx), 4, uint64(s))
			linesAre(t, b, api.Lines{Geip: want.Geip})
			is(t, "Level", b.Level(s, false), true)
			linesAre(t, b, api.Lines{})
		}
	}
}

// P7.6

func TestTwin(t *testing.T) {
	c := seed
	for uarts := range 9 {
		b, m := c.any(t, uarts)
		v, n := b.Twin(), m.twin()
		is(t, "a twin is the bus itself", v == b || v.Ram() == b.Ram(), false)
		is(t, "Same of a twin", Same(b, v) && Same(v, b), true)
		n.holds(t, v, "a twin")
		for range 400 {
			c.act(t, v, n)
		}
		m.holds(t, b, "behind acts of its twin")
		n.holds(t, v, "a twin behind acts")
		for range 400 {
			c.act(t, b, m)
		}
		n.holds(t, v, "behind acts of the one that it is a twin of")
		m.holds(t, b, "behind acts of both")
	}
}

// A twin's uart drives the twin's plic.
func TestTwinsUartDrivesItsOwnPlic(t *testing.T) {
	b := made(t, 4096, 8)
	v := b.Twin().Twin()
	for i := range 8 {
		write(t, v, uartAt+0x1000*uint64(i)+1, 1, 1)
		is(t, "Feed", v.Feed(i, 1), true)
	}
	reads(t, v, plicAt+0x1000, 4, 0xff<<10)
	reads(t, b, plicAt+0x1000, 4, 0)
	is(t, "Same as a new one", Same(b, made(t, 4096, 8)), true)
	for i := range 9 {
		is(t, "Level of a twin", v.Level(10+i, false), i == 8)
	}
}

func TestSame(t *testing.T) {
	acts := []func(*Bus){
		func(b *Bus) { b.Write(ramAt, 1, 1) },
		func(b *Bus) { b.Ram().Write(ramAt+4095, 1, 1) },
		func(b *Bus) { b.Tick(1) },
		func(b *Bus) { b.Write(clintAt, 4, 1) },
		func(b *Bus) { b.Write(clintAt+0x4004, 4, 1) },
		func(b *Bus) { b.Level(1, true) },
		func(b *Bus) { b.Level(2, true) },
		func(b *Bus) { b.Level(2, true); b.Level(2, false) },
		func(b *Bus) { b.Level(31, true) },
		func(b *Bus) { b.Write(plicAt+4, 4, 1) },
		func(b *Bus) { b.Write(plicAt+0x2000, 4, 4) },
		func(b *Bus) { b.Write(plicAt+0x2080, 4, 4) },
		func(b *Bus) { b.Write(plicAt+0x201000, 4, 7) },
		func(b *Bus) { b.Feed(0, 1) },
		func(b *Bus) { b.Feed(0, 2) },
		func(b *Bus) { b.Feed(1, 1) },
		func(b *Bus) { b.Write(uartAt, 1, 1) },
		func(b *Bus) { b.Write(uartAt+0x1000, 1, 1) },
		func(b *Bus) { b.Write(uartAt+7, 1, 1) },
		func(b *Bus) { b.Write(uartAt+0x1001, 1, 1) },
	}
	for i, one := range acts {
		for k, other := range acts {
			a, b := made(t, 4096, 2), made(t, 4096, 2)
			one(a)
			is(t, "Same of a changed one", Same(a, b) || Same(b, a), false)
			other(b)
			is(t, "Same", Same(a, b), i == k)
		}
	}
}

// Memories of two sizes, and numbers of uarts, are not the same.
func TestSameOfOtherBuses(t *testing.T) {
	for i := range 18 {
		for k := range 18 {
			a, b := made(t, uint64(4096*(1+i%2)), i/2), made(t, uint64(4096*(1+k%2)), k/2)
			is(t, "Same", Same(a, b), i == k)
		}
	}
	b := made(t, 4096, 1)
	is(t, "Same(nil, nil)", Same(nil, nil), true)
	is(t, "Same(b, nil)", Same(b, nil), false)
	is(t, "Same(nil, b)", Same(nil, b), false)
	is(t, "Same(b, b)", Same(b, b), true)
}

// What was written and taken back leaves no trace.
func TestSameWhateverTheWay(t *testing.T) {
	a, b := made(t, 4096, 1), made(t, 4096, 1)
	for _, at := range []uint64{ramAt + 4088, clintAt + 0xbff8} {
		write(t, a, at, 8, 5)
		write(t, a, at, 8, 0)
	}
	write(t, a, uartAt+1, 1, 1)
	write(t, a, uartAt+1, 1, 0)
	is(t, "Same", Same(a, b), true)
}

// P7.7

// A bus that New did not make has no promise but to end without a panic, and no region.
func TestNilAndZero(t *testing.T) {
	for _, b := range []*Bus{nil, {}, (&Bus{}).Twin()} {
		for _, a := range anyAddresses(4096) {
			for _, n := range lengths {
				refuses(t, b, a, n)
				is(t, "IsRam", b.IsRam(a, n), false)
			}
		}
		for _, i := range numbers() {
			is(t, "Feed", b.Feed(i, 1), false)
			if len(b.Out(i)) != 0 {
				t.Errorf("Out(%d) is %q", i, b.Out(i))
			}
		}
		if b.Ram() != nil {
			t.Error("Ram is something")
		}
		b.Level(1, false)
		b.Tick(0)
		b.Lines()
		is(t, "Same", Same(b, b), true)
	}
	var none *Bus
	for _, s := range numbers() {
		is(t, "Level", none.Level(s, true), false)
	}
	none.Tick(5)
	linesAre(t, none, api.Lines{})
	if none.Twin() != nil {
		t.Error("Twin of a nil bus is something")
	}
}

// P7.8

// invariants says whether each uart's line is as its reason is, and what is up and not busy is pending. What is busy is told by what was claimed and not completed.
func invariants(t *testing.T, b *Bus, uarts int) {
	t.Helper()
	pending, _ := b.Read(plicAt+0x1000, 4)
	for i := range uarts {
		reason, _ := b.Twin().Read(uartAt+0x1000*uint64(i)+2, 1)
		up := b.plic.Up(10 + i)
		if up != (reason%2 == 0) {
			t.Fatalf("the uart %d tells %#x, its line is %v", i, reason, up)
		}
		if up && pending>>(10+i)%2 == 0 && !busy(b, 10+i) {
			t.Fatalf("the source %d is up, not pending, and not busy", 10+i)
		}
	}
}

// busy says whether completing the source makes a difference.
func busy(b *Bus, source int) bool {
	v := b.plic
	v.Write(0x2000, 4, last)
	w := v
	w.Write(0x200004, 4, uint64(source))
	return v != w
}

func TestWhatFollows(t *testing.T) {
	c := seed
	for run := range 60 {
		uarts := run % 9
		b, m := made(t, 8192, uarts), newModel(t, 8192, uarts)
		for range 500 {
			c.act(t, b, m)
			linesAre(t, b, m.lines())
			invariants(t, b, uarts)
		}
		m.holds(t, b, "behind many acts")
	}
}

// What is written to one region changes nothing in another one, but a uart the line of its source.
func TestRegionsAreApart(t *testing.T) {
	c := seed
	for run := range 40 {
		uarts := 1 + run%8
		b, _ := c.any(t, uarts)
		for range 200 {
			as := b.Twin()
			a, n := c.address(8192, uarts)
			b.Write(a, n, c.next())
			inRam, inClint, inPlic, inUarts := a >= ramAt, a>>16 == clintAt>>16, a>>22 == plicAt>>22, a>>16 == uartAt>>16
			if !inRam && !ram.Same(b.Ram(), as.Ram()) || !inClint && b.clint != as.clint || !inPlic && !inUarts && b.plic != as.plic {
				t.Fatalf("Write(%#x, %d, ..) changes what lies elsewhere", a, n)
			}
			for i := range uarts {
				mine := a>>12 == uint64(uartAt>>12+i)
				if !mine && !uart.Same(b.ports[i].Uart, as.ports[i].Uart) {
					t.Fatalf("Write(%#x, %d, ..) changes the uart %d", a, n, i)
				}
				if mine && b.plic != as.plic {
					as.plic.Level(10+i, b.plic.Up(10+i))
				}
			}
			if inUarts && b.plic != as.plic {
				t.Fatalf("Write(%#x, %d, ..) changes more of the plic than a line", a, n)
			}
		}
	}
}

func TestTicksChangeTheClintAlone(t *testing.T) {
	c := seed
	for run := range 60 {
		b, m := c.any(t, run%9)
		n := c.next() >> c.below(64)
		before, _ := b.Read(clintAt+0xbff8, 8)
		b.Tick(n)
		reads(t, b, clintAt+0xbff8, 8, before+n)
		m.clint.Tick(n)
		m.holds(t, b, "behind Tick")
		write(t, b, clintAt+0xbff8, 8, before)
		m.clint.Write(0xbff8, 8, before)
		m.holds(t, b, "with the time put back")
	}
}

// Calls that only ask change nothing.
func TestAskingChangesNothing(t *testing.T) {
	c := seed
	b, m := c.any(t, 3)
	as := b.Twin()
	for _, i := range numbers() {
		b.Out(i)
		b.Lines()
		b.IsRam(ramAt, i)
		b.Twin()
		Same(b, as)
	}
	is(t, "Same", Same(b, as), true)
	m.holds(t, b, "behind asking")
}
