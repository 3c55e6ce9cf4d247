package entries

import (
	"testing"

	"mezzanine/api"
	"mezzanine/bus"
)

// newBus is a bus of two pages of memory.
func newBus(t *testing.T) *bus.Bus {
	t.Helper()
	b, err := bus.New(8192, 1)
	if err != api.OK {
		t.Fatalf("bus.New: %d", err)
	}
	return b
}

func TestPlaces(t *testing.T) {
	for _, row := range []struct{ got, want uint64 }{
		{Place(0x80001, 0, 0x2345), 0x80001010}, {Place(0x80001, 1, 0x2345), 0x80001000}, {Place(0x80001, 1, 0x3ff_ffff), 0x800010f8}, {Place(0x80001, 2, 1<<39-1), 0x80001ff8}, {Place(0, 2, 1<<39), 0}, {Place(1<<44-1, 0, 0x1ff000), 1<<56 - 8},
		{At(0x80001, 0), 0x80001000}, {At(0x80001, 511), 0x80001ff8}, {At(0x80004, 2047), 0x80007ff8}, {At(0, 3), 24},
	} {
		if row.got != row.want {
			t.Errorf("%#x, not %#x", row.got, row.want)
		}
	}
}

// What lies in memory is read, its ends among it, and nothing beside it, no device either.
func TestRead(t *testing.T) {
	b := newBus(t)
	for at, v := range map[uint64]uint64{0x80000000: 5, 0x80000ff8: 6, 0x80001ff8: 1<<63 | 7} {
		b.Write(at, 8, v)
		if got, ok := Read(b, at); got != v || !ok {
			t.Errorf("at %#x: %#x, %t", at, got, ok)
		}
	}
	b.Feed(0, 65)
	b.Tick(9)
	before := b.Twin()
	for _, at := range []uint64{0, 0x7ffffff8, 0x80002000, 0x80001ffc, 0x0200bff8, 0x10000000, 0x0c200004, 1<<64 - 8} {
		if got, ok := Read(b, at); got != 0 || ok {
			t.Errorf("at %#x: %#x, %t", at, got, ok)
		}
	}
	if got, ok := Read(nil, 0x80000000); got != 0 || ok {
		t.Errorf("no bus: %#x, %t", got, ok)
	}
	if !bus.Same(b, before) {
		t.Error("a reading changed the bus")
	}
}

// A, and for a store D, are set, and what is full is not written.
func TestMark(t *testing.T) {
	for _, row := range []struct {
		kind    byte
		e, then uint64
	}{
		{0, 0x0f, 0x4f}, {0, 0x8f, 0xcf}, {1, 0x0f, 0xcf}, {1, 0x4f, 0xcf}, {1, 0x8f, 0xcf}, {2, 0x3_0f, 0x3_4f}, {9, 0x0f, 0x4f}, {0, 0x4f, 0x4f}, {1, 0xcf, 0xcf}, {2, 1<<63 | 0x4f, 1<<63 | 0x4f},
	} {
		b, after := newBus(t), newBus(t)
		if row.then != row.e {
			after.Write(0x80001008, 8, row.then)
		}
		if got := Mark(b, 0x80001008, row.e, api.Want{Kind: row.kind}); got != row.then || !bus.Same(b, after) {
			t.Errorf("%#x for %d: %#x", row.e, row.kind, got)
		}
	}
}

func TestLeaf(t *testing.T) {
	for _, row := range []struct {
		e     uint64
		level int
		a     uint64
		want  api.Leaf
	}{
		{0x77<<10 | 0x3_5f, 0, 0x2345, api.Leaf{Pa: 0x77345, Flags: 0x5f}},
		{0x200<<10 | 0xcf, 1, 0x12_3456, api.Leaf{Pa: 0x32_3456, Level: 1, Flags: 0xcf}},
		{1<<28 | 0xff, 2, 0x7fff_ffff, api.Leaf{Pa: 0x7fff_ffff, Level: 2, Flags: 0xff}},
	} {
		if got := Leaf(row.e, row.level, row.a); got != row.want {
			t.Errorf("%#x: %+v, not %+v", row.e, got, row.want)
		}
	}
}
