// Package lay is no layer, and the program calls nothing of it: it is what the tests of the layers share, which lay words, tables and devices, and hold calls against what they should tell.
package lay

import (
	"mezzanine/api"
	"mezzanine/bus"
)

// Test is what a helper asks of a test: each *testing.T has it.
type Test interface {
	Helper()
	Errorf(format string, args ...any)
	Fatalf(format string, args ...any)
}

// How many bytes a word has, and how many bits.
const (
	wordSize = 8
	wordBits = 64
)

// ramPage is the first page of memory.
const ramPage = api.RamBase / api.PageSize

// Bus is one of so many pages of memory, with two uarts.
func Bus(t Test, pages uint64) *bus.Bus {
	t.Helper()
	b, err := bus.New(pages*api.PageSize, 2)
	if err != api.OK {
		t.Fatalf("bus.New of %d pages: %d", pages, err)
	}
	return b
}

// Put lays a word at an address of memory.
func Put(t Test, b *bus.Bus, at, v uint64) {
	t.Helper()
	if !b.Ram().Write(at, wordSize, v) {
		t.Fatalf("no memory at %#x", at)
	}
}

// Get is the word at an address, if all of it lies in memory.
func Get(b *bus.Bus, at uint64) (uint64, bool) { return b.Ram().Read(at, wordSize) }

// SizeOf is how many bytes a leaf of a level stands for.
func SizeOf(level int) uint64 {
	sizes := [...]uint64{4096, 2097152, 1073741824}
	return sizes[level]
}

// EntryAt is where the entry of an address stands in the table of a page, which is one of a level, and has 512 entries.
func EntryAt(page uint64, level int, a uint64) uint64 {
	return page*4096 + a/SizeOf(level)%512*8
}

// Marked is a leaf whose A is 1, and, for a store, D.
func Marked(e uint64, store bool) uint64 {
	if e/64%2 == 0 {
		e += 64
	}
	if store && e/128%2 == 0 {
		e += 128
	}
	return e
}

// Leaf is what the leaf e of a level tells of an address.
func Leaf(e uint64, level int, a uint64) api.Leaf {
	size := SizeOf(level)
	return api.Leaf{Pa: e/1024%(1<<44)*4096/size*size + a%size, Level: level, Flags: e % 256}
}

// Causes are those of page faults, access faults and guest-page faults by a kind's number.
func Causes(kind byte) (page, access, guest uint64) {
	switch kind {
	case 1:
		return 15, 7, 23
	case 2:
		return 12, 1, 20
	}
	return 13, 5, 21
}

// Spot is a page and which of its entries; In says whether that lies in a memory of so many pages.
type Spot struct {
	Page, Index uint64
	In          bool
}

// Spots are the entries at and about both ends of a memory, and far from it. As a memory is whole pages, and entries stand at multiples of eight, none lies partly in it: the nearest are those that end, and begin, where it does.
func Spots(pages uint64) []Spot {
	return []Spot{
		{ramPage, 0, true}, {ramPage, 1, true}, {ramPage, 511, true}, {ramPage + pages - 1, 0, true}, {ramPage + pages - 1, 510, true}, {ramPage + pages - 1, 511, true},
		{ramPage - 1, 511, false}, {ramPage - 1, 510, false}, {ramPage + pages, 0, false}, {ramPage + pages, 1, false}, {ramPage + pages, 511, false},
		{0, 0, false}, {0, 511, false}, {1, 3, false}, {1<<44 - 1, 0, false}, {1<<44 - 1, 511, false}, {ramPage + 1<<20, 0, false}, {ramPage + 1<<43, 5, false}, {ramPage - 1<<19, 0, false},
		{0x2000, 0, false}, {0x2004, 0, false}, {0x200b, 511, false}, {0xc000, 1, false}, {0xc201, 0, false}, {0x10000, 0, false}, {0x10001, 0, false}, {0x10002, 0, false},
	}
}

// Devices are the entries that devices' registers are, and Feign lets those be read as leaves.
func Devices() []Spot {
	return []Spot{{0x200b, 511, false}, {0x2004, 0, false}, {0x10000, 0, false}, {0x10001, 0, false}, {0xc000, 1, false}, {0xc200, 0, false}}
}

// Feign lets what the devices of a bus tell look like leaves that allow all.
func Feign(t Test, b *bus.Bus) {
	t.Helper()
	const leaf = 0xdf
	b.Tick(leaf)
	b.Write(0x02004000, 8, leaf)
	b.Write(0x10000001, 1, 1)
	b.Feed(0, leaf)
	b.Feed(1, leaf)
	if v, ok := b.Read(0x0200bff8, 8); v != leaf || !ok {
		t.Fatalf("the clint's time: %#x, %t", v, ok)
	}
}

// Wants calls do with an access of each kind that there is, and some that are none, each privilege, and each set of Exec and the marks.
func Wants(do func(w api.Want)) {
	for _, kind := range []byte{0, 1, 2, 3, 128, 255} {
		for priv := range byte(4) {
			for i := range 32 {
				do(api.Want{Kind: kind, Priv: priv, Exec: i&1 != 0, V: i&2 != 0, Sum: i&4 != 0, Mxr: i&8 != 0, Vmxr: i&16 != 0})
			}
		}
	}
}

// Mix moves a state on, and is a word of it: such words look like chance, and are the same in each run.
func Mix(state *uint64) uint64 {
	*state += 0x9e3779b97f4a7c15
	w := *state
	w = (w ^ w>>30) * 0xbf58476d1ce4e5b9
	w = (w ^ w>>27) * 0x94d049bb133111eb
	return w ^ w>>31
}

// MixedWant is an access of such words, mostly of a kind that there is.
func MixedWant(state *uint64) api.Want {
	b := Mix(state)
	w := api.Want{Kind: byte((b >> 32) % 3), Priv: byte((b >> 34) % 4), Exec: b&1 != 0, V: b&2 != 0, Sum: b&4 != 0, Mxr: b&8 != 0, Vmxr: b&16 != 0}
	if Mix(state)%8 == 0 {
		w.Kind = byte(Mix(state))
	}
	return w
}

// CameTo says that each of these ends was come to, at least so many times, and no other one.
func CameTo(t Test, came map[string]int, least int, ends ...string) {
	t.Helper()
	for _, end := range ends {
		if came[end] < least {
			t.Errorf("%s: %d times", end, came[end])
		}
	}
	if len(came) > len(ends) {
		t.Errorf("%v", came)
	}
}

// Modes holds a call that says whether a walk is on against each MODE, whatever stands below it, and against each bit of the word.
func Modes(t Test, on func(word uint64) bool) {
	t.Helper()
	for mode := range uint64(16) {
		for _, rest := range []uint64{0, 1<<60 - 1, 1 << 59, 1<<59 - 1, ramPage, 0xffff << 44, 0x3fff << 44, 8 << 56, 8} {
			if got := on(mode<<60 | rest); got != (mode == 8) {
				t.Errorf("the MODE %d above %#x: %t", mode, rest, got)
			}
		}
	}
	for i := range wordBits {
		if got := on(1 << i); got != (i == 63) {
			t.Errorf("the bit %d alone: %t", i, got)
		}
		if got := on(1<<63 ^ 1<<i); got != (i < 60) {
			t.Errorf("the MODE 8 with the bit %d changed: %t", i, got)
		}
	}
}

// Part holds a call that tells so many bits of a word, from that one on, against each bit of it by itself, and alone missing, and against mixed words.
func Part(t Test, of func(word uint64) uint64, at, size int) {
	t.Helper()
	whole := uint64(1)<<size - 1
	for i := range wordBits {
		alone := uint64(0)
		if i >= at && i < at+size {
			alone = 1 << (i - at)
		}
		if got := of(1 << i); got != alone {
			t.Errorf("the bit %d alone: %#x, not %#x", i, got, alone)
		}
		if got := of(^uint64(1 << i)); got != whole-alone {
			t.Errorf("all but the bit %d: %#x, not %#x", i, got, whole-alone)
		}
	}
	state := uint64(at)
	for range 1000 {
		w := Mix(&state)
		if got, want := of(w), w/(1<<at)%(1<<size); got != want {
			t.Errorf("of %#x: %#x, not %#x", w, got, want)
		}
	}
}
