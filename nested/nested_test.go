package nested

import (
	"fmt"
	"slices"
	"testing"

	"mezzanine/api"
	"mezzanine/bus"
	"mezzanine/gwalk"
	"mezzanine/lay"
	"mezzanine/pte"
)

// chapterBus is the bus of the chapter's examples, chapterS its vsatp, and chapterH its hgatp.
func chapterBus(t *testing.T) *bus.Bus {
	t.Helper()
	b := lay.Bus(t, 16)
	lay.Put(t, b, 0x80004010, pte.Make(0x80002, 1))
	lay.Put(t, b, 0x80002000, pte.Make(0x80003, 1))
	lay.Put(t, b, 0x80003008, pte.Make(0x80007, 0xd7))
	lay.Put(t, b, 0x80003030, pte.Make(0x80006, 0x57))
	lay.Put(t, b, 0x80006000, pte.Make(0x80006, 1))
	lay.Put(t, b, 0x80006008, pte.Make(0x80001, 0x4b))
	return b
}

const (
	chapterS uint64 = 1<<63 + 7<<44 + 0x80006
	chapterH uint64 = 1<<63 + 3<<44 + 0x80005
)

func TestExamplesOfTheChapter(t *testing.T) {
	b := chapterBus(t)
	before := b.Twin()
	for _, row := range []struct{ got, want string }{
		{fmt.Sprint(On(chapterS), Asid(chapterS), On(0)), "true 7 false"},
		{call{chapterS, chapterH, 0x1234, api.Want{Kind: api.Load, Priv: api.Super, V: true}}.told(b), told{0x80007234, leaf(0x80001234, 0, 0x4b), leaf(0x80007234, 0, 0xd7), api.Trap{}, []uint64{0x80006000, 0x80006000, 0x80006008, 0x80007234}}.text()},
		{call{chapterS, chapterH, 0x1234, api.Want{Kind: api.Store, Priv: api.Super, V: true}}.told(b), trapIs(api.Trap{Cause: 15, Tval: 0x1234, Gva: true}, 0x80006000, 0x80006000, 0x80006008)},
		{call{0, chapterH, 0x80001234, api.Want{Kind: api.Load, V: true}}.told(b), told{0x80007234, leaf(0x80001234, 2, 0xff), leaf(0x80007234, 0, 0xd7), api.Trap{}, []uint64{0x80007234}}.text()},
		{call{0, 0, 5, api.Want{Kind: api.Load, V: true}}.told(b), told{5, leaf(5, 2, 0xff), leaf(5, 2, 0xff), api.Trap{}, []uint64{5}}.text()},
		{call{1<<63 + 0x80005, chapterH, 0, api.Want{Kind: api.Fetch, V: true}}.told(b), trapIs(api.Trap{Cause: 20, Tval: 0, Tval2: 0x20001400, Tinst: 0x3000, Gva: true})},
	} {
		if row.got != row.want {
			t.Errorf("%s, not %s", row.got, row.want)
		}
	}
	if !bus.Same(b, before) {
		t.Error("something was written")
	}
}

// P18.1

// Each MODE, whatever stands below it.
func TestModes(t *testing.T) { lay.Modes(t, On) }

// Each bit of the word by itself, and alone missing: those from 44 to 59 are Asid's.
func TestAsidByEachBit(t *testing.T) {
	lay.Part(t, Asid, 44, 16)
	for _, row := range [][2]uint64{{0, 0}, {all, 0xffff}, {onMode, 0}, {0xffff << 44, 0xffff}, {1<<44 - 1, 0}, {from(60), 0}, {0x1234<<44 | onMode | guestLow, 0x1234}, {0xfffe << 44, 0xfffe}, {15<<60 | 5<<44, 5}, {3 << 58, 0xc000}} {
		if got := Asid(row[0]); got != row[1] {
			t.Errorf("Asid of %#x: %#x, not %#x", row[0], got, row[1])
		}
	}
}

// P18.2

// Where both walks are off the address is told as it is, and no memory asked: by each MODE of both, with a bus, and with none.
func TestBothOff(t *testing.T) {
	b := crossed().bus(t)
	before := b.Twin()
	for mode := range uint64(16) {
		for other := range uint64(16) {
			if mode == 8 || other == 8 {
				continue
			}
			for _, va := range []uint64{0, 5, theVa, 1<<38 - 1, 1 << 38, 1 << 41, 1 << 56, 1 << 63, all} {
				for _, w := range []api.Want{{}, {Kind: 1, V: true}, {Kind: 2, Priv: 1}, {Kind: 7, Exec: true}} {
					c := call{mode<<60 | ramPage, other<<60 | ramPage, va, w}
					want := foundIs(leaf(va, 2, 0xff), leaf(va, 2, 0xff))
					for _, b := range []*bus.Bus{b, nil, {}} {
						if got := c.told(b); got != want {
							t.Fatalf("%+v: %s, not %s", c, got, want)
						}
					}
				}
			}
		}
	}
	if !bus.Same(b, before) {
		t.Error("a walk that is off has written")
	}
}

// Where the guest's walk is off all is the second one's, by each MODE: what is found, and traps; the guest's leaf is as it stands in the chapter.
func TestTheGuestsWalkOff(t *testing.T) {
	b := crossed().bus(t)
	lay.Put(t, b, ramPage*4096+8*8, pte.Make(9<<18, 0x1f))
	lay.Put(t, b, ramPage*4096+8*9, pte.Make(9<<18, 0x0f))
	lay.Put(t, b, ramPage*4096+8*10, pte.Make(0x1000, 1))
	for mode := range uint64(16) {
		if mode == 8 {
			continue
		}
		for kind := range byte(3) {
			for _, v := range []bool{false, true} {
				for _, row := range []struct {
					va   uint64
					want string
				}{
					{0xc0001234, foundIs(leaf(0xc0001234, 2, 0xff), leaf(0x80001234, 2, 0xdf))},
					{0x1ff_c000_0005, foundIs(leaf(0x1ff_c000_0005, 2, 0xff), leaf(0x1ff_8000_0005, 2, 0xdf))},
					{8<<30 | 7, foundIs(leaf(8<<30|7, 2, 0xff), leaf(9<<30|7, 2, []uint64{0x5f, 0xdf, 0x5f}[kind]))},
					{9<<30 | 7, trapIs(api.Trap{Cause: []uint64{21, 23, 20}[kind], Tval: 9<<30 | 7, Tval2: 9<<28 | 1, Gva: v})},
					{1 << 41, trapIs(api.Trap{Cause: []uint64{21, 23, 20}[kind], Tval: 1 << 41, Tval2: 1 << 39, Gva: v})},
					{all, trapIs(api.Trap{Cause: []uint64{21, 23, 20}[kind], Tval: all, Tval2: all / 4, Gva: v})},
					{10 << 30, trapIs(api.Trap{Cause: []uint64{5, 7, 1}[kind], Tval: 10 << 30, Gva: v})},
				} {
					c := call{mode<<60 | (1<<60 - 1), onTop, row.va, api.Want{Kind: kind, V: v}}
					if got := c.told(b.Twin()); got != row.want {
						t.Fatalf("%+v: %s, not %s", c, got, row.want)
					}
					c.holds(t, b)
				}
			}
		}
	}
}

// gigas is a bus of a floor on which each entry of the guest's highest table is a leaf of the first 2^30 bytes; vsatp is theirs. (A fine floor has no second leaves for them.)
func (f floor) gigas(t *testing.T) *bus.Bus {
	t.Helper()
	b := f.bus(t)
	for i := range uint64(512) {
		lay.Put(t, b, guestAt(2, i<<30), pte.Make(i<<18, 0xdf))
	}
	return b
}

// Both ends of what is walked on both sides, and each of the bits that must be as the bit 38: else there is a page fault, and no number that is cut.
func TestWhatIsWalked(t *testing.T) {
	rows := map[uint64]bool{
		0: true, 1: true, 0x2345: true, 1<<38 - 1: true, 1 << 37: true, from(38): true, all: true, from(38) + 5: true, from(39) | 1<<38: true, from(60) | 0xfff<<48 | 0x3ff<<38: true,
		1 << 38: false, 1<<39 - 1: false, 1 << 39: false, from(39): false, from(39) + 5: false, from(38) - 1: false, from(40): false, 1 << 63: false, 1<<63 - 1: false, 1<<56 - 1: false, 3 << 38: false,
	}
	for i := 38; i < 64; i++ {
		rows[1<<i] = false
		rows[1<<i|0x1234567] = false
		rows[all^1<<i] = false
		rows[from(38)^1<<i|0x1234567] = false
	}
	for i := range 38 {
		rows[1<<i] = true
		rows[all^1<<i] = true
	}
	for _, f := range []floor{crossed(), off()} {
		b := f.gigas(t)
		before := b.Twin()
		for va, is := range rows {
			for kind := range byte(3) {
				c := call{f.vsatp(), f.hgatp, va, api.Want{Kind: kind, V: kind != 2}}
				want := trapIs(api.Trap{Cause: []uint64{13, 15, 12}[kind], Tval: va, Gva: kind != 2})
				if is {
					pa := va % (1 << 39)
					want = foundIs(leaf(pa, 2, 0xdf), f.ofSecond(pa, 0xdf), guestAt(2, va))
				}
				if got := c.told(b); got != want {
					t.Fatalf("%s, %+v: %s, not %s", f.name, c, got, want)
				}
			}
		}
		if !bus.Same(b, before) {
			t.Errorf("%s: something was written", f.name)
		}
	}
}

// That an address is not walked is told ahead of all else: where there is no memory, and where the second walk finds nothing.
func TestNotWalkedGoesFirst(t *testing.T) {
	for _, b := range []*bus.Bus{lay.Bus(t, 1), nil, {}} {
		for _, va := range []uint64{1 << 38, 1 << 63, from(39)} {
			for _, hgatp := range []uint64{0, onMode, onTop} {
				for kind := range byte(4) {
					c := call{onMode, hgatp, va, api.Want{Kind: kind, V: kind%2 == 0}}
					want := trapIs(api.Trap{Cause: []uint64{13, 15, 12, 13}[kind], Tval: va, Gva: kind%2 == 0})
					if got := c.told(b); got != want {
						t.Errorf("%+v: %s, not %s", c, got, want)
					}
				}
			}
		}
	}
}

// The table's begin, by each bit of vsatp: a guest-page fault tells where the hart would have read, page and entry. The bits from 44 to 59 are nothing to it.
func TestTheTablesBegin(t *testing.T) {
	b := lay.Bus(t, 4)
	for i := range 60 {
		for _, page := range []uint64{0, 0x80006, 1<<44 - 1, 0xabcdef12345} {
			for _, index := range []uint64{0, 1, 255} {
				vsatp := (onMode | page) ^ 1<<i
				c := call{vsatp, onTop, index<<30 | 0x12345678, api.Want{V: true}}
				want := trapIs(api.Trap{Cause: 21, Tval: c.va, Tval2: vsatp%(1<<44)*1024 + 2*index, Tinst: 0x3000, Gva: true})
				if got := c.told(b); got != want {
					t.Fatalf("%+v: %s, not %s", c, got, want)
				}
			}
		}
	}
	for _, f := range floors() {
		b := f.down(t, 0, pte.Make(f.data, 0xdf))
		for i := range 64 {
			c := f.call(api.Want{V: true})
			c.vsatp ^= 1 << i
			end, found := c.holds(t, b), "full at 0, found"
			switch {
			case i >= 60:
				if end[:3] != "off" {
					t.Errorf("%s, the bit %d changed: %s", f.name, i, end)
				}
			case (end == found) != (i >= 44):
				t.Errorf("%s, the bit %d changed: %s", f.name, i, end)
			}
		}
	}
}

// The table's page by its numbers, where the second walk is off: it may lie in any page of memory, and in no other one.
func TestTheTablesPage(t *testing.T) {
	b := lay.Bus(t, 16)
	for page := range uint64(16) {
		lay.Put(t, b, lay.EntryAt(ramPage+page, 2, theVa), pte.Make(page<<18, 0xdf))
	}
	for _, row := range []struct {
		page uint64
		end  string
	}{
		{0x80000, "full at 2, found"}, {0x80001, "full at 2, found"}, {0x80002, "full at 2, found"}, {0x80003, "full at 2, found"}, {0x8000f, "full at 2, found"}, {0x80010, "no memory at 2"}, {0x7ffff, "no memory at 2"}, {0, "no memory at 2"},
		{1<<44 - 1, "no memory at 2"}, {0x80004 << 12, "no memory at 2"}, {1<<43 | 0x80000, "no memory at 2"}, {0x2004, "no memory at 2"}, {0x10000, "no memory at 2"},
	} {
		for _, above := range []uint64{0, 3 << 44, 0xffff << 44} {
			c := call{onMode | above | row.page, offTop, theVa, api.Want{V: true}}
			if end := c.holds(t, b); end != row.end {
				t.Errorf("the page %#x under %#x: %s, not %s", row.page, above, end, row.end)
			}
		}
	}
	c := call{onMode | 0x8000b, 0, theVa, api.Want{V: true}}
	if got, want := c.told(b), foundIs(leaf(11<<30|theVa%(1<<30), 2, 0xdf), leaf(11<<30|theVa%(1<<30), 2, 0xff), 0x8000b018); got != want {
		t.Errorf("%s, not %s", got, want)
	}
}

// Each of the 512 entries of a table of each level is that of its address, of both halves of them.
func TestEachEntryOfEachLevel(t *testing.T) {
	for _, f := range []floor{crossed(), off()} {
		for level := range 3 {
			b := f.bus(t)
			for i := range uint64(512) {
				va := i * lay.SizeOf(level)
				if level < 2 {
					va |= theVa &^ (512*lay.SizeOf(level) - 1)
				}
				f.leads(t, b, va, level)
				lay.Put(t, b, guestAt(level, va), pte.Make((i*5+1)<<(9*level)%(1<<29), 0xdf))
			}
			for i := range uint64(512) {
				for _, inside := range []uint64{0, 0x789, lay.SizeOf(level) - 1} {
					va := i*lay.SizeOf(level) + inside
					if level < 2 {
						va |= theVa &^ (512*lay.SizeOf(level) - 1)
					} else if i > 255 {
						va |= from(38)
					}
					gpa := (i*5+1)*lay.SizeOf(level)%(1<<41) + inside
					touched := []uint64{guestAt(2, va), guestAt(1, va), guestAt(0, va)}[:3-level]
					c := call{f.vsatp(), f.hgatp, va, api.Want{}}
					if got, want := c.told(b), foundIs(leaf(gpa, level, 0xdf), f.ofSecond(gpa, 0xdf), touched...); got != want {
						t.Fatalf("%s, %+v: %s, not %s", f.name, c, got, want)
					}
				}
			}
		}
	}
}

// Each bit of an address beneath a leaf's size is that of what is found; each one above chooses another entry, or is not walked.
func TestEachBitOfAnAddress(t *testing.T) {
	for _, f := range []floor{crossed(), off()} {
		for level := range 3 {
			b := f.down(t, level, pte.Make(f.leafPage(level), 0xdf))
			for i := range 64 {
				c := f.call(api.Want{V: true})
				c.va ^= 1 << i
				end := c.holds(t, b)
				if found := end == fmt.Sprintf("full at %d, found", level); found != (1<<i < lay.SizeOf(level)) {
					t.Errorf("%s, the bit %d at %d: %s", f.name, i, level, end)
				}
				if end == "not walked" != (i >= 38) {
					t.Errorf("%s, the bit %d at %d: %s", f.name, i, level, end)
				}
			}
		}
	}
}

// What a leaf of each level tells, written out: of the guest's, and what comes of it by the second walk.
func TestLeavesOfEachLevel(t *testing.T) {
	for _, row := range []struct {
		level          int
		page, vs, g    uint64
		secondOff, far bool
	}{
		{0, 0xc0009, 0xc0009abc, 0x80009abc, false, false}, {0, 0, 0xabc, 0x40000abc, false, false}, {0, 0x1fffffff, 0x1fffffffabc, 0x1ffbffffabc, false, false}, {0, 0x20000000, 0x20000000abc, 0, false, true}, {0, 1<<44 - 1, 0xfffffffffffabc, 0, false, true},
		{1, 0xc0000, 0xc0004abc, 0x80004abc, false, false}, {1, 0x200, 0x204abc, 0x40204abc, false, false}, {1, 1<<44 - 512, 0xffffffffe04abc, 0, false, true},
		{2, 3 << 18, 0xc0e04abc, 0x80e04abc, false, false}, {2, 0, 0xe04abc, 0x40e04abc, false, false}, {2, 1<<44 - 1<<18, 0xffffffc0e04abc, 0, false, true},
		{0, 0xabcdef12345, 0xabcdef12345abc, 0xabcdef12345abc, true, false}, {0, 1<<44 - 1, 0xfffffffffffabc, 0xfffffffffffabc, true, false}, {0, 0, 0xabc, 0xabc, true, false},
		{1, 0xabcdef12200, 0xabcdef12204abc, 0xabcdef12204abc, true, false}, {2, 0xabcdef00000, 0xabcdef00e04abc, 0xabcdef00e04abc, true, false}, {2, 1<<44 - 1<<18, 0xffffffc0e04abc, 0xffffffc0e04abc, true, false},
	} {
		f, g := crossed(), leaf(row.g, 2, 0xdf)
		if row.secondOff {
			f, g = off(), leaf(row.g, 2, 0xff)
		}
		b := f.down(t, row.level, pte.Make(row.page, 0xdf))
		want := foundIs(leaf(row.vs, row.level, 0xdf), g, path(row.level)...)
		if row.far {
			want = trapIs(api.Trap{Cause: 21, Tval: theVa, Tval2: row.vs / 4, Gva: true}, path(row.level)...)
		}
		if got := f.call(api.Want{V: true}).told(b); got != want {
			t.Errorf("%+v: %s, not %s", row, got, want)
		}
	}
}

// Each set of an entry's flags at each level, on pages that are multiples, and that are not: each of what Judge tells, for each kind of access.
func TestJudgedAtEachLevel(t *testing.T) {
	for _, f := range []floor{crossed(), off()} {
		came := map[string]int{}
		for level := range 3 {
			b := f.down(t, level, 0)
			for flags := range uint64(256) {
				for _, page := range []uint64{f.data, f.leafPage(2)} {
					lay.Put(t, b, atVa(level), pte.Make(page, flags))
					for _, w := range fewWants() {
						came[f.call(w).holds(t, b)]++
					}
				}
			}
		}
		for _, end := range []string{"fault at %d", "full at %d, found", "marked at %d, found"} {
			for level := range 3 {
				if came[fmt.Sprintf(end, level)] < 50 {
					t.Errorf("%s: "+end+": %d times", f.name, level, came[fmt.Sprintf(end, level)])
				}
			}
		}
	}
}

// At each level, written out: entries by which the walk ends, by each kind of access.
func TestFaultsOfEachLevel(t *testing.T) {
	for _, f := range floors() {
		for level := range 3 {
			small := f.leafPage(level)
			bad := map[string]uint64{
				"nought": 0, "no V": pte.Make(small, 0xde), "W without R": pte.Make(small, 0xd5), "no U, for a user": pte.Make(small, 0xcf), "the bit 54": pte.Make(small, 0xdf) | 1<<54, "the bit 63": pte.Make(small, 0xdf) | 1<<63,
				"a way down with A": pte.Make(f.data, 0x41), "a way down with D": pte.Make(f.data, 0x81), "a way down with U": pte.Make(f.data, 0x11), "a way down with the bit 60": pte.Make(f.data, 1) | 1<<60,
			}
			if level == 0 {
				bad["a way down from the lowest level"] = pte.Make(f.data, 1)
			} else {
				bad["a page that is no multiple"] = pte.Make(small|1<<(9*level-1), 0xdf)
				bad["the page beside"] = pte.Make(small|1, 0xdf)
			}
			for what, e := range bad {
				b := f.down(t, level, e)
				before := b.Twin()
				for kind := range byte(4) {
					want := trapIs(api.Trap{Cause: []uint64{13, 15, 12, 13}[kind], Tval: theVa, Gva: kind < 2}, path(level)...)
					if got := f.call(api.Want{Kind: kind, V: kind < 2}).told(b); got != want {
						t.Errorf("%s, %s at %d: %s, not %s", f.name, what, level, got, want)
					}
				}
				if !bus.Same(b, before) {
					t.Errorf("%s, %s at %d: something was written", f.name, what, level)
				}
			}
		}
	}
}

// Each bit of an entry above its flags, with entries that lead down and leaves, at each level.
func TestEachBitAtEachLevel(t *testing.T) {
	for _, f := range []floor{crossed(), off()} {
		for level := range 3 {
			b := f.down(t, level, 0)
			for i := 8; i < 64; i++ {
				for _, e := range []uint64{1, 0x1f, 0xdf, pte.Make(f.tables[0], 1), pte.Make(f.leafPage(level), 0x5f)} {
					for _, e := range []uint64{e ^ 1<<i, e | 0x300, e ^ 1<<i | 0x300} {
						lay.Put(t, b, atVa(level), e)
						end := f.call(api.Want{Kind: 1, V: true}).holds(t, b)
						if e >= 1<<54 && end != fmt.Sprint("fault at ", level) {
							t.Fatalf("%s, %#x at %d: %s", f.name, e, level, end)
						}
					}
				}
			}
		}
	}
}

// lays lets the guest's table of a level lie in that physical page, which the guest knows by another number; hgatp's walk finds no more than that there. Told is vsatp.
func (f floor) lays(t *testing.T, b *bus.Bus, va uint64, level int, page uint64) uint64 {
	t.Helper()
	name := page
	switch f.name {
	case "fine":
		name = f.tables[level]
		lay.Put(t, b, secondLeafAt(lowOn+uint64(level)), pte.Make(page, 0xdf))
	case "crossed":
		name = page ^ 1<<18
	}
	f.leads(t, b, va, level)
	if level == 2 {
		return onMode | name
	}
	lay.Put(t, b, guestAt(level+1, va), pte.Make(name, 1))
	return f.vsatp()
}

// withIndex is an address that goes by that entry of a level's table, and by those of theVa of the others.
func withIndex(level int, index uint64) uint64 {
	va := theVa&^(511*lay.SizeOf(level)) | index*lay.SizeOf(level)
	if level == 2 && index > 255 {
		va |= from(38)
	}
	return va
}

// Entries of each level whose places are found, and lie in memory, its first and last eight bytes among them, or not: then there is the access fault of the access, whatever the second walk has found.
func TestWherePlacesLie(t *testing.T) {
	came := map[string]int{}
	for _, f := range floors() {
		for _, pages := range []uint64{16, 17, 64, api.MaxRam / 4096} {
			for level := range 3 {
				for _, s := range lay.Spots(pages) {
					if f.name == "crossed" && s.Page >= 1<<29 {
						continue
					}
					b, va := f.busOf(t, pages), withIndex(level, s.Index)
					vsatp := f.lays(t, b, va, level, s.Page)
					if s.In {
						lay.Put(t, b, s.Page*4096+s.Index*8, pte.Make(f.leafPage(level), 0x1f))
					}
					for kind := range byte(4) {
						c := call{vsatp, f.hgatp, va, api.Want{Kind: kind, V: kind%2 == 0, Exec: true, Mxr: true, Sum: true}}
						end, read := c.holds(t, b), path(level+1)
						for l := range read {
							read[l] = guestAt(2-l, va)
						}
						if !s.In && c.told(b) != trapIs(api.Trap{Cause: []uint64{5, 7, 1, 5}[kind], Tval: va, Gva: kind%2 == 0}, read...) {
							t.Errorf("%s, the entry %d of the page %#x at %d: %s", f.name, s.Index, s.Page, level, c.told(b))
						}
						want := fmt.Sprintf("marked at %d, found", level)
						switch {
						case !s.In:
							want = fmt.Sprint("no memory at ", level)
						case kind == 3:
							want = fmt.Sprint("fault at ", level)
						}
						if end != want {
							t.Errorf("%s, the entry %d of the page %#x at %d: %s, not %s", f.name, s.Index, s.Page, level, end, want)
						}
						came[end[:9]]++
					}
				}
			}
		}
	}
	lay.CameTo(t, came, 100, "marked at", "no memory", "fault at ")
}

// What a device has at an address is no entry, though it could be read as one; and it isn't asked.
func TestDevicesAreNoMemory(t *testing.T) {
	for _, f := range floors() {
		for level := range 3 {
			for _, s := range lay.Devices() {
				b, va := f.bus(t), withIndex(level, s.Index)
				vsatp := f.lays(t, b, va, level, s.Page)
				lay.Feign(t, b)
				for kind := range byte(3) {
					if end := (call{vsatp, f.hgatp, va, api.Want{Kind: kind, V: true}}).holds(t, b); end != fmt.Sprint("no memory at ", level) {
						t.Errorf("%s, the entry %d of the page %#x at %d: %s", f.name, s.Index, s.Page, level, end)
					}
				}
			}
		}
	}
}

// Where a place isn't found for a reading the trap is the second walk's own: what it was for, and the place's quarter; whatever is wanted with the access, and whose it is.
func TestPlacesThatAreNotFound(t *testing.T) {
	f := fine()
	for level := range 3 {
		b := f.down(t, 0, pte.Make(f.data, 0xdf))
		leafAt := secondLeafAt(lowOn + uint64(level))
		for _, e := range []uint64{0, pte.Make(guestLow, 0xcf), pte.Make(guestLow, 0xd9), pte.Make(guestLow, 0xde), pte.Make(guestLow, 1), pte.Make(guestLow, 0xdf) | 1<<60} {
			lay.Put(t, b, leafAt, e)
			before := b.Twin()
			for kind := range byte(4) {
				for _, v := range []bool{false, true} {
					want := trapIs(api.Trap{Cause: []uint64{21, 23, 20, 21}[kind], Tval: theVa, Tval2: f.placeOf(level) / 4, Tinst: 0x3000, Gva: v}, path(level+1)...)
					if got := f.call(api.Want{Kind: kind, V: v, Mxr: true, Vmxr: true, Sum: true, Exec: kind == 0}).told(b); got != want {
						t.Errorf("by the second leaf %#x at %d: %s, not %s", e, level, got, want)
					}
				}
			}
			if !bus.Same(b, before) {
				t.Errorf("by the second leaf %#x at %d: something was written", e, level)
			}
		}
	}
}

// A place that is too far for a second walk, and one whose second table isn't in memory.
func TestPlacesThatHaveNoSecondTable(t *testing.T) {
	for level := range 3 {
		for _, row := range []struct {
			page uint64
			far  bool
		}{{1 << 29, true}, {1<<44 - 1, true}, {1 << 43, true}, {6 << 18, false}, {6<<18 | 511, false}} {
			f := fine()
			b := f.bus(t)
			lay.Put(t, b, ramPage*4096+8*6, pte.Make(0x1000, 1))
			f.leads(t, b, theVa, level)
			vsatp := onMode | row.page
			if level < 2 {
				vsatp = f.vsatp()
				lay.Put(t, b, atVa(level+1), pte.Make(row.page, 1))
			}
			for kind := range byte(4) {
				c := call{vsatp, onTop, theVa, api.Want{Kind: kind, V: kind > 1}}
				trap := api.Trap{Cause: []uint64{5, 7, 1, 5}[kind], Tval: theVa, Gva: kind > 1}
				if row.far {
					trap = api.Trap{Cause: []uint64{21, 23, 20, 21}[kind], Tval: theVa, Tval2: lay.EntryAt(row.page, level, theVa) / 4, Tinst: 0x3000, Gva: kind > 1}
				}
				if got, want := c.told(b), trapIs(trap, path(level+1)...); got != want {
					t.Errorf("the page %#x at %d: %s, not %s", row.page, level, got, want)
				}
				if end, want := c.holds(t, b), fmt.Sprint("not read at ", level); end != want {
					t.Errorf("the page %#x at %d: %s", row.page, level, end)
				}
			}
		}
	}
}

// All kinds by their numbers, at a leaf of each level: what is found of those that there are; those that are none go down, and are a page fault at the leaf.
func TestKinds(t *testing.T) {
	for _, f := range floors() {
		for level := range 3 {
			b := f.down(t, level, pte.Make(f.leafPage(level), 0x1f))
			for kind := range 256 {
				c := f.call(api.Want{Kind: byte(kind), V: kind%2 == 0})
				flags := []uint64{0x5f, 0xdf, 0x5f, 0}[min(kind, 3)]
				want := foundIs(leaf(f.leafPa(level), level, flags), f.ofSecond(f.leafPa(level), 0xdf), append(path(level), atVa(level))...)
				if flags == 0 {
					want = trapIs(api.Trap{Cause: 13, Tval: theVa, Gva: c.w.V}, path(level)...)
				}
				if got := c.told(b.Twin()); got != want {
					t.Errorf("%s, %+v: %s, not %s", f.name, c, got, want)
				}
				c.holds(t, b)
			}
		}
	}
}

// Each access with each privilege and set of marks, at leaves that allow more and less.
func TestMarksOfAccesses(t *testing.T) {
	for _, f := range []floor{crossed(), off()} {
		came := map[string]int{}
		for level, flags := range [][]uint64{{0x11, 0x13, 0x17, 0x19, 0x1b, 0x1f, 0x0f, 0x59, 0xdf, 0x49, 0x43}, {0x19, 0x53, 0x4f}, {0x19, 0x53, 0x0b}} {
			for _, flags := range flags {
				b := f.down(t, level, pte.Make(f.leafPage(level), flags))
				lay.Wants(func(w api.Want) { came[f.call(w).holds(t, b)]++ })
			}
		}
		for level := range 3 {
			for _, end := range []string{"fault at %d", "full at %d, found", "marked at %d, found"} {
				if came[fmt.Sprintf(end, level)] < 30 {
					t.Errorf("%s: %v", f.name, came)
				}
			}
		}
	}
}

// One row for each of the access's marks: what comes of it without the mark, and with it, by the guest's flags and the second leaf's of the data.
func TestEachMark(t *testing.T) {
	const no, yes, guest = "page fault", "found", "guest-page fault"
	for _, row := range []struct {
		what     string
		vs, g    uint64
		w, with  api.Want
		is, then string
	}{
		{"Priv, without U", 0xcf, 0xdf, api.Want{}, api.Want{Priv: 1}, no, yes},
		{"Priv, with U", 0xdf, 0xdf, api.Want{}, api.Want{Priv: 1}, yes, no},
		{"Priv, a fetch with U", 0xdf, 0xdf, api.Want{Kind: 2}, api.Want{Kind: 2, Priv: 1}, yes, no},
		{"Sum, a load with U", 0xdf, 0xdf, api.Want{Priv: 1}, api.Want{Priv: 1, Sum: true}, no, yes},
		{"Sum, a store with U", 0xdf, 0xdf, api.Want{Kind: 1, Priv: 1}, api.Want{Kind: 1, Priv: 1, Sum: true}, no, yes},
		{"Sum, a fetch with U", 0xdf, 0xdf, api.Want{Kind: 2, Priv: 1}, api.Want{Kind: 2, Priv: 1, Sum: true}, no, no},
		{"Sum, a user without U", 0xcf, 0xdf, api.Want{}, api.Want{Sum: true}, no, no},
		{"Mxr, what the guest may fetch", 0xd9, 0xdf, api.Want{}, api.Want{Mxr: true}, no, yes},
		{"Mxr, what the second leaf lets fetch", 0xdf, 0xd9, api.Want{}, api.Want{Mxr: true}, guest, yes},
		{"Mxr, what both let fetch", 0xd9, 0xd9, api.Want{}, api.Want{Mxr: true}, no, yes},
		{"Mxr, a store", 0xd9, 0xdf, api.Want{Kind: 1}, api.Want{Kind: 1, Mxr: true}, no, no},
		{"Vmxr with V, what the guest may fetch", 0xd9, 0xdf, api.Want{V: true}, api.Want{V: true, Vmxr: true}, no, yes},
		{"Vmxr with V, what the second leaf lets fetch", 0xdf, 0xd9, api.Want{V: true}, api.Want{V: true, Vmxr: true}, guest, guest},
		{"Vmxr with V, what both let fetch", 0xd9, 0xd9, api.Want{V: true}, api.Want{V: true, Vmxr: true}, no, guest},
		{"Vmxr without V", 0xd9, 0xdf, api.Want{}, api.Want{Vmxr: true}, no, no},
		{"V with Vmxr", 0xd9, 0xdf, api.Want{Vmxr: true}, api.Want{V: true, Vmxr: true}, no, yes},
		{"V by itself", 0xdf, 0xdf, api.Want{}, api.Want{V: true}, yes, yes},
		{"Exec, what the guest may fetch", 0xd9, 0xdf, api.Want{}, api.Want{Exec: true}, no, yes},
		{"Exec, what both let fetch", 0xd9, 0xd9, api.Want{}, api.Want{Exec: true}, no, yes},
		{"Exec, what the guest may read", 0xd3, 0xdf, api.Want{}, api.Want{Exec: true}, yes, no},
		{"Exec, what the second leaf lets read", 0xdf, 0xd3, api.Want{}, api.Want{Exec: true}, yes, guest},
		{"Exec, a store", 0xd7, 0xd7, api.Want{Kind: 1}, api.Want{Kind: 1, Exec: true}, yes, yes},
		{"Exec, a fetch of what may be read", 0xd7, 0xdf, api.Want{Kind: 2}, api.Want{Kind: 2, Exec: true}, no, no},
	} {
		f := fine()
		b := f.down(t, 0, pte.Make(f.data, row.vs))
		lay.Put(t, b, secondLeafAt(dataOn), pte.Make(dataPage, row.g))
		if is, then := comesOf(f, b, row.w), comesOf(f, b, row.with); is != row.is || then != row.then {
			t.Errorf("%s: %s, %s", row.what, is, then)
		}
	}
}

// comesOf says what comes of an access to theVa.
func comesOf(f floor, b *bus.Bus, w api.Want) string {
	x := f.call(w).nested(b.Twin())
	switch x.trap {
	case api.Trap{}:
		return "found"
	case f.call(w).pageFault():
		return "page fault"
	case f.call(w).guestFault(f.data<<12|0xabc, 0):
		return "guest-page fault"
	}
	return x.text()
}

// A and D of the guest's leaf, set and not, for each kind, at each level: what is told, what is touched, what stands there behind the walk, and that nothing else is written.
func TestAAndD(t *testing.T) {
	for _, f := range floors() {
		for level := range 3 {
			for _, row := range []struct {
				flags uint64
				kind  byte
				then  uint64
			}{
				{0x1f, 0, 0x5f}, {0x5f, 0, 0x5f}, {0x9f, 0, 0xdf}, {0xdf, 0, 0xdf}, {0x1f, 1, 0xdf}, {0x5f, 1, 0xdf}, {0x9f, 1, 0xdf}, {0xdf, 1, 0xdf}, {0x1f, 2, 0x5f}, {0x5f, 2, 0x5f}, {0x9f, 2, 0xdf}, {0xdf, 2, 0xdf},
				{0x3f, 1, 0xff}, {0x19, 2, 0x59}, {0x13, 0, 0x53}, {0x33, 0, 0x73}, {0x17, 1, 0xd7}, {0x57, 1, 0xd7},
			} {
				for _, over := range []uint64{0, 0x100, 0x200, 0x300} {
					e := pte.Make(f.leafPage(level), row.flags) | over
					then := pte.Make(f.leafPage(level), row.then) | over
					b, touched := f.down(t, level, e), path(level)
					if then != e {
						touched = append(touched, atVa(level))
					}
					want := foundIs(leaf(f.leafPa(level), level, row.then), f.ofSecond(f.leafPa(level), 0xdf), touched...)
					if got := f.call(api.Want{Kind: row.kind, V: true}).told(b); got != want {
						t.Errorf("%s, %#x for %d: %s, not %s", f.name, e, row.kind, got, want)
					}
					if got, ok := lay.Get(b, atVa(level)); !ok || got != then {
						t.Errorf("%s, %#x for %d: %#x stands there", f.name, e, row.kind, got)
					}
					if !bus.Same(b, f.down(t, level, then)) {
						t.Errorf("%s, %#x for %d: something else was written", f.name, e, row.kind)
					}
				}
			}
		}
	}
}

// Beside the guest's leaf nothing is written, where all of the memory is full of words.
func TestNothingElseIsWritten(t *testing.T) {
	x := mixer(5)
	for range 8 {
		for _, f := range []floor{crossed(), off()} {
			full := f.bus(t)
			for at := uint64(ramPage+4) * 4096; at < (ramPage+ramPages)*4096; at += 8 {
				lay.Put(t, full, at, x.word())
			}
			for level := range 3 {
				b := full.Twin()
				f.leads(t, b, theVa, level)
				lay.Put(t, b, atVa(level), pte.Make(f.leafPage(level), 0x1f)|0x300)
				for kind := range byte(3) {
					c, after := f.call(api.Want{Kind: kind, V: true}), b.Twin()
					if end, want := c.holds(t, b), fmt.Sprintf("marked at %d, found", level); end != want {
						t.Fatalf("%s, %d: %s, not %s", f.name, kind, end, want)
					}
					lay.Put(t, after, atVa(level), pte.Make(f.leafPage(level), []uint64{0x5f, 0xdf, 0x5f}[kind])|0x300)
					now := b.Twin()
					c.nested(now)
					if !bus.Same(now, after) {
						t.Errorf("%s, %d: something else was written", f.name, kind)
					}
				}
			}
		}
	}
}

// An entry that may be read, and not be written: where it must be marked there is a guest-page fault that says so, and it stays as it was; where it needs no mark it is found.
func TestEntriesThatMayNotBeWritten(t *testing.T) {
	for level := range 3 {
		for _, row := range []struct {
			flags, second uint64
			kind          byte
			written       bool
		}{
			{0x1f, 0x53, 0, false}, {0x1f, 0x53, 1, false}, {0x1f, 0x53, 2, false}, {0x5f, 0x53, 1, false}, {0x9f, 0xd3, 1, false}, {0x9f, 0xd3, 2, false}, {0x1f, 0xdb, 0, false}, {0x5f, 0xdb, 1, false},
			{0x5f, 0x53, 0, true}, {0x5f, 0x53, 2, true}, {0xdf, 0x53, 1, true}, {0xdf, 0xdb, 1, true}, {0xdf, 0x53, 0, true},
		} {
			f := fine()
			b := f.down(t, level, pte.Make(f.leafPage(level), row.flags))
			lay.Put(t, b, secondLeafAt(lowOn+uint64(level)), pte.Make(guestLow+uint64(level), row.second))
			before := b.Twin()
			for _, v := range []bool{false, true} {
				want := trapIs(api.Trap{Cause: []uint64{21, 23, 20}[row.kind], Tval: theVa, Tval2: f.placeOf(level) / 4, Tinst: 0x3020, Gva: v}, path(level)...)
				if row.written {
					want = foundIs(leaf(f.leafPa(level), level, row.flags), f.ofSecond(f.leafPa(level), 0xdf), path(level)...)
				}
				if got := f.call(api.Want{Kind: row.kind, V: v}).told(b); got != want {
					t.Errorf("%+v at %d: %s, not %s", row, level, got, want)
				}
			}
			if !bus.Same(b, before) {
				t.Errorf("%+v at %d: something was written", row, level)
			}
		}
	}
}

// What the second walk marks on the way: A for a reading of an entry, A and D for a writing, and what the access asks for.
func TestMarksOfTheSecondWalk(t *testing.T) {
	for _, row := range []struct {
		flags                  uint64
		kind                   byte
		top, middle, low, data uint64
		then                   uint64
	}{
		{0x1f, 0, 0x5f, 0x5f, 0xdf, 0x5f, 0x5f}, {0x5f, 0, 0x5f, 0x5f, 0x5f, 0x5f, 0x5f}, {0x5f, 1, 0x5f, 0x5f, 0xdf, 0xdf, 0xdf}, {0xdf, 1, 0x5f, 0x5f, 0x5f, 0xdf, 0xdf}, {0x1f, 2, 0x5f, 0x5f, 0xdf, 0x5f, 0x5f}, {0xdf, 2, 0x5f, 0x5f, 0x5f, 0x5f, 0xdf},
		// Of what is no kind, and of what isn't allowed, only the readings leave marks.
		{0x1f, 3, 0x5f, 0x5f, 0x5f, 0x1f, 0}, {0x0f, 1, 0x5f, 0x5f, 0x5f, 0x1f, 0}, {0, 0, 0x5f, 0x5f, 0x5f, 0x1f, 0},
	} {
		f := fine()
		b := f.down(t, 0, pte.Make(f.data, row.flags))
		for i := range uint64(4) {
			lay.Put(t, b, secondLeafAt(lowOn+i), pte.Make(guestLow+i, 0x1f))
		}
		c := f.call(api.Want{Kind: row.kind, V: true})
		x := c.nested(b)
		if x.trap.Is != (row.then == 0) || x.vs.Flags != row.then {
			t.Errorf("%+v: %s", row, x.text())
		}
		want := f.down(t, 0, pte.Make(f.data, row.flags))
		if row.then != 0 {
			lay.Put(t, want, atVa(0), pte.Make(f.data, row.then))
		}
		for i, flags := range []uint64{row.low, row.middle, row.top, row.data} {
			lay.Put(t, want, secondLeafAt(lowOn+uint64(i)), pte.Make(guestLow+uint64(i), flags))
		}
		if !bus.Same(b, want) {
			t.Errorf("%+v: other marks", row)
		}
	}
}

// Marks that the second walk sets stay where the whole ends by a trap: those ahead of it, and no others.
func TestMarksAheadOfATrap(t *testing.T) {
	for level := range 3 {
		f := fine()
		b := f.down(t, 0, pte.Make(f.data, 0x1f))
		for i := range uint64(4) {
			lay.Put(t, b, secondLeafAt(lowOn+i), pte.Make(guestLow+i, 0x1f))
		}
		lay.Put(t, b, secondLeafAt(lowOn+uint64(level)), 0)
		want := b.Twin()
		for i := uint64(level) + 1; i < 3; i++ {
			lay.Put(t, want, secondLeafAt(lowOn+i), pte.Make(guestLow+i, 0x5f))
		}
		if x := f.call(api.Want{Kind: 1}).nested(b); x.trap.Tinst != 0x3000 || !bus.Same(b, want) {
			t.Errorf("no second leaf at %d: %s", level, x.text())
		}
	}
}

// shared is a bus in which one word, at atVa(0), is both the guest's leaf of theVa and the second leaf of the guest's page that is so far on; hgatp's lowest table is the guest's own page then.
func shared(t *testing.T, on, flags uint64) (*bus.Bus, call) {
	t.Helper()
	f := fine()
	b := f.bus(t)
	// The second walk's lowest table is that of the guest's leaves: the place of the page that is so far on is theVa's.
	lay.Put(t, b, secondMiddle*4096+8*7, pte.Make(guestLow, 1))
	// The memory's own addresses are found, too, so that what the leaf leads to is.
	lay.Put(t, b, ramPage*4096+8*2, pte.Make(2<<18, 0xdf))
	names := map[uint64]uint64{}
	for i := range uint64(4) {
		names[i] = guestBase + 16 + i
		lay.Put(t, b, guestLow*4096+8*(16+i), pte.Make(guestLow+i, 0xdf))
	}
	names[on] = guestBase + 4
	lay.Put(t, b, guestLow*4096+8*4, pte.Make(guestLow+on, flags))
	lay.Put(t, b, guestAt(2, theVa), pte.Make(names[1], 1))
	lay.Put(t, b, guestAt(1, theVa), pte.Make(names[0], 1))
	return b, call{onMode | names[2], onTop, theVa, api.Want{V: true}}
}

// A word that is the guest's leaf and the second leaf of a table of the guest's alike: the second walk has set A in it ahead of the guest's reading, so that a load need not write it, and may not be able to; a store writes it all the same.
func TestMarksAheadOfTheGuestsReading(t *testing.T) {
	for on := range uint64(3) {
		for _, row := range []struct {
			flags uint64
			kind  byte
			then  uint64
			trap  uint64
		}{
			{0x1f, 0, 0x5f, 0}, {0x13, 0, 0x53, 0}, {0x1b, 2, 0x5b, 0}, {0x5f, 0, 0x5f, 0}, {0x9f, 0, 0xdf, 0}, {0x1f, 1, 0xdf, 0}, {0x5f, 1, 0xdf, 0}, {0x9f, 1, 0xdf, 0}, {0xdf, 1, 0xdf, 0},
			{0x0f, 0, 0x0f, 21}, {0x19, 2, 0x19, 20}, {0x13, 1, 0x53, 15},
		} {
			b, c := shared(t, on, row.flags)
			c.w.Kind = row.kind
			before := b.Twin()
			x := c.runs(t, b)
			if x.trap.Cause != row.trap {
				t.Errorf("%+v, of the table %d: %s", row, on, x.text())
			}
			if row.then != row.flags {
				lay.Put(t, before, guestLow*4096+8*4, pte.Make(guestLow+on, row.then))
			}
			if !bus.Same(b, before) {
				t.Errorf("%+v, of the table %d: it is not as it should be", row, on)
			}
			entries := 3
			if row.kind == 1 && row.flags&0x80 == 0 {
				entries = 4
			}
			if !x.trap.Is && (x.vs.Flags != row.then || len(x.touched) != entries+1) {
				t.Errorf("%+v, of the table %d: %s", row, on, x.text())
			}
		}
	}
}

// A word that is the guest's leaf and the second leaf of what it leads to: the guest's mark is set ahead of the last walk.
func TestALeafThatIsItsOwnSecond(t *testing.T) {
	for _, row := range []struct {
		flags uint64
		kind  byte
		then  uint64
		end   string
	}{{0x1f, 0, 0x5f, "marked at 0, found"}, {0x1f, 1, 0xdf, "marked at 0, found"}, {0x5f, 1, 0xdf, "marked at 0, found"}, {0xdf, 2, 0xdf, "full at 0, found"}, {0x0f, 0, 0x0f, "fault at 0"}, {0x4f, 0, 0x4f, "full at 0, not found"}, {0x0f, 0, 0x4f, "marked at 0, not found"}} {
		b, c := shared(t, 3, row.flags)
		// What the leaf names as the guest's own page is the same number as what stands behind it: so it leads to the second leaf of that page.
		lay.Put(t, b, ramPage*4096+8*2, pte.Make(secondMiddle, 1))
		lay.Put(t, b, secondMiddle*4096, pte.Make(guestLow, 1))
		lay.Put(t, b, guestLow*4096+8*4, pte.Make(ramPage+4, row.flags))
		c.w = api.Want{Kind: row.kind, V: true}
		if row.flags&0x10 == 0 && row.end != "fault at 0" {
			c.w.Priv = 1
		}
		x := c.runs(t, b)
		if x.end != row.end {
			t.Errorf("%+v: %s", row, x.end)
		}
		if v, _ := lay.Get(b, guestLow*4096+8*4); v != pte.Make(ramPage+4, row.then) {
			t.Errorf("%+v: %#x stands there", row, v)
		}
		if !x.trap.Is && (x.vs != leaf(0x80004abc, 0, row.then) || x.g != x.vs) {
			t.Errorf("%+v: %s", row, x.text())
		}
	}
}

// The last walk's traps and marks, by the second leaf of the data and each kind: the guest's own leaf is marked ahead of it.
func TestTheLastWalk(t *testing.T) {
	for level := range 3 {
		for _, row := range []struct {
			second, then uint64
			kind         byte
		}{
			{0x1f, 0x5f, 0}, {0x1f, 0xdf, 1}, {0x1f, 0x5f, 2}, {0xdf, 0xdf, 0}, {0x5f, 0xdf, 1}, {0x13, 0x53, 0}, {0x19, 0x59, 2}, {0x17, 0xd7, 1}, {0x9f, 0xdf, 2},
			{0x0f, 0, 0}, {0x0f, 0, 1}, {0x0f, 0, 2}, {0, 0, 0}, {0x13, 0, 1}, {0x13, 0, 2}, {0x19, 0, 0}, {0x17, 0, 2}, {1, 0, 0}, {0xde, 0, 1},
		} {
			f := fine()
			b := f.down(t, level, pte.Make(f.leafPage(level), 0x1f))
			lay.Put(t, b, secondLeafAt(dataOn), pte.Make(dataPage, row.second))
			flags := []uint64{0x5f, 0xdf, 0x5f}[row.kind]
			after := f.down(t, level, pte.Make(f.leafPage(level), flags))
			touched := append(path(level), atVa(level))
			want := trapIs(api.Trap{Cause: []uint64{21, 23, 20}[row.kind], Tval: theVa, Tval2: (f.data<<12 | 0xabc) / 4, Gva: true}, touched...)
			lay.Put(t, after, secondLeafAt(dataOn), pte.Make(dataPage, row.second))
			if row.then != 0 {
				want = foundIs(leaf(f.leafPa(level), level, flags), leaf(dataPage<<12|0xabc, 0, row.then), touched...)
				lay.Put(t, after, secondLeafAt(dataOn), pte.Make(dataPage, row.then))
			}
			if got := f.call(api.Want{Kind: row.kind, V: true}).told(b); got != want {
				t.Errorf("%+v at %d: %s, not %s", row, level, got, want)
			}
			if !bus.Same(b, after) {
				t.Errorf("%+v at %d: the bus is not as it should be", row, level)
			}
		}
	}
}

// The last walk may end by an access fault of a second table that isn't in memory; and what is found need not lie in memory.
func TestTheLastWalkAndMemory(t *testing.T) {
	f := fine()
	b := f.down(t, 0, pte.Make(6<<18|9, 0xdf))
	lay.Put(t, b, ramPage*4096+8*6, pte.Make(0x1000, 1))
	for kind := range byte(3) {
		want := trapIs(api.Trap{Cause: []uint64{5, 7, 1}[kind], Tval: theVa, Gva: kind == 1}, path(0)...)
		if got := f.call(api.Want{Kind: kind, V: kind == 1}).told(b); got != want {
			t.Errorf("%d: %s, not %s", kind, got, want)
		}
	}
	for _, page := range []uint64{0, 0x10000, 0x200b, 0x7ffff, 0x80010, 1<<44 - 1} {
		b := f.down(t, 0, pte.Make(f.data, 0xdf))
		lay.Put(t, b, secondLeafAt(dataOn), pte.Make(page, 0xdf))
		want := foundIs(leaf(f.data<<12|0xabc, 0, 0xdf), leaf(page<<12|0xabc, 0, 0xdf), path(0)...)
		if got := f.call(api.Want{V: true}).told(b); got != want {
			t.Errorf("the page %#x: %s, not %s", page, got, want)
		}
	}
}

// Tables that lie in one another in every way, the guest's and the second walk's alike, walked again and again by one bus, so that what was marked is come to.
func TestManyWalks(t *testing.T) {
	came := map[string]int{}
	x := mixer(1)
	for range 400 {
		pages := 1 + x.below(8)
		b := x.tangle(t, pages)
		for range 150 {
			came[x.call(pages).runs(t, b).end]++
		}
	}
	lay.CameTo(t, came, 5, allEnds()...)
}

// P18.3

// The list beside each way to end, written out: by a fine floor, from one that touches nothing to one that touches all.
func TestTouched(t *testing.T) {
	f := fine()
	top, middle, low, data := atVa(2), atVa(1), atVa(0), uint64(dataPage<<12|0xabc)
	leafOf := func(level int, flags uint64) *bus.Bus {
		return f.down(t, level, pte.Make(f.leafPage(level), flags))
	}
	without := func(on uint64, flags uint64) *bus.Bus {
		b := leafOf(0, 0x1f)
		lay.Put(t, b, secondLeafAt(on), pte.Make(guestLow-lowOn+on, flags))
		return b
	}
	load, far := f.call(api.Want{V: true}), f.call(api.Want{V: true})
	far.va = 1 << 38
	guestOff := f.call(api.Want{V: true})
	guestOff.vsatp, guestOff.va = 0, f.data<<12|0xabc
	for _, row := range []struct {
		what string
		b    *bus.Bus
		c    call
		want []uint64
		is   bool
	}{
		{"not walked", leafOf(0, 0x1f), far, nil, true},
		{"the highest isn't reached", without(3, 0), load, nil, true},
		{"the middle one isn't reached", without(2, 0), load, []uint64{top}, true},
		{"the lowest isn't reached", without(1, 0), load, []uint64{top, middle}, true},
		{"no entry in the highest", f.down(t, 2, 0), load, []uint64{top}, true},
		{"no entry in the middle one", f.down(t, 1, 0), load, []uint64{top, middle}, true},
		{"no entry in the lowest", f.down(t, 0, 0), load, []uint64{top, middle, low}, true},
		{"the leaf can't be written", without(1, 0x53), load, []uint64{top, middle, low}, true},
		{"the data isn't found", without(4, 0), load, []uint64{top, middle, low, low}, true},
		{"all is found, and marked", leafOf(0, 0x1f), load, []uint64{top, middle, low, low, data}, false},
		{"all is found, and was marked", leafOf(0, 0x5f), load, []uint64{top, middle, low, data}, false},
		{"a leaf of 2^21 bytes, marked", leafOf(1, 0x1f), load, []uint64{top, middle, middle, data}, false},
		{"a leaf of 2^30 bytes, marked", leafOf(2, 0x1f), load, []uint64{top, top, data}, false},
		{"a leaf of 2^30 bytes", leafOf(2, 0xdf), load, []uint64{top, data}, false},
		{"the guest's walk off", leafOf(0, 0x1f), guestOff, []uint64{data}, false},
		{"the guest's walk off, the data isn't found", without(4, 0), guestOff, nil, true},
	} {
		x := row.c.nested(row.b)
		if !slices.Equal(x.touched, row.want) || x.trap.Is != row.is {
			t.Errorf("%s: %s", row.what, x.text())
		}
		if x.trap.Is && (x.pa != 0 || x.vs != (api.Leaf{}) || x.g != (api.Leaf{})) {
			t.Errorf("%s: beside a trap %s", row.what, x.text())
		}
		if !x.trap.Is && (x.trap != (api.Trap{}) || x.pa != x.g.Pa || x.pa != x.touched[len(x.touched)-1]) {
			t.Errorf("%s: beside what is found %s", row.what, x.text())
		}
	}
}

// What is told is new: a list that is changed, and added to, changes no other one.
func TestListsShareNothing(t *testing.T) {
	f := fine()
	b := f.down(t, 0, pte.Make(f.data, 0xdf))
	for _, c := range []call{f.call(api.Want{V: true}), f.call(api.Want{Kind: 1, V: true, Priv: 1}), {0, f.hgatp, f.data << 12, api.Want{}}, {0, 0, 5, api.Want{}}} {
		first, second := c.nested(b), c.nested(b)
		want := first.text()
		for i := range second.touched {
			second.touched[i] = 0
		}
		second.touched = append(second.touched[:0], 1, 2, 3, 4, 5, 6, 7)
		if got := first.text(); got != want {
			t.Errorf("%s, not %s", got, want)
		}
		if got := c.told(b); got != want {
			t.Errorf("another one: %s, not %s", got, want)
		}
	}
}

// P18.4

// No bus, and one that nobody made: no memory, so that a walk that is on ends by the access fault.
func TestNilBus(t *testing.T) {
	for _, vsatp := range []uint64{0, onMode, onMode | (1<<60 - 1), fine().vsatp()} {
		for _, hgatp := range []uint64{0, offTop, onMode, onTop} {
			for _, va := range []uint64{0, theVa, from(38), 1 << 38, 1 << 41, all} {
				lay.Wants(func(w api.Want) {
					c := call{vsatp, hgatp, va, w}
					for _, b := range []*bus.Bus{nil, {}} {
						if got := c.told(b); got != c.withoutMemory() {
							t.Fatalf("%+v: %s, not %s", c, got, c.withoutMemory())
						}
					}
				})
			}
		}
	}
}

// withoutMemory is what a call tells where there is none.
func (c call) withoutMemory() string {
	if On(c.vsatp) && !isWalked(c.va) {
		return trapIs(c.pageFault())
	}
	place := c.va
	if On(c.vsatp) {
		place = lay.EntryAt(c.vsatp%(1<<44), 2, c.va)
	}
	switch {
	case gwalk.On(c.hgatp) && place/(1<<41) != 0:
		return trapIs(c.guestFault(place, map[bool]int{false: 0, true: 1}[On(c.vsatp)]))
	case gwalk.On(c.hgatp) || On(c.vsatp):
		return trapIs(c.accessFault())
	}
	return foundIs(leaf(c.va, 2, 255), leaf(c.va, 2, 255))
}
