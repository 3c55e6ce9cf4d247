package walk

import (
	"fmt"
	"slices"
	"testing"

	"mezzanine/api"
	"mezzanine/bus"
	"mezzanine/lay"
)

// chapterBus is the bus of the chapter's examples.
func chapterBus(t *testing.T) *bus.Bus {
	t.Helper()
	b := lay.Bus(t, 16)
	lay.Put(t, b, 0x80001000, 0x20000801)
	lay.Put(t, b, 0x80002000, 0x20000c01)
	lay.Put(t, b, 0x80003010, 0x20001c4f)
	return b
}

// told is what One tells, as text.
func told(b *bus.Bus, root, va uint64, w api.Want) string {
	leaf, trap := One(b, root, va, w)
	return fmt.Sprintf("%+v %+v", leaf, trap)
}

// leafIs and trapIs are what One tells of a leaf, and of a fault.
func leafIs(pa uint64, level int, flags uint64) string {
	return fmt.Sprintf("%+v %+v", api.Leaf{Pa: pa, Level: level, Flags: flags}, api.Trap{})
}

func trapIs(cause, tval uint64, gva bool) string {
	return fmt.Sprintf("%+v %+v", api.Leaf{}, api.Trap{Is: true, Cause: cause, Tval: tval, Gva: gva})
}

func TestExamplesOfTheChapter(t *testing.T) {
	b := chapterBus(t)
	for _, row := range []struct{ got, want string }{
		{told(b, 0x80001, 0x2345, load), leafIs(0x80007345, 0, 0x4f)},
		{told(b, 0x80001, 0x2345, api.Want{Kind: api.Store, Priv: api.Super}), leafIs(0x80007345, 0, 0xcf)},
		{fmt.Sprint(b.Read(0x80003010, 8)), fmt.Sprint(0x20001ccf, true)},
		{told(b, 0x80001, 0x2345, api.Want{}), trapIs(13, 0x2345, false)},
		{told(b, 0x80001, 0x1000, api.Want{Kind: api.Fetch, Priv: api.Super}), trapIs(12, 0x1000, false)},
		{told(b, 0x80001, 1<<38, api.Want{Kind: api.Store, V: true}), trapIs(15, 1<<38, true)},
		{told(b, 0x90000, 0, api.Want{Kind: api.Load}), trapIs(5, 0, false)},
		{told(nil, 0, 0, api.Want{Kind: api.Store}), trapIs(7, 0, false)},
		{fmt.Sprintf("%#x", Path(b, 0x80001, 0x2345)), "[0x80001000 0x80002000 0x80003010]"},
		{fmt.Sprintf("%#x", Path(b, 0x80001, 0x1000)), "[0x80001000 0x80002000 0x80003008]"},
		{fmt.Sprintf("%#x", Path(b, 0x80001, 1<<30)), "[0x80001008]"},
	} {
		if row.got != row.want {
			t.Errorf("%s, not %s", row.got, row.want)
		}
	}
}

// P16.1

// everywhere is a bus in whose first page each entry is a leaf of 2^30 bytes that allows users all, and is marked.
func everywhere(t *testing.T) *bus.Bus {
	t.Helper()
	b := lay.Bus(t, 1)
	for i := range uint64(512) {
		lay.Put(t, b, ramPage*4096+8*i, i<<28|0xdf)
	}
	return b
}

// Both ends of what is walked, and numbers that are cut to it or go round.
func TestWhatIsWalked(t *testing.T) {
	b := everywhere(t)
	for _, row := range []struct {
		va uint64
		is bool
		pa uint64
	}{
		{0, true, 0}, {1, true, 1}, {1<<38 - 1, true, 1<<38 - 1}, {1 << 38, false, 0}, {1<<38 + 1, false, 0}, {1<<39 - 1, false, 0}, {1 << 39, false, 0}, {1<<39 + 5, false, 0}, {1 << 62, false, 0},
		{1<<63 - 1, false, 0}, {1 << 63, false, 0}, {3 << 62, false, 0}, {from(39) - 1, false, 0}, {from(39), false, 0}, {from(38) - 1, false, 0}, {from(38), true, 1 << 38}, {from(38) + 1, true, 1<<38 + 1}, {all, true, 1<<39 - 1},
		{1<<40 - 1<<38, false, 0}, {1<<63 - 1<<38, false, 0},
	} {
		for kind := range byte(3) {
			for _, v := range []bool{false, true} {
				w := api.Want{Kind: kind, V: v}
				want := trapIs(pageCause(kind), row.va, v)
				if row.is {
					want = leafIs(row.pa, 2, 0xdf)
				}
				if got := told(b, ramPage, row.va, w); got != want {
					t.Errorf("of %#x for %d: %s, not %s", row.va, kind, got, want)
				}
				holds(t, b, ramPage, row.va, w)
			}
		}
		if got := len(Path(b, ramPage, row.va)) == 1; got != row.is {
			t.Errorf("the path of %#x: %#x", row.va, Path(b, ramPage, row.va))
		}
	}
}

// Each bit from 38 on must be as the others are.
func TestEachBitOfTheSign(t *testing.T) {
	b := everywhere(t)
	came := map[string]int{}
	for _, start := range []uint64{0, all, 0x2345, from(38)} {
		came[holds(t, b, ramPage, start, load)]++
		for i := range 64 {
			va := start ^ 1<<i
			end := holds(t, b, ramPage, va, api.Want{})
			if is := end == "found at 2"; is != (i < 38) {
				t.Errorf("%#x: %s", va, end)
			}
		}
	}
	if len(came) != 1 || came["fault at 2"] != 4 {
		t.Errorf("a supervisor without Sum, on a user's: %v", came)
	}
}

// That an address is not walked is asked ahead of all else: it is a page fault, where there is no memory, too.
func TestNotWalkedGoesFirst(t *testing.T) {
	for _, b := range []*bus.Bus{lay.Bus(t, 1), nil, {}} {
		for _, va := range []uint64{1 << 38, from(38) - 1, 1 << 63} {
			for kind := range byte(4) {
				if got, want := told(b, 0, va, api.Want{Kind: kind}), trapIs(pageCause(kind), va, false); got != want {
					t.Errorf("of %#x for %d: %s, not %s", va, kind, got, want)
				}
			}
		}
	}
}

// Bits of a root from 44 on are nothing, each of those below counts.
func TestRoots(t *testing.T) {
	b := chapterBus(t)
	for i := range 64 {
		root := uint64(0x80001) ^ 1<<i
		end, want := holds(t, b, root, 0x2345, load), "no memory at 2"
		switch {
		case i > 43:
			want = "found at 0"
		case i < 4:
			want = "fault at 2"
		}
		if i == 1 { // the page 0x80003: 0x20001c4f stands at its third entry alone
			want = "fault at 2"
		}
		if end != want {
			t.Errorf("the root %#x: %s, not %s", root, end, want)
		}
		if i > 43 {
			if got := Path(b, root, 0x2345); !slices.Equal(got, []uint64{0x80001000, 0x80002000, 0x80003010}) {
				t.Errorf("the root %#x: %#x", root, got)
			}
		}
	}
	for _, root := range []uint64{0x80001 | 8<<60, 0x80001 | 0xfffff<<44, from(44) | 0x80001} {
		if end := holds(t, b, root, 0x2345, load); end != "found at 0" {
			t.Errorf("the root %#x: %s", root, end)
		}
	}
	for _, root := range []uint64{0, 1, all, 1<<44 - 1, 1 << 44, 1 << 52, ramPage - 1, ramPage + 16, 0x80001 << 12} {
		if end := holds(t, b, root, 0x2345, load); end != "no memory at 2" {
			t.Errorf("the root %#x: %s", root, end)
		}
	}
}

// withIndex is an address that is walked by that entry of a level's table, and by the second and third ones of the others.
func withIndex(level int, index uint64) uint64 {
	indexes := []uint64{2, 1, 2}
	indexes[level] = index
	va := indexes[2]<<30 | indexes[1]<<21 | indexes[0]<<12 | 0xabc
	if indexes[2] > 255 {
		va |= from(39)
	}
	return va
}

// Entries of each level that lie in memory, its first and its last eight bytes among them, and that lie not.
func TestWhereEntriesLie(t *testing.T) {
	for _, pages := range []uint64{4, 5, 16, api.MaxRam / 4096} {
		for level := range 3 {
			for _, s := range lay.Spots(pages) {
				if s.In && s.Page == tablePage(level) {
					continue
				}
				va := withIndex(level, s.Index)
				b, root := inPage(t, pages, va, level, s.Page)
				want := fmt.Sprint("no memory at ", level)
				if s.In {
					lay.Put(t, b, s.Page*4096+s.Index*8, 3<<28|0x0f)
					want = fmt.Sprint("found at ", level)
				}
				for _, w := range []api.Want{{Priv: 1}, {Kind: 1, Priv: 1, V: true}, {Kind: 2, Priv: 1}} {
					if end := holds(t, b, root, va, w); end != want {
						t.Fatalf("%d pages, the entry %d of the page %#x at %d: %s, not %s", pages, s.Index, s.Page, level, end, want)
					}
				}
				if end := holds(t, b, root, va, api.Want{Kind: 9, V: true}); s.In != (end == fmt.Sprint("fault at ", level)) {
					t.Fatalf("an access of no kind, at %d: %s", level, end)
				}
			}
		}
	}
}

// A memory of one page holds all three tables, which are one.
func TestOnePageOfMemory(t *testing.T) {
	const self, beneath, behind = ramPage<<10 | 1, (ramPage-1)<<10 | 1, (ramPage+1)<<10 | 1
	const inFirst, inLast, page = "0x80000000", "0x80000ff8", 0x77<<10 | 0x0f
	for _, row := range []struct {
		first, last uint64 // what stands in the first and the last entry
		va          uint64
		end, path   string
	}{
		{self, page, 0x1ff<<12 | 0x123, "found at 0", "[" + inFirst + " " + inFirst + " " + inLast + "]"},
		{self, page, 0x123, "fault at 0", "[" + inFirst + " " + inFirst + " " + inFirst + "]"},
		{page, self, from(30) | 0x1ff<<21 | 0x123, "found at 0", "[" + inLast + " " + inLast + " " + inFirst + "]"},
		{page, self, from(30) | 0x123, "fault at 1", "[" + inLast + " " + inFirst + "]"},
		{1<<28 | 0x0f, self, from(30) | 0x123, "found at 1", "[" + inLast + " " + inFirst + "]"},
		{1<<28 | 0x0f, self, 0x123, "found at 2", "[" + inFirst + "]"},
		{self, self, all, "fault at 0", "[" + inLast + " " + inLast + " " + inLast + "]"},
		{behind, self, from(30), "no memory at 0", "[" + inLast + " " + inFirst + "]"},
		{beneath, self, 0x555, "no memory at 1", "[" + inFirst + "]"},
	} {
		b := lay.Bus(t, 1)
		lay.Put(t, b, 0x80000000, row.first)
		lay.Put(t, b, 0x80000ff8, row.last)
		if got := fmt.Sprintf("%#x", Path(b, ramPage, row.va)); got != row.path {
			t.Errorf("the path of %#x: %s, not %s", row.va, got, row.path)
		}
		for _, w := range []api.Want{{Priv: 1}, {Kind: 1, Priv: 1}, {Kind: 2, Priv: 1}} {
			if end := holds(t, b, ramPage, row.va, w); end != row.end {
				t.Errorf("of %#x: %s, not %s", row.va, end, row.end)
			}
		}
	}
}

// What a device has at an address is no entry, though it could be read as one; and it isn't asked.
func TestDevicesAreNoMemory(t *testing.T) {
	for level := range 3 {
		for _, s := range lay.Devices() {
			va := withIndex(level, s.Index)
			b, root := inPage(t, 4, va, level, s.Page)
			lay.Feign(t, b)
			for _, w := range []api.Want{{}, {Kind: 1, V: true}, {Kind: 2}} {
				if end := holds(t, b, root, va, w); end != fmt.Sprint("no memory at ", level) {
					t.Errorf("the entry %d of the page %#x at %d: %s", s.Index, s.Page, level, end)
				}
			}
		}
	}
}

// Each set of an entry's flags at each level, on pages that are multiples, and that are not: each of what Judge tells.
func TestJudgedAtEachLevel(t *testing.T) {
	came := map[string]int{}
	for level := range 3 {
		va := withIndex(level, 200)
		at := entryAt(tablePage(level), level, va)
		b := down(t, va, level, 0)
		for flags := range uint64(256) {
			for _, page := range []uint64{0, lowPage, 1 << 17, 1 << 18} {
				lay.Put(t, b, at, page<<10|flags)
				for _, w := range fewWants() {
					came[holds(t, b, topPage, va, w)]++
				}
			}
		}
	}
	lay.CameTo(t, came, 30, "fault at 2", "fault at 1", "fault at 0", "found at 2", "found at 1", "found at 0", "no memory at 1", "no memory at 0")
}

// Each bit of an entry above its flags, with entries that lead down and leaves, at each level.
func TestEachBitAtEachLevel(t *testing.T) {
	for level := range 3 {
		va := withIndex(level, 3)
		at := entryAt(tablePage(level), level, va)
		b := down(t, va, level, 0)
		for i := 8; i < 64; i++ {
			for _, e := range []uint64{1, 0x0f, 0xcf, ramPage<<10 | 1, 1<<28 | 0x4f} {
				for _, e := range []uint64{e ^ 1<<i, e | 0x300, e ^ 1<<i | 0x300} {
					lay.Put(t, b, at, e)
					end := holds(t, b, topPage, va, api.Want{Kind: 1, Priv: 1})
					if e >= 1<<54 && end != fmt.Sprint("fault at ", level) {
						t.Fatalf("%#x at %d: %s", e, level, end)
					}
				}
			}
		}
	}
}

// What a leaf of each level tells, written out.
func TestLeavesOfEachLevel(t *testing.T) {
	const va = 0x25_6799_abcd
	for _, row := range []struct {
		level    int
		page, pa uint64
	}{
		{0, 0xabcdef12345, 0xabcdef12345bcd}, {0, 0, 0xbcd}, {0, 1<<44 - 1, 0xfffffffffffbcd}, {0, ramPage, 0x80000bcd}, {0, 0x2000, 0x2000bcd},
		{1, 0xabcdef12200, 0xabcdef1239abcd}, {1, 0, 0x19abcd}, {1, 1<<44 - 512, 0xfffffffff9abcd}, {1, 0x200, 0x39abcd},
		{2, 0xabcdef00000, 0xabcdef2799abcd}, {2, 0, 0x2799abcd}, {2, 1<<44 - 1<<18, 0xffffffe799abcd}, {2, 1 << 18, 0x6799abcd},
	} {
		b := down(t, va, row.level, row.page<<10|0xdf)
		if got, want := told(b, topPage, va, api.Want{}), leafIs(row.pa, row.level, 0xdf); got != want {
			t.Errorf("%s, not %s", got, want)
		}
		holds(t, b, topPage, va, api.Want{})
		if got := len(Path(b, topPage, va)); got != 3-row.level {
			t.Errorf("at %d: %d entries", row.level, got)
		}
	}
}

// Each bit of an address beneath a leaf's size is that of what is found; each one above chooses another entry.
func TestEachBitOfAnAddress(t *testing.T) {
	for level := range 3 {
		const va = 0x15_5555_5555
		b := down(t, va, level, 3<<28|0x4f)
		for i := range 64 {
			end := holds(t, b, topPage, va^1<<i, load)
			if found := end == fmt.Sprint("found at ", level); found != (1<<i < lay.SizeOf(level)) {
				t.Errorf("the bit %d at %d: %s", i, level, end)
			}
		}
	}
}

// All kinds by their numbers: what is found, and both causes.
func TestKinds(t *testing.T) {
	b := down(t, 0x2345, 0, 0x77<<10|0x0f)
	for kind := range 256 {
		for _, v := range []bool{false, true} {
			w := api.Want{Kind: byte(kind), Priv: 1, V: v}
			page, access := uint64(13), uint64(5)
			want := leafIs(0x77345, 0, 0x4f)
			switch kind {
			case 0:
			case 1:
				page, access = 15, 7
				want = leafIs(0x77345, 0, 0xcf)
			case 2:
				page, access = 12, 1
			default:
				want = trapIs(13, 0x2345, v)
			}
			if got := told(b.Twin(), topPage, 0x2345, w); got != want {
				t.Errorf("the kind %d: %s, not %s", kind, got, want)
			}
			if got, want := told(b, topPage, 0x3345, w), trapIs(page, 0x3345, v); got != want {
				t.Errorf("the kind %d, no entry: %s, not %s", kind, got, want)
			}
			if got, want := told(b, 7, 0x2345, w), trapIs(access, 0x2345, v); got != want {
				t.Errorf("the kind %d, no memory: %s, not %s", kind, got, want)
			}
			holds(t, b, topPage, 0x2345, w)
		}
	}
}

// Each access with each set of marks, at a leaf of each kind.
func TestMarksOfAccesses(t *testing.T) {
	found := 0
	for level := range 3 {
		for _, flags := range []uint64{0x03, 0x07, 0x09, 0x0b, 0x0f, 0x13, 0x17, 0x19, 0x1b, 0x1f, 0x59, 0xdf} {
			b := down(t, 0x40201678, level, 1<<28|flags)
			lay.Wants(func(w api.Want) {
				if holds(t, b, topPage, 0x40201678, w) == fmt.Sprint("found at ", level) {
					found++
				}
			})
		}
	}
	if found < 1000 {
		t.Errorf("found %d times", found)
	}
}

// One row for each of the access's marks: what it makes of a leaf, written out.
func TestEachMark(t *testing.T) {
	for _, row := range []struct {
		what        string
		flags       uint64
		w, with     api.Want
		is, isWith  bool
		cause, leaf uint64
	}{
		{"Sum, a load", 0xdf, api.Want{Priv: 1}, api.Want{Priv: 1, Sum: true}, false, true, 13, 0xdf},
		{"Sum, a store", 0xdf, api.Want{Kind: 1, Priv: 1}, api.Want{Kind: 1, Priv: 1, Sum: true}, false, true, 15, 0xdf},
		{"Sum, a fetch", 0xdf, api.Want{Kind: 2, Priv: 1}, api.Want{Kind: 2, Priv: 1, Sum: true}, false, false, 12, 0},
		{"Mxr", 0x49, api.Want{Priv: 1}, api.Want{Priv: 1, Mxr: true}, false, true, 13, 0x49},
		{"Vmxr without V", 0x49, api.Want{Priv: 1}, api.Want{Priv: 1, Vmxr: true}, false, false, 13, 0},
		{"Vmxr with V", 0x49, api.Want{Priv: 1, V: true}, api.Want{Priv: 1, V: true, Vmxr: true}, false, true, 13, 0x49},
		{"V", 0x43, api.Want{Priv: 1}, api.Want{Priv: 1, V: true}, true, true, 0, 0x43},
		{"Exec, what may be read", 0x43, api.Want{Priv: 1}, api.Want{Priv: 1, Exec: true}, true, false, 13, 0x43},
		{"Exec, what may be fetched", 0x49, api.Want{Priv: 1}, api.Want{Priv: 1, Exec: true}, false, true, 13, 0x49},
		{"Priv", 0x5f, api.Want{Priv: 1}, api.Want{}, false, true, 13, 0x5f},
	} {
		b := down(t, 0x2345, 0, 0x77<<10|row.flags)
		for _, x := range []struct {
			w  api.Want
			is bool
		}{{row.w, row.is}, {row.with, row.isWith}} {
			want := trapIs(row.cause, 0x2345, x.w.V)
			if x.is {
				want = leafIs(0x77345, 0, row.leaf)
			}
			if got := told(b, topPage, 0x2345, x.w); got != want {
				t.Errorf("%s: %s, not %s", row.what, got, want)
			}
		}
	}
}

// A fault tells the whole address, whose it is, and nothing else.
func TestWhatAFaultTells(t *testing.T) {
	b := down(t, 0x2345, 0, 0)
	for _, va := range []uint64{0x2345, 0x2000, 0x2fff, all, from(38), 1<<38 - 1, 1 << 38, 1<<63 + 5} {
		for _, root := range []uint64{topPage, 5} {
			for kind := range byte(4) {
				for _, v := range []bool{false, true} {
					leaf, trap := One(b, root, va, api.Want{Kind: kind, V: v, Priv: 1, Sum: true, Mxr: true, Vmxr: true})
					cause := pageCause(kind)
					if root == 5 && modelWalked(va) {
						cause = accessCause(kind)
					}
					if leaf != (api.Leaf{}) || trap != (api.Trap{Is: true, Cause: cause, Tval: va, Tval2: 0, Tinst: 0, Gva: v}) {
						t.Errorf("of %#x for %d: %+v, %+v", va, kind, leaf, trap)
					}
				}
			}
		}
	}
}

// A and D of the leaf, set and not, for each kind, at each level: what is told, and what stands there behind the walk.
func TestAAndD(t *testing.T) {
	for level := range 3 {
		for _, row := range []struct {
			flags uint64
			kind  byte
			then  uint64
		}{
			{0x0f, 0, 0x4f}, {0x4f, 0, 0x4f}, {0x8f, 0, 0xcf}, {0xcf, 0, 0xcf},
			{0x0f, 1, 0xcf}, {0x4f, 1, 0xcf}, {0x8f, 1, 0xcf}, {0xcf, 1, 0xcf},
			{0x0f, 2, 0x4f}, {0x4f, 2, 0x4f}, {0x8f, 2, 0xcf}, {0xcf, 2, 0xcf},
			{0x2f, 1, 0xef}, {0x09, 2, 0x49}, {0x03, 0, 0x43}, {0x23, 0, 0x63},
		} {
			for _, over := range []uint64{0, 0x100, 0x200, 0x300} {
				e := uint64(0x3fff<<28) | over | row.flags
				b := down(t, 0x2345, level, e)
				leaf, trap := One(b, topPage, 0x2345, api.Want{Kind: row.kind, Priv: 1})
				if trap.Is || leaf.Flags != row.then || leaf.Level != level {
					t.Errorf("%#x for %d: %+v, %+v", e, row.kind, leaf, trap)
				}
				if got, ok := lay.Get(b, entryAt(tablePage(level), level, 0x2345)); !ok || got != e-row.flags+row.then {
					t.Errorf("%#x for %d: %#x stands there", e, row.kind, got)
				}
				after := down(t, 0x2345, level, e-row.flags+row.then)
				if !bus.Same(b, after) {
					t.Errorf("%#x for %d: something else was written", e, row.kind)
				}
			}
		}
	}
}

// Beside the one entry nothing is written, where all of the memory is full, and the tables lie at its ends.
func TestNothingElseIsWritten(t *testing.T) {
	x := mixer(5)
	for range 20 {
		b := lay.Bus(t, 4)
		for at := uint64(ramPage * 4096); at < (ramPage+4)*4096; at += 8 {
			lay.Put(t, b, at, x.word())
		}
		for level := range 3 {
			va := x.below(1 << 38)
			b := b.Twin()
			for l := 2; l > level; l-- {
				lay.Put(t, b, entryAt(ramPage+uint64(l), l, va), (ramPage+uint64(l)-1)<<10|1)
			}
			lay.Put(t, b, entryAt(ramPage+uint64(level), level, va), x.below(1<<26)<<28|0x30f)
			for _, w := range []api.Want{{Priv: 1}, {Kind: 1, Priv: 1}, {Kind: 2, Priv: 1}, {}} {
				end, want := holds(t, b, ramPage+2, va, w), fmt.Sprint("found at ", level)
				if w == (api.Want{}) {
					want = fmt.Sprint("fault at ", level)
				}
				if end != want {
					t.Fatalf("of %#x for %+v: %s, not %s", va, w, end, want)
				}
			}
		}
	}
}

// A leaf may stand for the very page it stands in, and is marked there.
func TestALeafOfItsOwnTable(t *testing.T) {
	b := down(t, 0x2345, 0, lowPage<<10|0x0f)
	if got, want := told(b, topPage, 0x2345, api.Want{Kind: 1, Priv: 1}), leafIs(lowPage*4096+0x345, 0, 0xcf); got != want {
		t.Errorf("%s, not %s", got, want)
	}
	if v, _ := lay.Get(b, lowPage*4096+16); v != lowPage<<10|0xcf {
		t.Errorf("%#x", v)
	}
}

// Tables that lie in one another in every way, walked again and again by one bus, so that what was marked is come to.
func TestManyWalks(t *testing.T) {
	came := map[string]int{}
	x := mixer(1)
	for range 200 {
		pages := 1 + x.below(6)
		b := x.tangle(t, pages)
		for range 100 {
			root := ramPage + x.below(pages)
			switch x.below(16) {
			case 0:
				root = x.word()
			case 1:
				root |= x.word() << 44
			}
			came[runs(t, b, root, x.address(), x.want()).end]++
		}
	}
	lay.CameTo(t, came, 50, allEnds()...)
}

// P16.2

func TestPaths(t *testing.T) {
	const va = 0x40201678
	top, middle, low := uint64(topPage*4096+8), uint64(middlePage*4096+8), uint64(lowPage*4096+8)
	for _, row := range []struct {
		what  string
		level int
		e     uint64
		want  []uint64
	}{
		{"noughts at the top", 2, 0, []uint64{top}},
		{"noughts in the middle", 1, 0, []uint64{top, middle}},
		{"noughts below", 0, 0, []uint64{top, middle, low}},
		{"without V at the top", 2, middlePage<<10 | 0x0e, []uint64{top}},
		{"A without a leaf at the top", 2, middlePage<<10 | 0x41, []uint64{top}},
		{"U without a leaf in the middle", 1, lowPage<<10 | 0x11, []uint64{top, middle}},
		{"D without a leaf in the middle", 1, lowPage<<10 | 0x81, []uint64{top, middle}},
		{"W alone in the middle", 1, lowPage<<10 | 5, []uint64{top, middle}},
		{"the bit 54 at the top", 2, 1<<54 | middlePage<<10 | 1, []uint64{top}},
		{"the bit 63 in the middle", 1, 1<<63 | lowPage<<10 | 1, []uint64{top, middle}},
		{"a leaf at the top", 2, 1<<28 | 0x4f, []uint64{top}},
		{"a leaf in the middle", 1, 1<<19 | 0x4f, []uint64{top, middle}},
		{"a leaf below", 0, 1<<10 | 0x4f, []uint64{top, middle, low}},
		{"a leaf at the top that is no multiple", 2, 1<<10 | 0x4f, []uint64{top}},
		{"a leaf in the middle that is no multiple", 1, 1<<10 | 0x4f, []uint64{top, middle}},
		{"a leaf at the top to fetch from alone", 2, 1<<28 | 0x09, []uint64{top}},
		{"a leaf of a user's", 1, 1<<19 | 0x13, []uint64{top, middle}},
		{"no leaf below", 0, topPage<<10 | 1, []uint64{top, middle, low}},
		{"G is no matter", 2, middlePage<<10 | 0x21, []uint64{top, middle}},
		{"bits 8 and 9 are no matter", 2, middlePage<<10 | 0x301, []uint64{top, middle}},
		{"no memory behind the top", 2, (ramPage+4)<<10 | 1, []uint64{top}},
		{"no memory ahead of it", 2, (ramPage-1)<<10 | 1, []uint64{top}},
		{"no memory behind the middle", 1, (ramPage+4)<<10 | 1, []uint64{top, middle}},
		{"a device behind the middle", 1, 0x2004<<10 | 1, []uint64{top, middle}},
		{"the last page of all behind the middle", 1, (1<<44-1)<<10 | 1, []uint64{top, middle}},
		{"back to the top", 1, topPage<<10 | 1, []uint64{top, middle, top}},
	} {
		b := down(t, va, row.level, row.e)
		before := b.Twin()
		for _, root := range []uint64{topPage, topPage | 0x81234<<44} {
			if got := Path(b, root, va); !slices.Equal(got, row.want) {
				t.Errorf("%s: %#x, not %#x", row.what, got, row.want)
			}
		}
		if got := Path(b, topPage, va+1<<39); len(got) != 0 {
			t.Errorf("%s, not walked: %#x", row.what, got)
		}
		if !bus.Same(b, before) {
			t.Errorf("%s: it was written", row.what)
		}
		for _, w := range fewWants() {
			holds(t, b, topPage, va, w)
		}
	}
}

func TestNoPath(t *testing.T) {
	b := everywhere(t)
	for _, root := range []uint64{0, 1, ramPage - 1, ramPage + 1, 1<<44 - 1, 0x2004, all} {
		if got := Path(b, root, 0x2345); len(got) != 0 {
			t.Errorf("the root %#x: %#x", root, got)
		}
	}
	for _, va := range []uint64{1 << 38, from(38) - 1, 1 << 39, 1 << 63, 1<<63 - 1} {
		if got := Path(b, ramPage, va); len(got) != 0 {
			t.Errorf("of %#x: %#x", va, got)
		}
	}
	for i := range uint64(512) {
		va := i << 30
		if i > 255 {
			va |= from(39)
		}
		if got := Path(b, ramPage, va); !slices.Equal(got, []uint64{ramPage*4096 + 8*i}) {
			t.Errorf("of %#x: %#x", va, got)
		}
	}
}

// What Path tells is new memory: changed, it changes no other answer.
func TestPathsAreNew(t *testing.T) {
	b := chapterBus(t)
	p, q := Path(b, 0x80001, 0x2345), Path(b, 0x80001, 0x2345)
	p = append(p[:1], 1, 2, 3, 4)
	clear(p)
	want := []uint64{0x80001000, 0x80002000, 0x80003010}
	if !slices.Equal(q, want) || !slices.Equal(Path(b, 0x80001, 0x2345), want) {
		t.Errorf("%#x, %#x", q, Path(b, 0x80001, 0x2345))
	}
}

// P16.3

func TestNilBus(t *testing.T) {
	for _, root := range []uint64{0, ramPage, all} {
		for _, va := range []uint64{0, 0x2345, 1<<38 - 1, 1 << 38, all, from(38) - 1} {
			for _, b := range []*bus.Bus{nil, {}} {
				if got := Path(b, root, va); len(got) != 0 {
					t.Errorf("%#x", got)
				}
				lay.Wants(func(w api.Want) {
					cause := accessCause(w.Kind)
					if !modelWalked(va) {
						cause = pageCause(w.Kind)
					}
					if got, want := told(b, root, va, w), trapIs(cause, va, w.V); got != want {
						t.Fatalf("%s, not %s", got, want)
					}
				})
			}
		}
	}
}

// The entries that a walk only goes through, and ones that it doesn't take, are never written.
func TestEntriesThatAreNotFound(t *testing.T) {
	for level := range 3 {
		for _, e := range []uint64{0, 1, 0x21, 0x0e, 0x05, 0x13, 0x4<<10 | 0x01, 1<<10 | 0x0f, 1<<63 | 0x0f} {
			for _, w := range fewWants() {
				b := down(t, 0x2345, level, e)
				before := b.Twin()
				_, trap := One(b, topPage, 0x2345, w)
				if !trap.Is {
					continue
				}
				if !bus.Same(b, before) {
					t.Errorf("%#x at %d for %+v: it was written", e, level, w)
				}
			}
		}
	}
}
