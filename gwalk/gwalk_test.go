package gwalk

import (
	"fmt"
	"testing"

	"mezzanine/api"
	"mezzanine/bus"
	"mezzanine/lay"
	"mezzanine/pte"
)

// chapterBus is the bus of the chapter's examples, chapterH its hgatp.
func chapterBus(t *testing.T) *bus.Bus {
	t.Helper()
	b := lay.Bus(t, 16)
	lay.Put(t, b, 0x80004010, pte.Make(0x80002, 1))
	lay.Put(t, b, 0x80002000, pte.Make(0x80003, 1))
	lay.Put(t, b, 0x80003008, pte.Make(0x80007, 0x57))
	return b
}

const chapterH uint64 = 1<<63 + 3<<44 + 0x80005

func TestExamplesOfTheChapter(t *testing.T) {
	b := chapterBus(t)
	for _, row := range []struct{ got, want string }{
		{fmt.Sprint(On(chapterH), On(7<<60), Vmid(chapterH)), "true false 3"},
		{call{chapterH, 0x80001234, api.Want{Kind: api.Load, V: true}, 99, 0}.told(b), leafIs(0x80007234, 0, 0x57)},
		{call{chapterH, 0x80001234, api.Want{Kind: api.Fetch, V: true}, 99, 0}.told(b), trapIs(api.Trap{Cause: 20, Tval: 99, Tval2: 0x2000048d, Gva: true})},
		{call{chapterH, 0x80001234, api.Want{Kind: api.Fetch, V: true}, 99, 1}.told(b), leafIs(0x80007234, 0, 0x57)},
		{call{chapterH, 0x80001234, api.Want{Kind: api.Load}, 99, 2}.told(b), leafIs(0x80007234, 0, 0xd7)},
		{fmt.Sprint(b.Read(0x80003008, 8)), fmt.Sprint(pte.Make(0x80007, 0xd7), true)},
		{call{chapterH, 0x80002000, api.Want{Kind: api.Load, V: true}, 99, 1}.told(b), trapIs(api.Trap{Cause: 21, Tval: 99, Tval2: 0x20000800, Tinst: 0x3000, Gva: true})},
		{call{chapterH, 1 << 41, api.Want{Kind: api.Store}, 99, 2}.told(b), trapIs(api.Trap{Cause: 23, Tval: 99, Tval2: 1 << 39, Tinst: 0x3020})},
		{call{0, 1 << 50, api.Want{Kind: api.Load}, 99, 0}.told(b), leafIs(1<<50, 2, 0xff)},
		{call{chapterH, 0, api.Want{Kind: api.Load}, 99, 1}.told(nil), trapIs(api.Trap{Cause: 5, Tval: 99})},
	} {
		if row.got != row.want {
			t.Errorf("%s, not %s", row.got, row.want)
		}
	}
}

// P17.1

// Each MODE, whatever stands below it.
func TestModes(t *testing.T) { lay.Modes(t, On) }

// Each bit of the word by itself, and alone missing: those from 44 to 57 are VMID's.
func TestVmidByEachBit(t *testing.T) {
	lay.Part(t, Vmid, 44, 14)
	for _, row := range [][2]uint64{{0, 0}, {all, 0x3fff}, {onMode, 0}, {0x3fff << 44, 0x3fff}, {1<<44 - 1, 0}, {from(58), 0}, {0x1234<<44 | onMode | topPage, 0x1234}, {0x3ffe << 44, 0x3ffe}, {3<<58 | 5<<44, 5}} {
		if got := Vmid(row[0]); got != row[1] {
			t.Errorf("Vmid of %#x: %#x, not %#x", row[0], got, row[1])
		}
	}
}

// P17.2

// A walk that is off tells the address as it is, and asks no memory: for each MODE, with a bus, and with none.
func TestOff(t *testing.T) {
	b := everywhere(t)
	before := b.Twin()
	for mode := range uint64(16) {
		if mode == 8 {
			continue
		}
		for _, rest := range []uint64{0, ramPage, 1<<60 - 1, 0x3fff<<44 | ramPage} {
			for _, gpa := range []uint64{0, 1, 0x80001234, 1<<41 - 1, 1 << 41, 1 << 50, 1 << 56, 1 << 63, all} {
				for _, w := range fewWants() {
					for _, implicit := range []int{0, 1, 2, 3} {
						c := call{mode<<60 | rest, gpa, w, 99, implicit}
						for _, b := range []*bus.Bus{b, nil, {}} {
							if got, want := c.told(b), leafIs(gpa, 2, 0xff); got != want {
								t.Fatalf("%+v: %s, not %s", c, got, want)
							}
						}
					}
				}
			}
		}
	}
	if !bus.Same(b, before) {
		t.Error("a walk that is off has written")
	}
}

// everywhere is a bus whose first four pages are a table of which each entry is a leaf of 2^30 bytes that allows all, and is marked.
func everywhere(t *testing.T) *bus.Bus {
	t.Helper()
	b := lay.Bus(t, 4)
	for i := range uint64(2048) {
		lay.Put(t, b, ramPage*4096+8*i, i<<28|0xdf)
	}
	return b
}

// Both ends of what is walked, and each of the bits above it: a guest-page fault, and no number that is cut.
func TestWhatIsWalked(t *testing.T) {
	b := everywhere(t)
	rows := map[uint64]bool{0: true, 1: true, 1<<38 - 1: true, 1 << 38: true, 1 << 39: true, 1 << 40: true, 1<<41 - 1: true, 1 << 41: false, 1<<41 + 1: false, 1<<41 + 0x80001234: false, 1<<42 - 1: false, all: false, from(41): false, from(40): false, from(39): false, from(38): false, from(63): false, 1<<63 - 1: false, 1<<56 - 1: false, 1<<50 - 1: false}
	for i := 41; i < 64; i++ {
		rows[1<<i] = false
		rows[1<<i|0x1234567] = false
	}
	for i := range 41 {
		rows[1<<i] = true
		rows[1<<41-1-1<<i] = true
	}
	for gpa, is := range rows {
		for kind := range byte(4) {
			for implicit := range 4 {
				c := call{onMode | ramPage, gpa, api.Want{Kind: kind, V: kind == 1}, 99, implicit}
				tinst := []uint64{0, 0x3000, 0x3020, 0}[implicit]
				want := trapIs(api.Trap{Cause: []uint64{21, 23, 20, 21}[kind], Tval: 99, Tval2: gpa / 4, Tinst: tinst, Gva: kind == 1})
				if is && (kind != 3 || tinst != 0) {
					want = leafIs(gpa, 2, 0xdf)
				}
				if got := c.told(b); got != want {
					t.Fatalf("%+v: %s, not %s", c, got, want)
				}
			}
		}
	}
}

// That an address is too far is told ahead of all else, where there is no memory, too.
func TestTooFarGoesFirst(t *testing.T) {
	for _, b := range []*bus.Bus{lay.Bus(t, 1), nil, {}} {
		for _, gpa := range []uint64{1 << 41, 1 << 63, all} {
			for kind := range byte(4) {
				for implicit := range 4 {
					c := call{onMode, gpa, api.Want{Kind: kind}, 5, implicit}
					want := trapIs(api.Trap{Cause: guestCause(kind), Tval: 5, Tval2: gpa / 4, Tinst: []uint64{0, 0x3000, 0x3020, 0}[implicit]})
					if got := c.told(b); got != want {
						t.Errorf("%+v: %s, not %s", c, got, want)
					}
				}
			}
		}
	}
}

// Each of the 2048 entries of the highest table is that of its address, the first and the last among them.
func TestEachEntryOfTheTop(t *testing.T) {
	b := lay.Bus(t, ramPages)
	for i := range uint64(2048) {
		lay.Put(t, b, topPage*4096+8*i, (i*5+1)<<28|0xdf)
	}
	for i := range uint64(2048) {
		for _, inside := range []uint64{0, 0x2345_6789, 1<<30 - 1} {
			c := call{onTop, i<<30 | inside, api.Want{}, 7, 0}
			if got, want := c.told(b), leafIs((i*5+1)<<30|inside, 2, 0xdf); got != want {
				t.Fatalf("%+v: %s, not %s", c, got, want)
			}
		}
	}
}

// Each of the 512 entries of a table below.
func TestEachEntryBelow(t *testing.T) {
	for level := range 2 {
		b := down(t, 0, level, 0)
		for i := range uint64(512) {
			lay.Put(t, b, tablePage(level)*4096+8*i, (i*5+1)<<(10+9*level)|0xdf)
		}
		for i := range uint64(512) {
			for _, inside := range []uint64{0, 0x789, lay.SizeOf(level) - 1} {
				c := call{onTop, i*lay.SizeOf(level) + inside, api.Want{}, 7, 0}
				if got, want := c.told(b), leafIs((i*5+1)*lay.SizeOf(level)+inside, level, 0xdf); got != want {
					t.Fatalf("%+v: %s, not %s", c, got, want)
				}
			}
		}
	}
}

// The table's begin, by each bit of hgatp: the lowest two are taken as 0, those from 44 to 59 are nothing to it, and each other one counts.
func TestTheTablesBegin(t *testing.T) {
	b := chapterBus(t)
	for i := range 64 {
		c := call{chapterH ^ 1<<i, 0x80001234, api.Want{V: true}, 99, 0}
		want := "no memory at 2"
		switch {
		case i < 2 || i >= 44 && i < 60:
			want = "found at 0"
		case i < 4:
			want = "fault at 2"
		case i >= 60:
			want = "off"
		}
		if end := c.holds(t, b); end != want {
			t.Errorf("the bit %d changed: %s, not %s", i, end, want)
		}
	}
	for _, row := range []struct {
		page uint64
		end  string
	}{
		{0x80004, "found at 0"}, {0x80005, "found at 0"}, {0x80006, "found at 0"}, {0x80007, "found at 0"}, {0x80003, "fault at 2"}, {0x80008, "fault at 2"}, {0x8000f, "fault at 2"}, {0x80010, "no memory at 2"},
		{0x7ffff, "no memory at 2"}, {0, "no memory at 2"}, {3, "no memory at 2"}, {1<<44 - 1, "no memory at 2"}, {1<<44 - 4, "no memory at 2"}, {0x80004 << 12, "no memory at 2"}, {0x2004, "no memory at 2"}, {0x10000, "no memory at 2"},
	} {
		for _, above := range []uint64{0, 3 << 44, 0xffff << 44} {
			c := call{onMode | above | row.page, 0x80001234, api.Want{V: true}, 99, 0}
			if end := c.holds(t, b); end != row.end {
				t.Errorf("the page %#x under %#x: %s, not %s", row.page, above, end, row.end)
			}
		}
	}
}

// toSpot is an address that comes to a spot by a level's table, which begins at the page that is told, too: the highest table may have it in each of its four pages, and lie partly in memory.
func toSpot(s lay.Spot, level int) (gpa, page uint64) {
	if level == 2 {
		return withIndex(2, s.Page%4*512+s.Index), s.Page - s.Page%4
	}
	return withIndex(level, s.Index), s.Page
}

// Entries of each level that lie in memory, its first and its last eight bytes among them, and that lie not.
func TestWhereEntriesLie(t *testing.T) {
	came := map[string]int{}
	for _, pages := range []uint64{5, 6, 7, 8, 16, api.MaxRam / 4096} {
		for level := range 3 {
			for _, s := range lay.Spots(pages) {
				gpa, page := toSpot(s, level)
				if s.In && level < 2 && (s.Page == tablePage(level) || s.Page == topPage) {
					continue
				}
				b, hgatp := inPage(t, pages, gpa, level, page)
				want := fmt.Sprint("no memory at ", level)
				if s.In {
					lay.Put(t, b, s.Page*4096+s.Index*8, 3<<28|0x1f)
					want = fmt.Sprint("found at ", level)
				}
				for _, w := range []api.Want{{}, {Kind: 1, V: true}, {Kind: 2}} {
					for implicit := range 4 {
						end := call{hgatp, gpa, w, 99, implicit}.holds(t, b)
						if end != want {
							t.Fatalf("%d pages, the entry %d of the page %#x at %d: %s, not %s", pages, s.Index, s.Page, level, end, want)
						}
						came[end]++
					}
				}
			}
		}
	}
	lay.CameTo(t, came, 100, "found at 0", "found at 1", "found at 2", "no memory at 0", "no memory at 1", "no memory at 2")
}

// The first page of the highest table is in memory, and the others are not.
func TestATablePartlyInMemory(t *testing.T) {
	b := lay.Bus(t, 5)
	for i := range uint64(512) {
		lay.Put(t, b, topPage*4096+8*i, i<<28|0x5f)
	}
	for _, i := range []uint64{0, 1, 510, 511, 512, 513, 1023, 1024, 1535, 1536, 2047} {
		want := leafIs(i<<30|5, 2, 0x5f)
		if i > 511 {
			want = trapIs(api.Trap{Cause: 5, Tval: 8})
		}
		if got := (call{onTop, i<<30 | 5, api.Want{}, 8, 0}).told(b); got != want {
			t.Errorf("the entry %d: %s, not %s", i, got, want)
		}
	}
}

// What a device has at an address is no entry, though it could be read as one; and it isn't asked.
func TestDevicesAreNoMemory(t *testing.T) {
	for level := range 3 {
		for _, s := range lay.Devices() {
			gpa, page := toSpot(s, level)
			b, hgatp := inPage(t, ramPages, gpa, level, page)
			lay.Feign(t, b)
			for _, w := range []api.Want{{}, {Kind: 1, V: true}, {Kind: 2}} {
				for implicit := range 3 {
					if end := (call{hgatp, gpa, w, 99, implicit}).holds(t, b); end != fmt.Sprint("no memory at ", level) {
						t.Errorf("the entry %d of the page %#x at %d: %s", s.Index, s.Page, level, end)
					}
				}
			}
		}
	}
}

// Each set of an entry's flags at each level, on pages that are multiples, and that are not: each of what Judge tells, whatever the walk is for.
func TestJudgedAtEachLevel(t *testing.T) {
	came := map[string]int{}
	for level := range 3 {
		gpa := withIndex(level, 200)
		at := entryAt(tablePage(level), level, gpa)
		b := down(t, gpa, level, 0)
		for flags := range uint64(256) {
			for _, page := range []uint64{0, lowPage, 1 << 18} {
				lay.Put(t, b, at, page<<10|flags)
				for _, w := range fewWants() {
					for implicit := range 3 {
						came[call{onTop, gpa, w, 99, implicit}.holds(t, b)]++
					}
				}
			}
		}
	}
	lay.CameTo(t, came, 30, "fault at 2", "fault at 1", "fault at 0", "found at 2", "found at 1", "found at 0", "no memory at 1", "no memory at 0")
}

// Each bit of an entry above its flags, with entries that lead down and leaves, at each level.
func TestEachBitAtEachLevel(t *testing.T) {
	for level := range 3 {
		gpa := withIndex(level, 3)
		at := entryAt(tablePage(level), level, gpa)
		b := down(t, gpa, level, 0)
		for i := 8; i < 64; i++ {
			for _, e := range []uint64{1, 0x1f, 0xdf, ramPage<<10 | 1, 1<<28 | 0x5f} {
				for _, e := range []uint64{e ^ 1<<i, e | 0x300, e ^ 1<<i | 0x300} {
					lay.Put(t, b, at, e)
					end := call{onTop, gpa, api.Want{Kind: 1, V: true}, 99, 0}.holds(t, b)
					if e >= 1<<54 && end != fmt.Sprint("fault at ", level) {
						t.Fatalf("%#x at %d: %s", e, level, end)
					}
				}
			}
		}
	}
}

// What a leaf of each level tells, with U, and without, written out.
func TestLeavesOfEachLevel(t *testing.T) {
	const gpa = 0x1a5_6799_abcd
	for _, row := range []struct {
		level    int
		page, pa uint64
	}{
		{0, 0xabcdef12345, 0xabcdef12345bcd}, {0, 0, 0xbcd}, {0, 1<<44 - 1, 0xfffffffffffbcd}, {0, ramPage, 0x80000bcd}, {0, 0x2000, 0x2000bcd},
		{1, 0xabcdef12200, 0xabcdef1239abcd}, {1, 0, 0x19abcd}, {1, 1<<44 - 512, 0xfffffffff9abcd}, {1, 0x200, 0x39abcd},
		{2, 0xabcdef00000, 0xabcdef2799abcd}, {2, 0, 0x2799abcd}, {2, 1<<44 - 1<<18, 0xffffffe799abcd}, {2, 1 << 18, 0x6799abcd},
	} {
		for implicit := range 4 {
			for _, w := range []api.Want{{}, {Priv: 1}, {Priv: 1, V: true}, {Priv: 1, Sum: true}, {Priv: 3}} {
				c := call{onTop, gpa, w, 99, implicit}
				b := down(t, gpa, row.level, row.page<<10|0xdf)
				if got, want := c.told(b), leafIs(row.pa, row.level, 0xdf); got != want {
					t.Errorf("%+v: %s, not %s", c, got, want)
				}
				b = down(t, gpa, row.level, row.page<<10|0xcf)
				want := api.Trap{Cause: 21, Tval: 99, Tval2: gpa / 4, Tinst: []uint64{0, 0x3000, 0x3020, 0}[implicit], Gva: w.V}
				if got := c.told(b); got != trapIs(want) {
					t.Errorf("%+v, without U: %s, not %s", c, got, trapIs(want))
				}
			}
		}
	}
}

// Each bit of an address beneath a leaf's size is that of what is found; each one above chooses another entry, or is too far.
func TestEachBitOfAnAddress(t *testing.T) {
	for level := range 3 {
		const gpa = 0x155_5555_5555
		b := down(t, gpa, level, 3<<28|0x5f)
		for i := range 64 {
			end := call{onTop, gpa ^ 1<<i, api.Want{}, 99, 0}.holds(t, b)
			if found := end == fmt.Sprint("found at ", level); found != (1<<i < lay.SizeOf(level)) {
				t.Errorf("the bit %d at %d: %s", i, level, end)
			}
			if tooFar := end == "too far"; tooFar != (i > 40) {
				t.Errorf("the bit %d at %d: %s", i, level, end)
			}
		}
	}
}

// All kinds by their numbers, for each of what a walk is for: what is found, and both causes.
func TestKinds(t *testing.T) {
	b := down(t, 0x2345, 0, 0x77<<10|0x1f)
	for kind := range 256 {
		for implicit := range 4 {
			c := call{onTop, 0x2345, api.Want{Kind: byte(kind), Priv: 1, V: kind%2 == 0}, 99, implicit}
			guest, access, flags := uint64(21), uint64(5), uint64(0)
			switch kind {
			case 0:
				flags = 0x5f
			case 1:
				guest, access, flags = 23, 7, 0xdf
			case 2:
				guest, access, flags = 20, 1, 0x5f
			}
			tinst := []uint64{0, 0x3000, 0x3020, 0}[implicit]
			switch implicit {
			case 1:
				flags = 0x5f
			case 2:
				flags = 0xdf
			}
			want := leafIs(0x77345, 0, flags)
			if flags == 0 {
				want = trapIs(api.Trap{Cause: guest, Tval: 99, Tval2: 0x2345 / 4, Tinst: tinst, Gva: c.w.V})
			}
			if got := c.told(b.Twin()); got != want {
				t.Errorf("%+v: %s, not %s", c, got, want)
			}
			c.holds(t, b)
			c.gpa = 0x3347
			if got, want := c.told(b), trapIs(api.Trap{Cause: guest, Tval: 99, Tval2: 0xcd1, Tinst: tinst, Gva: c.w.V}); got != want {
				t.Errorf("%+v, no entry: %s, not %s", c, got, want)
			}
			c.hgatp = onMode | 8
			if got, want := c.told(b), trapIs(api.Trap{Cause: access, Tval: 99, Gva: c.w.V}); got != want {
				t.Errorf("%+v, no memory: %s, not %s", c, got, want)
			}
		}
	}
}

// Each access with each set of marks, for each of what a walk is for, at leaves that allow more and less.
func TestMarksOfAccesses(t *testing.T) {
	found := 0
	for level, flags := range [][]uint64{{0x11, 0x13, 0x17, 0x19, 0x1b, 0x1f, 0x0f, 0x59, 0xdf}, {0x19, 0x53}, {0x19, 0x53}} {
		for _, flags := range flags {
			b := down(t, 0x40201678, level, 1<<28|flags)
			lay.Wants(func(w api.Want) {
				for _, implicit := range []int{0, 1, 2, -1} {
					if (call{onTop, 0x40201678, w, 99, implicit}).holds(t, b) == fmt.Sprint("found at ", level) {
						found++
					}
				}
			})
		}
	}
	if found < 5000 {
		t.Errorf("found %d times", found)
	}
}

// One row for each of the access's marks: whether a leaf is found without it, and with it, for the access, for a reading and for a writing.
func TestEachMark(t *testing.T) {
	const no, yes = "no no", "yes yes"
	for _, row := range []struct {
		what    string
		flags   uint64
		w, with api.Want
		finds   [3]string
	}{
		{"Mxr, what may be fetched", 0x59, api.Want{}, api.Want{Mxr: true}, [3]string{"no yes", no, no}},
		{"Mxr, what may be read", 0x53, api.Want{}, api.Want{Mxr: true}, [3]string{yes, yes, no}},
		{"Mxr, a store", 0xd9, api.Want{Kind: 1}, api.Want{Kind: 1, Mxr: true}, [3]string{no, no, no}},
		{"Exec, what may be fetched", 0x59, api.Want{}, api.Want{Exec: true}, [3]string{"no yes", no, no}},
		{"Exec, what may be read", 0x53, api.Want{}, api.Want{Exec: true}, [3]string{"yes no", yes, no}},
		{"Exec, what may be read and written", 0xd7, api.Want{}, api.Want{Exec: true}, [3]string{"yes no", yes, yes}},
		{"Exec, a store", 0xd7, api.Want{Kind: 1}, api.Want{Kind: 1, Exec: true}, [3]string{yes, yes, yes}},
		{"Exec, a fetch", 0xd9, api.Want{Kind: 2}, api.Want{Kind: 2, Exec: true}, [3]string{yes, no, no}},
		{"Mxr beside Exec, what may be read", 0x53, api.Want{Exec: true}, api.Want{Exec: true, Mxr: true}, [3]string{no, yes, no}},
		{"Vmxr without V", 0x59, api.Want{}, api.Want{Vmxr: true}, [3]string{no, no, no}},
		{"Vmxr with V", 0x59, api.Want{V: true}, api.Want{V: true, Vmxr: true}, [3]string{no, no, no}},
		{"V with Vmxr", 0x59, api.Want{Vmxr: true}, api.Want{V: true, Vmxr: true}, [3]string{no, no, no}},
		{"V with Mxr", 0x59, api.Want{Mxr: true}, api.Want{V: true, Mxr: true}, [3]string{yes, no, no}},
		{"Sum, with U", 0xd7, api.Want{Priv: 1}, api.Want{Priv: 1, Sum: true}, [3]string{yes, yes, yes}},
		{"Sum, without U", 0xc7, api.Want{Priv: 1}, api.Want{Priv: 1, Sum: true}, [3]string{no, no, no}},
		{"Priv, with U", 0xdf, api.Want{Kind: 2}, api.Want{Kind: 2, Priv: 1}, [3]string{yes, yes, yes}},
		{"Priv, without U", 0xcf, api.Want{Kind: 2}, api.Want{Kind: 2, Priv: 1}, [3]string{no, no, no}},
		{"V, with U", 0xdf, api.Want{Kind: 1, Priv: 1}, api.Want{Kind: 1, Priv: 1, V: true}, [3]string{yes, yes, yes}},
		{"V, without U", 0xcf, api.Want{Kind: 1, Priv: 1}, api.Want{Kind: 1, Priv: 1, V: true}, [3]string{no, no, no}},
	} {
		b := down(t, 0x2345, 0, 0x77<<10|row.flags)
		for implicit, finds := range row.finds {
			if got := finding(b, row.w, implicit) + " " + finding(b, row.with, implicit); got != finds {
				t.Errorf("%s, for %d: %s, not %s", row.what, implicit, got, finds)
			}
		}
		if got := finding(b, row.w, 3) + " " + finding(b, row.with, 3); got != row.finds[0] {
			t.Errorf("%s, for 3: %s, not %s", row.what, got, row.finds[0])
		}
	}
}

// finding says whether a walk of 0x2345 finds something.
func finding(b *bus.Bus, w api.Want, implicit int) string {
	_, trap := call{onTop, 0x2345, w, 99, implicit}.two(b.Twin())
	return map[bool]string{false: "yes", true: "no"}[trap.Is]
}

// What a walk is for, by its number: all but 1 and 2 are the access itself.
func TestWhatAWalkIsFor(t *testing.T) {
	readOnly, execOnly := down(t, 0x2345, 0, 0x77<<10|0x13), down(t, 0x2345, 0, 0x77<<10|0x19)
	for _, implicit := range implicits() {
		fetch := call{onTop, 0x2345, api.Want{Kind: 2, V: true}, 99, implicit}
		fault := api.Trap{Cause: 20, Tval: 99, Tval2: 0x8d1, Gva: true}
		onRead, onExec := trapIs(fault), leafIs(0x77345, 0, 0x59)
		switch implicit {
		case 1:
			fault.Tinst = 0x3000
			onRead, onExec = leafIs(0x77345, 0, 0x53), trapIs(fault)
		case 2:
			fault.Tinst = 0x3020
			onRead, onExec = trapIs(fault), trapIs(fault)
		}
		if got := fetch.told(readOnly.Twin()); got != onRead {
			t.Errorf("for %d, what may be read: %s, not %s", implicit, got, onRead)
		}
		if got := fetch.told(execOnly.Twin()); got != onExec {
			t.Errorf("for %d, what may be fetched: %s, not %s", implicit, got, onExec)
		}
		for _, w := range fewWants() {
			for level := range 3 {
				call{onTop, 0x2345, w, 99, implicit}.holds(t, down(t, 0x2345, level, 1<<28|0x17))
			}
		}
	}
}

// A guest-page fault tells both addresses whole, whose it is, what the walk was for, and nothing else; the access fault neither the guest-physical address nor what it was for.
func TestWhatAFaultTells(t *testing.T) {
	b := down(t, 0x2345, 0, 0)
	for _, gpa := range []uint64{0x2344, 0x2345, 0x2346, 0x2347, 0x2000, 0x2fff, 1<<41 - 1, 1 << 41, 1<<63 + 5, all, all - 3, all - 4} {
		for _, gva := range []uint64{0, 1, 0x2345, all, 1 << 63, from(38)} {
			for _, hgatp := range []uint64{onTop, onMode | 8} {
				for kind := range byte(4) {
					for _, implicit := range implicits() {
						for _, v := range []bool{false, true} {
							c := call{hgatp, gpa, api.Want{Kind: kind, V: v, Priv: 1, Sum: true, Mxr: true, Vmxr: true, Exec: true}, gva, implicit}
							want := api.Trap{Is: true, Cause: guestCause(kind), Tval: gva, Tval2: gpa / 4, Tinst: 0, Gva: v}
							switch implicit {
							case 1:
								want.Tinst = 0x3000
							case 2:
								want.Tinst = 0x3020
							}
							if hgatp == onMode|8 && gpa < 1<<41 {
								want = api.Trap{Is: true, Cause: accessCause(kind), Tval: gva, Gva: v}
							}
							if leaf, trap := c.two(b); leaf != (api.Leaf{}) || trap != want {
								t.Fatalf("%+v: %+v, %+v", c, leaf, trap)
							}
						}
					}
				}
			}
		}
	}
}

// A and D of the leaf, set and not, for each kind and each of what a walk is for, at each level: what is told, and what stands there behind the walk.
func TestAAndD(t *testing.T) {
	for level := range 3 {
		for _, row := range []struct {
			flags     uint64
			kind      byte
			implicits []int
			then      uint64
		}{
			{0x1f, 0, []int{0, 1, 3}, 0x5f}, {0x5f, 0, []int{0, 1, 3}, 0x5f}, {0x9f, 0, []int{0, 1, 3}, 0xdf}, {0xdf, 0, []int{0, 1, 2, 3}, 0xdf},
			{0x1f, 1, []int{0, 2, 3}, 0xdf}, {0x5f, 1, []int{0, 2, 3}, 0xdf}, {0x9f, 1, []int{0, 1, 2, 3}, 0xdf}, {0xdf, 1, []int{0, 1, 2, 3}, 0xdf},
			{0x1f, 2, []int{0, 1, 3}, 0x5f}, {0x5f, 2, []int{0, 1, 3}, 0x5f}, {0x9f, 2, []int{0, 1, 2, 3}, 0xdf}, {0xdf, 2, []int{0, 1, 2, 3}, 0xdf},
			{0x1f, 1, []int{1}, 0x5f}, {0x5f, 1, []int{1}, 0x5f},
			{0x1f, 0, []int{2}, 0xdf}, {0x5f, 0, []int{2}, 0xdf}, {0x1f, 2, []int{2}, 0xdf}, {0x5f, 2, []int{2}, 0xdf}, {0x1f, 9, []int{2}, 0xdf}, {0x1f, 9, []int{1}, 0x5f},
			{0x3f, 1, []int{0, 2}, 0xff}, {0x19, 2, []int{0, -1}, 0x59}, {0x13, 0, []int{0, 1}, 0x53}, {0x33, 0, []int{0, 1}, 0x73}, {0x17, 0, []int{2}, 0xd7},
		} {
			for _, over := range []uint64{0, 0x100, 0x200, 0x300} {
				for _, implicit := range row.implicits {
					e := uint64(0x3fff<<28) | over | row.flags
					then := e - row.flags + row.then
					b := down(t, 0x2345, level, e)
					c := call{onTop, 0x2345, api.Want{Kind: row.kind, V: true}, 99, implicit}
					if got, want := c.told(b), leafIs(0x3fff<<30|0x2345%lay.SizeOf(level), level, row.then); got != want {
						t.Errorf("%#x, %+v: %s, not %s", e, c, got, want)
					}
					if got, ok := lay.Get(b, entryAt(tablePage(level), level, 0x2345)); !ok || got != then {
						t.Errorf("%#x, %+v: %#x stands there", e, c, got)
					}
					if !bus.Same(b, down(t, 0x2345, level, then)) {
						t.Errorf("%#x, %+v: something else was written", e, c)
					}
				}
			}
		}
	}
}

// Beside the one entry nothing is written, where all of the memory is full, and the tables lie at its ends.
func TestNothingElseIsWritten(t *testing.T) {
	x := mixer(5)
	for range 20 {
		b := lay.Bus(t, 6)
		for at := uint64(ramPage * 4096); at < (ramPage+6)*4096; at += 8 {
			lay.Put(t, b, at, x.word())
		}
		tables := []uint64{ramPage + 5, ramPage + 4, ramPage}
		for level := range 3 {
			gpa := x.below(1 << 41)
			b := b.Twin()
			for l := 2; l > level; l-- {
				lay.Put(t, b, entryAt(tables[l], l, gpa), tables[l-1]<<10|1)
			}
			lay.Put(t, b, entryAt(tables[level], level, gpa), x.below(1<<26)<<28|0x317)
			for _, w := range []api.Want{{}, {Kind: 1, V: true}, {Kind: 2}} {
				for implicit := range 4 {
					end, want := call{onMode | ramPage, gpa, w, 99, implicit}.holds(t, b), fmt.Sprint("found at ", level)
					if w.Kind == 2 && implicit != 1 && implicit != 2 {
						want = fmt.Sprint("fault at ", level)
					}
					if end != want {
						t.Fatalf("of %#x for %+v: %s, not %s", gpa, w, end, want)
					}
				}
			}
		}
	}
}

// A leaf may stand for the very page it stands in, and is marked there.
func TestALeafOfItsOwnTable(t *testing.T) {
	b := down(t, 0x2345, 0, lowPage<<10|0x1f)
	if got, want := (call{onTop, 0x2345, api.Want{Kind: 1, Priv: 1}, 99, 0}).told(b), leafIs(lowPage*4096+0x345, 0, 0xdf); got != want {
		t.Errorf("%s, not %s", got, want)
	}
	if v, _ := lay.Get(b, lowPage*4096+16); v != lowPage<<10|0xdf {
		t.Errorf("%#x", v)
	}
}

// A table below begins at the page that its entry tells, the lowest two bits of it among them; and it has 512 entries, so that the bits 39 and 40 of an address are nothing there.
func TestTablesBelow(t *testing.T) {
	for low := range uint64(4) {
		b := lay.Bus(t, 12)
		lay.Put(t, b, topPage*4096+8*0x600, (ramPage+8+low)<<10|1)
		lay.Put(t, b, (ramPage+8+low)*4096, ramPage<<10|1)
		lay.Put(t, b, ramPage*4096+8*5, 0x77<<10|0xdf)
		if got, want := (call{onTop, 3<<39 | 5<<12, api.Want{}, 99, 0}).told(b), leafIs(0x77000, 0, 0xdf); got != want {
			t.Errorf("%s, not %s", got, want)
		}
		if got, want := (call{onTop, 5 << 12, api.Want{}, 99, 0}).told(b), trapIs(api.Trap{Cause: 21, Tval: 99, Tval2: 5 << 10}); got != want {
			t.Errorf("%s, not %s", got, want)
		}
	}
}

// Tables that lie in one another in every way, walked again and again by one bus, so that what was marked is come to.
func TestManyWalks(t *testing.T) {
	came := map[string]int{}
	x := mixer(1)
	for range 200 {
		pages := 1 + x.below(6)
		b := x.tangle(t, pages)
		for range 150 {
			came[x.call(pages).runs(t, b).end]++
		}
	}
	lay.CameTo(t, came, 50, allEnds()...)
}

// P17.3

func TestNilBus(t *testing.T) {
	for _, hgatp := range []uint64{onMode, onTop, onMode | 1<<60 - 1} {
		for _, gpa := range []uint64{0, 0x2345, 1<<41 - 1, 1 << 41, all} {
			for _, implicit := range []int{0, 1, 2, 3, -1} {
				lay.Wants(func(w api.Want) {
					c := call{hgatp, gpa, w, 99, implicit}
					want := c.accessFault()
					if gpa >= 1<<41 {
						want = c.guestFault()
					}
					for _, b := range []*bus.Bus{nil, {}} {
						if leaf, trap := c.two(b); leaf != (api.Leaf{}) || trap != want {
							t.Fatalf("%+v: %+v, %+v", c, leaf, trap)
						}
					}
				})
			}
		}
	}
}

// The entries that a walk only goes through, and ones that it doesn't take, are never written.
func TestEntriesThatAreNotFound(t *testing.T) {
	traps := 0
	for level := range 3 {
		for _, e := range []uint64{0, 1, 0x21, 0x1e, 0x05, 0x13, 0x0f, 0x4<<10 | 0x01, 1<<10 | 0x1f, 1<<63 | 0x1f} {
			for _, w := range fewWants() {
				for implicit := range 4 {
					b := down(t, 0x2345, level, e)
					before := b.Twin()
					if _, trap := (call{onTop, 0x2345, w, 99, implicit}).two(b); !trap.Is {
						continue
					}
					traps++
					if !bus.Same(b, before) {
						t.Errorf("%#x at %d for %+v: it was written", e, level, w)
					}
				}
			}
		}
	}
	if traps < 500 {
		t.Errorf("%d traps", traps)
	}
}
