package gwalk

import (
	"fmt"
	"math"
	"testing"

	"mezzanine/api"
	"mezzanine/bus"
	"mezzanine/lay"
	"mezzanine/pte"
)

// The calls have the signatures of the chapter.
var (
	_ func(b *bus.Bus, hgatp, gpa uint64, w api.Want, gva uint64, implicit int) (api.Leaf, api.Trap) = Two
	_ func(hgatp uint64) bool                                                                        = On
	_ func(hgatp uint64) uint64                                                                      = Vmid
)

// all is a word of ones.
const all uint64 = math.MaxUint64

// from is the word of which all bits from n on are 1.
func from(n int) uint64 { return all << n }

// ramPage is the first page of memory.
const ramPage = 0x80000

// onMode is the MODE of a walk that is on, where it stands.
const onMode uint64 = 1 << 63

// call is all that Two is handed beside a bus.
type call struct {
	hgatp, gpa uint64
	w          api.Want
	gva        uint64
	implicit   int
}

// two makes the call.
func (c call) two(b *bus.Bus) (api.Leaf, api.Trap) {
	return Two(b, c.hgatp, c.gpa, c.w, c.gva, c.implicit)
}

// told is what it tells, as text.
func (c call) told(b *bus.Bus) string {
	leaf, trap := c.two(b)
	return fmt.Sprintf("%+v %+v", leaf, trap)
}

// leafIs and trapIs are what Two tells of a leaf, and of a trap.
func leafIs(pa uint64, level int, flags uint64) string {
	return fmt.Sprintf("%+v %+v", api.Leaf{Pa: pa, Level: level, Flags: flags}, api.Trap{})
}

func trapIs(trap api.Trap) string {
	trap.Is = true
	return fmt.Sprintf("%+v %+v", api.Leaf{}, trap)
}

// entryAt is where the entry of gpa stands in the table of a page: that of the highest level has 2048 entries, and begins at a page that is a multiple of four.
func entryAt(page uint64, level int, gpa uint64) uint64 {
	if level == 2 {
		return (page-page%4)*4096 + gpa/lay.SizeOf(2)%2048*8
	}
	return lay.EntryAt(page, level, gpa)
}

// outcome is what the model says of a walk: what is told, where an entry is written (0, if none is), and how it ends.
type outcome struct {
	leaf  api.Leaf
	trap  api.Trap
	at, v uint64
	end   string
}

// guestCause and accessCause are the causes of guest-page faults and access faults by the kinds' numbers.
func guestCause(kind byte) uint64 {
	_, _, guest := lay.Causes(kind)
	return guest
}

func accessCause(kind byte) uint64 {
	_, access, _ := lay.Causes(kind)
	return access
}

// guestFault is the trap of the chapter's words, accessFault the one of an entry that is not in memory.
func (c call) guestFault() api.Trap {
	tinst := map[int]uint64{1: 0x3000, 2: 0x3020}[c.implicit]
	return api.Trap{Is: true, Cause: guestCause(c.w.Kind), Tval: c.gva, Tval2: c.gpa / 4, Tinst: tinst, Gva: c.w.V}
}

func (c call) accessFault() api.Trap {
	return api.Trap{Is: true, Cause: accessCause(c.w.Kind), Tval: c.gva, Gva: c.w.V}
}

// asked is what the chapter says that a walk asks for.
func (c call) asked() api.Want {
	switch c.implicit {
	case 1:
		return api.Want{Kind: 0, Priv: 0}
	case 2:
		return api.Want{Kind: 1, Priv: 0}
	}
	w := c.w
	w.Priv, w.V = 0, false
	return w
}

// model is what the chapter says of the call, on the memory as it stands.
func (c call) model(b *bus.Bus) outcome {
	if c.hgatp/(1<<60) != 8 {
		return outcome{leaf: api.Leaf{Pa: c.gpa, Level: 2, Flags: 255}, end: "off"}
	}
	if c.gpa/(1<<41) != 0 {
		return outcome{trap: c.guestFault(), end: "too far"}
	}
	return c.from(b, c.hgatp%(1<<44), 2)
}

// from is the walk from the table of a page on, which is one of a level.
func (c call) from(b *bus.Bus, page uint64, level int) outcome {
	at := entryAt(page, level, c.gpa)
	e, ok := lay.Get(b, at)
	if !ok {
		return outcome{trap: c.accessFault(), end: fmt.Sprint("no memory at ", level)}
	}
	switch fmt.Sprint(pte.Judge(e, level, c.asked())) {
	case "1":
		return c.from(b, e/1024%(1<<44), level-1)
	case "0":
		return outcome{trap: c.guestFault(), end: fmt.Sprint("fault at ", level)}
	}
	return c.found(at, e, level)
}

// found is what is told of a leaf, and what becomes of it.
func (c call) found(at, e uint64, level int) outcome {
	o := outcome{end: fmt.Sprint("found at ", level)}
	store := c.w.Kind == 1
	switch c.implicit {
	case 1:
		store = false
	case 2:
		store = true
	}
	marked := lay.Marked(e, store)
	if marked != e {
		o.at, o.v = at, marked
	}
	o.leaf = lay.Leaf(marked, level, c.gpa)
	return o
}

// runs holds Two, called on a bus, against the model: what is told, and all that the bus has behind it.
func (c call) runs(t *testing.T, b *bus.Bus) outcome {
	t.Helper()
	want, after := c.model(b), b.Twin()
	if want.at != 0 {
		lay.Put(t, after, want.at, want.v)
	}
	leaf, trap := c.two(b)
	if leaf != want.leaf || trap != want.trap {
		t.Fatalf("%+v: %#v, %#v, not %#v, %#v", c, leaf, trap, want.leaf, want.trap)
	}
	if !bus.Same(b, after) {
		t.Fatalf("%+v: the bus is not as it should be behind it (%s)", c, want.end)
	}
	return want
}

// holds is runs on a twin, so that the bus stays as it was.
func (c call) holds(t *testing.T, b *bus.Bus) string {
	t.Helper()
	return c.runs(t, b.Twin()).end
}

// The tables that tests lay: the highest one has four pages, and each of the others one.
const (
	lowPage    = ramPage + 1
	middlePage = ramPage + 2
	topPage    = ramPage + 4
	ramPages   = 8
)

// onTop is the hgatp of a walk that is on, by the table at topPage.
const onTop = onMode | topPage

// down is a bus in which a walk of gpa by onTop comes to the entry e at a level.
func down(t *testing.T, gpa uint64, level int, e uint64) *bus.Bus {
	t.Helper()
	b, _ := inPage(t, ramPages, gpa, level, tablePage(level))
	lay.Put(t, b, entryAt(tablePage(level), level, gpa), e)
	return b
}

// tablePage is the page of a level's table.
func tablePage(level int) uint64 { return []uint64{lowPage, middlePage, topPage}[level] }

// inPage is down where the table of that level lies in a page of choice, and holds nothing yet; told is hgatp, too.
func inPage(t *testing.T, pages uint64, gpa uint64, level int, page uint64) (*bus.Bus, uint64) {
	t.Helper()
	b := lay.Bus(t, pages)
	tables := []uint64{lowPage, middlePage, topPage}
	tables[level] = page
	for l := 2; l > level; l-- {
		lay.Put(t, b, entryAt(tables[l], l, gpa), tables[l-1]*1024+1)
	}
	return b, onMode | tables[2]
}

// withIndex is a guest-physical address that goes by that entry of a level's table, and by the second and third ones of the others.
func withIndex(level int, index uint64) uint64 {
	indexes := []uint64{2, 1, 2}
	indexes[level] = index
	return indexes[2]<<30 | indexes[1]<<21 | indexes[0]<<12 | 0xabc
}

// fewWants are an access of each kind, and those whose Exec or marks tell.
func fewWants() []api.Want {
	return []api.Want{{V: true}, {Kind: 1, Priv: 1, V: true}, {Kind: 2}, {Kind: 3, V: true}, {Exec: true, V: true}, {Mxr: true, Priv: 1}, {Exec: true, Mxr: true}, {Kind: 1, Sum: true, Vmxr: true}, {Sum: true, Vmxr: true, V: true}}
}

// implicits are what a walk may be for: the access, a reading, a writing, and numbers that are none of these.
func implicits() []int {
	return []int{0, 1, 2, 3, 4, -1, -2, 255, 257, 258, 1<<32 + 1, 1<<32 + 2, 1<<63 - 1, -1 << 63, 0x3000, 0x3020}
}

// mixer makes words that look like chance, and are the same in each run.
type mixer uint64

func (x *mixer) word() uint64 { return lay.Mix((*uint64)(x)) }

// below is a number below n.
func (x *mixer) below(n uint64) uint64 { return x.word() % n }

// want makes an access, mostly of a kind that there is.
func (x *mixer) want() api.Want { return lay.MixedWant((*uint64)(x)) }

// address makes a guest-physical address: mostly one that is walked, of few entries, so that tables are shared.
func (x *mixer) address() uint64 {
	gpa := x.below(4)<<39 | x.below(4)<<30 | x.below(4)<<21 | x.below(4)<<12 | x.below(4096)
	switch x.below(8) {
	case 0:
		return x.word() >> x.below(64)
	case 1:
		return gpa | x.below(1<<11)<<30
	case 2:
		return -gpa % (1 << 41)
	}
	return gpa
}

// entry makes an entry: for the most part one that leads to one of so many pages of memory, or stands for one.
func (x *mixer) entry(pages uint64) uint64 {
	page := ramPage + x.below(pages)
	if x.below(16) == 0 {
		page = x.below(1 << 44)
	}
	switch x.below(8) {
	case 0:
		return x.word()
	case 1, 2, 3:
		return page*1024 + 1
	case 4:
		page = page >> 9 << 9
	case 5:
		page = page >> 18 << 18
	}
	return page*1024 + x.word()%1024 | 0x13
}

// tangle is a bus whose few pages are tables of one another.
func (x *mixer) tangle(t *testing.T, pages uint64) *bus.Bus {
	t.Helper()
	b := lay.Bus(t, pages)
	for page := range pages {
		for i := range uint64(4) {
			lay.Put(t, b, (ramPage+page)*4096+i*8, x.entry(pages))
			lay.Put(t, b, (ramPage+page)*4096+(511-i)*8, x.entry(pages))
		}
	}
	return b
}

// call makes a call for a bus of so many pages.
func (x *mixer) call(pages uint64) call {
	c := call{onMode | x.below(1<<16)<<44 | ramPage + x.below(pages), x.address(), x.want(), x.word(), int(x.below(4))}
	switch x.below(16) {
	case 0:
		c.hgatp = x.word()
	case 1:
		c.hgatp = onMode | x.word()
	}
	if x.below(16) == 0 {
		c.implicit = int(x.word())
	}
	return c
}

// allEnds are all ways in which a walk ends.
func allEnds() []string {
	l := []string{"off", "too far"}
	for level := range 3 {
		for _, end := range []string{"no memory at ", "fault at ", "found at "} {
			l = append(l, fmt.Sprint(end, level))
		}
	}
	return l
}
