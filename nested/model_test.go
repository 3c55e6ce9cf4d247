package nested

import (
	"fmt"
	"math"
	"testing"

	"mezzanine/api"
	"mezzanine/bus"
	"mezzanine/gwalk"
	"mezzanine/lay"
	"mezzanine/pte"
)

// The calls have the signatures of the chapter.
var (
	_ func(b *bus.Bus, vsatp, hgatp, va uint64, w api.Want) (pa uint64, vs, g api.Leaf, t api.Trap, touched []uint64) = Nested
	_ func(vsatp uint64) bool                                                                                         = On
	_ func(vsatp uint64) uint64                                                                                       = Asid
)

// all is a word of ones.
const all uint64 = math.MaxUint64

// from is the word of which all bits from n on are 1.
func from(n int) uint64 { return all << n }

// onMode is the MODE of a walk that is on, where it stands: of vsatp, and of hgatp.
const onMode uint64 = 1 << 63

// call is all that Nested is handed beside a bus.
type call struct {
	vsatp, hgatp, va uint64
	w                api.Want
}

// told is what it answers.
type told struct {
	pa      uint64
	vs, g   api.Leaf
	trap    api.Trap
	touched []uint64
}

// nested makes the call.
func (c call) nested(b *bus.Bus) (x told) {
	x.pa, x.vs, x.g, x.trap, x.touched = Nested(b, c.vsatp, c.hgatp, c.va, c.w)
	return x
}

// text tells all of it; a list that is nil is told as one that is empty.
func (x told) text() string {
	return fmt.Sprintf("%#x %+v %+v %+v %#x", x.pa, x.vs, x.g, x.trap, x.touched)
}

// told is what the call tells, as text.
func (c call) told(b *bus.Bus) string { return c.nested(b).text() }

// leaf is a leaf by its parts.
func leaf(pa uint64, level int, flags uint64) api.Leaf {
	return api.Leaf{Pa: pa, Level: level, Flags: flags}
}

// foundIs and trapIs are what a call tells, as text, that found something, and that ended by a trap.
func foundIs(vs, g api.Leaf, touched ...uint64) string {
	return told{pa: g.Pa, vs: vs, g: g, touched: append(touched, g.Pa)}.text()
}

func trapIs(trap api.Trap, touched ...uint64) string {
	trap.Is = true
	return told{trap: trap, touched: touched}.text()
}

// pageFault, accessFault and guestFault are the traps of a call, the last one of a walk from that address, which was for that.
func (c call) pageFault() api.Trap {
	page, _, _ := lay.Causes(c.w.Kind)
	return api.Trap{Is: true, Cause: page, Tval: c.va, Gva: c.w.V}
}

func (c call) accessFault() api.Trap {
	_, access, _ := lay.Causes(c.w.Kind)
	return api.Trap{Is: true, Cause: access, Tval: c.va, Gva: c.w.V}
}

func (c call) guestFault(gpa uint64, implicit int) api.Trap {
	_, _, guest := lay.Causes(c.w.Kind)
	return api.Trap{Is: true, Cause: guest, Tval: c.va, Tval2: gpa / 4, Tinst: []uint64{0, 0x3000, 0x3020}[implicit], Gva: c.w.V}
}

// isWalked says whether the bits from 38 on are all the same.
func isWalked(va uint64) bool { return va/(1<<38) == 0 || va/(1<<38) == all/(1<<38) }

// model is a call by the chapter's words, on a bus that it changes as the call should.
type model struct {
	call
	b *bus.Bus
	told
	end string
}

// modelOf goes through the call.
func modelOf(c call, b *bus.Bus) model {
	m := model{call: c, b: b}
	if !m.first() {
		return m
	}
	g, trap := gwalk.Two(b, c.hgatp, m.vs.Pa, c.w, c.va, 0)
	if trap.Is {
		m.trap, m.vs = trap, api.Leaf{}
		m.end += ", not found"
		return m
	}
	m.end += ", found"
	m.g, m.pa, m.touched = g, g.Pa, append(m.touched, g.Pa)
	return m
}

// ends ends it by a trap.
func (m *model) ends(trap api.Trap, end string, level int) bool {
	m.trap, m.end = trap, fmt.Sprint(end, level)
	return false
}

// first finds the guest's leaf, or says that it doesn't.
func (m *model) first() bool {
	if m.vsatp/(1<<60) != 8 {
		m.vs, m.end = leaf(m.va, 2, 255), "off"
		return true
	}
	if !isWalked(m.va) {
		m.trap, m.end = m.pageFault(), "not walked"
		return false
	}
	page := m.vsatp % (1 << 44)
	for _, level := range []int{2, 1, 0} {
		place := lay.EntryAt(page, level, m.va)
		at, ok := m.reach(place, 1, level)
		if !ok {
			return false
		}
		e, _ := lay.Get(m.b, at)
		m.touched = append(m.touched, at)
		switch pte.Judge(e, level, m.w) {
		case 0:
			return m.ends(m.pageFault(), "fault at ", level)
		case 2:
			return m.found(e, place, level)
		}
		page = e / 1024 % (1 << 44)
	}
	panic("no level is left")
}

// reach is where a place is reached, or says that it is not.
func (m *model) reach(place uint64, implicit, level int) (uint64, bool) {
	l, trap := gwalk.Two(m.b, m.hgatp, place, m.w, m.va, implicit)
	if trap.Is {
		return 0, m.ends(trap, []string{"", "not read at ", "not written at "}[implicit], level)
	}
	if _, ok := lay.Get(m.b, l.Pa); !ok {
		return 0, m.ends(m.accessFault(), "no memory at ", level)
	}
	return l.Pa, true
}

// found is the end of the guest's walk.
func (m *model) found(e, place uint64, level int) bool {
	marked := lay.Marked(e, m.w.Kind == 1)
	m.end = fmt.Sprint("full at ", level)
	if marked != e {
		at, ok := m.reach(place, 2, level)
		if !ok {
			return false
		}
		m.b.Ram().Write(at, 8, marked)
		m.touched = append(m.touched, at)
		m.end = fmt.Sprint("marked at ", level)
	}
	m.vs = lay.Leaf(marked, level, m.va)
	return true
}

// runs holds Nested, called on a bus, against the model: what is told, and all that the bus has behind it.
func (c call) runs(t *testing.T, b *bus.Bus) model {
	t.Helper()
	want := modelOf(c, b.Twin())
	if got := c.told(b); got != want.text() {
		t.Fatalf("%+v: %s, not %s (%s)", c, got, want.text(), want.end)
	}
	if !bus.Same(b, want.b) {
		t.Fatalf("%+v: the bus is not as it should be behind it (%s)", c, want.end)
	}
	return want
}

// holds is runs on a twin, so that the bus stays as it was; told is how it ends.
func (c call) holds(t *testing.T, b *bus.Bus) string {
	t.Helper()
	return c.runs(t, b.Twin()).end
}

// Where all lies that tests lay: the second walk's highest table in the first four pages of memory, its others behind it, then the guest's tables, from the lowest on, and a page of data.
const (
	ramPage      = 0x80000
	secondMiddle = ramPage + 4
	secondLow    = ramPage + 5
	guestLow     = ramPage + 6
	dataPage     = ramPage + 9
	ramPages     = 16
)

// What a guest takes for its first page, and how far on it has the tables, from the lowest on, and the data.
const (
	guestBase = 5<<18 | 7<<9
	lowOn     = 1
	dataOn    = 4
)

// theVa is the address that tests walk: by the entry 3, then 7, then 4. Of a great leaf of the guest's first pages it comes to the same data as of a small one.
const theVa uint64 = 3<<30 | 7<<21 | 4<<12 | 0xabc

// hgatps of second walks that are on, and off.
const (
	onTop  = onMode | 3<<44 | ramPage
	offTop = 7<<60 | 3<<44 | ramPage
)

// floor is a way to lay the second walk's tables: by which numbers the guest knows its tables' pages, from the lowest level's on, and its data's.
type floor struct {
	name   string
	hgatp  uint64
	tables [3]uint64
	data   uint64
}

// fine has a second leaf for each of the guest's pages, crossed has each two of the 2^30 bytes for one another, and off has none.
func fine() floor {
	low := uint64(guestBase + lowOn)
	return floor{"fine", onTop, [3]uint64{low, low + 1, low + 2}, guestBase + dataOn}
}

func crossed() floor {
	low := uint64(guestLow ^ 1<<18)
	return floor{"crossed", onTop, [3]uint64{low, low + 1, low + 2}, dataPage ^ 1<<18}
}

func off() floor {
	return floor{"off", offTop, [3]uint64{guestLow, guestLow + 1, guestLow + 2}, dataPage}
}

// floors are all of them, onFloors those whose second walk is on.
func floors() []floor   { return []floor{fine(), crossed(), off()} }
func onFloors() []floor { return floors()[:2] }

// vsatp is that of the guest's tables.
func (f floor) vsatp() uint64 { return onMode | 7<<44 | f.tables[2] }

// call is one of theVa.
func (f floor) call(w api.Want) call { return call{f.vsatp(), f.hgatp, theVa, w} }

// bus is one with the second tables, whose leaves have all that there is, and are marked.
func (f floor) bus(t testing.TB) *bus.Bus {
	t.Helper()
	return f.busOf(t, ramPages)
}

// busOf is that, of so many pages.
func (f floor) busOf(t testing.TB, pages uint64) *bus.Bus {
	t.Helper()
	b := lay.Bus(t, pages)
	switch f.name {
	case "fine":
		lay.Put(t, b, ramPage*4096+8*5, pte.Make(secondMiddle, 1))
		lay.Put(t, b, secondMiddle*4096+8*7, pte.Make(secondLow, 1))
		for i := range uint64(dataOn) {
			lay.Put(t, b, secondLeafAt(lowOn+i), pte.Make(guestLow+i, 0xdf))
		}
	case "crossed":
		for i := range uint64(2048) {
			lay.Put(t, b, ramPage*4096+8*i, pte.Make((i^1)<<18, 0xdf))
		}
	}
	return b
}

// secondLeafAt is where the second leaf stands of the guest's page that is so far on (fine).
func secondLeafAt(on uint64) uint64 { return secondLow*4096 + 8*on }

// guestAt is where the guest's entry of an address stands in its table of a level.
func guestAt(level int, va uint64) uint64 { return lay.EntryAt(guestLow+uint64(level), level, va) }

// atVa is guestAt of theVa.
func atVa(level int) uint64 { return guestAt(level, theVa) }

// placeOf is the place of the guest's entry of theVa of a level.
func (f floor) placeOf(level int) uint64 { return lay.EntryAt(f.tables[level], level, theVa) }

// leads lets the guest's walk of an address come to the table of a level.
func (f floor) leads(t testing.TB, b *bus.Bus, va uint64, level int) {
	t.Helper()
	for l := 2; l > level; l-- {
		lay.Put(t, b, guestAt(l, va), pte.Make(f.tables[l-1], 1))
	}
}

// down is a bus in which the guest's walk of theVa comes to the entry e at a level.
func (f floor) down(t testing.TB, level int, e uint64) *bus.Bus {
	t.Helper()
	b := f.bus(t)
	f.leads(t, b, theVa, level)
	lay.Put(t, b, atVa(level), e)
	return b
}

// path is the physical addresses of the guest's entries of theVa, down to a level.
func path(level int) []uint64 {
	var l []uint64
	for i := 2; i >= level; i-- {
		l = append(l, atVa(i))
	}
	return l
}

// leafPage is the page of a leaf of a level by which theVa comes to the guest's data, or near it.
func (f floor) leafPage(level int) uint64 { return f.data >> (9 * level) << (9 * level) }

// leafPa is the guest-physical address that such a leaf tells of theVa.
func (f floor) leafPa(level int) uint64 {
	return f.leafPage(level)*4096 + theVa%lay.SizeOf(level)
}

// ofSecond is what the second walk tells of a guest-physical address, if its leaf has these flags.
func (f floor) ofSecond(gpa, flags uint64) api.Leaf {
	switch f.name {
	case "fine":
		return leaf(gpa%(2<<20)-lowOn*4096+guestLow*4096, 0, flags)
	case "crossed":
		return leaf(gpa^1<<30, 2, flags)
	}
	return leaf(gpa, 2, 0xff)
}

// fewWants are an access of each kind, and those whose Exec or marks tell.
func fewWants() []api.Want {
	return []api.Want{
		{V: true}, {Kind: 1, V: true}, {Kind: 2, V: true}, {Priv: 1, V: true}, {Kind: 1, Priv: 1}, {Kind: 2, Priv: 1}, {Kind: 3, V: true}, {Kind: 9, Priv: 1},
		{Exec: true, V: true}, {Mxr: true, Priv: 1}, {Exec: true, Mxr: true}, {Kind: 1, Priv: 1, Sum: true, Vmxr: true, V: true}, {Vmxr: true, V: true}, {Vmxr: true},
	}
}

// mixer makes words that look like chance, and are the same in each run.
type mixer uint64

func (x *mixer) word() uint64 { return lay.Mix((*uint64)(x)) }

// below is a number below n.
func (x *mixer) below(n uint64) uint64 { return x.word() % n }

// want makes an access, mostly of a kind that there is, by a user or by the guest's own system.
func (x *mixer) want() api.Want {
	b := x.word()
	w := api.Want{Kind: byte(x.below(3)), Priv: byte(x.below(2)), Exec: b&7 == 0, V: b&8 != 0, Sum: b&16 != 0, Mxr: b&32 != 0, Vmxr: b&64 != 0}
	if x.below(16) == 0 {
		w.Kind, w.Priv = byte(x.word()), byte(x.below(4))
	}
	return w
}

// address makes a guest's address: mostly one that is walked, of few entries, so that tables are shared.
func (x *mixer) address() uint64 {
	va := x.below(4)<<30 | x.below(4)<<21 | x.below(4)<<12 | x.below(4096)
	switch x.below(16) {
	case 0:
		return x.word() >> x.below(64)
	case 1, 2:
		return -va
	}
	return va
}

// flags makes those of a leaf: for the most part ones that allow something, to users or not.
func (x *mixer) flags() uint64 {
	l := []uint64{0xdf, 0xdf, 0x5f, 0x1f, 0x1f, 0x17, 0x57, 0x13, 0x53, 0xd7, 0x0f, 0x4f, 0xcf, 0x07, 0x19, 0x59, 0x9f, 0x33f, x.below(1024)}
	return l[x.below(uint64(len(l)))]
}

// entry makes an entry: for the most part one that leads to one of so many pages of memory, or stands for one.
func (x *mixer) entry(pages uint64) uint64 {
	page := ramPage + x.below(pages)
	if x.below(32) == 0 {
		page = x.below(1 << 44)
	}
	switch x.below(16) {
	case 0:
		return x.word()
	case 1, 2, 3, 4, 5, 6:
		return page*1024 + 1
	case 7, 8, 9:
		page = page >> 9 << 9
	case 10, 11:
		page = page >> 18 << 18
	}
	return page*1024 + x.flags()
}

// tangle is a bus whose few pages are tables of one another, the guest's and the second walk's alike.
func (x *mixer) tangle(t *testing.T, pages uint64) *bus.Bus {
	t.Helper()
	b := lay.Bus(t, pages)
	for page := range pages {
		for i := range uint64(8) {
			lay.Put(t, b, (ramPage+page)*4096+i*8, x.entry(pages))
			lay.Put(t, b, (ramPage+page)*4096+(511-i)*8, x.entry(pages))
		}
	}
	// The memory's own addresses, as the guest may take them too, are found by half of the second tables at once.
	for page := uint64(0); page < pages; page += 4 {
		if x.below(2) == 0 {
			lay.Put(t, b, (ramPage+page)*4096+2*8, 2<<28|x.flags()|0x13)
		}
	}
	return b
}

// call makes a call for a bus of so many pages.
func (x *mixer) call(pages uint64) call {
	c := call{onMode | x.below(1<<16)<<44 | ramPage + x.below(pages), onMode | x.below(1<<14)<<44 | ramPage + x.below(pages), x.address(), x.want()}
	switch x.below(16) {
	case 0:
		c.vsatp = x.word()
	case 1:
		c.hgatp = x.word()
	case 2:
		c.vsatp = onMode | x.word()
	case 3:
		c.hgatp = onMode | x.word()
	case 4:
		c.vsatp ^= onMode
	case 5:
		c.hgatp ^= onMode
	case 6:
		c.vsatp, c.va = c.vsatp^onMode, ramPage*4096+c.va%(1<<15)
	case 7:
		c.vsatp, c.hgatp = c.vsatp^onMode, c.hgatp^onMode
	}
	return c
}

// allEnds are all ways in which a call ends.
func allEnds() []string {
	l := []string{"not walked", "off, found", "off, not found"}
	for level := range 3 {
		for _, end := range []string{"not read at %d", "no memory at %d", "fault at %d", "not written at %d", "full at %d, found", "full at %d, not found", "marked at %d, found", "marked at %d, not found"} {
			l = append(l, fmt.Sprintf(end, level))
		}
	}
	return l
}
