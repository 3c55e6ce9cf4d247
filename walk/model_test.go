package walk

import (
	"fmt"
	"math"
	"slices"
	"testing"

	"mezzanine/api"
	"mezzanine/bus"
	"mezzanine/lay"
	"mezzanine/pte"
)

// The calls have the signatures of the chapter.
var (
	_ func(b *bus.Bus, root, va uint64, w api.Want) (api.Leaf, api.Trap) = One
	_ func(b *bus.Bus, root, va uint64) []uint64                         = Path
)

// all is a word of ones.
const all uint64 = math.MaxUint64

// from is the word of which all bits from n on are 1.
func from(n int) uint64 { return all << n }

// ramPage is the first page of memory.
const ramPage = 0x80000

// The access most tests begin with.
var load = api.Want{Kind: 0, Priv: 1}

// entryAt is where the entry of va stands in the table of a page.
func entryAt(page uint64, level int, va uint64) uint64 {
	return lay.EntryAt(page%(1<<44), level, va)
}

// modelWalked says whether there is a walk of va: it lies in the lowest, or in the uppermost, 2^38 bytes.
func modelWalked(va uint64) bool { return va < 1<<38 || va >= 0xffffffc000000000 }

// outcome is what the model says of a walk: what is told, where an entry is written (0, if none is), and how it ends.
type outcome struct {
	leaf  api.Leaf
	trap  api.Trap
	at, v uint64
	end   string
}

// pageCause and accessCause are the causes by the kinds' numbers.
func pageCause(kind byte) uint64 {
	page, _, _ := lay.Causes(kind)
	return page
}

func accessCause(kind byte) uint64 {
	_, access, _ := lay.Causes(kind)
	return access
}

// ends is an outcome by a fault.
func ends(cause, va uint64, w api.Want, end string) outcome {
	return outcome{trap: api.Trap{Is: true, Cause: cause, Tval: va, Gva: w.V}, end: end}
}

// modelOne is what the chapter says of One, on the memory as it stands.
func modelOne(b *bus.Bus, root, va uint64, w api.Want) outcome {
	if !modelWalked(va) {
		return ends(pageCause(w.Kind), va, w, "not walked")
	}
	return modelFrom(b, root, 2, va, w)
}

// modelFrom is the walk from the table of a page on, which is one of a level.
func modelFrom(b *bus.Bus, page uint64, level int, va uint64, w api.Want) outcome {
	at := entryAt(page, level, va)
	e, ok := lay.Get(b, at)
	if !ok {
		return ends(accessCause(w.Kind), va, w, fmt.Sprint("no memory at ", level))
	}
	switch fmt.Sprint(pte.Judge(e, level, w)) {
	case "1":
		return modelFrom(b, e/1024, level-1, va, w)
	case "0":
		return ends(pageCause(w.Kind), va, w, fmt.Sprint("fault at ", level))
	}
	return modelFound(at, e, level, va, w)
}

// modelFound is what is told of a leaf, and what becomes of it.
func modelFound(at, e uint64, level int, va uint64, w api.Want) outcome {
	o := outcome{end: fmt.Sprint("found at ", level)}
	marked := lay.Marked(e, w.Kind == 1)
	if marked != e {
		o.at, o.v = at, marked
	}
	o.leaf = lay.Leaf(marked, level, va)
	return o
}

// modelPath is what the chapter says of Path.
func modelPath(b *bus.Bus, root, va uint64) []uint64 {
	if !modelWalked(va) {
		return nil
	}
	return pathFrom(b, root, 2, va)
}

// pathFrom is the path from the table of a page on.
func pathFrom(b *bus.Bus, page uint64, level int, va uint64) []uint64 {
	at := entryAt(page, level, va)
	e, ok := lay.Get(b, at)
	if !ok {
		return nil
	}
	if level == 0 || !pte.Ok(e) || pte.Leaf(e) {
		return []uint64{at}
	}
	return append([]uint64{at}, pathFrom(b, e/1024, level-1, va)...)
}

// runs holds Path and One, called on a bus, against the model: what is told, and all that the bus has behind each.
func runs(t *testing.T, b *bus.Bus, root, va uint64, w api.Want) outcome {
	t.Helper()
	want, path, after := modelOne(b, root, va, w), modelPath(b, root, va), b.Twin()
	what := fmt.Sprintf("of %#x by the root %#x for %+v", va, root, w)
	if got := Path(b, root, va); !slices.Equal(got, path) {
		t.Fatalf("the path %s: %#x, not %#x", what, got, path)
	}
	if !bus.Same(b, after) {
		t.Fatalf("the path %s: it has changed the bus", what)
	}
	if want.at != 0 {
		lay.Put(t, after, want.at, want.v)
	}
	leaf, trap := One(b, root, va, w)
	if leaf != want.leaf || trap != want.trap {
		t.Fatalf("the walk %s: %#v, %#v, not %#v, %#v", what, leaf, trap, want.leaf, want.trap)
	}
	if !bus.Same(b, after) {
		t.Fatalf("the walk %s: the bus is not as it should be behind it (%s)", what, want.end)
	}
	return want
}

// holds is runs on a twin, so that the bus stays as it was.
func holds(t *testing.T, b *bus.Bus, root, va uint64, w api.Want) string {
	t.Helper()
	return runs(t, b.Twin(), root, va, w).end
}

// The tables that tests lay: one for each level in a page of its own.
const (
	topPage    = ramPage + 1
	middlePage = ramPage + 2
	lowPage    = ramPage + 3
)

// tablePage is the page of a level's table.
func tablePage(level int) uint64 { return []uint64{lowPage, middlePage, topPage}[level] }

// down is a bus in which a walk of va by the root topPage comes to the entry e at a level.
func down(t *testing.T, va uint64, level int, e uint64) *bus.Bus {
	t.Helper()
	b := lay.Bus(t, 4)
	for l := 2; l > level; l-- {
		lay.Put(t, b, entryAt(tablePage(l), l, va), tablePage(l-1)*1024+1)
	}
	lay.Put(t, b, entryAt(tablePage(level), level, va), e)
	return b
}

// inPage is down where the table of that level lies in a page of choice, and holds nothing yet: that page is the root, if the level is 2.
func inPage(t *testing.T, pages uint64, va uint64, level int, page uint64) (*bus.Bus, uint64) {
	t.Helper()
	b := lay.Bus(t, pages)
	tables := []uint64{lowPage, middlePage, topPage}
	tables[level] = page
	for l := 2; l > level; l-- {
		lay.Put(t, b, entryAt(tables[l], l, va), tables[l-1]*1024+1)
	}
	return b, tables[2]
}

// fewWants are an access of each kind, a supervisor's and a user's.
func fewWants() []api.Want {
	return []api.Want{{Priv: 1}, {Kind: 1, Priv: 1}, {Kind: 2, Priv: 1, V: true}, {}, {Kind: 1, V: true}, {Kind: 2}, {Kind: 3, Priv: 1}, {Kind: 1, Priv: 1, Sum: true}, {Exec: true, Priv: 1}, {Mxr: true, Priv: 1}}
}

// mixer makes words that look like chance, and are the same in each run.
type mixer uint64

func (x *mixer) word() uint64 { return lay.Mix((*uint64)(x)) }

// below is a number below n.
func (x *mixer) below(n uint64) uint64 { return x.word() % n }

// want makes an access, mostly of a kind that there is.
func (x *mixer) want() api.Want { return lay.MixedWant((*uint64)(x)) }

// address makes a virtual address: mostly one that is walked, of few entries, so that tables are shared.
func (x *mixer) address() uint64 {
	va := x.below(4)<<30 | x.below(4)<<21 | x.below(4)<<12 | x.below(4096)
	switch x.below(8) {
	case 0:
		return x.word()
	case 1:
		return va | x.below(1<<8)<<30
	case 2:
		return -va
	}
	return va
}

// entry makes an entry: for the most part one that leads to one of so many pages of memory, or stands for one.
func (x *mixer) entry(pages uint64) uint64 {
	page := ramPage + x.below(pages)
	if x.below(16) == 0 {
		page = x.below(1 << 44)
	}
	switch x.below(8) {
	case 0:
		return x.word()
	case 1, 2, 3:
		return page*1024 + 1
	case 4:
		page = page >> 9 << 9
	case 5:
		page = page >> 18 << 18
	}
	return page*1024 + x.word()%1024 | 3
}

// tangle is a bus whose few pages are tables of one another.
func (x *mixer) tangle(t *testing.T, pages uint64) *bus.Bus {
	t.Helper()
	b := lay.Bus(t, pages)
	for page := range pages {
		for i := range uint64(4) {
			lay.Put(t, b, (ramPage+page)*4096+i*8, x.entry(pages))
			lay.Put(t, b, (ramPage+page)*4096+(511-i)*8, x.entry(pages))
		}
	}
	return b
}

// allEnds are all ways in which a walk ends.
func allEnds() []string {
	l := []string{"not walked"}
	for level := range 3 {
		for _, end := range []string{"no memory at ", "fault at ", "found at "} {
			l = append(l, fmt.Sprint(end, level))
		}
	}
	return l
}
