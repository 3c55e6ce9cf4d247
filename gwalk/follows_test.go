package gwalk

import (
	"fmt"
	"testing"

	"mezzanine/api"
	"mezzanine/bus"
	"mezzanine/lay"
	"mezzanine/pte"
)

// P17.4

// walked is a walk that was made: what it was of, and what it told.
type walked struct {
	c    call
	leaf api.Leaf
	trap api.Trap
}

// walk makes the call.
func (c call) walk(b *bus.Bus) walked {
	leaf, trap := c.two(b)
	return walked{c, leaf, trap}
}

// again makes it again, on a bus that must stay as it is, and tell the same.
func (x walked) again(t *testing.T, b *bus.Bus) {
	t.Helper()
	before := b.Twin()
	if got := x.c.walk(b); got != x {
		t.Fatalf("again: %+v, not %+v", got, x)
	}
	if !bus.Same(b, before) {
		t.Fatalf("%+v, made again, wrote", x)
	}
}

// hasU holds what is found against what is promised of it by itself.
func (x walked) hasU(t *testing.T) {
	t.Helper()
	if x.leaf.Flags/16%2 != 1 {
		t.Fatalf("%+v has no U", x)
	}
	if x.leaf.Pa%4096 != x.c.gpa%4096 || x.leaf.Pa >= 1<<56 || x.leaf.Flags > 255 {
		t.Fatalf("%+v: another place in its page, or none that there is", x)
	}
}

// forImplicit holds a reading and a writing of what was found for the access itself against it, where its leaf allows loads without Mxr: on the bus as it was, and as it is now.
func (x walked) forImplicit(t *testing.T, before, b *bus.Bus) string {
	t.Helper()
	if x.leaf.Flags/2%2 == 0 {
		return "to fetch from alone"
	}
	reading, writing := x.c, x.c
	reading.implicit, writing.implicit = 1, 2
	if now := reading.walk(b.Twin()); now.trap.Is || now.leaf != x.leaf {
		t.Fatalf("a reading: %+v, of %+v", now, x)
	}
	if first := reading.walk(before.Twin()); first.trap.Is || first.leaf.Pa != x.leaf.Pa || first.leaf.Level != x.leaf.Level || first.leaf.Flags|128 != x.leaf.Flags|128 {
		t.Fatalf("a reading, first: %+v, of %+v", first, x)
	}
	now, first := writing.walk(b.Twin()), writing.walk(before.Twin())
	if x.leaf.Flags/4%2 == 0 {
		if want := writing.guestFault(); now.trap != want || first.trap != want {
			t.Fatalf("a writing: %+v, %+v, of %+v", now, first, x)
		}
		return "to read"
	}
	want := x.leaf
	want.Flags |= 128
	if now.leaf != want || now.trap.Is || first.leaf != want || first.trap.Is {
		t.Fatalf("a writing: %+v, %+v, of %+v", now, first, x)
	}
	return "to read and write"
}

// follows holds a walk, made on a bus, against all of P17.4, and says how it ended.
func (c call) follows(t *testing.T, b *bus.Bus) string {
	t.Helper()
	before := b.Twin()
	x := c.walk(b)
	x.again(t, b)
	if x.trap.Is {
		if !bus.Same(b, before) {
			t.Fatalf("%+v wrote", x)
		}
		if x.leaf != (api.Leaf{}) {
			t.Fatalf("%+v tells a leaf", x)
		}
		return fmt.Sprintf("trap %d, %#x", x.trap.Cause, x.trap.Tinst)
	}
	if !On(c.hgatp) {
		return "off"
	}
	x.hasU(t)
	if c.implicit == 1 || c.implicit == 2 {
		return fmt.Sprint("found for ", c.implicit)
	}
	return fmt.Sprintf("found for %d at %d, %s", c.w.Kind, x.leaf.Level, x.forImplicit(t, before, b))
}

// allFollows are all ways in which a walk that is on follows: by traps, and by what is found for what.
func allFollows() []string {
	l := []string{"found for 1", "found for 2"}
	for _, cause := range []int{20, 21, 23} {
		for _, tinst := range []int{0, 0x3000, 0x3020} {
			l = append(l, fmt.Sprintf("trap %d, %#x", cause, tinst))
		}
	}
	for level := range 3 {
		for kind := range 3 {
			l = append(l, fmt.Sprintf("found for %d at %d, to read and write", kind, level))
		}
		l = append(l, fmt.Sprintf("found for 0 at %d, to read", level), fmt.Sprintf("found for 2 at %d, to read", level))
		l = append(l, fmt.Sprintf("found for 0 at %d, to fetch from alone", level), fmt.Sprintf("found for 2 at %d, to fetch from alone", level))
	}
	return l
}

// Tables that lie in one another in every way.
func TestManyFollow(t *testing.T) {
	came := map[string]int{}
	x := mixer(2)
	for range 250 {
		pages := 1 + x.below(6)
		b := x.tangle(t, pages)
		for range 100 {
			came[x.call(pages).follows(t, b)]++
		}
	}
	want := []string{"off", "trap 1, 0x0", "trap 5, 0x0", "trap 7, 0x0"}
	for _, end := range allFollows() {
		// Leaves that chance makes have R.
		if end[len(end)-5:] != "alone" {
			want = append(want, end)
		}
	}
	lay.CameTo(t, came, 20, want...)
}

// A leaf of each level with each set of flags, by each kind, for each of what a walk is for.
func TestLeavesFollow(t *testing.T) {
	came := map[string]int{}
	for level := range 3 {
		gpa := withIndex(level, 7)
		tables := down(t, gpa, level, 0)
		for flags := range uint64(256) {
			lay.Put(t, tables, entryAt(tablePage(level), level, gpa), 5<<28|flags)
			for _, w := range fewWants() {
				for _, implicit := range []int{0, 1, 2, 5} {
					came[call{onTop, gpa, w, 99, implicit}.follows(t, tables.Twin())]++
				}
			}
		}
	}
	for _, end := range []string{"trap 1, 0x0", "trap 5, 0x0", "trap 7, 0x0"} {
		delete(came, end)
	}
	lay.CameTo(t, came, 10, allFollows()...)
}

// What is no walk follows, too: of addresses that are too far, where there is no memory, and one that is off.
func TestNoWalksFollow(t *testing.T) {
	b := chapterBus(t)
	for _, w := range fewWants() {
		for implicit := range 4 {
			tinst := []int{0, 0x3000, 0x3020, 0}[implicit]
			for _, gpa := range []uint64{1 << 41, 1 << 63, all} {
				if got, want := (call{chapterH, gpa, w, 99, implicit}).follows(t, b), fmt.Sprintf("trap %d, %#x", guestCause(w.Kind), tinst); got != want {
					t.Errorf("of %#x for %+v: %s", gpa, w, got)
				}
			}
			for _, page := range []uint64{0, ramPage - 1, ramPage + 16, 0x200b} {
				if got, want := (call{onMode | page, 1<<41 - 1, w, 99, implicit}).follows(t, b), fmt.Sprintf("trap %d, 0x0", accessCause(w.Kind)); got != want {
					t.Errorf("by the page %#x for %+v: %s", page, w, got)
				}
			}
			if got := (call{ramPage, all, w, 99, implicit}).follows(t, b); got != "off" {
				t.Errorf("off, for %+v: %s", w, got)
			}
		}
	}
}

// Found for the access, and then for all: written out.
func TestFoundAgain(t *testing.T) {
	b := chapterBus(t)
	lay.Put(t, b, 0x80003008, pte.Make(0x80007, 0x1f))
	for _, row := range []struct {
		w        api.Want
		implicit int
		flags    uint64
	}{{api.Want{}, 0, 0x5f}, {api.Want{Kind: 2}, 0, 0x5f}, {api.Want{Kind: 1}, 1, 0x5f}, {api.Want{}, 0, 0x5f}, {api.Want{Kind: 2}, 2, 0xdf}, {api.Want{Kind: 1}, 0, 0xdf}, {api.Want{}, 1, 0xdf}, {api.Want{}, 0, 0xdf}, {api.Want{Kind: 9}, 2, 0xdf}} {
		if got, want := (call{chapterH, 0x80001234, row.w, 99, row.implicit}).told(b), leafIs(0x80007234, 0, row.flags); got != want {
			t.Errorf("%+v: %s, not %s", row, got, want)
		}
		if v, _ := lay.Get(b, 0x80003008); v != pte.Make(0x80007, row.flags) {
			t.Errorf("%+v: %#x stands there", row, v)
		}
	}
}

// All addresses of one page, one by one, by a leaf of each level.
func TestAllAddressesOfAPage(t *testing.T) {
	for level := range 3 {
		base := withIndex(level, 9) / 4096 * 4096
		b := down(t, base, level, 6<<28|0x1f)
		first := call{onTop, base, api.Want{}, 99, 0}.walk(b)
		before := b.Twin()
		for d := range uint64(4096) {
			if got, want := (call{onTop, base + d, api.Want{}, 99, int(d % 2)}).told(b), leafIs(first.leaf.Pa+d, level, 0x5f); got != want {
				t.Fatalf("of %#x: %s, not %s", base+d, got, want)
			}
		}
		if !bus.Same(b, before) {
			t.Errorf("at %d: it was written again", level)
		}
	}
}
