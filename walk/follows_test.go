package walk

import (
	"fmt"
	"slices"
	"testing"

	"mezzanine/api"
	"mezzanine/bus"
	"mezzanine/lay"
	"mezzanine/pte"
)

// P16.4

// walked is a walk that was made: what it was of, and what it told.
type walked struct {
	root, va uint64
	w        api.Want
	leaf     api.Leaf
	trap     api.Trap
}

// walkOf makes a walk.
func walkOf(b *bus.Bus, root, va uint64, w api.Want) walked {
	leaf, trap := One(b, root, va, w)
	return walked{root, va, w, leaf, trap}
}

// again makes it again, on a bus that must stay as it is, and tell the same.
func (x walked) again(t *testing.T, b *bus.Bus) {
	t.Helper()
	before := b.Twin()
	if got := walkOf(b, x.root, x.va, x.w); got != x {
		t.Fatalf("again: %+v, not %+v", got, x)
	}
	if !bus.Same(b, before) {
		t.Fatalf("%+v, made again, wrote", x)
	}
}

// isAllowed holds what is found against all that is promised of it by itself.
func (x walked) isAllowed(t *testing.T, b *bus.Bus) {
	t.Helper()
	if !pte.Allowed(x.leaf.Flags, x.w) || !pte.Full(x.leaf.Flags, x.w) {
		t.Fatalf("%+v is not allowed, or not full", x)
	}
	if x.leaf.Pa%4096 != x.va%4096 || x.leaf.Pa >= 1<<56 || x.leaf.Flags > 255 {
		t.Fatalf("%+v: another place in its page, or none that there is", x)
	}
	path := Path(b, x.root, x.va)
	if len(path) != 3-x.leaf.Level {
		t.Fatalf("%+v: its path is %#x", x, path)
	}
	if e, _ := lay.Get(b, path[len(path)-1]); e%256 != x.leaf.Flags {
		t.Fatalf("%+v: there stands %#x", x, e)
	}
}

// forLoad holds a load of the same privilege and marks against what was found for a store, on the bus as it was, and as it is now.
func (x walked) forLoad(t *testing.T, before, b *bus.Bus) {
	t.Helper()
	w := x.w
	w.Kind, w.Exec = api.Load, false
	now := walkOf(b.Twin(), x.root, x.va, w)
	if now.trap.Is || now.leaf != x.leaf {
		t.Fatalf("for a load: %+v, for a store: %+v", now, x)
	}
	now.again(t, b)
	first := walkOf(before.Twin(), x.root, x.va, w)
	if first.trap.Is || first.leaf.Pa != x.leaf.Pa || first.leaf.Level != x.leaf.Level || first.leaf.Flags|128 != x.leaf.Flags {
		t.Fatalf("for a load first: %+v, for a store: %+v", first, x)
	}
}

// samePage holds the walks of other addresses of the page against that of the one.
func (x walked) samePage(t *testing.T, b *bus.Bus) {
	t.Helper()
	path, before := Path(b, x.root, x.va), b.Twin()
	for _, d := range []uint64{1, 7, 8, 0x800, 0xabc, 0xfff} {
		va := x.va ^ d
		want := x
		want.va = va
		if x.trap.Is {
			want.trap.Tval = va
		} else {
			want.leaf.Pa ^= d
		}
		if got := walkOf(b, x.root, va, x.w); got != want {
			t.Fatalf("of the same page: %+v, not %+v", got, want)
		}
		if got := Path(b, x.root, va); !slices.Equal(got, path) {
			t.Fatalf("the path of the same page: %#x, not %#x", got, path)
		}
	}
	if !bus.Same(b, before) {
		t.Fatalf("%+v, made of the same page, wrote", x)
	}
}

// follows holds a walk, made on a bus, against all of P16.4, and says how it ended.
func follows(t *testing.T, b *bus.Bus, root, va uint64, w api.Want) string {
	t.Helper()
	before := b.Twin()
	x := walkOf(b, root, va, w)
	x.again(t, b)
	x.samePage(t, b)
	if x.trap.Is {
		if !bus.Same(b, before) {
			t.Fatalf("%+v wrote", x)
		}
		if x.leaf != (api.Leaf{}) {
			t.Fatalf("%+v tells a leaf", x)
		}
		return fmt.Sprint("fault ", x.trap.Cause)
	}
	x.isAllowed(t, b)
	if w.Kind == api.Store {
		x.forLoad(t, before, b)
	}
	return fmt.Sprintf("found for %d at %d", w.Kind, x.leaf.Level)
}

// All ways in which a walk follows, by each kind.
var allFollows = []string{
	"fault 1", "fault 5", "fault 7", "fault 12", "fault 13", "fault 15",
	"found for 0 at 0", "found for 0 at 1", "found for 0 at 2", "found for 1 at 0", "found for 1 at 1", "found for 1 at 2", "found for 2 at 0", "found for 2 at 1", "found for 2 at 2",
}

// Tables that lie in one another in every way.
func TestManyFollow(t *testing.T) {
	came := map[string]int{}
	x := mixer(2)
	for range 200 {
		pages := 1 + x.below(6)
		b := x.tangle(t, pages)
		for range 60 {
			root := ramPage + x.below(pages)
			if x.below(16) == 0 {
				root = x.word()
			}
			came[follows(t, b, root, x.address(), x.want())]++
		}
	}
	lay.CameTo(t, came, 20, allFollows...)
}

// A leaf of each level with each set of flags, by each kind.
func TestLeavesFollow(t *testing.T) {
	came := map[string]int{}
	for level := range 3 {
		va := withIndex(level, 7)
		tables := down(t, va, level, 0)
		for flags := range uint64(256) {
			lay.Put(t, tables, entryAt(tablePage(level), level, va), 5<<28|flags)
			for _, w := range fewWants() {
				came[follows(t, tables.Twin(), topPage, va, w)]++
			}
		}
	}
	delete(came, "fault 5")
	delete(came, "fault 1")
	delete(came, "fault 7")
	lay.CameTo(t, came, 20, allFollows[3:]...)
}

// What is no walk follows, too: of addresses that are not walked, and where there is no memory.
func TestNoWalksFollow(t *testing.T) {
	b := chapterBus(t)
	for _, w := range fewWants() {
		for _, va := range []uint64{1 << 38, from(38) - 1, 1 << 63} {
			if got, want := follows(t, b, 0x80001, va, w), fmt.Sprint("fault ", pageCause(w.Kind)); got != want {
				t.Errorf("of %#x for %+v: %s", va, w, got)
			}
		}
		for _, root := range []uint64{0, ramPage - 1, ramPage + 16, 0x200b} {
			if got, want := follows(t, b, root, from(12), w), fmt.Sprint("fault ", accessCause(w.Kind)); got != want {
				t.Errorf("by the root %#x for %+v: %s", root, w, got)
			}
		}
	}
}

// Once found for a store, and then for all: written out.
func TestFoundAgain(t *testing.T) {
	b := chapterBus(t)
	store, fetch := load, load
	store.Kind, fetch.Kind = api.Store, api.Fetch
	for _, row := range []struct {
		w     api.Want
		flags uint64
	}{{load, 0x4f}, {fetch, 0x4f}, {load, 0x4f}, {store, 0xcf}, {store, 0xcf}, {load, 0xcf}, {fetch, 0xcf}} {
		if got, want := told(b, 0x80001, 0x2345, row.w), leafIs(0x80007345, 0, row.flags); got != want {
			t.Errorf("%+v: %s, not %s", row.w, got, want)
		}
	}
}

// A store that allows more than it asks for: marks that a load needs not take nothing from it, each set of them.
func TestFoundForAStoreByEachMark(t *testing.T) {
	found := 0
	lay.Wants(func(w api.Want) {
		for _, flags := range []uint64{0x07, 0x0f, 0x17, 0x1f, 0x47, 0x87, 0xd7} {
			if w.Kind == 1 && follows(t, down(t, 0x2345, 0, 9<<10|flags), topPage, 0x2345, w) == "found for 1 at 0" {
				found++
			}
		}
	})
	if found < 300 {
		t.Errorf("found %d times", found)
	}
}

// All addresses of one page, one by one, by a leaf of each level.
func TestAllAddressesOfAPage(t *testing.T) {
	for level := range 3 {
		base := withIndex(level, 9) / 4096 * 4096
		b := down(t, base, level, 6<<28|0x0f)
		first, _ := One(b, topPage, base, load)
		before := b.Twin()
		for d := range uint64(4096) {
			want := api.Leaf{Pa: first.Pa + d, Level: level, Flags: 0x4f}
			if got, trap := One(b, topPage, base+d, load); got != want || trap.Is {
				t.Fatalf("of %#x: %+v, %+v", base+d, got, trap)
			}
		}
		if !bus.Same(b, before) {
			t.Errorf("at %d: it was written again", level)
		}
	}
}
