package nested

import (
	"fmt"
	"slices"
	"testing"

	"mezzanine/api"
	"mezzanine/bus"
	"mezzanine/gwalk"
	"mezzanine/lay"
	"mezzanine/pte"
	single "mezzanine/walk"
)

// step is an address that was touched: the guest-physical one that the guest's tables name for it, and what it was touched for.
type step struct {
	gpa, at  uint64
	implicit int
}

// steps are those of a call that was made: the entries that were read, the one that was written, and what was found. The bus is one behind it, since no mark makes an entry lead elsewhere. Told is also the place that comes next, if there is one.
func (c call) steps(t *testing.T, b *bus.Bus, x told) (l []step, next uint64) {
	t.Helper()
	left := x.touched
	if !x.trap.Is {
		left = left[:len(left)-1]
	}
	if On(c.vsatp) && isWalked(c.va) {
		next = lay.EntryAt(c.vsatp%(1<<44), 2, c.va)
		for level := 2; len(left) > 0 && level >= 0; level-- {
			l, left = append(l, step{next, left[0], 1}), left[1:]
			e, ok := lay.Get(b, l[len(l)-1].at)
			if !ok {
				t.Fatalf("%+v: there is no memory at %#x, which was touched", c, l[len(l)-1].at)
			}
			if !pte.Ok(e) || pte.Leaf(e) {
				break
			}
			next = e / 1024 % (1 << 44) * 4096
			if level > 0 {
				next = lay.EntryAt(next/4096, level-1, c.va)
			}
		}
	}
	if len(left) > 0 {
		last := l[len(l)-1]
		if len(left) > 1 || left[0] != last.at {
			t.Fatalf("%+v: %s touched more than the guest's entries", c, x.text())
		}
		l = append(l, step{last.gpa, last.at, 2})
	}
	if !x.trap.Is {
		l = append(l, step{x.vs.Pa, x.pa, 0})
	}
	return l, next
}

// isFound holds a step against the second walk: it is found by it still, with U, and nothing is written then.
func (c call) isFound(t *testing.T, b *bus.Bus, s step) {
	t.Helper()
	now := b.Twin()
	found, trap := gwalk.Two(now, c.hgatp, s.gpa, c.w, c.va, s.implicit)
	if trap.Is || found.Pa != s.at || found.Flags/16%2 == 0 {
		t.Fatalf("%+v: %#x, touched for %d as %#x, is found at %+v, %+v", c, s.gpa, s.implicit, s.at, found, trap)
	}
	if !bus.Same(now, b) {
		t.Fatalf("%+v: %#x for %d was not yet marked", c, s.gpa, s.implicit)
	}
}

// tellsQuarter holds a guest-page fault against the address that wasn't found: the place that came next, the one of the leaf that was to be written, or what the guest's leaf tells.
func (c call) tellsQuarter(t *testing.T, b *bus.Bus, x told, l []step, next uint64) {
	t.Helper()
	gpa := c.va
	if On(c.vsatp) {
		gpa = next
	}
	if x.trap.Tinst != 0x3000 && On(c.vsatp) {
		last := l[len(l)-1]
		gpa = last.gpa
		if x.trap.Tinst == 0 {
			e, _ := lay.Get(b, last.at)
			size := lay.SizeOf(3 - readings(l))
			gpa = e/1024%(1<<44)*4096/size*size + c.va%size
		}
	}
	implicit := map[uint64]int{0: 0, 0x3000: 1, 0x3020: 2}[x.trap.Tinst]
	if x.trap != c.guestFault(gpa, implicit) {
		t.Fatalf("%+v: %s, not of %#x", c, x.text(), gpa)
	}
	if _, trap := gwalk.Two(b.Twin(), c.hgatp, gpa, c.w, c.va, implicit); trap != x.trap {
		t.Fatalf("%+v: %s, and by itself %+v", c, x.text(), trap)
	}
}

// readings is how many of the steps are readings.
func readings(l []step) int {
	n := 0
	for _, s := range l {
		if s.implicit == 1 {
			n++
		}
	}
	return n
}

// marksAlone says that behind a call all of the memory is as it was ahead of it, but for A and D of entries.
func marksAlone(t *testing.T, before, b *bus.Bus) {
	t.Helper()
	for page := uint64(ramPage * 4096); ; page += 4096 {
		old, ok := before.Ram().Bytes(page, 4096)
		if !ok {
			return
		}
		if now, _ := b.Ram().Bytes(page, 4096); slices.Equal(now, old) {
			continue
		}
		for at := page; at < page+4096; at += 8 {
			was, _ := lay.Get(before, at)
			if is, _ := lay.Get(b, at); is != was && (is|was != is || is-was != (is-was)&0xc0 || was%2 == 0) {
				t.Fatalf("at %#x stood %#x, and stands %#x", at, was, is)
			}
		}
	}
}

// again makes a call again that found something: it finds the same, touches no entry twice but where the tables do, and writes nothing.
func (c call) again(t *testing.T, b *bus.Bus, x told, l []step) {
	t.Helper()
	want := x
	want.touched = nil
	for _, s := range l {
		if s.implicit != 2 {
			want.touched = append(want.touched, s.at)
		}
	}
	before := b.Twin()
	if got := c.told(b); got != want.text() {
		t.Fatalf("%+v again: %s, not %s", c, got, want.text())
	}
	if !bus.Same(b, before) {
		t.Fatalf("%+v, made again, wrote", c)
	}
}

// alone holds a call of which one walk is off, made on a bus that was as before, against the other walk by itself.
func (c call) alone(t *testing.T, before, b *bus.Bus, x told) {
	t.Helper()
	one, found, trap := before.Twin(), api.Leaf{}, api.Trap{}
	switch {
	case !On(c.vsatp) && !gwalk.On(c.hgatp):
		found = leaf(c.va, 2, 255)
		if x.pa != c.va || x.trap.Is {
			t.Fatalf("%+v, both off: %s", c, x.text())
		}
	case !On(c.vsatp):
		found, trap = gwalk.Two(one, c.hgatp, c.va, c.w, c.va, 0)
	case !gwalk.On(c.hgatp):
		found, trap = single.One(one, c.vsatp, c.va, c.w)
	default:
		return
	}
	vs, g := found, found
	if !On(c.vsatp) {
		vs = leaf(c.va, 2, 255)
	} else {
		g = leaf(found.Pa, 2, 255)
	}
	if trap.Is {
		vs, g = api.Leaf{}, api.Leaf{}
	}
	if x.trap != trap || x.vs != vs || x.g != g || x.pa != g.Pa {
		t.Fatalf("%+v: %s, and the one walk alone %+v, %+v", c, x.text(), found, trap)
	}
	if !bus.Same(one, b) {
		t.Fatalf("%+v: the one walk alone leaves another bus", c)
	}
	if !On(c.vsatp) && len(x.touched) > 1 || On(c.vsatp) && !slices.Equal(slices.Compact(slices.Clone(c.read(x))), slices.Compact(single.Path(b, c.vsatp, c.va))) {
		t.Fatalf("%+v: %s touched other entries", c, x.text())
	}
}

// read is the guest's entries that were touched.
func (c call) read(x told) []uint64 {
	if x.trap.Is {
		return x.touched
	}
	return x.touched[:len(x.touched)-1]
}

// follows holds a call, made on a bus, against all that follows, and says how it ended.
func (c call) follows(t *testing.T, b *bus.Bus) string {
	t.Helper()
	before := b.Twin()
	x := c.nested(b)
	marksAlone(t, before, b)
	c.alone(t, before, b, x)
	l, next := c.steps(t, b, x)
	if !x.trap.Is {
		c.again(t, b, x, l)
	}
	end := []string{"off", "on"}[map[bool]int{false: 0, true: 1}[On(c.vsatp)]]
	if !gwalk.On(c.hgatp) {
		return fmt.Sprintf("%s off, trap %t", end, x.trap.Is)
	}
	for _, s := range l {
		c.isFound(t, b, s)
	}
	if cause := x.trap.Cause; cause == 20 || cause == 21 || cause == 23 {
		c.tellsQuarter(t, b, x, l, next)
		return fmt.Sprintf("%s on, guest-page fault %#x", end, x.trap.Tinst)
	}
	return fmt.Sprintf("%s on, trap %t", end, x.trap.Is)
}

// allFollows are all ways that follows tells.
func allFollows() []string {
	return []string{"off off, trap false", "off on, trap false", "off on, trap true", "off on, guest-page fault 0x0", "on off, trap false", "on off, trap true", "on on, trap false", "on on, trap true", "on on, guest-page fault 0x0", "on on, guest-page fault 0x3000", "on on, guest-page fault 0x3020"}
}

// P18.5 and P18.6

// Tables that lie in one another in every way.
func TestManyFollow(t *testing.T) {
	came := map[string]int{}
	x := mixer(2)
	for range 150 {
		pages := 1 + x.below(8)
		b := x.tangle(t, pages)
		for range 60 {
			came[x.call(pages).follows(t, b)]++
		}
	}
	lay.CameTo(t, came, 10, allFollows()...)
}

// The guest's leaf of each level with each set of flags, by each kind, on each floor.
func TestLeavesFollow(t *testing.T) {
	came := map[string]int{}
	for _, f := range floors() {
		for level := range 3 {
			for flags := range uint64(256) {
				if flags&0x12 == 0 && flags != 0x11 {
					continue
				}
				b := f.down(t, level, pte.Make(f.leafPage(level), flags))
				for _, w := range []api.Want{{V: true}, {Kind: 1, V: true, Priv: 1}, {Kind: 2}} {
					came[f.call(w).follows(t, b)]++
				}
			}
		}
	}
	lay.CameTo(t, came, 200, "on on, trap false", "on on, trap true", "on off, trap false", "on off, trap true")
}

// Each second leaf of the guest's tables and data with flags that allow more and less, by each kind: what is reached for what, and what isn't.
func TestSecondLeavesFollow(t *testing.T) {
	came := map[string]int{}
	for on := range uint64(4) {
		for _, second := range []uint64{0, 1, 0x0f, 0x13, 0x53, 0x17, 0x57, 0xd7, 0x19, 0x59, 0x1b, 0x1f, 0x5f, 0x9f, 0xdf} {
			for _, flags := range []uint64{0x1f, 0x5f, 0xdf, 0x13, 0x19} {
				f := fine()
				b := f.down(t, 0, pte.Make(f.data, flags))
				lay.Put(t, b, secondLeafAt(lowOn+on), pte.Make(guestLow+on, second))
				for _, w := range []api.Want{{V: true}, {Kind: 2, V: true}, {Kind: 1, V: true}, {Mxr: true}, {Vmxr: true, V: true}} {
					came[f.call(w).follows(t, b.Twin())]++
				}
			}
		}
	}
	lay.CameTo(t, came, 30, "on on, trap false", "on on, trap true", "on on, guest-page fault 0x0", "on on, guest-page fault 0x3000", "on on, guest-page fault 0x3020")
}

// P18.5

// Where the guest's tables lie apart from the second walk's, a guest-page fault leaves them as they were, but for the leaf that was marked ahead of it.
func TestAGuestPageFaultAndTheGuestsEntries(t *testing.T) {
	for on := range uint64(4) {
		for kind := range byte(3) {
			for _, second := range []uint64{0, 0x53, 0x13} {
				f := fine()
				b := f.down(t, 0, pte.Make(f.data, 0x1f))
				lay.Put(t, b, secondLeafAt(lowOn+on), pte.Make(guestLow+on, second))
				x := f.call(api.Want{Kind: kind}).nested(b)
				then := uint64(0x1f)
				if on != 0 && (on == 3 || second != 0) {
					then = []uint64{0x5f, 0xdf, 0x5f}[kind]
				}
				for level, want := range []uint64{pte.Make(f.data, then), pte.Make(f.tables[0], 1), pte.Make(f.tables[1], 1)} {
					if got, _ := lay.Get(b, atVa(level)); got != want {
						t.Errorf("the second leaf %d is %#x, %d: %s, %#x stands at %d", on, second, kind, x.text(), got, level)
					}
				}
			}
		}
	}
}

// What isn't led to is not read: two buses that differ in all pages that the second walk doesn't lead to tell the same, and are changed alike.
func TestWhatIsNotLedToIsNoMatter(t *testing.T) {
	x := mixer(7)
	f := fine()
	for level := range 3 {
		for _, flags := range []uint64{0x1f, 0x5f, 0xdf, 0x0f, 0} {
			for _, w := range fewWants() {
				one := f.down(t, level, pte.Make(f.leafPage(level), flags))
				other := one.Twin()
				for at := uint64(dataPage * 4096); at < (ramPage+ramPages)*4096; at += 8 {
					lay.Put(t, other, at, x.word())
				}
				rest := other.Twin()
				if got, want := f.call(w).told(other), f.call(w).told(one); got != want {
					t.Fatalf("%+v at %d: %s, not %s", w, level, got, want)
				}
				for at := uint64(dataPage * 4096); at < (ramPage+ramPages)*4096; at += 4096 {
					was, _ := rest.Ram().Bytes(at, 4096)
					if is, _ := other.Ram().Bytes(at, 4096); !slices.Equal(is, was) {
						t.Fatalf("%+v at %d: the page at %#x was written", w, level, at)
					}
				}
			}
		}
	}
}

// P18.6

// Found for a load, then for a store, and then for all: written out.
func TestFoundAgain(t *testing.T) {
	f := fine()
	b := f.down(t, 1, pte.Make(f.leafPage(1), 0x1f))
	lay.Put(t, b, secondLeafAt(dataOn), pte.Make(dataPage, 0x1f))
	top, middle := atVa(2), atVa(1)
	for _, row := range []struct {
		kind          byte
		flags, second uint64
		entries       []uint64
	}{
		{0, 0x5f, 0x5f, []uint64{top, middle, middle}}, {0, 0x5f, 0x5f, []uint64{top, middle}}, {2, 0x5f, 0x5f, []uint64{top, middle}}, {1, 0xdf, 0xdf, []uint64{top, middle, middle}}, {1, 0xdf, 0xdf, []uint64{top, middle}}, {0, 0xdf, 0xdf, []uint64{top, middle}},
	} {
		want := foundIs(leaf(f.leafPa(1), 1, row.flags), leaf(dataPage<<12|0xabc, 0, row.second), row.entries...)
		if got := f.call(api.Want{Kind: row.kind, V: true}).told(b); got != want {
			t.Errorf("%d: %s, not %s", row.kind, got, want)
		}
	}
}

// All addresses of one page, one by one, by a leaf of each level.
func TestAllAddressesOfAPage(t *testing.T) {
	for _, f := range floors() {
		for level := range 3 {
			b := f.down(t, level, pte.Make(f.leafPage(level), 0x1f))
			first := f.call(api.Want{V: true}).nested(b)
			before := b.Twin()
			for d := range uint64(4096) {
				c := f.call(api.Want{V: true})
				c.va = theVa ^ d
				if x := c.nested(b); x.pa != first.pa^d || x.vs != leaf(first.vs.Pa^d, level, 0x5f) || len(x.touched) != 4-level {
					t.Fatalf("%s, of %#x: %s", f.name, c.va, x.text())
				}
			}
			if !bus.Same(b, before) {
				t.Errorf("%s at %d: it was written again", f.name, level)
			}
		}
	}
}
