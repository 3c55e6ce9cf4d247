package tlb

import (
	"fmt"
	"slices"
	"testing"

	"mezzanine/lay"
)

// P19.7, which is what follows: here what is told is held against what was told ahead of a call.

// asks are questions at random, and those that entries have by themselves, and by a neighbour's parts.
func (x *mixer) asks(l []Entry) []ask {
	var qs []ask
	for range 12 {
		qs = append(qs, x.ask())
	}
	for _, e := range l {
		q := own(e)
		qs = append(qs, q)
		q.asid = x.number()
		qs = append(qs, q)
		q.va = x.address()
		qs = append(qs, q)
	}
	return qs
}

// answers are what each of the questions is told.
func answers(x *Tlb, qs []ask) []Entry {
	var l []Entry
	for _, q := range qs {
		e, _ := x.Get(q.v, q.vmid, q.asid, q.va)
		l = append(l, e)
	}
	return l
}

// run does with some that are full, half full and less, of each shape.
func run(t *testing.T, seed *mixer, do func(x *Tlb, sets, ways int)) {
	t.Helper()
	shapes(func(sets, ways int) {
		for _, n := range []int{0, 1, 5, 40, 200} {
			x := made(t, sets, ways)
			for range n {
				seed.act().on(x)
			}
			do(x, sets, ways)
		}
	})
}

// What was put is told to its own question till it goes, but where a newer one is for that question, too: that is told then (P19.2).
func TestWhatWasPutIsTold(t *testing.T) {
	seed := mixer(1)
	came := map[string]int{}
	run(t, &seed, func(x *Tlb, sets, ways int) {
		e := seed.entry()
		x.Put(e)
		newest := e
		for range seed.below(60) {
			kept := x.Entries()
			if !slices.Contains(kept, newest) {
				newest = e
			}
			if !slices.Contains(kept, e) {
				came["it went"]++
				return
			}
			tells(t, x, own(e), "till it goes", newest)
			if newest != e {
				came["a newer one"]++
			}
			a := seed.act()
			if seed.below(3) == 0 {
				a.kind, a.e.V, a.e.Vmid, a.e.Va, a.e.Global = toPut, e.V, e.Vmid, e.Va, true
			}
			a.on(x)
			if a.kind == toPut && isFor(a.e, own(e)) {
				newest = a.e
			}
		}
		came["it stayed"]++
	})
	lay.CameTo(t, came, 5, "it went", "it stayed", "a newer one")
}

// No set has more entries than ways, however many were put; and those of a set stand together.
func TestNoMoreThanWays(t *testing.T) {
	seed := mixer(2)
	run(t, &seed, func(x *Tlb, sets, ways int) {
		full := map[uint64]int{}
		for range 100 {
			x.Put(seed.entry())
			before := uint64(0)
			clear(full)
			for _, e := range x.Entries() {
				set := e.Va / 4096 % uint64(sets)
				if full[set]++; full[set] > ways || set < before {
					t.Fatalf("%d sets of %d ways have %+v", sets, ways, x.Entries())
				}
				before = set
			}
		}
	})
}

// Behind a fence none that goes by it is told to any question; who was told none of these is told what it was. Who was told one may be told an older one, or none.
func TestBehindAFence(t *testing.T) {
	seed := mixer(3)
	came := map[string]int{}
	run(t, &seed, func(x *Tlb, sets, ways int) {
		for range 30 {
			a := seed.act()
			for a.kind == toPut {
				a = seed.act()
			}
			// Where one of an address space and a newer one of all are for one question, the one may go without the other.
			e := seed.entry()
			e.Global = false
			x.Put(e)
			e.Global, e.Asid = true, e.Asid+1
			x.Put(e)
			if seed.bool() {
				a.kind, a.q = toFence, ask{e.V, e.Vmid, e.Asid - 1, e.Va}
			}
			kept := x.Entries()
			qs := seed.asks(kept)
			before := answers(x, qs)
			n := a.on(x)
			if left := len(x.Entries()); n != len(kept)-left {
				t.Fatalf("%+v: %d went, and %d are left of %d", a, n, left, len(kept))
			}
			for i, now := range answers(x, qs) {
				was := before[i]
				switch {
				case now != (Entry{}) && a.fences(now):
					t.Fatalf("%+v: %+v is told %+v still", a, qs[i], now)
				case was == (Entry{}) || !a.fences(was):
					if now != was {
						t.Fatalf("%+v: %+v is told %+v, not %+v", a, qs[i], now, was)
					}
					came["as it was"]++
				case now != (Entry{}):
					if !isFor(now, qs[i]) || slices.Index(kept, now) > slices.Index(kept, was) {
						t.Fatalf("%+v: %+v is told %+v, behind %+v", a, qs[i], now, was)
					}
					came["an older one"]++
				default:
					came["none any more"]++
				}
			}
			for range 20 {
				seed.act().on(x)
			}
		}
	})
	lay.CameTo(t, came, 5, "as it was", "an older one", "none any more")
}

// A fence may let a newer one go, so that an older one is told: not one of an address space, since that leaves what is of all, but one of an address in the region of the newer one alone.
func TestAnOlderOneIsTold(t *testing.T) {
	older := Entry{Asid: 5, Va: 4096}
	newer := Entry{Asid: 6, Global: true, Va: 4096, VsLevel: 1}
	x := with(t, 2, 4, older, newer)
	tells(t, x, own(older), "the newer one", newer)
	went(t, x, fence(ask{va: 8192}, true, false), "an address beside", 1)
	tells(t, x, own(older), "the older one", older)
	tells(t, x, own(newer), "none")
}

// To put what is there already leaves as many, and makes it the newest one of its set: nothing else changes. (Where a newer one of all stands for its question, that goes by P19.3.)
func TestPutAgain(t *testing.T) {
	seed := mixer(4)
	came := map[string]int{}
	run(t, &seed, func(x *Tlb, sets, ways int) {
		for range 20 {
			for range 5 {
				x.Put(seed.entry())
			}
			kept := x.Entries()
			e := kept[seed.below(len(kept))]
			want := slices.DeleteFunc(slices.Clone(kept), func(old Entry) bool { return isFor(old, own(e)) })
			at := len(want)
			for i, other := range want {
				if other.Va/4096%uint64(sets) > e.Va/4096%uint64(sets) {
					at = i
					break
				}
			}
			x.Put(e)
			has(t, x, fmt.Sprintf("%+v again", e), slices.Insert(want, at, e)...)
			if len(x.Entries()) == len(kept) {
				came["as many"]++
			} else {
				came["a newer one of all went"]++
			}
			tells(t, x, own(e), "it again", e)
			once := x.Entries()
			x.Put(e)
			has(t, x, "once more", once...)
		}
	})
	lay.CameTo(t, came, 5, "as many", "a newer one of all went")
}

// Entries, put one behind the other into a new one of as many sets and ways, make the same: what is told, and what comes of all that is done to both.
func TestEntriesMakeTheSame(t *testing.T) {
	seed := mixer(5)
	run(t, &seed, func(x *Tlb, sets, ways int) {
		l := x.Entries()
		y := with(t, sets, ways, l...)
		for range 30 {
			has(t, y, "the new one", l...)
			qs := seed.asks(l)
			if a, b := answers(x, qs), answers(y, qs); !slices.Equal(a, b) {
				t.Fatalf("%+v are told %+v, and %+v by the new one", qs, a, b)
			}
			a := seed.act()
			if got, want := a.on(y), a.on(x); got != want {
				t.Fatalf("%d and %d went by %+v", got, want, a)
			}
			l = x.Entries()
		}
	})
}

// Long runs of all calls, against the model.
func TestManyCallsAgainstTheModel(t *testing.T) {
	seed := mixer(7)
	came := map[string]int{}
	shapes(func(sets, ways int) {
		x, m := made(t, sets, ways), &model{sets: sets, ways: ways}
		for range 400 {
			a := seed.act()
			went(t, x, a, fmt.Sprintf("%d sets of %d ways", sets, ways), m.do(a, came))
			l := m.entries()
			has(t, x, fmt.Sprintf("behind %+v", a), l...)
			for _, q := range seed.asks(l[:min(len(l), 9)]) {
				tells(t, x, q, "on the way", m.get(q)...)
			}
		}
	})
	lay.CameTo(t, came, 5, "the oldest goes", "in the place of 0", "in the place of 1", "in the place of 2", "the fence 1, some: true", "the fence 1, some: false", "the fence 2, some: true", "the fence 2, some: false", "the fence 3, some: true", "the fence 3, some: false")
}

// All that may come of three entries that are put one behind the other, each of two of everything, with each question of theirs.
func TestAllShortRuns(t *testing.T) {
	var l []Entry
	for i := range uint64(32) {
		l = append(l, Entry{V: i%2 == 1, Vmid: i / 2 % 2, Asid: i / 4 % 2, Global: i/8%2 == 1, Va: i / 16 % 2 * 4096})
	}
	none := map[string]int{}
	for _, shape := range [][2]int{{1, 1}, {1, 2}, {2, 1}, {2, 3}} {
		for i := range 32 * 32 * 32 {
			x, m := made(t, shape[0], shape[1]), &model{sets: shape[0], ways: shape[1]}
			for n, e := range []Entry{l[i%32], l[i/32%32], l[i/1024]} {
				e.Pa = uint64(n)
				x.Put(e)
				m.do(put(e), none)
			}
			has(t, x, "three", m.entries()...)
			for _, e := range l {
				if !e.Global {
					tells(t, x, own(e), "three", m.get(own(e))...)
				}
			}
		}
	}
}
