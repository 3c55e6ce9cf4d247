package tlb

import (
	"fmt"
	"math"
	"slices"
	"testing"

	"mezzanine/api"
)

const last uint64 = math.MaxUint64

// The calls and the type are as the chapter has them, and an entry may be held against another one.
var (
	_ func(int, int) (*Tlb, api.Errno)                         = New
	_ func(*Tlb, bool, uint64, uint64, uint64) (Entry, bool)   = (*Tlb).Get
	_ func(*Tlb, Entry)                                        = (*Tlb).Put
	_ func(*Tlb, bool, uint64, uint64, uint64, bool, bool) int = (*Tlb).Fence
	_ func(*Tlb, uint64, bool) int                             = (*Tlb).FenceG
	_ func(*Tlb) int                                           = (*Tlb).Clear
	_ func(*Tlb) []Entry                                       = (*Tlb).Entries
	_ func(*Tlb) *Tlb                                          = (*Tlb).Twin
	_ map[Entry]bool
	_ struct {
		V               bool
		Vmid, Asid      uint64
		Global          bool
		Va, Gpa, Pa     uint64
		VsLevel, GLevel int
		Vs, G           uint64
	} = Entry{}
)

func TestExamplesOfTheChapter(t *testing.T) {
	for _, x := range [][2]int{{0, 1}, {3, 1}, {128, 1}, {1, 0}, {64, 9}} {
		if got, err := New(x[0], x[1]); got != nil || err != api.ErrArg {
			t.Errorf("New(%d, %d): %v, %d", x[0], x[1], got, err)
		}
	}
	e := func(n uint64) Entry { return Entry{Va: n * 4096, Pa: 4096} }
	x := with(t, 2, 2, e(0), e(1), e(2))
	has(t, x, "three", e(0), e(2), e(1))
	x.Put(e(0))
	x.Put(e(4))
	tells(t, x, ask{va: 0x2000}, "the oldest one went")
	tells(t, x, ask{vmid: 9, va: 0x4fff}, "the newest one", e(4))
	tells(t, x, ask{v: true, va: 0x4000}, "a guest's question")
	tells(t, x, ask{asid: 1, va: 0x4000}, "another address space")
	went(t, x, fence(ask{}, false, true), "the address space 0", 3)
	has(t, x, "behind it")

	x = with(t, 2, 2, Entry{Va: 1<<21 + 4096, VsLevel: 1, Asid: 5}, Entry{Va: 1<<21 + 8192, VsLevel: 1, Global: true})
	went(t, x, fence(ask{asid: 5, va: 1<<22 - 1}, true, true), "the address space 5", 1)
	went(t, x, fence(ask{va: 1<<22 - 1}, true, false), "all address spaces", 1)

	x = with(t, 2, 2, Entry{V: true, Vmid: 3}, Entry{V: true, Vmid: 4, Va: 4096})
	went(t, x, fenceG(3, true), "the guest 3", 1)
	went(t, x, fenceG(3, false), "all guests", 1)
}

// P19.1

// counts are all numbers of sets and ways that may be, those about them, and ones that are right only if they are cut.
func counts() []int {
	l := []int{math.MinInt, math.MinInt + 1, math.MinInt + 8, math.MinInt32, -1 << 32, -1<<32 + 1, 256 + 1, 1 << 12, 1 << 16, 1<<16 + 1, math.MaxInt32, 1 << 31, 1 << 32, 1<<32 + 1, 1<<32 + 8, 1<<32 + 64, 1 << 62, math.MaxInt - 1, math.MaxInt}
	for n := -130; n <= 260; n++ {
		l = append(l, n)
	}
	return l
}

func TestNew(t *testing.T) {
	right := 0
	for _, sets := range counts() {
		for _, ways := range counts() {
			x, err := New(sets, ways)
			if !slices.Contains([]int{1, 2, 4, 8, 16, 32, 64}, sets) || !slices.Contains([]int{1, 2, 3, 4, 5, 6, 7, 8}, ways) {
				if x != nil || err != api.ErrArg {
					t.Fatalf("New(%d, %d) is %v, %d", sets, ways, x, err)
				}
				continue
			}
			right++
			if x == nil || err != api.OK || len(x.Entries()) != 0 {
				t.Fatalf("New(%d, %d) is %v, %d", sets, ways, x, err)
			}
			tells(t, x, ask{}, "a new one")
		}
	}
	if right != 7*8 {
		t.Errorf("%d are right", right)
	}
	if api.MaxSets != 64 || api.MaxWays != 8 || api.PageSize != 4096 {
		t.Error("the limits")
	}
}

// It has as many sets, and each of them as many ways, as were asked for.
func TestSetsAndWays(t *testing.T) {
	shapes(func(sets, ways int) {
		x := made(t, sets, ways)
		page := func(set, n int) Entry { return Entry{Va: uint64(n*sets+set) * 4096} }
		var full, on []Entry
		for set := range sets {
			for n := range ways {
				full = append(full, page(set, n))
				on = append(on, page(set, n+2))
			}
		}
		for n := range ways + 2 {
			if n == ways {
				has(t, x, fmt.Sprintf("%d sets of %d ways, full", sets, ways), full...)
			}
			// From the last set on, so that the sets' order is none of what was put.
			for set := sets - 1; set >= 0; set-- {
				x.Put(page(set, n))
			}
		}
		has(t, x, fmt.Sprintf("%d sets of %d ways, with two more", sets, ways), on...)
	})
}

// P19.2

// bases are entries of the host and of a guest, of one address space and of all.
func bases(do func(e Entry)) {
	for i := range 4 {
		for _, va := range []uint64{0, 0x123456789abcdef5, 1 << 63, last} {
			do(Entry{V: i%2 == 1, Vmid: 0x2aa5, Asid: 0x5aa5, Global: i/2 == 1, Va: va, Gpa: 0x70123, Pa: 0x80123, VsLevel: 1, GLevel: 2, Vs: 0xcf, G: 0xdf})
		}
	}
}

// parts does with each question that differs from that one in one part alone, and with whether what is for that one is for it, too.
func parts(e Entry, q ask, do func(q ask, is bool, what string)) {
	do(q, true, "the question itself")
	with := q
	with.v = !q.v
	do(with, false, "V")
	for i := range 64 {
		with = q
		with.vmid ^= 1 << i
		do(with, !e.V, fmt.Sprintf("the bit %d of the VMID", i))
		with = q
		with.asid ^= 1 << i
		do(with, e.Global, fmt.Sprintf("the bit %d of the ASID", i))
		with = q
		with.va ^= 1 << i
		do(with, i < 12, fmt.Sprintf("the bit %d of the address", i))
	}
}

func TestGetByEachPart(t *testing.T) {
	for _, sets := range []int{1, 2, 64} {
		bases(func(e Entry) {
			x := with(t, sets, 4, e)
			parts(e, own(e), func(q ask, is bool, what string) {
				want := []Entry{e}
				if !is {
					want = nil
				}
				tells(t, x, q, what, want...)
			})
		})
	}
}

// The entries differ here, and the question stays.
func TestGetOfEachPart(t *testing.T) {
	for _, sets := range []int{1, 2, 64} {
		bases(func(e Entry) {
			parts(e, own(e), func(q ask, is bool, what string) {
				other := e
				other.V, other.Vmid, other.Asid, other.Va = q.v, q.vmid, q.asid, q.va
				want := []Entry{other}
				if !is {
					want = nil
				}
				tells(t, with(t, sets, 4, other), own(e), what, want...)
			})
		})
	}
}

// What an entry tells is told as it was put, and is no matter to whom it is for.
func TestGetTellsAll(t *testing.T) {
	for i := range 64 {
		for _, e := range []Entry{{Gpa: 1 << i}, {Pa: 1 << i}, {VsLevel: 1 << i}, {GLevel: 1 << i}, {Vs: 1 << i}, {G: 1 << i}, {Vmid: 1 << i}, {Asid: 1 << i}, {Va: 1 << i}, {V: true, Vmid: 1 << i}, {Global: true, Asid: 1 << i}} {
			x := with(t, 4, 2, e)
			tells(t, x, own(e), "an entry by itself", e)
			has(t, x, "an entry by itself", e)
		}
	}
}

// Of several that are for a question the newest one is told: there is one of the address space itself then, and a newer one of all.
func TestGetTellsTheNewest(t *testing.T) {
	bases(func(e Entry) {
		e.Global = false
		all := e
		all.Global, all.Asid, all.Pa = true, 6, 0x99000
		other := all
		other.Global, other.Asid = false, 7
		for _, between := range []int{0, 1, 5} {
			x := with(t, 2, 8, e)
			for i := range between {
				x.Put(Entry{V: e.V, Vmid: e.Vmid, Asid: e.Asid, Va: e.Va ^ uint64(i+1)<<20})
			}
			tells(t, x, own(e), "the only one", e)
			x.Put(all)
			tells(t, x, own(e), "the newer one of all", all)
			tells(t, x, own(other), "the one of all", all)
			x.Put(other)
			tells(t, x, own(other), "in the place of the one of all", other)
			tells(t, x, own(e), "the old one again", e)
			tells(t, x, own(all), "no one's")
		}
	})
}

// Each set is asked, and no other one: with 64 of them, and with one alone.
func TestGetOfEachSet(t *testing.T) {
	for _, sets := range []uint64{1, 2, 4, 8, 16, 32, 64} {
		for _, from := range []uint64{0, 1 << 18, 1<<51 - 32, 1<<52 - 64, 12345} {
			x := made(t, int(sets), 1)
			entry := func(page uint64) Entry { return Entry{Va: page*4096 + page%4096, Pa: page} }
			for i := range sets {
				x.Put(entry(from + i))
			}
			for i := range 3 * sets {
				page := from - sets + i
				var want []Entry
				if i >= sets && i < 2*sets {
					want = []Entry{entry(page)}
				}
				tells(t, x, ask{va: page * 4096}, "a page's first byte", want...)
				tells(t, x, ask{va: page*4096 + 4095}, "a page's last byte", want...)
			}
		}
	}
}

func TestGetOfOneSetAlone(t *testing.T) {
	var l []Entry
	for i := range uint64(8) {
		l = append(l, Entry{Va: last - i*4096, Pa: i})
	}
	x := with(t, 1, 8, l...)
	for _, e := range l {
		tells(t, x, own(e), "each of them", e)
	}
	tells(t, x, ask{va: last - 8*4096}, "no one")
}

// To be asked makes nothing newer: it is the one that was put first that goes.
func TestGetChangesNothing(t *testing.T) {
	x := with(t, 1, 2, Entry{Va: 0}, Entry{Va: 4096})
	for range 5 {
		tells(t, x, ask{}, "the oldest one", Entry{})
		tells(t, x, ask{va: 8192}, "none")
	}
	has(t, x, "behind the questions", Entry{Va: 0}, Entry{Va: 4096})
	x.Put(Entry{Va: 8192})
	has(t, x, "with one more", Entry{Va: 4096}, Entry{Va: 8192})
}

// P19.3

func TestPutOfWhatIsThere(t *testing.T) {
	for ways := 1; ways <= 8; ways++ {
		var l []Entry
		for i := range ways {
			l = append(l, Entry{V: true, Vmid: 3, Asid: uint64(i), Va: 0x5123, Pa: uint64(i)})
		}
		for i, e := range l {
			x := with(t, 4, ways, l...)
			x.Put(e)
			want := append(slices.Delete(slices.Clone(l), i, i+1), e)
			has(t, x, "it is the newest one", want...)
			e.Pa, e.Va = 0x77000, 0x5fff
			x.Put(e)
			want[ways-1] = e
			has(t, x, "with another place", want...)
		}
	}
}

// What is put takes the place of what is for its own question, and of nothing else.
func TestPutByEachPart(t *testing.T) {
	for _, sets := range []int{1, 2, 64} {
		bases(func(e Entry) {
			parts(e, own(e), func(q ask, is bool, what string) {
				for _, global := range []bool{false, true} {
					next := Entry{V: q.v, Vmid: q.vmid, Asid: q.asid, Global: global, Va: q.va, Pa: 0x99000}
					x := with(t, sets, 2, e, next)
					left := []Entry{e}
					if is {
						left = nil
					}
					if got := x.Entries(); len(got) != len(left)+1 || !slices.Contains(got, next) || !is && !slices.Contains(got, e) {
						t.Fatalf("%s: behind %+v and %+v it has %+v", what, e, next, got)
					}
					tells(t, x, own(next), what, next)
				}
			})
		})
	}
}

// One whose question is that of an entry of all address spaces takes its place.
func TestPutWhereOneOfAllStands(t *testing.T) {
	all := Entry{V: true, Vmid: 3, Asid: 6, Global: true, Va: 0x5000}
	for _, asid := range []uint64{0, 5, 6, 1 << 15} {
		for _, global := range []bool{false, true} {
			e := Entry{V: true, Vmid: 3, Asid: asid, Global: global, Va: 0x5fff}
			has(t, with(t, 2, 4, all, e), "of that page", e)
			e.Va = 0x7000
			has(t, with(t, 2, 4, all, e), "of another page", all, e)
			e.Va, e.Vmid = 0x5000, 2
			has(t, with(t, 2, 4, all, e), "of another guest", all, e)
			e.V = false
			has(t, with(t, 2, 4, all, e), "of the host", all, e)
		}
	}
}

// One of all address spaces takes the place of what is for its own, and leaves what is another one's.
func TestPutOfOneOfAll(t *testing.T) {
	five, six, seven := Entry{Asid: 5, Va: 0x5000}, Entry{Asid: 6, Va: 0x5000}, Entry{Asid: 7, Va: 0x5000}
	all := Entry{Asid: 6, Global: true, Va: 0x5000}
	x := with(t, 2, 4, five, six, seven, all)
	has(t, x, "its own address space's goes", five, seven, all)
	for asid := range uint64(9) {
		tells(t, x, ask{asid: asid, va: 0x5000}, "it is told to all", all)
	}
	other := Entry{Asid: 8, Global: true, Va: 0x5000}
	x.Put(other)
	has(t, x, "another one of all", five, seven, other)
	// The question of the address space 5 has two that are for it, and both go.
	x.Put(five)
	has(t, x, "in the place of two", seven, five)
}

// If what goes anyway makes room, the oldest one stays.
func TestPutIntoAFullSet(t *testing.T) {
	for ways := 1; ways <= 8; ways++ {
		for _, sets := range []int{1, 2, 64} {
			x, m := made(t, sets, ways), &model{sets: sets, ways: ways}
			came := map[string]int{}
			do := func(e Entry) {
				t.Helper()
				m.do(put(e), came)
				x.Put(e)
				has(t, x, fmt.Sprintf("%d sets of %d ways, behind %+v", sets, ways, e), m.entries()...)
			}
			for i := range uint64(20) {
				do(Entry{Va: i * 64 * 4096})
				do(Entry{Va: i * 64 * 4096, Pa: 1})
				do(Entry{Va: 4096 * i})
			}
			do(Entry{Va: 20 * 64 * 4096, Asid: 1})
			do(Entry{Va: 20 * 64 * 4096, Asid: 2, Global: true})
			do(Entry{Va: 20 * 64 * 4096, Asid: 1})
			do(Entry{Va: 21 * 64 * 4096})
			do(Entry{Va: 22 * 64 * 4096})
			if came["the oldest goes"] == 0 || came["in the place of 1"] == 0 || ways > 1 && came["in the place of 2"] != 1 {
				t.Errorf("%v", came)
			}
		}
	}
}

// What is put into one set leaves the others as they are, full or not.
func TestPutLeavesOtherSets(t *testing.T) {
	const sets = 8
	for ways := 1; ways <= 8; ways++ {
		for fill := range ways + 1 {
			for to := range uint64(sets) {
				x := made(t, sets, ways)
				var others []Entry
				for set := range uint64(sets) {
					for i := range fill {
						e := Entry{Va: (uint64(i)*sets + set) * 4096}
						x.Put(e)
						if set != to {
							others = append(others, e)
						}
					}
				}
				for i := range uint64(3 * ways) {
					x.Put(Entry{Va: ((100+i)*sets + to) * 4096})
				}
				got := slices.DeleteFunc(x.Entries(), func(e Entry) bool { return e.Va/4096%sets == to })
				if !slices.Equal(got, others) {
					t.Fatalf("%d ways, %d of them taken, put into the set %d: the others have %+v", ways, fill, to, got)
				}
			}
		}
	}
}

// P19.4

// marks does with each of a fence's marks set and not set.
func marks(do func(byVa, byAsid bool)) {
	for i := range 4 {
		do(i%2 == 1, i/2 == 1)
	}
}

// goes holds whether an entry by itself goes by a fence.
func goes(t *testing.T, sets int, e Entry, a act, is bool, what string) {
	t.Helper()
	x, n := with(t, sets, 2, e), 0
	if is {
		n = 1
	}
	went(t, x, a, fmt.Sprintf("%s, of %+v", what, e), n)
	if is {
		has(t, x, what)
		tells(t, x, own(e), what)
	} else {
		has(t, x, what, e)
		tells(t, x, own(e), what, e)
	}
}

// What is fenced differs from an entry in one part alone.
func TestFenceByEachPart(t *testing.T) {
	for _, sets := range []int{1, 64} {
		bases(func(e Entry) {
			marks(func(byVa, byAsid bool) {
				stays := byAsid && e.Global
				goes(t, sets, e, fence(own(e), byVa, byAsid), !stays, "the same")
				for i := range 64 {
					q := own(e)
					q.vmid ^= 1 << i
					goes(t, sets, e, fence(q, byVa, byAsid), !stays && !e.V, "another guest's")
					q = own(e)
					q.asid ^= 1 << i
					goes(t, sets, e, fence(q, byVa, byAsid), !byAsid, "another address space's")
					q = own(e)
					q.va ^= 1 << i
					goes(t, sets, e, fence(q, byVa, byAsid), !stays && (!byVa || i < 21), "another address")
					q = own(e)
					q.v = !q.v
					goes(t, sets, e, fence(q, byVa, byAsid), false, "the other ones'")
					q.va, q.asid, q.vmid = q.va^1<<i, q.asid^1<<i, q.vmid^1<<i
					goes(t, sets, e, fence(q, byVa, byAsid), false, "the other ones' with more")
				}
			})
		})
	}
}

// What an entry tells beside is no matter to a fence.
func TestFenceWhateverIsTold(t *testing.T) {
	for i := range 64 {
		for _, e := range []Entry{{Gpa: 1 << i}, {Pa: 1 << i}, {GLevel: 1 << i}, {Vs: 1 << i}, {G: 1 << i}} {
			marks(func(byVa, byAsid bool) {
				goes(t, 2, e, fence(ask{va: 4095}, byVa, byAsid), true, "the same")
				goes(t, 2, e, fence(ask{va: 4096}, byVa, byAsid), !byVa, "the page beside it")
				goes(t, 2, e, fence(ask{asid: 1}, byVa, byAsid), !byAsid, "the address space beside it")
			})
		}
	}
}

// levels are all that an entry's may be, and what each of them counts as.
var levels = []struct {
	level int
	size  uint64
}{
	{math.MinInt, 4096}, {math.MinInt32, 4096}, {-1 << 32, 4096}, {-2, 4096}, {-1, 4096}, {0, 4096}, {1, 2097152}, {2, 1073741824},
	{3, 1073741824}, {4, 1073741824}, {5, 1073741824}, {6, 1073741824}, {64, 1073741824}, {1 << 32, 1073741824}, {1<<32 + 1, 1073741824}, {math.MaxInt - 1, 1073741824}, {math.MaxInt, 1073741824},
}

// The regions' both ends, of the first and the last one that there are, too.
func TestFenceByRegion(t *testing.T) {
	for _, l := range levels {
		for _, first := range []uint64{0, l.size, 5 * l.size, 1<<39 - l.size, 1 << 63, -l.size} {
			for _, off := range []uint64{0, 1, 4095, l.size / 2, l.size - 4096, l.size - 1} {
				e := Entry{Va: first + off, VsLevel: l.level}
				for _, x := range []struct {
					va uint64
					is bool
				}{
					{first, true}, {first + 1, true}, {first + l.size/2, true}, {first + l.size - 1, true},
					{first - 1, false}, {first + l.size, false}, {first - l.size, false}, {first + 2*l.size - 1, false}, {first ^ 1<<63, false}, {first ^ 1<<31, false},
				} {
					what := fmt.Sprintf("a region of %#x bytes from %#x on", l.size, first)
					goes(t, 8, e, fence(ask{va: x.va}, true, false), x.is, what)
					goes(t, 8, e, fence(ask{va: x.va}, true, true), x.is, what)
					goes(t, 8, e, fence(ask{va: x.va}, false, false), true, what)
				}
			}
		}
	}
}

// Each bit of an address is of the region, or within it.
func TestFenceByEachBit(t *testing.T) {
	for _, l := range levels {
		for _, va := range []uint64{0, 0x123456789abcdef5, last} {
			for i := range 64 {
				e := Entry{Va: va, VsLevel: l.level}
				goes(t, 4, e, fence(ask{va: va ^ 1<<i}, true, false), uint64(1)<<i < l.size, "a bit of an address")
			}
		}
	}
}

// The level of the second walk's leaf makes no region, and to no question is a whole region told.
func TestRegionsAreOfFencesAlone(t *testing.T) {
	for _, level := range []int{-1, 0, 1, 2, 3} {
		goes(t, 2, Entry{Va: 4096, GLevel: level}, fence(ask{va: 8192}, true, false), false, "the level of the second walk's leaf")
		e := Entry{Va: 1<<30 + 4096, VsLevel: level, GLevel: level}
		x := with(t, 1, 2, e)
		tells(t, x, ask{va: 1 << 30}, "the page ahead of it")
		tells(t, x, ask{va: 1<<30 + 8192}, "the page behind it")
		e.Va += 4096
		x.Put(e)
		if len(x.Entries()) != 2 {
			t.Errorf("the level %d: what is put takes the place of its whole region", level)
		}
	}
}

// What goes by one address may stand in all sets.
func TestFenceOfAllSets(t *testing.T) {
	shapes(func(sets, ways int) {
		for level, size := range []uint64{4096, 2097152, 1073741824} {
			x := made(t, sets, ways)
			var out []Entry
			for i := range uint64(sets * ways) {
				x.Put(Entry{Va: 1<<30 + i*4096, VsLevel: level})
			}
			n := min(uint64(sets*ways), size/4096)
			if level == 0 {
				out = x.Entries()
				out = slices.DeleteFunc(out, func(e Entry) bool { return e.Va == 1<<30 })
			}
			went(t, x, fence(ask{va: 1<<30 + size - 1}, true, false), fmt.Sprintf("%d sets of %d ways, the level %d", sets, ways, level), int(n))
			has(t, x, "behind it", out...)
		}
	})
}

func TestFenceG(t *testing.T) {
	bases(func(e Entry) {
		for _, byVmid := range []bool{false, true} {
			goes(t, 2, e, fenceG(e.Vmid, byVmid), e.V, "the same guest")
			for i := range 64 {
				goes(t, 2, e, fenceG(e.Vmid^1<<i, byVmid), e.V && !byVmid, "another guest")
				for _, other := range []Entry{{V: e.V, Vmid: 3, Asid: 1 << i}, {V: e.V, Vmid: 3, Va: 1 << i}, {V: e.V, Vmid: 3, VsLevel: 1 << i}, {V: e.V, Vmid: 3, Global: e.Global, Vs: 1 << i}} {
					goes(t, 2, other, fenceG(3, byVmid), e.V, "the guest 3")
				}
			}
		}
	})
}

func TestClear(t *testing.T) {
	bases(func(e Entry) { goes(t, 2, e, act{kind: toClear}, true, "all go") })
	shapes(func(sets, ways int) {
		x := made(t, sets, ways)
		went(t, x, act{kind: toClear}, "a new one", 0)
		for i := range uint64(2*sets*ways + 1) {
			x.Put(Entry{V: i%3 == 0, Global: i%5 == 0, Va: i * 4096})
		}
		went(t, x, act{kind: toClear}, "a full one", sets*ways)
		has(t, x, "behind it")
		went(t, x, act{kind: toClear}, "once more", 0)
		x.Put(Entry{Va: last})
		has(t, x, "it keeps again", Entry{Va: last})
	})
}

// mixed is one of all kinds of entries, each of its own page: 64 of them.
func mixed(t *testing.T, sets, ways int) *Tlb {
	t.Helper()
	x := made(t, sets, ways)
	for i := range uint64(64) {
		x.Put(Entry{V: i%2 == 1, Vmid: i / 2 % 2, Asid: i / 4 % 2, Global: i/8%2 == 1, VsLevel: int(i / 16 % 4), Va: i * 4096})
	}
	return x
}

// Each fence, of what is kept of all kinds: what is told is how many went, and the others stay in their order.
func TestFencesOfManyEntries(t *testing.T) {
	var l []act
	marks(func(byVa, byAsid bool) {
		for i := range uint64(27) {
			for _, va := range []uint64{0, 8193, 20 * 4096, 40*4096 + 5, 63 * 4096, 1<<21 - 1, 1 << 21, 1<<30 - 1, 1 << 30} {
				l = append(l, fence(ask{i%2 == 1, i / 2 % 3, i / 6 % 3, va}, byVa, byAsid))
			}
		}
		l = append(l, fenceG(0, byVa), fenceG(1, byVa), fenceG(2, byVa), act{kind: toClear})
	})
	for _, shape := range [][2]int{{64, 1}, {16, 4}, {8, 8}, {8, 5}} {
		none := 0
		for _, a := range l {
			x := mixed(t, shape[0], shape[1])
			before := x.Entries()
			after := slices.DeleteFunc(slices.Clone(before), a.fences)
			went(t, x, a, "many", len(before)-len(after))
			has(t, x, "the others", after...)
			if len(before) == len(after) {
				none++
			}
		}
		if none < 100 || none > len(l)-400 {
			t.Errorf("%d of %d fences let nothing go", none, len(l))
		}
	}
}

// Behind a fence a set has room, and who is the oldest in it is as it was.
func TestPutBehindAFence(t *testing.T) {
	e := func(n uint64) Entry { return Entry{Asid: n % 2, Va: n * 8192} }
	x := with(t, 2, 4, e(0), e(1), e(2), e(3), Entry{Va: 4096})
	went(t, x, fence(ask{asid: 1}, false, true), "the odd ones", 2)
	has(t, x, "behind it", e(0), e(2), Entry{Va: 4096})
	x.Put(e(5))
	x.Put(e(7))
	has(t, x, "full again", e(0), e(2), e(5), e(7), Entry{Va: 4096})
	x.Put(e(9))
	has(t, x, "with one more", e(2), e(5), e(7), e(9), Entry{Va: 4096})
}

// P19.5

func TestEntriesInOrder(t *testing.T) {
	e := func(page, n uint64) Entry { return Entry{Asid: n, Va: page * 4096, Pa: n} }
	x := with(t, 4, 3, e(3, 0), e(1, 0), e(3, 1), e(0, 0), e(1, 1), e(7, 0))
	has(t, x, "as it was put", e(0, 0), e(1, 0), e(1, 1), e(3, 0), e(3, 1), e(7, 0))
	has(t, x, "once more", e(0, 0), e(1, 0), e(1, 1), e(3, 0), e(3, 1), e(7, 0))
	x.Put(e(3, 0))
	has(t, x, "one of them again", e(0, 0), e(1, 0), e(1, 1), e(3, 1), e(7, 0), e(3, 0))
	x.Put(e(2, 4))
	went(t, x, fence(ask{asid: 1}, false, true), "the address space 1", 2)
	has(t, x, "behind a fence", e(0, 0), e(1, 0), e(2, 4), e(7, 0), e(3, 0))
	x.Put(e(3, 1))
	x.Put(e(11, 0))
	has(t, x, "the oldest one went", e(0, 0), e(1, 0), e(2, 4), e(3, 0), e(3, 1), e(11, 0))
}

// Twins are alike, and each goes its own way: nothing that is done to the one is to be seen in the other.
func TestTwinsGoTheirOwnWays(t *testing.T) {
	seed := mixer(6)
	shapes(func(sets, ways int) {
		none := map[string]int{}
		for range 4 {
			x, m := made(t, sets, ways), &model{sets: sets, ways: ways}
			for range seed.below(200) {
				a := seed.act()
				a.on(x)
				m.do(a, none)
			}
			y, n := x.Twin(), &model{sets, ways, slices.Clone(m.kept)}
			if x == y {
				t.Fatal("a twin is the one itself")
			}
			for range 60 {
				has(t, x, "the one", m.entries()...)
				has(t, y, "the twin", n.entries()...)
				a := seed.act()
				if seed.bool() {
					went(t, x, a, "the one", m.do(a, none))
				} else {
					went(t, y, a, "the twin", n.do(a, none))
				}
			}
		}
	})
}

// A twin has as many sets and ways, with nothing in it and full.
func TestTwinHasSetsAndWays(t *testing.T) {
	shapes(func(sets, ways int) {
		for _, before := range []int{0, 1, sets * ways} {
			x := made(t, sets, ways)
			for i := range before {
				x.Put(Entry{Va: uint64(i) * 4096})
			}
			x = x.Twin()
			for i := range sets * ways * 2 {
				x.Put(Entry{Va: uint64(i) * 4096})
			}
			if got := len(x.Entries()); got != sets*ways {
				t.Fatalf("%d sets of %d ways, %d entries: its twin has %d", sets, ways, before, got)
			}
		}
	})
}

// P19.6

// isEmpty holds one that keeps nothing by each call.
func isEmpty(t *testing.T, x *Tlb, when string) {
	t.Helper()
	bases(func(e Entry) {
		x.Put(e)
		tells(t, x, own(e), when)
		marks(func(byVa, byAsid bool) {
			went(t, x, fence(own(e), byVa, byAsid), when, 0)
			went(t, x, fenceG(e.Vmid, byVa), when, 0)
		})
		went(t, x, act{kind: toClear}, when, 0)
		has(t, x, when)
	})
}

func TestNilTlb(t *testing.T) {
	var x *Tlb
	isEmpty(t, x, "a nil one")
	if x.Twin() != nil {
		t.Error("a nil one's twin is not nil")
	}
}

// One that New did not make keeps nothing: it has no sets.
func TestTlbThatNobodyMade(t *testing.T) {
	isEmpty(t, &Tlb{}, "the zero one")
	isEmpty(t, new(Tlb).Twin(), "its twin")
	if x, err := New(0, 0); err == api.OK {
		t.Error("0 sets")
	} else {
		isEmpty(t, x, "what New answers beside an error")
	}
}

func TestWhatIsToldIsNewMemory(t *testing.T) {
	seed := mixer(3)
	for _, shape := range [][2]int{{1, 1}, {1, 8}, {2, 3}, {64, 8}} {
		x := made(t, shape[0], shape[1])
		for range 200 {
			x.Put(seed.entry())
			want := slices.Clone(x.Entries())
			a, b := x.Entries(), x.Entries()
			twin := x.Twin()
			for i := range a[:cap(a)] {
				a[:cap(a)][i] = Entry{Va: 1, Pa: 1}
			}
			if !slices.Equal(b, want) {
				t.Fatal("two lists share memory")
			}
			has(t, x, "behind what was done to a list", want...)
			has(t, twin, "its twin", want...)
			c := twin.Entries()
			clear(c[:cap(c)])
			has(t, twin, "behind what was done to its list", want...)
			b = append(b, Entry{Va: 1})
			y := x.Twin()
			y.Put(Entry{Va: 5})
			y.Clear()
			y.Put(Entry{Va: 4097})
			if has(t, x, "behind what was done to a twin", want...); !slices.Equal(b[:len(want)], want) {
				t.Fatal("a list goes on as what is kept does")
			}
		}
	}
}
