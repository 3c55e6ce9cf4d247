package tlb

import (
	"fmt"
	"slices"
	"testing"

	"mezzanine/api"
	"mezzanine/lay"
)

// ask is a question.
type ask struct {
	v              bool
	vmid, asid, va uint64
}

// own is an entry's own question.
func own(e Entry) ask { return ask{e.V, e.Vmid, e.Asid, e.Va} }

// isFor says by the chapter's words whether an entry is for a question.
func isFor(e Entry, q ask) bool {
	if e.V != q.v {
		return false
	}
	if q.v && e.Vmid != q.vmid {
		return false
	}
	if !e.Global && e.Asid != q.asid {
		return false
	}
	return e.Va-e.Va%4096 == q.va-q.va%4096
}

// regionOf is the first byte of an entry's region, and how many it has.
func regionOf(e Entry) (first, size uint64) {
	size = 4096
	switch {
	case e.VsLevel == 1:
		size *= 512
	case e.VsLevel >= 2:
		size *= 512 * 512
	}
	return e.Va / size * size, size
}

// The kinds of acts.
const (
	toPut = iota
	toFence
	toFenceG
	toClear
)

// act is a call that changes what is kept: what is put, or what is fenced.
type act struct {
	kind         int
	e            Entry
	q            ask
	byVa, byAsid bool
	byVmid       bool
}

func put(e Entry) act                    { return act{kind: toPut, e: e} }
func fence(q ask, byVa, byAsid bool) act { return act{kind: toFence, q: q, byVa: byVa, byAsid: byAsid} }
func fenceG(vmid uint64, byVmid bool) act {
	return act{kind: toFenceG, q: ask{vmid: vmid}, byVmid: byVmid}
}

// on calls it, and is what that tells.
func (a act) on(x *Tlb) int {
	switch a.kind {
	case toFence:
		return x.Fence(a.q.v, a.q.vmid, a.q.asid, a.q.va, a.byVa, a.byAsid)
	case toFenceG:
		return x.FenceG(a.q.vmid, a.byVmid)
	case toClear:
		return x.Clear()
	}
	x.Put(a.e)
	return 0
}

// fences says by the chapter's words whether an entry goes by a fence.
func (a act) fences(e Entry) bool {
	switch a.kind {
	case toPut:
		return false
	case toFenceG:
		if !e.V {
			return false
		}
		return !a.byVmid || e.Vmid == a.q.vmid
	case toClear:
		return true
	}
	if e.V != a.q.v {
		return false
	}
	if a.q.v && e.Vmid != a.q.vmid {
		return false
	}
	if first, size := regionOf(e); a.byVa && (a.q.va < first || a.q.va-first >= size) {
		return false
	}
	if a.byAsid && (e.Global || e.Asid != a.q.asid) {
		return false
	}
	return true
}

// model has all that is kept in one list, the newest last: the sets are sought in it anew for each call.
type model struct {
	sets, ways int
	kept       []Entry
}

func (m *model) setOf(va uint64) uint64 { return va / 4096 % uint64(m.sets) }

// set is the entries of one set, from the oldest on.
func (m *model) set(i uint64) []Entry {
	var l []Entry
	for _, e := range m.kept {
		if m.setOf(e.Va) == i {
			l = append(l, e)
		}
	}
	return l
}

// entries is all of them in the order in which they are told.
func (m *model) entries() []Entry {
	var l []Entry
	for i := range m.sets {
		l = append(l, m.set(uint64(i))...)
	}
	return l
}

// get is an entry, or none.
func (m *model) get(q ask) []Entry {
	var newest []Entry
	for _, e := range m.set(m.setOf(q.va)) {
		if isFor(e, q) {
			newest = []Entry{e}
		}
	}
	return newest
}

// without lets those go that shall, and tells how many.
func (m *model) without(goes func(Entry) bool) int {
	var l []Entry
	for _, e := range m.kept {
		if !goes(e) {
			l = append(l, e)
		}
	}
	n := len(m.kept) - len(l)
	m.kept = l
	return n
}

// do is what an act does, and what it tells; came is told what it came to.
func (m *model) do(a act, came map[string]int) int {
	if a.kind != toPut {
		n := m.without(a.fences)
		came[fmt.Sprintf("the fence %d, some: %t", a.kind, n > 0)]++
		return n
	}
	n := m.without(func(e Entry) bool { return isFor(e, own(a.e)) })
	if l := m.set(m.setOf(a.e.Va)); len(l) == m.ways {
		came["the oldest goes"]++
		m.without(func(e Entry) bool { return e == l[0] })
	} else {
		came[fmt.Sprintf("in the place of %d", n)]++
	}
	m.kept = append(m.kept, a.e)
	return 0
}

// made is a new one, which there must be.
func made(t *testing.T, sets, ways int) *Tlb {
	t.Helper()
	x, err := New(sets, ways)
	if x == nil || err != api.OK {
		t.Fatalf("New(%d, %d) is %v, %d", sets, ways, x, err)
	}
	return x
}

// with is a new one into which these were put.
func with(t *testing.T, sets, ways int, l ...Entry) *Tlb {
	t.Helper()
	x := made(t, sets, ways)
	for _, e := range l {
		x.Put(e)
	}
	return x
}

// has holds what is kept against what should be.
func has(t *testing.T, x *Tlb, when string, want ...Entry) {
	t.Helper()
	if got := x.Entries(); !slices.Equal(got, want) {
		t.Fatalf("%s: it has\n%+v, not\n%+v", when, got, want)
	}
}

// tells holds what a question is told against one entry, or none.
func tells(t *testing.T, x *Tlb, q ask, when string, want ...Entry) {
	t.Helper()
	e, ok := x.Get(q.v, q.vmid, q.asid, q.va)
	if ok != (len(want) == 1) || ok && e != want[0] || !ok && e != (Entry{}) {
		t.Fatalf("%s: %+v is told %+v, %t, not %+v", when, q, e, ok, want)
	}
}

// went holds how many went by an act.
func went(t *testing.T, x *Tlb, a act, when string, want int) {
	t.Helper()
	if got := a.on(x); got != want {
		t.Fatalf("%s: %d went by %+v, not %d", when, got, a, want)
	}
}

// mixer makes entries, questions and acts that meet one another often, the same ones in each run.
type mixer uint64

func (x *mixer) below(n int) int { return int(lay.Mix((*uint64)(x)) >> 11 % uint64(n)) }

func (x *mixer) bool() bool { return x.below(2) == 0 }

// number is one of a few, which differ in few bits.
func (x *mixer) number() uint64 {
	l := [...]uint64{0, 1, 2, 1 << 63}
	return l[x.below(len(l))]
}

// address is one of the first pages that lie about the ends of regions, in each of which are pages of all sets.
func (x *mixer) address() uint64 {
	l := [...]uint64{0, 1<<21 - 8192, 1 << 21, 1<<30 - 8192, 1 << 30, 1<<39 - 4096, 1 << 63, last - 16383}
	return l[x.below(len(l))] + uint64(x.below(4))*4096 + uint64(x.below(3))*2047
}

func (x *mixer) ask() ask { return ask{x.bool(), x.number(), x.number(), x.address()} }

// entry is one that no other one is.
func (x *mixer) entry() Entry {
	q := x.ask()
	return Entry{
		V: q.v, Vmid: q.vmid, Asid: q.asid, Global: x.below(4) == 0, Va: q.va,
		Gpa: uint64(x.below(1 << 40)), Pa: lay.Mix((*uint64)(x)), VsLevel: x.below(6) - 2, GLevel: x.below(6) - 2, Vs: uint64(x.below(256)), G: uint64(x.below(256)),
	}
}

// act is mostly one that puts, so that there is something to fence.
func (x *mixer) act() act {
	a := act{kind: toPut, e: x.entry(), q: x.ask(), byVa: x.bool(), byAsid: x.bool(), byVmid: x.below(4) > 0}
	switch n := x.below(60); {
	case n < 9:
		a.kind = toFence
	case n < 11:
		a.kind = toFenceG
	case n < 12:
		a.kind = toClear
	}
	return a
}

// shapes does with each number of sets and of ways that there may be.
func shapes(do func(sets, ways int)) {
	for _, sets := range []int{1, 2, 4, 8, 16, 32, 64} {
		for ways := 1; ways <= 8; ways++ {
			do(sets, ways)
		}
	}
}
