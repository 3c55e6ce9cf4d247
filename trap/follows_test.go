package trap

import (
	"fmt"
	"testing"

	"mezzanine/api"
	"mezzanine/csr"
	"mezzanine/irq"
)

// P14.5

// takesBack is the hart that took a trap and came back by the return of the mode that took it.
func takesBack(h api.Hart, trap api.Trap) api.Hart {
	took := Enter(h, trap)
	if To(h, trap.Cause) == ToMachine {
		return Mret(took)
	}
	return Sret(took)
}

// isBack holds who came back against who went.
func isBack(t *testing.T, h api.Hart, trap api.Trap) {
	t.Helper()
	back := takesBack(h, trap)
	what := fmt.Sprintf("%s, %+v: %s", short(h), trap, short(back))
	if back.Pc != h.Pc || back.Priv != h.Priv || back.V != h.V {
		t.Fatalf("elsewhere: %s", what)
	}
	for _, n := range []int{1, 3} {
		if bit(back.Mstatus, n) != bit(h.Mstatus, n) || bit(back.Vsstatus, n) != bit(h.Vsstatus, n) {
			t.Fatalf("not as open: %s", what)
		}
	}
	lines := api.Lines{Msip: true, Mtip: true, Meip: true, Seip: true, Geip: all}
	for _, l := range []api.Lines{{}, lines} {
		if irq.Asks(back, l) != irq.Asks(h, l) || irq.Next(back, l) != irq.Next(h, l) {
			t.Fatalf("another interrupt: %s", what)
		}
	}
}

// There and back by each of the three places, from each mode, with all bits of the statuses by which interrupts are open.
func TestThereAndBack(t *testing.T) {
	for to := range 3 {
		for i := range 64 {
			for _, start := range []api.Hart{{}, each(), full()} {
				h := goingTo(start, to)
				for k, n := range []int{1, 3, 5, 7} {
					putBit(&h.Mstatus, n, i>>k&1 == 1)
				}
				putBit(&h.Vsstatus, 1, i>>4&1 == 1)
				putBit(&h.Vsstatus, 5, i>>5&1 == 1)
				eachMode(h, func(h api.Hart) {
					if legalMode(h) {
						isBack(t, h, isTrap(13))
						isBack(t, h, isTrap(intr(10)))
					}
				})
			}
		}
	}
}

func TestManyThereAndBack(t *testing.T) {
	x := mixer(5)
	gone := map[string]int{}
	someHarts(2000, func(h api.Hart) {
		trap := x.trap()
		trap.Is = true
		if legalMode(h) {
			isBack(t, h, trap)
			gone[modelTo(h, trap.Cause)]++
		}
	})
	if len(gone) != 3 || gone["machine"] < 100 || gone["host"] < 100 || gone["guest"] < 100 {
		t.Errorf("%v", gone)
	}
}

// A trap of the guest, one of the host within its code, one of the machine within that one's: and all the way back.
func TestTrapsWithinTraps(t *testing.T) {
	h := csr.Fix(api.Hart{Priv: api.User, V: true, Pc: 0x100, Medeleg: all, Hedeleg: 1 << 8, Mstatus: all, Vsstatus: all, Vstvec: 0x200, Stvec: 0x300, Mtvec: 0x400})
	guest := Enter(h, isTrap(8))
	host := Enter(guest, isTrap(21))
	machine := Enter(host, isTrap(9+2))
	for i, x := range []struct {
		h    api.Hart
		pc   uint64
		priv byte
		v    bool
	}{{guest, 0x200, 1, true}, {host, 0x300, 1, false}, {machine, 0x400, 3, false}, {Mret(machine), 0x300, 1, false}, {Sret(Mret(machine)), 0x200, 1, true}, {Sret(Sret(Mret(machine))), 0x100, 0, true}} {
		if x.h.Pc != x.pc || x.h.Priv != x.priv || x.h.V != x.v {
			t.Errorf("%d: %s", i, short(x.h))
		}
	}
}

// P14.6

// mayDo is a number of how much a mode may do.
func mayDo(h api.Hart) int {
	switch {
	case h.Priv == api.Machine:
		return 4
	case h.V:
		return int(h.Priv)
	}
	return 2 + int(h.Priv)
}

// Each mode beside the one where it goes, whatever is delegated.
func TestNeverToLess(t *testing.T) {
	for to := range 3 {
		for _, start := range []api.Hart{{}, each(), full()} {
			eachMode(goingTo(start, to), func(h api.Hart) {
				if !legalMode(h) {
					return
				}
				for _, cause := range causes() {
					took := Enter(h, isTrap(cause))
					if !legalMode(took) || h.Priv > took.Priv || !h.V && took.V || h.Priv == api.Machine && took.Priv != api.Machine {
						t.Fatalf("%s, %#x: %s", short(h), cause, short(took))
					}
					if h.V && took.V && mayDo(h) > mayDo(took) || !h.V && mayDo(h) > mayDo(took) {
						t.Fatalf("%s, %#x: %s", short(h), cause, short(took))
					}
				}
			})
		}
	}
}

// Where each mode goes, by what is delegated to whom.
func TestModes(t *testing.T) {
	for _, x := range []struct {
		priv byte
		v    bool
		to   [3]string
	}{
		{api.Machine, false, [3]string{"machine", "machine", "machine"}},
		{api.Super, false, [3]string{"machine", "host", "host"}},
		{api.User, false, [3]string{"machine", "host", "host"}},
		{api.Super, true, [3]string{"machine", "host", "guest"}},
		{api.User, true, [3]string{"machine", "host", "guest"}},
	} {
		for to, want := range x.to {
			h := goingTo(api.Hart{Priv: x.priv, V: x.v}, to)
			toIs(t, h, 13, want)
			toIs(t, h, intr(9), want)
			took := Enter(h, isTrap(13))
			mode := map[string]api.Hart{"machine": {Priv: 3}, "host": {Priv: 1}, "guest": {Priv: 1, V: true}}[want]
			if took.Priv != mode.Priv || took.V != mode.V {
				t.Errorf("%+v, %d: %s", x, to, short(took))
			}
		}
	}
}

// A legal hart stays legal: it takes a trap, comes back, and comes back from where it never was.
func TestLegalHartsStayLegal(t *testing.T) {
	x := mixer(6)
	legal := func(what string, from, h api.Hart) {
		t.Helper()
		if !csr.Legal(h) {
			t.Fatalf("%s of %s: %s: %s", what, short(from), short(h), differ(h, csr.Fix(h)))
		}
	}
	someHarts(4000, func(h api.Hart) {
		h = csr.Fix(h)
		trap := x.trap()
		legal("Enter", h, Enter(h, trap))
		legal("Mret", h, Mret(h))
		legal("Sret", h, Sret(h))
		trap.Is = true
		legal("there and back", h, takesBack(h, trap))
		legal("Enter", h, Enter(Enter(h, trap), x.trap()))
		for range 6 {
			h = []api.Hart{Enter(h, x.trap()), Mret(h), Sret(h)}[x.word()%3]
			legal("a run", h, h)
		}
	})
}
