package trap

import (
	"fmt"
	"testing"

	"mezzanine/api"
	"mezzanine/csr"
)

// isTrap is a trap with that cause, all of whose words differ.
func isTrap(cause uint64) api.Trap {
	return api.Trap{Is: true, Cause: cause, Tval: 0xaaaa0001, Tval2: 0xbbbb0002, Tinst: 0xcccc0003}
}

func TestExamplesOfTheChapter(t *testing.T) {
	user := api.Hart{Pc: 0x100, Priv: api.User, Mtvec: 0x801, Mstatus: 8}
	machine := api.Hart{Pc: 0x81c, Priv: api.Machine, Mtvec: 0x801, Mepc: 0x100, Mcause: 1<<63 + 7, Mstatus: 0x80}
	guest := api.Hart{Pc: 0x100, Priv: api.Super, V: true, Medeleg: 0x2000, Hedeleg: 0x2000, Vstvec: 0x400}
	took := guest
	took.Pc, took.Vsepc, took.Vscause, took.Vstval, took.Vsstatus = 0x400, 0x100, 13, 5, 0x100
	without := guest
	without.Hedeleg = 0
	host := without
	host.Pc, host.V, host.Sepc, host.Scause, host.Stval, host.Hstatus, host.Mstatus = 0, false, 0x100, 13, 5, 0x180, 0x100
	back := machine
	back.Pc, back.Priv, back.Mstatus = 0x100, api.User, 0x88
	page := api.Trap{Is: true, Cause: 13, Tval: 5}
	same(t, "example 1", user, Enter(user, api.Trap{Is: true, Cause: 1<<63 + 7}), machine)
	same(t, "example 2", guest, Enter(guest, page), took)
	same(t, "example 3", without, Enter(without, page), host)
	same(t, "example 4", machine, Mret(machine), back)
}

// P14.1

func TestPlacesAreNumbers(t *testing.T) {
	if ToMachine != 0 || ToHost != 1 || ToGuest != 2 {
		t.Errorf("%d, %d, %d", ToMachine, ToHost, ToGuest)
	}
}

// Each exception and interrupt, with its bit of each of the four registers 0 and 1, all others 0 or 1, in each mode.
func TestToOfEachNumber(t *testing.T) {
	for n := range 64 {
		for i := range 16 {
			for _, others := range []uint64{0, all} {
				h := api.Hart{Medeleg: others, Mideleg: others, Hedeleg: others, Hideleg: others}
				med, mid, hed, hid := i&1 > 0, i&2 > 0, i&4 > 0, i&8 > 0
				putBit(&h.Medeleg, n, med)
				putBit(&h.Mideleg, n, mid)
				putBit(&h.Hedeleg, n, hed)
				putBit(&h.Hideleg, n, hid)
				eachMode(h, func(h api.Hart) {
					toIs(t, h, uint64(n), whereTo(h, med, hed))
					toIs(t, h, intr(uint64(n)), whereTo(h, mid, hid))
				})
			}
		}
	}
}

// whereTo is where a trap goes of which the machine, and the host, hands on so.
func whereTo(h api.Hart, machineHandsOn, hostHandsOn bool) string {
	switch {
	case h.Priv == api.Machine, !machineHandsOn:
		return "machine"
	case h.V && hostHandsOn:
		return "guest"
	}
	return "host"
}

// A number above 63 has no bit, and is nobody's but the machine's.
func TestToOfGreatNumbers(t *testing.T) {
	h := api.Hart{Medeleg: all, Mideleg: all, Hedeleg: all, Hideleg: all}
	eachMode(h, func(h api.Hart) {
		for _, cause := range causes() {
			want := whereTo(h, cause%(1<<63) < 64, true)
			toIs(t, h, cause, want)
			toIs(t, full(), cause, whereTo(full(), cause%(1<<63) < 64, true))
		}
		toIs(t, h, 63, whereTo(h, true, true))
		toIs(t, h, 64, "machine")
		toIs(t, h, intr(63), whereTo(h, true, true))
		toIs(t, h, intr(64), "machine")
	})
}

// Nothing else of a hart tells where a trap goes.
func TestToByNothingElse(t *testing.T) {
	for to, want := range []string{"machine", "host", "guest"} {
		for _, cause := range []uint64{0, 13, 63, intr(0), intr(5), intr(63)} {
			h := goingTo(api.Hart{Priv: api.Super, V: true}, to)
			toIs(t, h, cause, want)
			for _, name := range words() {
				if name == "Medeleg" || name == "Mideleg" || name == "Hedeleg" || name == "Hideleg" {
					continue
				}
				other := h
				*at(&other, name) = all
				toIs(t, other, cause, want)
			}
			for i := range h.X {
				h.X[i] = all
			}
			h.Wait, h.Held = true, true
			toIs(t, h, cause, want)
		}
	}
}

// P14.2

func TestNoTrapChangesNothing(t *testing.T) {
	someHarts(200, func(h api.Hart) {
		for _, trap := range []api.Trap{{}, {Cause: 13}, {Cause: intr(7), Tval: 1, Tval2: 2, Tinst: 3, Gva: true}, {Cause: all, Tval: all, Tval2: all, Tinst: all, Gva: true}} {
			same(t, fmt.Sprintf("Enter %+v", trap), h, Enter(h, trap), h)
		}
	})
}

// To the machine, what changes of a hart whose words differ: all of it written out.
func TestToTheMachine(t *testing.T) {
	h := each()
	h.Priv, h.V, h.Mtvec = api.Super, true, 0x8000
	trap := isTrap(21)
	want := h
	want.Mepc, want.Mcause, want.Mtval, want.Mtval2, want.Mtinst = h.Pc, 21, 0xaaaa0001, 0xbbbb0002, 0xcccc0003
	want.Mstatus = h.Mstatus&^(3<<38) | 1<<39 | 1<<11
	want.Priv, want.V, want.Pc, want.Wait, want.Held, want.Res = api.Machine, false, 0x8000, false, false, 0
	same(t, "21", h, Enter(h, trap), want)
	trap.Gva = true
	want.Mstatus |= 1 << 38
	same(t, "21, Gva", h, Enter(h, trap), want)
}

// To the host likewise.
func TestToTheHost(t *testing.T) {
	h := each()
	h.Priv, h.V, h.Stvec, h.Medeleg, h.Hedeleg = api.Super, true, 0x8000, 1<<21, 0
	trap := isTrap(21)
	want := h
	want.Sepc, want.Scause, want.Stval, want.Htval, want.Htinst = h.Pc, 21, 0xaaaa0001, 0xbbbb0002, 0xcccc0003
	want.Mstatus = h.Mstatus | 1<<8
	want.Hstatus = h.Hstatus | 1<<7 | 1<<8
	want.Priv, want.V, want.Pc, want.Wait, want.Held, want.Res = api.Super, false, 0x8000, false, false, 0
	same(t, "21", h, Enter(h, trap), want)
	trap.Gva = true
	want.Hstatus |= 1 << 6
	same(t, "21, Gva", h, Enter(h, trap), want)
}

// To the guest likewise; it is told neither Tval2 nor Tinst nor Gva.
func TestToTheGuest(t *testing.T) {
	h := each()
	h.Priv, h.V, h.Vstvec, h.Medeleg, h.Hedeleg = api.Super, true, 0x8000, 1<<13, 1<<13
	trap := isTrap(13)
	want := h
	want.Vsepc, want.Vscause, want.Vstval = h.Pc, 13, 0xaaaa0001
	want.Vsstatus = h.Vsstatus | 1<<8
	want.Priv, want.V, want.Pc, want.Wait, want.Held, want.Res = api.Super, true, 0x8000, false, false, 0
	same(t, "13", h, Enter(h, trap), want)
	trap.Gva = true
	same(t, "13, Gva", h, Enter(h, trap), want)
}

// Each bit of the three statuses by itself, 1 among noughts and 0 among ones, in each mode, to each place, with Gva and without.
func TestEachBitOfStatuses(t *testing.T) {
	for n := range 64 {
		for _, name := range []string{"Mstatus", "Hstatus", "Vsstatus"} {
			for _, w := range []uint64{1 << n, all - 1<<n} {
				for to := range 3 {
					h := goingTo(api.Hart{}, to)
					*at(&h, name) = w
					eachMode(h, func(h api.Hart) {
						for _, trap := range []api.Trap{{Is: true, Cause: 13}, {Is: true, Cause: 13, Gva: true}} {
							asModel(t, h, trap)
						}
					})
				}
			}
		}
	}
}

// stays holds a status against what it was, but for the bits that are told.
func stays(t *testing.T, what string, got, was uint64, but ...int) {
	t.Helper()
	for _, n := range but {
		putBit(&got, n, false)
		putBit(&was, n, false)
	}
	if got != was {
		t.Fatalf("%s: %#x was %#x", what, got, was)
	}
}

// What the chapter doesn't name of the statuses stays, wherever a trap goes.
func TestOtherBitsStay(t *testing.T) {
	x := mixer(2)
	for range 400 {
		h := x.hart()
		h.Priv = byte(x.word() % 2)
		trap := isTrap(intr(5))
		trap.Gva = x.word()%2 == 0
		for to := range 3 {
			h := goingTo(h, to)
			e := Enter(h, trap)
			switch modelTo(h, trap.Cause) {
			case "machine":
				stays(t, "mstatus", e.Mstatus, h.Mstatus, 3, 7, 11, 12, 38, 39)
				stays(t, "hstatus", e.Hstatus, h.Hstatus)
				stays(t, "vsstatus", e.Vsstatus, h.Vsstatus)
			case "host":
				stays(t, "mstatus", e.Mstatus, h.Mstatus, 1, 5, 8)
				stays(t, "hstatus", e.Hstatus, h.Hstatus, 6, 7, 8)
				stays(t, "vsstatus", e.Vsstatus, h.Vsstatus)
			case "guest":
				stays(t, "mstatus", e.Mstatus, h.Mstatus)
				stays(t, "hstatus", e.Hstatus, h.Hstatus)
				stays(t, "vsstatus", e.Vsstatus, h.Vsstatus, 1, 5, 8)
			}
		}
	}
}

// What the bits of mstatus say behind a trap to the machine.
func TestMstatusOfTheMachine(t *testing.T) {
	for i := range 16 {
		for _, start := range []uint64{0, all} {
			h := api.Hart{Mstatus: start}
			trap := isTrap(2)
			putBit(&h.Mstatus, 3, i&1 > 0)
			putBit(&h.Mstatus, 7, i&2 > 0)
			trap.Gva = i&4 > 0
			eachMode(h, func(h api.Hart) {
				got := Enter(h, trap)
				bits := []struct {
					n  int
					is bool
				}{{7, i&1 > 0}, {3, false}, {11, h.Priv%2 == 1}, {12, h.Priv/2%2 == 1}, {39, h.V}, {38, i&4 > 0}}
				for _, b := range bits {
					if bit(got.Mstatus, b.n) != b.is {
						t.Fatalf("%s, Gva %v: bit %d is not %v", short(h), trap.Gva, b.n, b.is)
					}
				}
				if got.Priv != api.Machine || got.V {
					t.Fatalf("%s: %s", short(h), short(got))
				}
			})
		}
	}
}

// What the bits of mstatus and hstatus say behind a trap to the host: SPVP stays of the host's own.
func TestStatusesOfTheHost(t *testing.T) {
	for i := range 64 {
		for _, start := range []uint64{0, all} {
			h := goingTo(api.Hart{Mstatus: start, Hstatus: start, Vsstatus: start}, 1)
			trap := isTrap(intr(1))
			putBit(&h.Mstatus, 1, i&1 > 0)
			putBit(&h.Mstatus, 5, i&2 > 0)
			putBit(&h.Mstatus, 8, i&4 > 0)
			putBit(&h.Hstatus, 7, i&8 > 0)
			putBit(&h.Hstatus, 8, i&16 > 0)
			trap.Gva = i&32 > 0
			for _, mode := range []struct {
				priv byte
				v    bool
				spvp bool
			}{{api.User, false, i&16 > 0}, {api.Super, false, i&16 > 0}, {api.User, true, false}, {api.Super, true, true}} {
				h.Priv, h.V = mode.priv, mode.v
				got := Enter(h, trap)
				bits := []struct {
					w  uint64
					n  int
					is bool
				}{
					{got.Mstatus, 5, i&1 > 0}, {got.Mstatus, 1, false}, {got.Mstatus, 8, mode.priv == 1},
					{got.Hstatus, 7, mode.v}, {got.Hstatus, 8, mode.spvp}, {got.Hstatus, 6, i&32 > 0},
				}
				for k, b := range bits {
					if bit(b.w, b.n) != b.is {
						t.Fatalf("%s: %d: bit %d is not %v", short(h), k, b.n, b.is)
					}
				}
				if got.Priv != api.Super || got.V {
					t.Fatalf("%s: %s", short(h), short(got))
				}
			}
		}
	}
}

// What the bits of vsstatus say behind a trap to the guest.
func TestVsstatusOfTheGuest(t *testing.T) {
	for i := range 8 {
		for _, start := range []uint64{0, all} {
			h := goingTo(api.Hart{V: true, Mstatus: start, Hstatus: start, Vsstatus: start}, 2)
			putBit(&h.Vsstatus, 1, i&1 > 0)
			putBit(&h.Vsstatus, 5, i&2 > 0)
			putBit(&h.Vsstatus, 8, i&4 > 0)
			for _, priv := range []byte{api.User, api.Super} {
				h.Priv = priv
				got := Enter(h, isTrap(8))
				if bit(got.Vsstatus, 5) != (i&1 > 0) || bit(got.Vsstatus, 1) || bit(got.Vsstatus, 8) != (priv == 1) {
					t.Fatalf("%s: %#x", short(h), got.Vsstatus)
				}
				if got.Priv != api.Super || !got.V {
					t.Fatalf("%s: %s", short(h), short(got))
				}
			}
		}
	}
}

// vectors are registers of all four lowest pairs of bits, some so great that a place goes round.
func vectors() []uint64 {
	var l []uint64
	for _, base := range []uint64{0, 4, 0x800, 1 << 40, 1<<63 + 64, all - 3, all - 31} {
		for low := range uint64(4) {
			l = append(l, base+low)
		}
	}
	return l
}

// The place: of an exception and of an interrupt, of each number, to each place, whose register alone counts.
func TestPlaces(t *testing.T) {
	for _, vector := range vectors() {
		for _, cause := range causes() {
			for to := range 3 {
				h := goingTo(api.Hart{Priv: api.User, V: true, Mtvec: 0x1111, Stvec: 0x2221, Vstvec: 0x3331}, to)
				of := []*uint64{&h.Mtvec, &h.Stvec, &h.Vstvec}[To(h, cause)]
				*of = vector
				asModel(t, h, isTrap(cause))
			}
		}
	}
}

func TestSomePlaces(t *testing.T) {
	for _, x := range []struct {
		vector, cause, want uint64
	}{
		{0x800, 5, 0x800}, {0x801, 5, 0x800}, {0x802, 5, 0x800}, {0x803, 5, 0x800},
		{0x800, intr(5), 0x800}, {0x801, intr(5), 0x814}, {0x802, intr(5), 0x800}, {0x803, intr(5), 0x814},
		{0x801, intr(0), 0x800}, {0x801, intr(63), 0x8fc}, {all, intr(1), 0}, {all, intr(2), 4}, {all - 2, intr(5), 16}, {all - 1, intr(5), all - 3},
	} {
		h := api.Hart{Mtvec: x.vector}
		if got := Enter(h, isTrap(x.cause)); got.Pc != x.want {
			t.Errorf("to the machine, %#x, %#x: %#x, not %#x", x.vector, x.cause, got.Pc, x.want)
		}
		h = goingTo(api.Hart{Stvec: x.vector, Mtvec: 0x4441}, 1)
		if got := Enter(h, isTrap(x.cause)); got.Pc != x.want {
			t.Errorf("to the host, %#x, %#x: %#x, not %#x", x.vector, x.cause, got.Pc, x.want)
		}
		if x.cause == intr(2) {
			x.want -= 4
		}
		h = goingTo(api.Hart{V: true, Vstvec: x.vector, Mtvec: 0x4441, Stvec: 0x5551}, 2)
		if got := Enter(h, isTrap(x.cause)); got.Pc != x.want {
			t.Errorf("to the guest, %#x, %#x: %#x, not %#x", x.vector, x.cause, got.Pc, x.want)
		}
	}
}

// The greatest numbers of interrupts, which go to the machine alone: the place is counted modulo 2^64.
func TestPlacesOfGreatNumbers(t *testing.T) {
	for _, x := range []struct {
		vector, cause, want uint64
	}{
		{1, all, all - 3}, {0x801, all, 0x7fc}, {0x801, all - 1, 0x7f8}, {0x801, intr(1 << 62), 0x800}, {0x801, intr(1<<62 + 3), 0x80c},
		{0x801, intr(1 << 61), 1<<63 + 0x800}, {1<<63 + 1, intr(1 << 61), 0}, {0x801, intr(64), 0x900}, {0x800, all, 0x800}, {0x802, all, 0x800}, {0x803, all, 0x7fc},
		{0x801, 1<<63 - 1, 0x800}, {0x801, 64, 0x800},
	} {
		for _, h := range []api.Hart{{}, goingTo(api.Hart{Priv: api.Super, V: true}, 2)} {
			h.Mtvec = x.vector
			if got := Enter(h, isTrap(x.cause)); got.Pc != x.want || got.Mcause != x.cause {
				t.Errorf("%#x, %#x: %#x, not %#x", x.vector, x.cause, got.Pc, x.want)
			}
		}
	}
}

// A guest is told its interrupts 2, 6, 10 by one less; no others, no exceptions, and nobody else.
func TestGuestsInterrupts(t *testing.T) {
	less := map[uint64]uint64{2: 1, 6: 5, 10: 9}
	for n := range uint64(64) {
		told := n
		if k, is := less[n]; is {
			told = k
		}
		h := goingTo(api.Hart{Priv: api.User, V: true, Vstvec: 0x101, Stvec: 0x201, Mtvec: 0x301}, 2)
		got := Enter(h, isTrap(intr(n)))
		if got.Vscause != intr(told) || got.Pc != 0x100+4*told {
			t.Errorf("interrupt %d: %#x, %#x", n, got.Vscause, got.Pc)
		}
		got = Enter(h, isTrap(n))
		if got.Vscause != n || got.Pc != 0x100 {
			t.Errorf("exception %d: %#x, %#x", n, got.Vscause, got.Pc)
		}
		got = Enter(goingTo(h, 1), isTrap(intr(n)))
		if got.Scause != intr(n) || got.Pc != 0x200+4*n {
			t.Errorf("interrupt %d of the host: %#x, %#x", n, got.Scause, got.Pc)
		}
		got = Enter(goingTo(h, 0), isTrap(intr(n)))
		if got.Mcause != intr(n) || got.Pc != 0x300+4*n {
			t.Errorf("interrupt %d of the machine: %#x, %#x", n, got.Mcause, got.Pc)
		}
	}
}

// Who takes a trap waits no more, and has nothing reserved, wherever it goes.
func TestWaitAndReserved(t *testing.T) {
	for i := range 8 {
		for to := range 3 {
			h := goingTo(api.Hart{Priv: api.Super, V: true, Wait: i&1 > 0, Held: i&2 > 0}, to)
			if i&4 > 0 {
				h.Res = 0x80000008
			}
			if got := Enter(h, isTrap(9)); got.Wait || got.Held || got.Res != 0 {
				t.Errorf("%d, to %d: %v, %v, %#x", i, to, got.Wait, got.Held, got.Res)
			}
		}
	}
}

func TestEnterOfManyHarts(t *testing.T) {
	x := mixer(1)
	someHarts(3000, func(h api.Hart) {
		for range 3 {
			asModel(t, h, x.trap())
		}
		trap := api.Trap{Is: true, Cause: all, Tval: all, Tval2: all, Tinst: all, Gva: true}
		asModel(t, h, trap)
		asModel(t, h, api.Trap{Is: true})
	})
}

// P14.3

// Each MPP, MPV, MPIE, MIE and MPRV, whatever the hart's own mode.
func TestMret(t *testing.T) {
	for i := range 64 {
		for _, start := range []uint64{0, all} {
			h := each()
			h.Mstatus = start
			for k, n := range []int{11, 12, 39, 7, 3, 17} {
				putBit(&h.Mstatus, n, i>>k&1 == 1)
			}
			want := h
			want.Pc, want.Held, want.Res = h.Mepc, false, 0
			want.Priv, want.V = []byte{0, 1, 0, 3}[i%4], i%4 < 3 && i&4 > 0
			for _, n := range []int{11, 12, 39} {
				putBit(&want.Mstatus, n, false)
			}
			putBit(&want.Mstatus, 3, i&8 > 0)
			putBit(&want.Mstatus, 7, true)
			putBit(&want.Mstatus, 17, i&32 > 0 && i%4 == 3)
			eachMode(h, func(h api.Hart) {
				same(t, "Mret", h, Mret(h), want)
				h.Wait = false
				waits := want
				waits.Wait = false
				same(t, "Mret", h, Mret(h), waits)
			})
		}
	}
}

// P14.4

// Where V is false: each SPP, SPV, SPIE, SIE and MPRV.
func TestSretOfTheHost(t *testing.T) {
	for i := range 32 {
		for _, start := range []uint64{0, all} {
			h := each()
			h.Mstatus, h.Hstatus = start, start
			for k, n := range []int{8, 5, 1, 17} {
				putBit(&h.Mstatus, n, i>>k&1 == 1)
			}
			putBit(&h.Hstatus, 7, i&16 > 0)
			want := h
			want.Pc, want.Held, want.Res = h.Sepc, false, 0
			want.Priv, want.V = byte(i%2), i&16 > 0
			putBit(&want.Mstatus, 8, false)
			putBit(&want.Mstatus, 5, true)
			putBit(&want.Mstatus, 1, i&2 > 0)
			putBit(&want.Mstatus, 17, false)
			putBit(&want.Hstatus, 7, false)
			for _, priv := range []byte{0, 1, 2, 3, 4, 255} {
				h.Priv, h.V = priv, false
				same(t, "Sret", h, Sret(h), want)
			}
		}
	}
}

// Where V is true: each SPP, SPIE and SIE of vsstatus, and MPRV; neither mstatus's own nor SPV.
func TestSretOfTheGuest(t *testing.T) {
	for i := range 32 {
		for _, start := range []uint64{0, all} {
			h := each()
			h.Mstatus, h.Hstatus, h.Vsstatus = start, start, start
			for k, n := range []int{8, 5, 1} {
				putBit(&h.Vsstatus, n, i>>k&1 == 1)
			}
			putBit(&h.Mstatus, 17, i&8 > 0)
			putBit(&h.Hstatus, 7, i&16 > 0)
			want := h
			want.Pc, want.Held, want.Res = h.Vsepc, false, 0
			want.Priv, want.V = byte(i%2), true
			putBit(&want.Vsstatus, 8, false)
			putBit(&want.Vsstatus, 5, true)
			putBit(&want.Vsstatus, 1, i&2 > 0)
			putBit(&want.Mstatus, 17, false)
			for _, priv := range []byte{0, 1, 2, 3, 4, 255} {
				h.Priv, h.V = priv, true
				same(t, "Sret", h, Sret(h), want)
			}
		}
	}
}

// Each bit of the three statuses by itself, 1 among noughts and 0 among ones: both returns.
func TestBackOfEachBit(t *testing.T) {
	for n := range 64 {
		for _, name := range []string{"Mstatus", "Hstatus", "Vsstatus"} {
			for _, w := range []uint64{1 << n, all - 1<<n} {
				for _, h := range []api.Hart{{}, each()} {
					*at(&h, name) = w
					eachMode(h, func(h api.Hart) { backAsModel(t, h) })
				}
			}
		}
	}
}

func TestBackOfManyHarts(t *testing.T) {
	someHarts(6000, func(h api.Hart) { backAsModel(t, h) })
}

// A return lets go what is reserved, and leaves Wait as it is.
func TestBackLeavesWait(t *testing.T) {
	for _, wait := range []bool{false, true} {
		for _, v := range []bool{false, true} {
			h := api.Hart{V: v, Wait: wait, Held: true, Res: 8}
			if m, s := Mret(h), Sret(h); m.Wait != wait || s.Wait != wait || m.Held || s.Held || m.Res != 0 || s.Res != 0 {
				t.Errorf("V %v, Wait %v: %+v, %+v", v, wait, m, s)
			}
		}
	}
}

// What legal harts are made of: they are the start of what follows.
func TestHartsOfTheTestsAreLegal(t *testing.T) {
	n := 0
	someHarts(100, func(h api.Hart) {
		if csr.Legal(h) {
			n++
		}
	})
	if n < 100 {
		t.Errorf("only %d", n)
	}
}
