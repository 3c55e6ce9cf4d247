package csr

import (
	"math"
	"strings"
	"testing"

	"mezzanine/api"
	"mezzanine/csrno"
)

// home is the chapter's H.
var home = Fix(api.Hart{})

// P12.1

func TestPendingOfEachLine(t *testing.T) {
	for _, x := range []struct {
		h    api.Hart
		l    api.Lines
		want uint64
	}{
		{api.Hart{}, api.Lines{}, 0},
		{api.Hart{}, api.Lines{Msip: true}, 1 << 3},
		{api.Hart{}, api.Lines{Mtip: true}, 1 << 7},
		{api.Hart{}, api.Lines{Meip: true}, 1 << 11},
		{api.Hart{}, api.Lines{Seip: true}, 1 << 9},
		{api.Hart{}, api.Lines{Time: all}, 0},
		{api.Hart{}, api.Lines{Geip: all}, 0},
		{api.Hart{Hstatus: 1 << 12}, api.Lines{Geip: 2}, 1 << 10},
		{api.Hart{Hstatus: 1 << 12}, api.Lines{Geip: all - 2}, 0},
		{api.Hart{Hstatus: all - 1<<12}, api.Lines{Geip: 2}, 0},
		{api.Hart{Hstatus: 2 << 12}, api.Lines{Geip: 4}, 0},
		{api.Hart{Hgeie: 2}, api.Lines{Geip: 2}, 1 << 12},
		{api.Hart{Hgeie: 2}, api.Lines{Geip: all - 2}, 0},
		{api.Hart{Hgeie: 1 << 63}, api.Lines{Geip: 1 << 63}, 1 << 12},
		{api.Hart{Hgeie: 1}, api.Lines{Geip: 1}, 1 << 12},
		{api.Hart{Hgeie: 2, Hstatus: 1 << 12}, api.Lines{Geip: 2}, 1<<12 | 1<<10},
		{api.Hart{Mip: 0x222}, api.Lines{}, 0x222},
		{api.Hart{Hvip: 0x444}, api.Lines{}, 0x444},
		{api.Hart{Mip: 0x222, Hvip: 0x444}, api.Lines{Seip: true}, 0x666},
		{api.Hart{Mip: 5, Hvip: 6}, api.Lines{}, 7},
		{api.Hart{Mip: 1 << 63, Hvip: 1 << 40}, api.Lines{}, 1<<63 | 1<<40},
		{api.Hart{Mie: all, Mideleg: all, Hideleg: all, Vsstatus: all}, api.Lines{}, 0},
		{api.Hart{Hgeie: 2, Hstatus: 1 << 12}, api.Lines{Msip: true, Mtip: true, Meip: true, Seip: true, Geip: 2}, 0x1e88},
	} {
		for _, priv := range []byte{0, 1, 2, 3} {
			x.h.Priv, x.h.V = priv, priv == 1
			if got := Pending(x.h, x.l); got != x.want {
				t.Errorf("Pending(Mip %#x, Hvip %#x, Hstatus %#x, Hgeie %#x; %+v) is %#x, not %#x", x.h.Mip, x.h.Hvip, x.h.Hstatus, x.h.Hgeie, x.l, got, x.want)
			}
		}
	}
}

func TestPendingOfEachBit(t *testing.T) {
	m := newModel()
	for _, l := range someLines() {
		for _, name := range words() {
			for i := range 64 {
				for _, h := range []api.Hart{{}, {Hstatus: 1 << 12, Hgeie: 2}} {
					*at(&h, name) = 1 << i
					if got, want := Pending(h, l), m.pending(h, l); got != want {
						t.Fatalf("Pending(bit %d of %s; %+v) is %#x, not %#x", i, name, l, got, want)
					}
				}
			}
		}
	}
}

func TestReadAndBaseOfEveryRegister(t *testing.T) {
	m := newModel()
	for _, h := range someHarts(150) {
		for _, l := range someLines() {
			if got, want := Pending(h, l), m.pending(h, l); got != want {
				t.Fatalf("Pending(%+v, %+v) is %#x, not %#x", h, l, got, want)
			}
			for _, no := range csrno.All() {
				if got, want := Read(h, l, no), m.read(h, l, no); got != want {
					t.Fatalf("Read(%+v, %+v, %s) is %#x, not %#x", h, l, csrno.Name(no), got, want)
				}
				without := l
				if no == api.CsrMip {
					without.Seip = false
				}
				if got, want := Base(h, l, no), m.read(h, without, no); got != want {
					t.Fatalf("Base(%+v, %+v, %s) is %#x, not %#x", h, l, csrno.Name(no), got, want)
				}
			}
		}
	}
}

// Each bit of each word is shown where the model shows it, and nowhere else.
func TestReadOfEachBit(t *testing.T) {
	m := newModel()
	l := api.Lines{Time: 5}
	for _, start := range []api.Hart{{}, {V: true}, full()} {
		for _, name := range words() {
			for i := range 64 {
				h := start
				*at(&h, name) ^= 1 << i
				for _, no := range csrno.All() {
					if got, want := Read(h, l, no), m.read(h, l, no); got != want {
						t.Fatalf("bit %d of %s, V %v: %s is %#x, not %#x", i, name, h.V, csrno.Name(no), got, want)
					}
				}
			}
		}
	}
}

func TestNoRegister(t *testing.T) {
	x := mixer(3)
	for _, h := range []api.Hart{{}, full(), home, x.hart()} {
		for _, no := range noRegisters() {
			l := x.lines()
			if Read(h, l, no) != 0 || Base(h, l, no) != 0 || Write(h, l, no, all) != h || Write(h, l, no, 0) != h {
				t.Fatalf("%#x: %#x, %#x", no, Read(h, l, no), Base(h, l, no))
			}
		}
	}
}

// Only mip begins without the device's line; what was written to bit 9 stays.
func TestBaseOfMip(t *testing.T) {
	l := api.Lines{Seip: true, Mtip: true}
	h := api.Hart{Mideleg: 0x222}
	if Read(h, l, api.CsrMip) != 0x280 || Base(h, l, api.CsrMip) != 0x80 {
		t.Errorf("mip: %#x, %#x", Read(h, l, api.CsrMip), Base(h, l, api.CsrMip))
	}
	h.Mip = 0x200
	if Base(h, l, api.CsrMip) != 0x280 {
		t.Errorf("mip with its own bit 9: %#x", Base(h, l, api.CsrMip))
	}
	h.Mip = 0
	if Base(h, l, api.CsrSip) != 0x200 {
		t.Errorf("sip: %#x", Base(h, l, api.CsrSip))
	}
}

// P12.2

func TestWriteOfEveryRegister(t *testing.T) {
	m := newModel()
	x := mixer(5)
	for _, h := range someHarts(15) {
		for _, no := range csrno.All() {
			for _, v := range someWords() {
				if got, want := Write(h, x.lines(), no, v), m.write(h, no, v); got != want {
					t.Fatalf("Write(%+v, %s, %#x) is\n%+v, not\n%+v", h, csrno.Name(no), v, got, want)
				}
			}
		}
	}
}

// Each bit of a field's mask is put in and taken out by itself, and none that the mask has not.
func TestWriteOfEachBit(t *testing.T) {
	for _, r := range rows() {
		for _, start := range []api.Hart{{}, home, full()} {
			start.V = false
			for i := range 64 {
				for _, v := range []uint64{1 << i, all - 1<<i} {
					if r.name == "mstatus" && v>>11&3 == 2 || strings.HasSuffix(r.name, "atp") && v>>60 != 0 && v>>60 != 8 {
						continue
					}
					h := start
					got := Write(h, api.Lines{}, r.no, v)
					*at(&h, r.field) = *at(&h, r.field)&^r.mask | v&r.mask
					if got != h {
						t.Fatalf("%s: %#x over %#x becomes %#x", r.name, v, *at(&start, r.field), *at(&got, r.field))
					}
				}
			}
		}
	}
}

func TestWriteOfMstatusBits12And11(t *testing.T) {
	for before := range uint64(4) {
		for v := range uint64(4) {
			for _, rest := range []uint64{0, 0xc0007e01aa} {
				h := home
				h.Mstatus |= before << 11
				want := h
				want.Mstatus = 0xa00000000 | rest | v<<11
				if v == 2 {
					want.Mstatus = 0xa00000000 | rest | before<<11
				}
				if got := Write(h, api.Lines{}, api.CsrMstatus, v<<11|rest); got != want {
					t.Errorf("%d over %d, with %#x: %#x, not %#x", v, before, rest, got.Mstatus, want.Mstatus)
				}
				// The view leaves them as they are, whatever is written.
				got := Write(h, api.Lines{}, api.CsrSstatus, v<<11|rest)
				if got.Mstatus != h.Mstatus|rest&0xc0122 {
					t.Errorf("sstatus: %#x", got.Mstatus)
				}
			}
		}
	}
}

func TestWriteOfTheKindOfTables(t *testing.T) {
	for _, r := range rows() {
		if !strings.HasSuffix(r.name, "atp") {
			continue
		}
		for _, before := range []uint64{0, 8<<60 | 0x1230, all &^ r.mask, all} {
			for kind := range uint64(16) {
				for _, rest := range []uint64{0, 0xfffffffffffffff, 0x123456789abcdef} {
					h := home
					*at(&h, r.field) = before
					want := h
					v := kind<<60 | rest
					if kind == 0 || kind == 8 {
						*at(&want, r.field) = before&^r.mask | v&r.mask
					}
					if got := Write(h, api.Lines{}, r.no, v); got != want {
						t.Errorf("%s: %#x over %#x: %#x, not %#x", r.name, v, before, *at(&got, r.field), *at(&want, r.field))
					}
				}
			}
		}
	}
}

func TestWriteThatDoesNothing(t *testing.T) {
	x := mixer(8)
	for _, h := range someHarts(20) {
		for _, no := range []int{
			api.CsrHgeip, api.CsrCycle, api.CsrTime, api.CsrInstret, api.CsrMisa, api.CsrMvendorid, api.CsrMarchid, api.CsrMimpid, api.CsrMhartid, api.CsrMconfigptr,
		} {
			for _, v := range someWords() {
				if Write(h, x.lines(), no, v) != h {
					t.Fatalf("Write(%+v, %s, %#x) does something", h, csrno.Name(no), v)
				}
			}
		}
	}
}

func TestWriteOfViews(t *testing.T) {
	open := api.Hart{Mideleg: all, Hideleg: all}
	with := func(h api.Hart, do func(h *api.Hart)) api.Hart {
		do(&h)
		return h
	}
	for i, x := range []struct {
		h    api.Hart
		no   int
		v    uint64
		want api.Hart
	}{
		{open, api.CsrSstatus, all, with(open, func(h *api.Hart) { h.Mstatus = 0xc0122 })},
		{with(open, func(h *api.Hart) { h.Mstatus = all }), api.CsrSstatus, 0, with(open, func(h *api.Hart) { h.Mstatus = all - 0xc0122 })},
		{open, api.CsrMip, all, with(open, func(h *api.Hart) { h.Mip, h.Hvip = 0x222, 4 })},
		{api.Hart{}, api.CsrMip, all, api.Hart{Mip: 0x222, Hvip: 4}},
		{api.Hart{Mip: all, Hvip: all}, api.CsrMip, 0, api.Hart{Mip: all - 0x222, Hvip: all - 4}},
		{open, api.CsrSip, all, with(open, func(h *api.Hart) { h.Mip = 2 })},
		{api.Hart{}, api.CsrSip, all, api.Hart{}},
		{api.Hart{Mideleg: all - 2}, api.CsrSip, all, api.Hart{Mideleg: all - 2}},
		{api.Hart{Mideleg: 2, Mip: all}, api.CsrSip, all - 2, api.Hart{Mideleg: 2, Mip: all - 2}},
		{open, api.CsrSie, all, with(open, func(h *api.Hart) { h.Mie = 0x222 })},
		{api.Hart{Mideleg: 0x20}, api.CsrSie, all, api.Hart{Mideleg: 0x20, Mie: 0x20}},
		{api.Hart{Mideleg: 0x20, Mie: all}, api.CsrSie, 0, api.Hart{Mideleg: 0x20, Mie: all - 0x20}},
		{open, api.CsrHip, all, with(open, func(h *api.Hart) { h.Hvip = 4 })},
		{api.Hart{Hvip: all}, api.CsrHip, all - 4, api.Hart{Hvip: all - 4}},
		{api.Hart{}, api.CsrHie, all, api.Hart{Mie: 0x1444}},
		{api.Hart{Mie: all}, api.CsrHie, 0, api.Hart{Mie: all - 0x1444}},
		{open, api.CsrVsip, all, with(open, func(h *api.Hart) { h.Hvip = 4 })},
		{api.Hart{Hideleg: 4, Hvip: all}, api.CsrVsip, all - 2, api.Hart{Hideleg: 4, Hvip: all - 4}},
		{api.Hart{Hideleg: all - 4}, api.CsrVsip, all, api.Hart{Hideleg: all - 4}},
		{open, api.CsrVsie, 0x222, with(open, func(h *api.Hart) { h.Mie = 0x444 })},
		{api.Hart{Hideleg: 0x40, Mie: all}, api.CsrVsie, 0, api.Hart{Hideleg: 0x40, Mie: all - 0x40}},
		{api.Hart{Hideleg: 0x400}, api.CsrVsie, all, api.Hart{Hideleg: 0x400, Mie: 0x400}},
		{api.Hart{}, api.CsrVsie, all, api.Hart{}},
	} {
		if got := Write(x.h, api.Lines{}, x.no, x.v); got != x.want {
			t.Errorf("line %d: Write(%s, %#x) is\n%+v, not\n%+v", i, csrno.Name(x.no), x.v, got, x.want)
		}
	}
}

// Where V a supervisor's register is the guest's own, and the host's is left alone.
func TestWhereV(t *testing.T) {
	x := mixer(4)
	for _, no := range csrno.All() {
		name := csrno.Name(no)
		swapped := strings.Contains(" sstatus sie stvec sscratch sepc scause stval sip satp ", " "+name+" ")
		for range 20 {
			h, l, v := x.hart(), x.lines(), x.word()&(1<<60-1)
			guest := h
			h.V, guest.V = false, true
			other := no
			if swapped {
				other = csrno.Number("v" + name)
			}
			back := Write(guest, l, no, v)
			back.V = false
			if back != Write(h, l, other, v) {
				t.Fatalf("writing %s where V is not writing %s", name, csrno.Name(other))
			}
			want := Read(h, l, other)
			if no == api.CsrTime {
				want += h.Htimedelta
			}
			if Read(guest, l, no) != want || no != api.CsrMip && Base(guest, l, no) != want {
				t.Fatalf("%s where V says not what %s says", name, csrno.Name(other))
			}
		}
	}
}

func TestTime(t *testing.T) {
	for _, x := range []struct {
		v                 bool
		time, delta, want uint64
	}{
		{false, 5, 7, 5}, {true, 5, 7, 12}, {true, 5, all, 4}, {true, all, 1, 0}, {false, all, 1, all}, {true, all, all, all - 1}, {true, 0, 9, 9},
	} {
		h := api.Hart{V: x.v, Priv: api.Super, Htimedelta: x.delta}
		if got := Read(h, api.Lines{Time: x.time}, api.CsrTime); got != x.want {
			t.Errorf("%+v: %#x", x, got)
		}
	}
}

// P12.3

func TestFixAndLegalByTheModel(t *testing.T) {
	m := newModel()
	for _, h := range someHarts(1000) {
		want := m.fix(h)
		if got := Fix(h); got != want {
			t.Fatalf("Fix(%+v) is\n%+v, not\n%+v", h, got, want)
		}
		if Legal(h) != (h == want) {
			t.Fatalf("Legal(%+v) is %v", h, Legal(h))
		}
	}
}

// What may be of each field, bit by bit: a hart that has just one bit that may not be is illegal, and Fix takes just that.
func TestLegalOfEachBit(t *testing.T) {
	m := newModel()
	for _, start := range legalHarts(10) {
		for _, r := range append(m.rows, row{field: "Mip", mask: 0x222}) {
			for i := range 64 {
				h := start
				*at(&h, r.field) ^= 1 << i
				w := *at(&h, r.field)
				legal := r.mask>>i&1 == 1
				if r.field == "Mstatus" && w>>11&3 == 2 || strings.HasSuffix(r.field, "atp") && w>>60 != 0 && w>>60 != 8 {
					legal = false
				}
				if Legal(h) != legal {
					t.Fatalf("bit %d of %s changed to make %#x: Legal is %v", i, r.field, w, !legal)
				}
				fixed := Fix(h)
				if legal && fixed != h || !legal && fixed == h {
					t.Fatalf("bit %d of %s: Fix", i, r.field)
				}
				if r.mask>>i&1 == 0 && fixed != start {
					t.Fatalf("bit %d of %s that may not be: Fix changes more than it", i, r.field)
				}
			}
		}
	}
}

// one is a change of a legal hart that leaves it legal or not, and what Fix makes of it.
type one struct {
	change func(h *api.Hart)
	legal  bool
	want   func(h *api.Hart)
}

func TestLegalOfAllElse(t *testing.T) {
	keep := func(do func(h *api.Hart)) one { return one{do, true, do} }
	ill := func(do, want func(h *api.Hart)) one { return one{do, false, want} }
	l := []one{
		keep(func(h *api.Hart) {}),
		keep(func(h *api.Hart) { h.Wait = true }),
		keep(func(h *api.Hart) { h.Wait = false }),
		keep(func(h *api.Hart) { h.Priv, h.V = api.User, false }),
		keep(func(h *api.Hart) { h.Priv, h.V = api.User, true }),
		keep(func(h *api.Hart) { h.Priv, h.V = api.Super, false }),
		keep(func(h *api.Hart) { h.Priv, h.V = api.Super, true }),
		keep(func(h *api.Hart) { h.Priv, h.V = api.Machine, false }),
		ill(func(h *api.Hart) { h.Priv, h.V = api.Machine, true }, func(h *api.Hart) { h.Priv, h.V = api.Machine, false }),
		keep(func(h *api.Hart) { h.Mstatus |= 3 << 11 }),
		ill(func(h *api.Hart) { h.Mstatus = h.Mstatus&^(3<<11) | 2<<11 }, func(h *api.Hart) { h.Mstatus &^= 3 << 11 }),
		keep(func(h *api.Hart) { h.Held, h.Res = false, 0 }),
		keep(func(h *api.Hart) { h.Held, h.Res = true, 0 }),
		keep(func(h *api.Hart) { h.Held, h.Res = true, 8 }),
		keep(func(h *api.Hart) { h.Held, h.Res = true, 1<<56-8 }),
		ill(func(h *api.Hart) { h.Held, h.Res = true, 1<<56 }, func(h *api.Hart) { h.Held, h.Res = true, 0 }),
		ill(func(h *api.Hart) { h.Held, h.Res = true, all }, func(h *api.Hart) { h.Held, h.Res = true, 1<<56-8 }),
		ill(func(h *api.Hart) { h.Held, h.Res = false, 8 }, func(h *api.Hart) { h.Held, h.Res = false, 0 }),
		ill(func(h *api.Hart) { h.Held, h.Res = false, 1<<56 }, func(h *api.Hart) { h.Held, h.Res = false, 0 }),
	}
	for i := range 64 {
		bit := uint64(1) << i
		at0 := func(h *api.Hart) { h.X[0] = bit }
		l = append(l, ill(at0, func(h *api.Hart) { h.X[0] = 0 }))
		for r := 1; r < 32; r++ {
			l = append(l, keep(func(h *api.Hart) { h.X[r] = bit }))
		}
		pc := func(h *api.Hart) { h.Pc = bit }
		res := func(h *api.Hart) { h.Held, h.Res = true, bit }
		if i < 2 {
			l = append(l, ill(pc, func(h *api.Hart) { h.Pc = 0 }))
		} else {
			l = append(l, keep(pc))
		}
		if i < 3 || i > 55 {
			l = append(l, ill(res, func(h *api.Hart) { h.Held, h.Res = true, 0 }))
		} else {
			l = append(l, keep(res))
		}
	}
	for priv := range 256 {
		if priv == 0 || priv == 1 || priv == 3 {
			continue
		}
		for _, v := range []bool{false, true} {
			l = append(l, ill(func(h *api.Hart) { h.Priv, h.V = byte(priv), v }, func(h *api.Hart) { h.Priv, h.V = api.User, v }))
		}
	}
	for _, start := range legalHarts(10) {
		for i, x := range l {
			h, want := start, start
			x.change(&h)
			x.want(&want)
			if Legal(h) != x.legal {
				t.Fatalf("change %d of %+v: Legal is %v", i, start, !x.legal)
			}
			if got := Fix(h); got != want {
				t.Fatalf("change %d of %+v: Fix is\n%+v, not\n%+v", i, start, got, want)
			}
		}
	}
}

// Kinds of tables that there are not make noughts of the whole word, not of those bits alone.
func TestFixOfTheKindOfTables(t *testing.T) {
	for _, r := range rows() {
		if !strings.HasSuffix(r.name, "atp") {
			continue
		}
		for kind := range uint64(16) {
			h := home
			*at(&h, r.field) = kind<<60 | 0x0fffffffffffffff
			want := h
			*at(&want, r.field) &= r.mask
			if kind != 0 && kind != 8 {
				*at(&want, r.field) = 0
			}
			if got := Fix(h); got != want {
				t.Errorf("%s of the kind %d: %#x, not %#x", r.name, kind, *at(&got, r.field), *at(&want, r.field))
			}
		}
	}
}

// P12.4

func TestFixIsLegalAndStays(t *testing.T) {
	for _, h := range someHarts(1000) {
		f := Fix(h)
		if !Legal(f) || Fix(f) != f {
			t.Fatalf("Fix(%+v) is not legal, or not its own Fix", h)
		}
		if Legal(h) && f != h {
			t.Fatalf("%+v is legal, and not its own Fix", h)
		}
	}
	for _, h := range []api.Hart{{}, full()} {
		if Legal(h) {
			t.Errorf("%+v is legal", h)
		}
	}
}

func TestWhatIsWrittenLeavesALegalHartLegal(t *testing.T) {
	x := mixer(6)
	wrong := []int{-1, 0, 0x7c0, 4096 + api.CsrMstatus, math.MinInt, math.MaxInt}
	for _, h := range legalHarts(40) {
		for _, no := range append(csrno.All(), wrong...) {
			for _, v := range someWords() {
				if !Legal(Write(h, x.lines(), no, v)) {
					t.Fatalf("Write(%+v, %#x, %#x) is not legal", h, no, v)
				}
			}
		}
	}
}

// P12.5

func TestViewsAreParts(t *testing.T) {
	within := func(t *testing.T, h api.Hart, l api.Lines, view, whole int, shift int) {
		t.Helper()
		for _, read := range []func(api.Hart, api.Lines, int) uint64{Read, readOf} {
			v, w := read(h, l, view)<<shift, read(h, l, whole)
			if v&^w != 0 {
				t.Fatalf("%s says %#x, and %s %#x: %+v", csrno.Name(view), v>>shift, csrno.Name(whole), w, h)
			}
		}
	}
	for _, h := range legalHarts(300) {
		h.V = false
		for _, l := range someLines() {
			within(t, h, l, api.CsrSstatus, api.CsrMstatus, 0)
			within(t, h, l, api.CsrSip, api.CsrMip, 0)
			within(t, h, l, api.CsrSie, api.CsrMie, 0)
			within(t, h, l, api.CsrHip, api.CsrMip, 0)
			within(t, h, l, api.CsrHie, api.CsrMie, 0)
			within(t, h, l, api.CsrVsip, api.CsrHip, 1)
			within(t, h, l, api.CsrVsie, api.CsrHie, 1)
		}
	}
}

// readOf is Read, behind a write of the same register that shows all that it can.
func readOf(h api.Hart, l api.Lines, no int) uint64 {
	return Read(Write(h, l, no, all), l, no)
}

func TestWhatIsWrittenIsRead(t *testing.T) {
	x := mixer(2)
	whole := "mscratch mcause mtval mtval2 mtinst sscratch scause stval vsscratch vscause vstval htval htinst htimedelta mcycle minstret"
	for _, h := range someHarts(20) {
		for _, name := range strings.Fields(whole) {
			no := csrno.Number(name)
			for _, v := range someWords() {
				l := x.lines()
				if got := Read(Write(h, l, no, v), l, no); got != v {
					t.Fatalf("%s: %#x is written, %#x read", name, v, got)
				}
			}
		}
	}
}

func TestWhatWasReadIsWrittenBack(t *testing.T) {
	for _, h := range legalHarts(200) {
		for _, l := range someLines() {
			for _, no := range csrno.All() {
				if got := Write(h, l, no, Base(h, l, no)); got != h {
					t.Fatalf("%s: Base written back makes\n%+v of\n%+v", csrno.Name(no), got, h)
				}
			}
		}
	}
}

// The chapter's examples.

func TestExamplesOfTheChapter(t *testing.T) {
	l := api.Lines{}
	for _, x := range []struct {
		no   int
		want uint64
	}{
		{api.CsrMstatus, 0xa00000000}, {api.CsrMideleg, 0x1444}, {api.CsrMisa, 0x8000000000141181}, {api.CsrSstatus, 0x200000000}, {api.CsrHstatus, 0x200000000}, {api.CsrVsstatus, 0x200000000},
	} {
		if got := Read(home, l, x.no); got != x.want {
			t.Errorf("Read(H, %s) is %#x, not %#x", csrno.Name(x.no), got, x.want)
		}
	}
	h := Write(home, l, api.CsrMstatus, all)
	if h.Mstatus != 0xca007e19aa {
		t.Errorf("mstatus of all ones: %#x", h.Mstatus)
	}
	if h = Write(h, l, api.CsrMstatus, 0x1000); h.Mstatus != 0xa00001800 {
		t.Errorf("behind it 0x1000: %#x", h.Mstatus)
	}
	if Write(home, l, api.CsrSatp, 5<<60) != home {
		t.Errorf("satp takes 5 << 60")
	}
	if h = Write(home, l, api.CsrSatp, 8<<60); h.Satp != 8<<60 {
		t.Errorf("satp: %#x", h.Satp)
	}
	if h = Write(home, l, api.CsrHgatp, 0x8fffffffffffffff); h.Hgatp != 0x83fffffffffffffc {
		t.Errorf("hgatp: %#x", h.Hgatp)
	}
	h = home
	h.Hvip, h.Hideleg = 0x444, 0x444
	if got := Read(h, l, api.CsrVsip); got != 0x222 {
		t.Errorf("vsip: %#x", got)
	}
	h.Hideleg = 0
	if got := Read(h, l, api.CsrVsip); got != 0 {
		t.Errorf("vsip without Hideleg: %#x", got)
	}
}

// R3: what is handed in stays as it is, and a call answers the same again.
func TestNothingIsKept(t *testing.T) {
	x := mixer(11)
	for range 50 {
		h, l, v := x.hart(), x.lines(), x.word()
		before, lines := h, l
		for _, no := range csrno.All() {
			if Read(h, l, no) != Read(h, l, no) || Base(h, l, no) != Base(h, l, no) || Write(h, l, no, v) != Write(h, l, no, v) || Fix(h) != Fix(h) || h != before || l != lines {
				t.Fatalf("%s: another answer", csrno.Name(no))
			}
		}
	}
}
