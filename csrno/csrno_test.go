package csrno

import (
	"math"
	"slices"
	"strconv"
	"strings"
	"testing"

	"mezzanine/api"
)

// The calls have the signatures of the chapter.
var (
	_ func(int) bool                = Known
	_ func(int) string              = Name
	_ func(string) int              = Number
	_ func(api.Hart, int, bool) int = Check
	_ func() []int                  = All
)

// chapter is the chapter's list of the registers as it stands there: names, and numbers in hexadecimal.
const chapter = "sstatus 100, sie 104, stvec 105, scounteren 106, sscratch 140, sepc 141, scause 142, stval 143, sip 144, satp 180, vsstatus 200, vsie 204, vstvec 205, vsscratch 240, vsepc 241, vscause 242, vstval 243, vsip 244, vsatp 280, mstatus 300, misa 301, medeleg 302, mideleg 303, mie 304, mtvec 305, mcounteren 306, mscratch 340, mepc 341, mcause 342, mtval 343, mip 344, mtinst 34a, mtval2 34b, hstatus 600, hedeleg 602, hideleg 603, hie 604, htimedelta 605, hcounteren 606, hgeie 607, htval 643, hip 644, hvip 645, htinst 64a, hgatp 680, mcycle b00, minstret b02, cycle c00, time c01, instret c02, hgeip e12, mvendorid f11, marchid f12, mimpid f13, mhartid f14, mconfigptr f15"

// inApi are the numbers of package api, in the chapter's order.
var inApi = []int{
	api.CsrSstatus, api.CsrSie, api.CsrStvec, api.CsrScounteren, api.CsrSscratch, api.CsrSepc, api.CsrScause, api.CsrStval, api.CsrSip, api.CsrSatp,
	api.CsrVsstatus, api.CsrVsie, api.CsrVstvec, api.CsrVsscratch, api.CsrVsepc, api.CsrVscause, api.CsrVstval, api.CsrVsip, api.CsrVsatp,
	api.CsrMstatus, api.CsrMisa, api.CsrMedeleg, api.CsrMideleg, api.CsrMie, api.CsrMtvec, api.CsrMcounteren, api.CsrMscratch, api.CsrMepc, api.CsrMcause, api.CsrMtval, api.CsrMip, api.CsrMtinst, api.CsrMtval2,
	api.CsrHstatus, api.CsrHedeleg, api.CsrHideleg, api.CsrHie, api.CsrHtimedelta, api.CsrHcounteren, api.CsrHgeie, api.CsrHtval, api.CsrHip, api.CsrHvip, api.CsrHtinst, api.CsrHgatp,
	api.CsrMcycle, api.CsrMinstret, api.CsrCycle, api.CsrTime, api.CsrInstret, api.CsrHgeip, api.CsrMvendorid, api.CsrMarchid, api.CsrMimpid, api.CsrMhartid, api.CsrMconfigptr,
}

// line is a register of the chapter's list.
type line struct {
	no   int
	name string
}

// lines reads the chapter's list.
func lines(t *testing.T) []line {
	t.Helper()
	var l []line
	for _, part := range strings.Split(chapter, ", ") {
		name, digits, _ := strings.Cut(part, " ")
		no, err := strconv.ParseInt(digits, 16, 64)
		if err != nil {
			t.Fatal(err)
		}
		l = append(l, line{int(no), name})
	}
	return l
}

// names are the chapter's registers by their numbers.
func names(t *testing.T) map[int]string {
	m := map[int]string{}
	for _, l := range lines(t) {
		m[l.no] = l.name
	}
	return m
}

// numbers are all that twelve bits may tell, those beside them, far ones, and such as would be a register's if they were cut or turned round.
func numbers(t *testing.T) []int {
	l := []int{math.MinInt, math.MinInt + 1, math.MinInt32, math.MaxInt32, math.MaxInt - 1, math.MaxInt}
	for no := -8192; no < 3*4096; no++ {
		l = append(l, no)
	}
	for _, x := range lines(t) {
		l = append(l, x.no+1<<16, x.no+1<<32, math.MinInt+x.no, math.MaxInt-x.no, x.no<<20, x.no<<52)
	}
	return l
}

// P11.1

func TestRegistersOfTheChapter(t *testing.T) {
	l := lines(t)
	if len(l) != 56 || len(inApi) != 56 {
		t.Fatalf("%d registers, %d in api", len(l), len(inApi))
	}
	for i, x := range l {
		if inApi[i] != x.no {
			t.Errorf("%s is %#x in api, not %#x", x.name, inApi[i], x.no)
		}
		if !Known(x.no) || Name(x.no) != x.name || Number(x.name) != x.no {
			t.Errorf("%s %#x: %v, %q, %#x", x.name, x.no, Known(x.no), Name(x.no), Number(x.name))
		}
	}
}

func TestKnownAndNameOfEveryNumber(t *testing.T) {
	name := names(t)
	known := 0
	for _, no := range numbers(t) {
		// The zero value of the map is no text, as is the name of none.
		if Known(no) != (name[no] != "") || Name(no) != name[no] {
			t.Fatalf("%#x: %v, %q, not %q", no, Known(no), Name(no), name[no])
		}
		if Known(no) {
			known++
		}
	}
	if known != 56 {
		t.Errorf("%d are known", known)
	}
}

func TestNumberOfNoName(t *testing.T) {
	right := map[string]int{}
	for _, x := range lines(t) {
		right[x.name] = x.no
	}
	wrong := []string{
		"", " ", "x", "x1", "0", "768", "0x300", "300", "-1", "\x00", "mstatus\x00", "mstatus, misa", "mstatus 300", "Mstatus", "MSTATUS", "CsrMstatus", "csr",
		"status", "mstatush", "mstatus0", "fflags", "frm", "fcsr", "sedeleg", "sideleg", "senvcfg", "menvcfg", "henvcfg", "vscounteren", "vscycle", "hcounter", "cycleh", "timeh", "mtime", "mcountinhibit",
		"hpmcounter3", "mhpmcounter3", "pmpcfg0", "pmpaddr0", "htimedeltah", "hgeip2", "stopei", "stimecmp", "vsstatus2", "dcsr", "dpc", "tselect", "seed", "utvec", strings.Repeat("mstatus", 1000), "ſip", "m\xffip",
	}
	for _, x := range lines(t) {
		n := x.name
		wrong = append(wrong, " "+n, n+" ", "x"+n, n+"x", n[1:], n[:len(n)-1], strings.ToUpper(n), n+n, n+"\n")
		for i := range n {
			for c := range 256 {
				wrong = append(wrong, n[:i]+string([]byte{byte(c)})+n[i+1:])
			}
		}
	}
	for _, n := range wrong {
		want, ok := right[n]
		if !ok {
			want = -1
		}
		if Number(n) != want {
			t.Fatalf("Number(%q) is %#x, not %#x", n, Number(n), want)
		}
	}
}

func TestAll(t *testing.T) {
	var want []int
	for _, x := range lines(t) {
		want = append(want, x.no)
	}
	first, second := All(), All()
	if !slices.Equal(first, want) || !slices.IsSorted(first) {
		t.Fatalf("All is %x, not %x", first, want)
	}
	// What is answered is new memory, its spare room too.
	for i := range first {
		first[i] = -1
	}
	_ = append(first, -1)
	if !slices.Equal(second, want) || !slices.Equal(All(), want) || Name(api.CsrMstatus) != "mstatus" {
		t.Errorf("an answer that was changed changed another one")
	}
}

// P11.2

// mode is where a hart may be, as the document's words have it; the last ones are of no machine.
type mode struct {
	priv byte
	v    bool
}

// modes are all of them, and some that there are not.
var modes = []mode{
	{api.Machine, false}, {api.Super, false}, {api.User, false}, {api.Super, true}, {api.User, true},
	{api.Machine, true}, {2, false}, {2, true}, {4, false}, {4, true}, {16, true}, {129, false}, {255, false}, {255, true},
}

// free says whether the mode is a machine's, or what counts as such.
func (m mode) free() bool { return m.priv != 0 && m.priv != 1 }

// named are the bits that the chapter names.
type named struct {
	tvm, vtvm bool
	m, h, s   uint64 // of the three registers of counters, the lowest three bits
}

// all is a word of ones.
const all uint64 = math.MaxUint64

// full is a hart all of whose words are ones.
func full() api.Hart {
	h := api.Hart{
		Pc: all, Wait: true, Held: true, Res: all,
		Mstatus: all, Medeleg: all, Mideleg: all, Mie: all, Mip: all, Mtvec: all, Mcounteren: all, Mscratch: all, Mepc: all, Mcause: all, Mtval: all, Mtval2: all, Mtinst: all,
		Stvec: all, Scounteren: all, Sscratch: all, Sepc: all, Scause: all, Stval: all, Satp: all,
		Hstatus: all, Hedeleg: all, Hideleg: all, Hvip: all, Hcounteren: all, Hgeie: all, Htval: all, Htinst: all, Hgatp: all, Htimedelta: all,
		Vsstatus: all, Vstvec: all, Vsscratch: all, Vsepc: all, Vscause: all, Vstval: all, Vsatp: all,
		Cycle: all, Instret: all,
	}
	for i := range h.X {
		h.X[i] = all
	}
	return h
}

// hart is a hart of that mode with the bits that are named so, and all others as base has them.
func (n named) hart(base api.Hart, m mode) api.Hart {
	base.Priv, base.V = m.priv, m.v
	base.Mstatus = withBit20(base.Mstatus, n.tvm)
	base.Hstatus = withBit20(base.Hstatus, n.vtvm)
	base.Mcounteren = base.Mcounteren/8*8 + n.m
	base.Hcounteren = base.Hcounteren/8*8 + n.h
	base.Scounteren = base.Scounteren/8*8 + n.s
	return base
}

// withBit20 is w with that bit set or not.
func withBit20(w uint64, set bool) uint64 {
	w -= w / 1048576 % 2 * 1048576
	if set {
		w += 1048576
	}
	return w
}

// read is which bits that are named a hart has.
func read(h api.Hart) named {
	return named{h.Mstatus/1048576%2 == 1, h.Hstatus/1048576%2 == 1, h.Mcounteren % 8, h.Hcounteren % 8, h.Scounteren % 8}
}

// someNamed are all that the bits may be together.
func someNamed(do func(n named)) {
	for i := range uint64(2048) {
		do(named{i/512%2 == 1, i/1024 == 1, i % 8, i / 8 % 8, i / 64 % 8})
	}
}

// counters are the three names, each at its number.
var counters = []string{"cycle", "time", "instret"}

// readOnly are the names of what is only read.
var readOnly = append([]string{"hgeip", "mvendorid", "marchid", "mimpid", "mhartid", "mconfigptr"}, counters...)

// model is the exception of touching the register of that name (no text: none), told by names alone.
func model(m mode, n named, name string, write bool) int {
	if name == "" || write && slices.Contains(readOnly, name) {
		return 2
	}
	if m.free() {
		return 0
	}
	if k := slices.Index(counters, name); k >= 0 {
		return modelCounter(m, n, k)
	}
	switch {
	case name[0] == 'm':
		return 2
	case m.priv == 0 && m.v:
		return 22
	case m.priv == 0:
		return 2
	case m.v && (name[0] == 'h' || name[0] == 'v' || name == "satp" && n.vtvm):
		return 22
	case !m.v && n.tvm && (name == "satp" || name == "hgatp"):
		return 2
	}
	return 0
}

// modelCounter is the same of the counter k: who stands on the way from the machine to the mode, and whom the first that shuts it hands it to.
func modelCounter(m mode, n named, k int) int {
	gates := []struct {
		on    bool
		bits  uint64
		cause int
	}{
		{true, n.m, 2},
		{m.v, n.h, 22},
		{m.priv == 0 && m.v, n.s, 22},
		{m.priv == 0 && !m.v, n.s, 2},
	}
	for _, g := range gates {
		if open := g.bits>>k%2 == 1; g.on && !open {
			return g.cause
		}
	}
	return 0
}

// checkIs holds Check against the model.
func checkIs(t *testing.T, h api.Hart, no int, name string, write bool) {
	t.Helper()
	m, n := mode{h.Priv, h.V}, read(h)
	if got, want := Check(h, no, write), model(m, n, name, write); got != want {
		t.Fatalf("Check(%+v, %+v; %#x %q, write %v) is %d, not %d", m, n, no, name, write, got, want)
	}
}

func TestCheckOfEveryRegister(t *testing.T) {
	l := lines(t)
	for _, base := range []api.Hart{{}, full()} {
		for _, m := range modes {
			someNamed(func(n named) {
				h := n.hart(base, m)
				for _, x := range l {
					checkIs(t, h, x.no, x.name, false)
					checkIs(t, h, x.no, x.name, true)
				}
			})
		}
	}
}

func TestCheckOfEveryNumber(t *testing.T) {
	name := names(t)
	for _, base := range []api.Hart{{}, full()} {
		for _, m := range modes {
			base.Priv, base.V = m.priv, m.v
			for _, no := range numbers(t) {
				checkIs(t, base, no, name[no], false)
				checkIs(t, base, no, name[no], true)
			}
		}
	}
}

// Each Priv that is neither User nor Super may do what a machine may.
func TestCheckOfEveryPriv(t *testing.T) {
	l := lines(t)
	for priv := range 256 {
		for _, v := range []bool{false, true} {
			for _, base := range []api.Hart{{}, full()} {
				base.Priv, base.V = byte(priv), v
				for _, x := range l {
					checkIs(t, base, x.no, x.name, false)
					checkIs(t, base, x.no, x.name, true)
				}
			}
		}
	}
}

// Of each word that has a bit which is named no other bit matters, and that one does.
func TestCheckOfEachBit(t *testing.T) {
	l := lines(t)
	words := []func(h *api.Hart) *uint64{
		func(h *api.Hart) *uint64 { return &h.Mstatus },
		func(h *api.Hart) *uint64 { return &h.Hstatus },
		func(h *api.Hart) *uint64 { return &h.Mcounteren },
		func(h *api.Hart) *uint64 { return &h.Hcounteren },
		func(h *api.Hart) *uint64 { return &h.Scounteren },
	}
	for _, base := range []api.Hart{{}, full()} {
		for _, m := range modes {
			for _, word := range words {
				for bit := range 64 {
					h := base
					h.Priv, h.V = m.priv, m.v
					*word(&h) ^= 1 << bit
					for _, x := range l {
						checkIs(t, h, x.no, x.name, false)
					}
				}
			}
		}
	}
}

// What the modes are called in the tables below.
var (
	machine = mode{api.Machine, false}
	hs      = mode{api.Super, false}
	hu      = mode{api.User, false}
	vs      = mode{api.Super, true}
	vu      = mode{api.User, true}
)

// asked is a call of Check and what it shall answer.
type asked struct {
	m     mode
	n     named
	no    int
	write bool
	want  int
}

// askedIs holds Check against those lines.
func askedIs(t *testing.T, l []asked) {
	t.Helper()
	for i, x := range l {
		if got := Check(x.n.hart(api.Hart{}, x.m), x.no, x.write); got != x.want {
			t.Errorf("line %d: Check(%+v, %+v; %#x, %v) is %d, not %d", i, x.m, x.n, x.no, x.write, got, x.want)
		}
	}
}

func TestExamplesOfTheChapter(t *testing.T) {
	if Name(0x300) != "mstatus" || Number("hgatp") != 1664 || Known(0x3a0) || Name(-1) != "" {
		t.Errorf("%q, %d, %v, %q", Name(0x300), Number("hgatp"), Known(0x3a0), Name(-1))
	}
	askedIs(t, []asked{
		{vs, named{}, api.CsrSatp, false, 0},
		{vs, named{vtvm: true}, api.CsrSatp, false, 22},
		{vs, named{}, api.CsrHstatus, false, 22},
		{vs, named{}, api.CsrMstatus, false, 2},
		{vs, named{}, 0x7c0, false, 2},
		{hs, named{}, api.CsrHgatp, true, 0},
		{hs, named{tvm: true}, api.CsrHgatp, true, 2},
		{hs, named{}, api.CsrHgeip, true, 2},
		{vu, named{}, api.CsrCycle, false, 2},
		{vu, named{m: 1}, api.CsrCycle, false, 22},
		{vu, named{m: 1, h: 1, s: 1}, api.CsrCycle, false, 0},
	})
}

// Each case comes ahead of those behind it, of which one would answer otherwise.
func TestCheckByOrder(t *testing.T) {
	open := named{m: 7, h: 7, s: 7}
	askedIs(t, []asked{
		// 1, ahead of 2: not even a machine.
		{machine, open, 0x7c0, false, 2}, {machine, open, -1, false, 2}, {machine, open, 4096 + 0x300, false, 2}, {machine, open, 0x7c0, true, 2},
		{machine, open, api.CsrMhartid, true, 2}, {machine, open, api.CsrCycle, true, 2}, {mode{2, true}, open, api.CsrHgeip, true, 2},
		// 1, ahead of 3 and 5: Illegal, where else it would be Virtual.
		{vs, named{m: 7}, api.CsrTime, true, 2}, {vu, named{m: 7, h: 7}, api.CsrInstret, true, 2}, {vs, open, api.CsrInstret, true, 2}, {vs, open, api.CsrHgeip, true, 2}, {vu, open, api.CsrHgeip, true, 2}, {vu, open, 0x6ff, true, 2}, {vu, open, 0x200 + 1, false, 2},
		// 2, ahead of 3 to 6.
		{machine, named{}, api.CsrCycle, false, 0}, {machine, named{}, api.CsrMhartid, false, 0}, {machine, named{}, api.CsrMstatus, true, 0}, {machine, named{tvm: true, vtvm: true}, api.CsrSatp, true, 0}, {machine, named{tvm: true}, api.CsrHgatp, true, 0},
		{mode{api.Machine, true}, named{vtvm: true}, api.CsrSatp, true, 0}, {mode{api.Machine, true}, named{m: 7}, api.CsrTime, false, 0}, {mode{2, false}, named{}, api.CsrMstatus, true, 0}, {mode{255, true}, named{}, api.CsrHstatus, true, 0},
		// 3, ahead of 4: the counters' level is nobody's.
		{hs, named{m: 1}, api.CsrCycle, false, 0}, {hu, named{m: 2, s: 2}, api.CsrTime, false, 0}, {vs, named{m: 4, h: 4}, api.CsrInstret, false, 0}, {vu, named{m: 2, h: 2, s: 2}, api.CsrTime, false, 0},
		// 3, within: Mcounteren, then Hcounteren, then Scounteren, each bit its counter's.
		{hs, named{m: 6, h: 7, s: 7}, api.CsrCycle, false, 2}, {vs, named{m: 5, h: 7, s: 7}, api.CsrTime, false, 2}, {vu, named{m: 3, h: 0, s: 0}, api.CsrInstret, false, 2}, {hu, named{m: 3, s: 7}, api.CsrInstret, false, 2},
		{vs, named{m: 7, h: 3, s: 7}, api.CsrInstret, false, 22}, {vu, named{m: 7, h: 5, s: 7}, api.CsrTime, false, 22}, {vu, named{m: 7, h: 7, s: 6}, api.CsrCycle, false, 22}, {vs, named{m: 7, h: 7, s: 0}, api.CsrCycle, false, 0},
		{hs, named{m: 7, h: 0, s: 0}, api.CsrTime, false, 0}, {hu, named{m: 7, h: 7, s: 5}, api.CsrTime, false, 2}, {hu, named{m: 7, h: 0, s: 7}, api.CsrTime, false, 0},
		// 4, ahead of 5: Illegal, where V too.
		{vs, open, api.CsrMstatus, false, 2}, {vu, open, api.CsrMcycle, false, 2}, {vu, open, api.CsrMhartid, false, 2}, {hs, open, api.CsrMinstret, true, 2}, {hu, open, api.CsrMip, true, 2},
		// 5, ahead of 6: TVM is no matter where V, and VTVM is none but of satp.
		{vs, named{tvm: true}, api.CsrSatp, true, 0}, {vs, named{tvm: true, vtvm: true}, api.CsrSatp, true, 22}, {vs, named{vtvm: true}, api.CsrSstatus, true, 0}, {vs, named{vtvm: true}, api.CsrVsatp, false, 22},
		{vu, open, api.CsrSstatus, false, 22}, {vu, open, api.CsrSatp, false, 22}, {vu, open, api.CsrVsip, true, 22}, {vs, open, api.CsrVsstatus, false, 22}, {vs, named{tvm: true}, api.CsrHgatp, true, 22}, {vs, open, api.CsrHgeip, false, 22}, {vs, open, api.CsrScounteren, true, 0},
		// 6: VTVM is no matter where V is false, and TVM is none but of satp and hgatp.
		{hs, named{vtvm: true}, api.CsrSatp, true, 0}, {hs, named{tvm: true}, api.CsrSatp, false, 2}, {hs, named{tvm: true}, api.CsrHgatp, false, 2}, {hs, named{tvm: true}, api.CsrVsatp, true, 0}, {hs, named{tvm: true}, api.CsrSstatus, true, 0}, {hs, named{tvm: true}, api.CsrHgeip, false, 0},
		{hu, open, api.CsrSstatus, false, 2}, {hu, open, api.CsrSatp, false, 2}, {hu, open, api.CsrHstatus, false, 2}, {hu, open, api.CsrVsip, true, 2}, {hu, open, api.CsrHgeip, false, 2}, {hs, open, api.CsrVsstatus, true, 0}, {hs, open, api.CsrHgeip, false, 0},
	})
}

// P11.3

func TestWhoMayDoMore(t *testing.T) {
	l := lines(t)
	for _, base := range []api.Hart{{}, full()} {
		someNamed(func(n named) {
			for _, x := range l {
				for _, write := range []bool{false, true} {
					may := func(m mode) bool { return Check(n.hart(base, m), x.no, write) == 0 }
					for _, v := range []bool{false, true} {
						less, more, most := mode{api.User, v}, mode{api.Super, v}, mode{api.Machine, v}
						if may(less) && !may(more) || may(more) && !may(most) {
							t.Fatalf("%s, write %v, %+v, V %v: a mode that may do more may not", x.name, write, n, v)
						}
					}
					if !n.tvm && may(vs) && !may(hs) {
						t.Fatalf("%s, write %v, %+v: where V it may be done, else not", x.name, write, n)
					}
				}
			}
		})
	}
}

func TestNothingIsVirtualOfTheHost(t *testing.T) {
	for _, base := range []api.Hart{{}, full()} {
		for _, m := range modes {
			if m.v {
				continue
			}
			someNamed(func(n named) {
				h := n.hart(base, m)
				for _, no := range append(All(), -1, 0x7c0, 0x6ff, 4096) {
					for _, write := range []bool{false, true} {
						if c := Check(h, no, write); c != 0 && c != api.Illegal {
							t.Fatalf("Check(%+v, %+v; %#x, %v) is %d", m, n, no, write, c)
						}
					}
				}
			})
		}
	}
}

func TestWhatMayBeWrittenMayBeRead(t *testing.T) {
	for _, base := range []api.Hart{{}, full()} {
		for _, m := range modes {
			someNamed(func(n named) {
				h := n.hart(base, m)
				for _, no := range append(All(), -1, 0x7c0, 0x6ff, 4096) {
					if Check(h, no, true) == 0 && Check(h, no, false) != 0 {
						t.Fatalf("%+v, %+v: %#x may be written, and not read", m, n, no)
					}
				}
			})
		}
	}
}
