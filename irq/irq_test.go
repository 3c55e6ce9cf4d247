package irq

import (
	"slices"
	"testing"

	"mezzanine/api"
	"mezzanine/csr"
)

// home is the chapter's H.
var home = csr.Fix(api.Hart{Priv: api.Super})

// with is a hart with something changed.
func with(h api.Hart, changes ...func(h *api.Hart)) api.Hart {
	for _, change := range changes {
		change(&h)
	}
	return h
}

func TestExamplesOfTheChapter(t *testing.T) {
	mtip := api.Lines{Mtip: true}
	timer := with(home, func(h *api.Hart) { h.Mie = 0x80 })
	machine := with(timer, func(h *api.Hart) { h.Priv = api.Machine })
	machineMay := with(machine, func(h *api.Hart) { h.Mstatus |= 8 })
	host := with(home, func(h *api.Hart) { h.Mie, h.Mip, h.Mideleg = 0x222, 0x222, 0x222 })
	hostMay := with(host, func(h *api.Hart) { h.Mstatus |= 2 })
	user := with(host, func(h *api.Hart) { h.Priv = api.User })
	guest := with(home, func(h *api.Hart) { h.V, h.Mie, h.Hvip, h.Hideleg = true, 0x444, 0x444, 0x444 })
	guestMay := with(guest, func(h *api.Hart) { h.Vsstatus |= 2 })
	one := with(guest, func(h *api.Hart) { h.Hideleg = 0x400 })
	oneMay := with(guestMay, func(h *api.Hart) { h.Hideleg = 0x400 })
	for i, x := range []struct {
		h    api.Hart
		l    api.Lines
		want int
	}{
		{timer, mtip, 7}, {machine, mtip, -1}, {machineMay, mtip, 7},
		{host, api.Lines{}, -1}, {hostMay, api.Lines{}, 9}, {user, api.Lines{}, 9},
		{guest, api.Lines{}, -1}, {guestMay, api.Lines{}, 10}, {one, api.Lines{}, 2}, {oneMay, api.Lines{}, 2},
	} {
		if got := Next(x.h, x.l); got != taken(x.want) {
			t.Errorf("example %d: %+v, not %+v", i, got, taken(x.want))
		}
	}
}

// P13.1

// sources are for each interrupt what makes it pending on a legal hart.
var sources = []struct {
	n int
	h api.Hart
	l api.Lines
}{
	{1, api.Hart{Mip: 1 << 1}, api.Lines{}},
	{2, api.Hart{Hvip: 1 << 2}, api.Lines{}},
	{3, api.Hart{}, api.Lines{Msip: true}},
	{5, api.Hart{Mip: 1 << 5}, api.Lines{}},
	{6, api.Hart{Hvip: 1 << 6}, api.Lines{}},
	{7, api.Hart{}, api.Lines{Mtip: true}},
	{9, api.Hart{Mip: 1 << 9}, api.Lines{}},
	{9, api.Hart{}, api.Lines{Seip: true}},
	{10, api.Hart{Hvip: 1 << 10}, api.Lines{}},
	{10, api.Hart{Hstatus: 1 << 12}, api.Lines{Geip: 2}},
	{11, api.Hart{}, api.Lines{Meip: true}},
	{12, api.Hart{Hgeie: 2}, api.Lines{Geip: 2}},
}

// asksIs holds Asks and Wakes against what asks.
func asksIs(t *testing.T, h api.Hart, l api.Lines, want uint64) {
	t.Helper()
	if Asks(h, l) != want || Wakes(h, l) != (want != 0) {
		t.Fatalf("Asks, Wakes(%+v, %+v): %#x, %v, not %#x", short(h), l, Asks(h, l), Wakes(h, l), want)
	}
}

// In each mode and however it is delegated: what is pending asks, if it is in Mie, and nothing else does.
func TestAsksOfEachSource(t *testing.T) {
	for _, s := range sources {
		for _, start := range []api.Hart{{}, home, {Mideleg: all}, {Mideleg: all, Hideleg: all}} {
			start.Mip, start.Hvip, start.Hgeie = s.h.Mip, s.h.Hvip, s.h.Hgeie
			start.Hstatus |= s.h.Hstatus
			eachMode(start, func(h api.Hart) {
				eachBits(h, func(h api.Hart) {
					asksIs(t, h, s.l, 0)
					h.Mie = all - 1<<s.n
					asksIs(t, h, s.l, 0)
					h.Mie = 1 << s.n
					asksIs(t, h, s.l, 1<<s.n)
					h.Mie = all
					asksIs(t, h, s.l, 1<<s.n)
					h.Mip, h.Hvip, h.Hgeie, h.Hstatus = 0, 0, 0, home.Hstatus
					asksIs(t, h, api.Lines{}, 0)
				})
			})
		}
	}
}

// Numbers besides the ten ask as they do, if a hart that is no legal one has them.
func TestAsksOfEachNumber(t *testing.T) {
	for n := range 64 {
		for _, h := range []api.Hart{{Mip: 1 << n}, {Hvip: 1 << n}, {Mip: 1 << n, Hvip: 1 << n}} {
			asksIs(t, h, api.Lines{}, 0)
			h.Mie = all - 1<<n
			asksIs(t, h, api.Lines{}, 0)
			h.Mie = 1 << n
			asksIs(t, h, api.Lines{}, 1<<n)
			asksIs(t, csr.Fix(h), api.Lines{}, 1<<n&(h.Mip&0x222|h.Hvip&0x444))
			asksIs(t, api.Hart{Mie: 1 << n}, api.Lines{}, 0)
			asksIs(t, api.Hart{Mie: all, Mip: all - 1<<n}, api.Lines{}, all-1<<n)
		}
	}
}

func TestAsksOfSeveral(t *testing.T) {
	asksIs(t, api.Hart{}, fullLines, 0)
	asksIs(t, api.Hart{Mie: all}, fullLines, 0xa88)
	asksIs(t, api.Hart{Mie: all, Hgeie: 2, Hstatus: 1 << 12}, fullLines, 0x1e88)
	asksIs(t, csr.Fix(api.Hart{Mie: all, Mip: all, Hvip: all, Hgeie: all, Hstatus: all}), fullLines, 0x1eee)
	asksIs(t, csr.Fix(api.Hart{Mie: 0x842, Mip: all, Hvip: all}), fullLines, 0x842)
	asksIs(t, api.Hart{Mie: 0xff0, Mip: 0x0ff, Hvip: 0x300}, api.Lines{}, 0x3f0)
	asksIs(t, full(), fullLines, all)
}

// P13.2

// Each level by itself, in each mode there is, by the bits that the chapter names: MIE, SIE of mstatus, SIE of vsstatus, each 0 or 1; a point says that it is no matter.
func TestEachLevelOpenAndShut(t *testing.T) {
	for _, x := range []struct {
		level, priv string
		v           string
		bits        string
		open        bool
	}{
		{"machine", "machine", ".", "1..", true},
		{"machine", "machine", ".", "0..", false},
		{"machine", "super", ".", "...", true},
		{"machine", "user", ".", "...", true},
		{"host", "machine", ".", "...", false},
		{"host", "super", "0", ".1.", true},
		{"host", "super", "0", ".0.", false},
		{"host", "super", "1", "...", true},
		{"host", "user", ".", "...", true},
		{"guest", "machine", ".", "...", false},
		{"guest", "super", "0", "...", false},
		{"guest", "super", "1", "..1", true},
		{"guest", "super", "1", "..0", false},
		{"guest", "user", "0", "...", false},
		{"guest", "user", "1", "...", true},
		{"machine", "none", ".", "...", true},
		{"host", "none", "0", ".1.", true},
		{"host", "none", "0", ".0.", false},
		{"host", "none", "1", "...", true},
		{"guest", "none", "0", "...", false},
		{"guest", "none", "1", "..1", true},
		{"guest", "none", "1", "..0", false},
	} {
		some := false
		for _, start := range []api.Hart{{}, full()} {
			start.Mie, start.Hvip, start.Hgeie, start.Hstatus = 0, 0, 0, 0
			eachMode(start, func(h api.Hart) {
				eachBits(h, func(h api.Hart) {
					if fits(x.priv+" "+x.v+x.bits, h) {
						some = true
						levelIs(t, h, x.level, x.open)
					}
				})
			})
		}
		if !some {
			t.Errorf("%+v fits no hart", x)
		}
	}
}

// fits says whether a hart is of that mode, with V and the three bits as they are told.
func fits(mode string, h api.Hart) bool {
	priv := "none"
	switch h.Priv {
	case 0:
		priv = "user"
	case 1:
		priv = "super"
	case 3:
		priv = "machine"
	}
	told := priv + " "
	for _, is := range []bool{h.V, bit(h.Mstatus, 3), bit(h.Mstatus, 1), bit(h.Vsstatus, 1)} {
		if is {
			told += "1"
		} else {
			told += "0"
		}
	}
	for i := range max(len(told), len(mode)) {
		if i >= len(told) || i >= len(mode) || mode[i] != '.' && mode[i] != told[i] {
			return false
		}
	}
	return true
}

// levelIs holds Next of each interrupt, delegated to that level, against whether the level is open.
func levelIs(t *testing.T, h api.Hart, level string, open bool) {
	t.Helper()
	for n := range 64 {
		h.Mie, h.Mip = 0, 0
		// However all others are delegated.
		for _, others := range []uint64{0, all} {
			h.Mideleg, h.Hideleg = others, others
			asking(&h, n, level)
			want := taken(-1)
			if open {
				want = taken(n)
			}
			if got := Next(h, api.Lines{}); got != want {
				t.Fatalf("Next(%+v) of level %s is %+v, not %+v", short(h), level, got, want)
			}
		}
	}
}

// What Mideleg has not is the machine's, whatever Hideleg has.
func TestHidelegAlone(t *testing.T) {
	h := api.Hart{Priv: api.Super, V: true, Mie: all, Mip: 1 << 9, Hideleg: all, Vsstatus: 2}
	if Next(h, api.Lines{}) != taken(9) {
		t.Errorf("in a guest: %+v", Next(h, api.Lines{}))
	}
	h = api.Hart{Priv: api.Machine, Mie: all, Mip: 1 << 9, Hideleg: all}
	if Next(h, api.Lines{}) != taken(-1) {
		t.Errorf("of a machine that is shut: %+v", Next(h, api.Lines{}))
	}
	h.Mstatus = 8
	if Next(h, api.Lines{}) != taken(9) {
		t.Errorf("of a machine that is open: %+v", Next(h, api.Lines{}))
	}
}

// openFor is a hart that takes what is of that level.
func openFor(level string) api.Hart {
	switch level {
	case "machine":
		return api.Hart{Priv: api.Machine, Mstatus: 8}
	case "host":
		return api.Hart{Priv: api.Super, Mstatus: 2}
	}
	return api.Hart{Priv: api.Super, V: true, Vsstatus: 2}
}

// Of each two numbers of one level, those of no place in the order among them, the first in order is taken.
func TestEachPairOfOneLevel(t *testing.T) {
	seq := sequence()
	for _, level := range []string{"machine", "host", "guest"} {
		for i, n := range seq {
			for _, k := range seq[i+1:] {
				h := openFor(level)
				asking(&h, n, level)
				asking(&h, k, level)
				if got := Next(h, api.Lines{}); got != taken(n) {
					t.Fatalf("%d and %d of level %s: %+v", n, k, level, got)
				}
			}
		}
	}
}

// All of one level are taken by their order, each when those ahead of it ask no more.
func TestAllOfOneLevel(t *testing.T) {
	for _, level := range []string{"machine", "host", "guest"} {
		h := openFor(level)
		for n := range 64 {
			asking(&h, n, level)
		}
		for _, n := range sequence() {
			if got := Next(h, api.Lines{}); got != taken(n) {
				t.Fatalf("level %s: %+v, not %d", level, got, n)
			}
			putBit(&h.Mip, n, false)
		}
		if got := Next(h, api.Lines{}); got != taken(-1) {
			t.Errorf("level %s: %+v of nothing", level, got)
		}
	}
}

// The ten by what makes them pending on a legal hart: each pair that can be of one level.
func TestEachPairOfSources(t *testing.T) {
	seq := sequence()
	for _, a := range sources {
		for _, b := range sources {
			h := csr.Fix(api.Hart{Mie: all, Mip: a.h.Mip | b.h.Mip, Hvip: a.h.Hvip | b.h.Hvip, Hgeie: a.h.Hgeie | b.h.Hgeie, Hstatus: a.h.Hstatus | b.h.Hstatus})
			l := api.Lines{Msip: a.l.Msip || b.l.Msip, Mtip: a.l.Mtip || b.l.Mtip, Meip: a.l.Meip || b.l.Meip, Seip: a.l.Seip || b.l.Seip, Geip: a.l.Geip | b.l.Geip}
			asksIs(t, h, l, csr.Pending(h, l))
			asModel(t, h, l)
			first := a.n
			if slices.Index(seq, b.n) < slices.Index(seq, a.n) {
				first = b.n
			}
			// The external line of a guest that is on and the one that is to be heard are one.
			if a.l.Geip|b.l.Geip != 0 && a.h.Hgeie|b.h.Hgeie != 0 && slices.Index(seq, 12) < slices.Index(seq, first) {
				first = 12
			}
			h.Priv, h.V, h.Mideleg = api.User, true, 0
			if got := Next(h, l); got != taken(first) {
				t.Fatalf("%d and %d: %+v", a.n, b.n, got)
			}
		}
	}
}

// One interrupt a level, at one level, at two or at all three, the last in order ahead or behind: in each mode.
func TestSeveralLevels(t *testing.T) {
	picks := [][3]int{{11, 3, 7}, {6, 2, 10}, {6, 11, 2}, {10, 11, 3}, {1, 9, 11}, {63, 0, 11}, {63, 62, 0}, {4, 6, 11}, {12, 10, 6}, {0, 63, 5}}
	for _, pick := range picks {
		for which := range 8 {
			var start api.Hart
			for i, level := range []string{"machine", "host", "guest"} {
				atLevel(&start, pick[i], level)
				if bit(uint64(which), i) {
					asking(&start, pick[i], level)
				}
			}
			eachMode(start, func(h api.Hart) {
				eachBits(h, func(h api.Hart) {
					want := -1
					for i, level := range []string{"machine", "host", "guest"} {
						if want < 0 && bit(uint64(which), i) && modelOpen(h, level) {
							want = pick[i]
						}
					}
					if got := Next(h, api.Lines{}); got != taken(want) {
						t.Fatalf("Next(%+v) is %+v, not %d", short(h), got, want)
					}
				})
			})
		}
	}
}

// Each two numbers at each two levels that are open: the level tells, not the order.
func TestEachPairOfTwoLevels(t *testing.T) {
	levels := []string{"machine", "host", "guest"}
	for i, ahead := range levels {
		for _, behind := range levels[i+1:] {
			for n := range 64 {
				for k := range 64 {
					if n == k {
						continue
					}
					h := api.Hart{Priv: api.User, V: true}
					asking(&h, n, ahead)
					asking(&h, k, behind)
					if got := Next(h, api.Lines{}); got != taken(n) {
						t.Fatalf("%d of level %s and %d of level %s: %+v", n, ahead, k, behind, got)
					}
				}
			}
		}
	}
}

// A level that is shut hides nothing of those behind it, and is not heard though it is ahead.
func TestShutLevels(t *testing.T) {
	h := api.Hart{Priv: api.Super, Mstatus: 0}
	asking(&h, 11, "host")
	asking(&h, 3, "guest")
	if Next(h, api.Lines{}) != taken(-1) {
		t.Errorf("the host's and the guest's are shut: %+v", Next(h, api.Lines{}))
	}
	asking(&h, 6, "machine")
	if Next(h, api.Lines{}) != taken(6) {
		t.Errorf("the machine's is open: %+v", Next(h, api.Lines{}))
	}
	h.Priv = api.Machine
	if Next(h, api.Lines{}) != taken(-1) {
		t.Errorf("all are shut: %+v", Next(h, api.Lines{}))
	}
	h.Priv, h.V = api.Super, true
	putBit(&h.Mie, 6, false)
	putBit(&h.Mie, 11, false)
	if Next(h, api.Lines{}) != taken(-1) {
		t.Errorf("the guest's is shut: %+v", Next(h, api.Lines{}))
	}
	h.Vsstatus = 2
	if Next(h, api.Lines{}) != taken(3) {
		t.Errorf("the guest's is open: %+v", Next(h, api.Lines{}))
	}
}

// Of all words of a hart no other bit matters than those that the chapter names, and these do.
func TestEachBitOfAHart(t *testing.T) {
	x := mixer(17)
	starts := []api.Hart{home, full(), {Mie: all, Mip: all, Mideleg: all}, x.hart(), x.hart()}
	for _, start := range starts {
		for _, priv := range []byte{api.User, api.Super, api.Machine, 2} {
			for _, v := range []bool{false, true} {
				start.Priv, start.V = priv, v
				for _, name := range words() {
					for i := range 64 {
						h := start
						*at(&h, name) ^= 1 << i
						asModel(t, h, api.Lines{})
						asModel(t, h, fullLines)
					}
				}
			}
		}
	}
}

// What else a hart has is no matter: its registers, whether it waits, what it reserves, and the time.
func TestWhatIsNoMatter(t *testing.T) {
	someCases(100, func(h api.Hart, l api.Lines) {
		asks, wakes, next := Asks(h, l), Wakes(h, l), Next(h, l)
		for i := range h.X {
			h.X[i] ^= all
		}
		h.Pc, h.Res, h.Wait, h.Held = ^h.Pc, ^h.Res, !h.Wait, !h.Held
		l.Time = ^l.Time
		if Asks(h, l) != asks || Wakes(h, l) != wakes || Next(h, l) != next {
			t.Fatalf("%+v, %+v: %+v, not %+v", short(h), l, Next(h, l), next)
		}
	})
}

func TestEveryPriv(t *testing.T) {
	for priv := range 256 {
		for _, v := range []bool{false, true} {
			for which := range 8 {
				h := api.Hart{Priv: byte(priv), V: v}
				for i, level := range []string{"machine", "host", "guest"} {
					if bit(uint64(which), i) {
						asking(&h, 10-i, level)
					}
				}
				eachBits(h, func(h api.Hart) { asModel(t, h, api.Lines{}) })
			}
		}
	}
}

func TestManyHarts(t *testing.T) {
	n := 0
	someCases(4000, func(h api.Hart, l api.Lines) {
		asModel(t, h, l)
		if Next(h, l).Is {
			n++
		}
	})
	if n < 1000 {
		t.Errorf("only %d took an interrupt", n)
	}
}

// P13.3

func TestWhatFollows(t *testing.T) {
	levels := []string{"machine", "host", "guest"}
	someCases(4000, func(h api.Hart, l api.Lines) {
		next := Next(h, l)
		if !next.Is {
			for _, n := range modelAsks(h, l) {
				if modelOpen(h, modelLevel(h, n)) {
					t.Fatalf("%+v, %+v: %d asks and is not taken", short(h), l, n)
				}
			}
			return
		}
		n := int(next.Cause - api.Interrupt)
		if next != taken(n) || n > 63 {
			t.Fatalf("%+v, %+v: %+v", short(h), l, next)
		}
		if !bit(Asks(h, l), n) || !Wakes(h, l) || !bit(h.Mie, n) || !bit(csr.Pending(h, l), n) {
			t.Fatalf("%+v, %+v: %d does not ask", short(h), l, n)
		}
		mine := slices.Index(levels, modelLevel(h, n))
		if !modelOpen(h, levels[mine]) {
			t.Fatalf("%+v, %+v: %d is of a level that is shut", short(h), l, n)
		}
		for _, k := range modelAsks(h, l) {
			if ahead := modelLevel(h, k); slices.Index(levels, ahead) < mine && modelOpen(h, ahead) {
				t.Fatalf("%+v, %+v: %d is taken, and %d asks of a level ahead", short(h), l, n, k)
			}
		}
	})
}

// Whoever has no open level takes none: a machine without MIE, whatever asks and however it is delegated.
func TestNoOpenLevel(t *testing.T) {
	someCases(1000, func(h api.Hart, l api.Lines) {
		h.Priv = api.Machine
		putBit(&h.Mstatus, 3, false)
		if got := Next(h, l); got != taken(-1) {
			t.Fatalf("%+v, %+v: %+v", short(h), l, got)
		}
	})
	h := csr.Fix(full())
	h.Priv, h.V, h.Mstatus = api.Machine, false, h.Mstatus-8
	if !Wakes(h, fullLines) || Next(h, fullLines) != taken(-1) {
		t.Errorf("%#x, %+v", Asks(h, fullLines), Next(h, fullLines))
	}
}

// What is pending and not in Mie is never taken, nor is what is in Mie and not pending.
func TestPendingAndNotInMie(t *testing.T) {
	for n := range 64 {
		start := api.Hart{Mip: 1 << n, Mie: all - 1<<n}
		for _, level := range []string{"machine", "host", "guest"} {
			atLevel(&start, n, level)
			eachMode(start, func(h api.Hart) {
				eachBits(h, func(h api.Hart) {
					if Next(h, api.Lines{}) != taken(-1) {
						t.Fatalf("pending alone: %+v", Next(h, api.Lines{}))
					}
					h.Mip, h.Mie = 0, 1<<n
					if Next(h, api.Lines{}) != taken(-1) {
						t.Fatalf("in Mie alone: %+v", Next(h, api.Lines{}))
					}
				})
			})
		}
	}
	someCases(1000, func(h api.Hart, l api.Lines) {
		h.Mie &^= csr.Pending(h, l)
		if Asks(h, l) != 0 || Wakes(h, l) || Next(h, l) != taken(-1) {
			t.Fatalf("%+v, %+v: %+v", short(h), l, Next(h, l))
		}
	})
}

// Ways: the function that is ranged over hands out just those that ask, by their order; it may be left early and gone over again.
func TestInOrder(t *testing.T) {
	x := mixer(19)
	sets := []uint64{0, all, 1, 1 << 63, 0x1eee, all - 0x1eee, 1 << 11, 1<<11 | 1}
	for range 200 {
		sets = append(sets, x.word(), x.word()&x.word()&x.word())
	}
	for _, asks := range sets {
		var want []uint64
		for _, n := range sequence() {
			if bit(asks, n) {
				want = append(want, uint64(n))
			}
		}
		handed := inOrder(asks)
		for most := range len(want) + 1 {
			var some []uint64
			for n := range handed {
				some = append(some, n)
				if len(some) >= most {
					break
				}
			}
			if !slices.Equal(some, want[:min(max(most, 1), len(want))]) {
				t.Fatalf("the first %d of %#x: %v, not %v", most, asks, some, want)
			}
		}
		if got := slices.Collect(handed); !slices.Equal(got, want) {
			t.Fatalf("%#x: %v, not %v", asks, got, want)
		}
	}
}
