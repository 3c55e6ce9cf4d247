package pte

import (
	"fmt"
	"testing"

	"mezzanine/api"
)

func TestExamplesOfTheChapter(t *testing.T) {
	load, user := api.Want{Priv: api.Super}, api.Want{Priv: api.User}
	userMxr, loadSum, fetchSum := user, load, api.Want{Kind: api.Fetch, Priv: api.Super, Sum: true}
	userMxr.Mxr, loadSum.Sum = true, true
	for _, row := range []struct{ got, want string }{
		{fmt.Sprintf("%#x %d %t %t", Make(5, 0xcf), Page(0x14cf), Leaf(1), Leaf(9)), "0x14cf 5 false true"},
		{fmt.Sprint(Ok(0), Ok(1), Ok(5), Ok(0x41), Ok(0x11), Ok(0xcf), Ok(1<<54+0xcf)), "false true false false false true false"},
		{fmt.Sprint(Allowed(0x13, user), Allowed(3, user), Allowed(0x19, user), Allowed(0x19, userMxr)), "true false false true"},
		{fmt.Sprint(Allowed(0x13, load), Allowed(0x13, loadSum), Allowed(0x19, fetchSum), Allowed(9, fetchSum)), "false true false true"},
		{fmt.Sprint(Judge(1, 0, load), Judge(1, 1, load), Judge(0x43, 0, load), Judge(0, 1, load), Judge(0x49, 0, load)), fmt.Sprint(Fault, Down, Found, Fault, Fault)},
		{fmt.Sprint(Judge(Make(512, 0x43), 1, load), Judge(Make(1, 0x43), 1, load), Judge(Make(1, 0x43), 0, load)), fmt.Sprint(Found, Fault, Found)},
		{fmt.Sprintf("%d %d %d %#x", Index(0x40201fff, 0), Index(0x40201fff, 1), Index(0x40201fff, 2), Pa(Make(0x200, 1), 1, 0x1234)), "1 1 1 0x201234"},
	} {
		if row.got != row.want {
			t.Errorf("%s, not %s", row.got, row.want)
		}
	}
}

// P15.1

// makes holds Make, and Page of what it makes, against a page and flags that fit, put together.
func makes(t *testing.T, page, flags uint64) {
	t.Helper()
	e := Make(page, flags)
	if want := page%(1<<44)*1024 + flags%256; e != want {
		t.Fatalf("Make(%#x, %#x): %#x, not %#x", page, flags, e, want)
	}
	if Page(e) != page%(1<<44) {
		t.Fatalf("Page(%#x): %#x", e, Page(e))
	}
}

func TestMake(t *testing.T) {
	for flags := range uint64(256) {
		for _, page := range []uint64{0, 1, 5, 512, 1<<44 - 1, 1 << 44, 1<<44 + 7, 1 << 53, 1 << 54, all} {
			makes(t, page, flags)
		}
	}
	for i := range 64 {
		for _, flags := range []uint64{0, 0xcf, all} {
			makes(t, 1<<i, flags)
			makes(t, all-1<<i, flags)
		}
		for _, page := range []uint64{0, 5, all} {
			makes(t, page, 1<<i)
			makes(t, page, all-1<<i)
		}
	}
	x := mixer(1)
	for range 2000 {
		makes(t, x.word(), x.word())
	}
	if Make(1<<44, 0x100) != 0 || Make(all, all) != 1<<54-1-0x300 {
		t.Errorf("%#x, %#x", Make(1<<44, 0x100), Make(all, all))
	}
}

// Page, Leaf and Ok, of all sets of the eight flags, with each other bit by itself.
func TestWhatAnEntrySays(t *testing.T) {
	says := func(e uint64) {
		t.Helper()
		if Page(e) != modelPage(e) {
			t.Fatalf("Page(%#x): %#x, not %#x", e, Page(e), modelPage(e))
		}
		if Leaf(e) != modelLeaf(e) {
			t.Fatalf("Leaf(%#x): %t", e, Leaf(e))
		}
		if Ok(e) != modelOk(e) {
			t.Fatalf("Ok(%#x): %t", e, Ok(e))
		}
	}
	for flags := range uint64(256) {
		says(flags)
		says(all - flags)
		says(Make(all, flags))
		for i := 8; i < 64; i++ {
			says(flags | 1<<i)
			says(flags | (all - 255 - 1<<i))
			says(flags | Make(all, 0) | 1<<i)
		}
	}
	for _, e := range someEntries(5000) {
		says(e)
	}
}

// Bits 8 and 9 are nobody's: with them an entry says what it says without.
func TestNobodysBits(t *testing.T) {
	for _, e := range someEntries(500) {
		for _, n := range []uint64{0x100, 0x200, 0x300} {
			with, without := e|n, e&^0x300
			if Page(with) != Page(without) || Leaf(with) != Leaf(without) || Ok(with) != Ok(without) {
				t.Fatalf("%#x is not as %#x", with, without)
			}
			if w := (api.Want{Priv: api.Super}); Judge(with, 0, w) != Judge(without, 0, w) || Pa(with, 1, all) != Pa(without, 1, all) {
				t.Fatalf("%#x is not walked as %#x", with, without)
			}
		}
	}
}

// Each bit of the ones that are kept free makes any entry one that is not Ok, and is no part of its page.
func TestFreeBits(t *testing.T) {
	for i := 54; i < 64; i++ {
		for _, e := range []uint64{1, 0x21, 3, 9, 0xcf, 0xff, Make(all, 1), Make(all, 0xff)} {
			if !Ok(e) || Ok(e|1<<i) {
				t.Errorf("%#x with the bit %d: %t, %t", e, i, Ok(e), Ok(e|1<<i))
			}
			if Page(e|1<<i) != Page(e) || Leaf(e|1<<i) != Leaf(e) {
				t.Errorf("the bit %d of %#x", i, e)
			}
		}
	}
}

// What an entry that is no leaf may say is V and G; a leaf may say all, but W by itself.
func TestOkByEachFlag(t *testing.T) {
	for _, row := range []struct {
		e  uint64
		ok bool
	}{
		{0, false}, {V, true}, {R, false}, {V | R, true}, {V | W, false}, {V | X, true}, {V | U, false}, {V | G, true}, {V | A, false}, {V | D, false},
		{V | W | X, false}, {V | R | W, true}, {V | R | W | X, true}, {R | W | X, false}, {V | R | U, true}, {V | X | U, true}, {V | R | A, true}, {V | X | A, true},
		{V | R | D, true}, {V | X | D, true}, {V | X | U | A | D | G, true}, {V | U | A | D | G, false}, {V | W | A | R, true}, {R | A, false}, {G, false}, {0xff, true}, {0xfe, false},
	} {
		if Ok(row.e) != row.ok {
			t.Errorf("Ok(%#x): %t", row.e, !row.ok)
		}
	}
}

// P15.2

// Every set of the eight flags, for each access.
func TestAllowed(t *testing.T) {
	count := 0
	wants(func(w api.Want) {
		for flags := range uint64(256) {
			want := modelAllowed(flags, w)
			if Allowed(flags, w) != want {
				t.Fatalf("Allowed(%#x, %+v): %t", flags, w, !want)
			}
			if want {
				count++
			}
		}
	})
	if count == 0 {
		t.Error("nothing is allowed")
	}
}

// The bits above the eight change nothing, each by itself and all of them.
func TestAllowedByEightBits(t *testing.T) {
	for _, kind := range []byte{0, 1, 2, 3, 255} {
		for _, priv := range []byte{0, 1} {
			marks(api.Want{Kind: kind, Priv: priv}, func(w api.Want) {
				for flags := range uint64(256) {
					want := modelAllowed(flags, w)
					for i := 8; i < 64; i++ {
						if Allowed(flags|1<<i, w) != want {
							t.Fatalf("the bit %d with %#x, %+v: %t", i, flags, w, !want)
						}
					}
					if Allowed(all-255+flags, w) != want {
						t.Fatalf("all bits with %#x, %+v: %t", flags, w, !want)
					}
				}
			})
		}
	}
}

// What is no load, store or fetch is never allowed.
func TestAllowedOfNoKind(t *testing.T) {
	for kind := 3; kind < 256; kind++ {
		for _, priv := range []byte{0, 1, 3} {
			marks(api.Want{Kind: byte(kind), Priv: priv}, func(w api.Want) {
				for _, flags := range []uint64{0, 0xef, 0xff, all, R, W, X, R | U, W | U, X | U} {
					if Allowed(flags, w) {
						t.Fatalf("Allowed(%#x, %+v)", flags, w)
					}
				}
			})
		}
	}
}

// Whoever is no user is a supervisor, whatever the privilege's number.
func TestAllowedOfEachPriv(t *testing.T) {
	for _, kind := range []byte{0, 1, 2} {
		marks(api.Want{Kind: kind}, func(w api.Want) {
			for flags := range uint64(256) {
				w.Priv = 1
				want := modelAllowed(flags, w)
				for priv := 1; priv < 256; priv++ {
					w.Priv = byte(priv)
					if Allowed(flags, w) != want {
						t.Fatalf("Allowed(%#x, %+v): %t", flags, w, !want)
					}
				}
			}
		})
	}
}

// What each access needs, written out: who, what, with which marks, and by which flags it is allowed.
func TestAllowedWrittenOut(t *testing.T) {
	for _, row := range []struct {
		w     api.Want
		flags uint64
		is    bool
	}{
		{api.Want{}, R, false}, {api.Want{}, R | U, true}, {api.Want{Sum: true}, R, false},
		{api.Want{Priv: 1}, R, true}, {api.Want{Priv: 1}, R | U, false}, {api.Want{Priv: 1, Sum: true}, R | U, true}, {api.Want{Priv: 1, Sum: true}, R, true},
		{api.Want{Priv: 3}, R, true}, {api.Want{Priv: 3}, R | U, false}, {api.Want{Priv: 2}, R | U, false}, {api.Want{Priv: 255}, R, true},
		{api.Want{Priv: 1}, X, false}, {api.Want{Priv: 1, Mxr: true}, X, true}, {api.Want{Priv: 1, Vmxr: true}, X, false},
		{api.Want{Priv: 1, V: true}, X, false}, {api.Want{Priv: 1, V: true, Vmxr: true}, X, true}, {api.Want{Priv: 1, V: true, Mxr: true}, X, true},
		{api.Want{Priv: 1, Mxr: true}, W, false}, {api.Want{V: true, Vmxr: true}, X, false}, {api.Want{V: true, Vmxr: true}, X | U, true},
		{api.Want{Priv: 1, Exec: true}, R, false}, {api.Want{Priv: 1, Exec: true}, X, true}, {api.Want{Priv: 1, Exec: true, Mxr: true}, R, false}, {api.Want{Exec: true}, X, false}, {api.Want{Exec: true}, X | U, true},
		{api.Want{Priv: 1, Exec: true}, X | U, false}, {api.Want{Priv: 1, Exec: true, Sum: true}, X | U, true},
		{api.Want{Kind: 1, Priv: 1}, W, true}, {api.Want{Kind: 1, Priv: 1}, R | X, false}, {api.Want{Kind: 1, Priv: 1}, W | U, false}, {api.Want{Kind: 1, Priv: 1, Sum: true}, W | U, true}, {api.Want{Kind: 1}, W, false}, {api.Want{Kind: 1}, W | U, true},
		{api.Want{Kind: 1, Priv: 1, Exec: true}, W, true}, {api.Want{Kind: 1, Priv: 1, Exec: true}, X, false}, {api.Want{Kind: 1, Priv: 1, Mxr: true}, X, false},
		{api.Want{Kind: 2, Priv: 1}, X, true}, {api.Want{Kind: 2, Priv: 1}, R | W, false}, {api.Want{Kind: 2, Priv: 1, Sum: true}, X | U, false}, {api.Want{Kind: 2, Priv: 3, Sum: true}, X | U, false}, {api.Want{Kind: 2}, X, false}, {api.Want{Kind: 2}, X | U, true},
		{api.Want{Kind: 2, Priv: 1, Exec: true}, X, true}, {api.Want{Kind: 2, Priv: 1, Mxr: true}, R, false}, {api.Want{Kind: 2, Sum: true}, X | U, true},
		{api.Want{Kind: 3, Priv: 1, Mxr: true}, 0xef, false}, {api.Want{Kind: 3, Exec: true}, 0xff, false}, {api.Want{Kind: 255, Priv: 1, Sum: true}, 0xff, false},
		{api.Want{}, 0, false}, {api.Want{Priv: 1}, 0xe5, false}, {api.Want{Priv: 1}, V, false},
	} {
		if Allowed(row.flags, row.w) != row.is {
			t.Errorf("Allowed(%#x, %+v): %t", row.flags, row.w, !row.is)
		}
	}
}

// P15.3

// A and D both ways for each kind; nothing else of flags, and nothing else of the access, matters.
func TestFull(t *testing.T) {
	for kind := range 256 {
		for flags := range uint64(256) {
			want := modelFull(flags, api.Want{Kind: byte(kind)})
			for _, w := range []api.Want{{}, {Priv: 1}, {Priv: 255, Exec: true, V: true, Sum: true, Mxr: true, Vmxr: true}} {
				w.Kind = byte(kind)
				if Full(flags, w) != want || Full(all-255+flags, w) != want {
					t.Fatalf("Full(%#x, %+v): %t", flags, w, !want)
				}
			}
		}
	}
	wants(func(w api.Want) {
		for i := range 64 {
			for _, flags := range []uint64{1 << i, A | 1<<i, D | 1<<i, A | D | 1<<i, all - 1<<i} {
				if Full(flags, w) != modelFull(flags, w) {
					t.Fatalf("Full(%#x, %+v): %t", flags, w, Full(flags, w))
				}
			}
		}
	})
}

func TestFullWrittenOut(t *testing.T) {
	for _, row := range []struct {
		kind  byte
		flags uint64
		is    bool
	}{
		{0, 0, false}, {0, A, true}, {0, D, false}, {0, A | D, true}, {1, 0, false}, {1, A, false}, {1, D, false}, {1, A | D, true},
		{2, A, true}, {2, D, false}, {2, A | D, true}, {3, A, true}, {3, D, false}, {255, A, true}, {255, 0xbf, false}, {1, 0x7f, false}, {1, 0xbf, false}, {0, 0x40, true}, {0, 0x100, false},
	} {
		if Full(row.flags, api.Want{Kind: row.kind}) != row.is {
			t.Errorf("Full(%#x) of %d: %t", row.flags, row.kind, !row.is)
		}
	}
}

// P15.4

// judged holds Judge against the model, and counts by which rule, and to what, it came.
func judged(t *testing.T, e uint64, level int, w api.Want, ends map[[2]int]int) {
	t.Helper()
	want, rule := modelJudge(e, level, w)
	if got := Judge(e, level, w); got != want {
		t.Fatalf("Judge(%#x, %d, %+v): %d, not %d, by %d", e, level, w, got, want, rule)
	}
	ends[[2]int{rule, want}]++
}

// allEnds says that each end of the five was come to.
func allEnds(t *testing.T, ends map[[2]int]int) {
	t.Helper()
	for _, end := range [][2]int{{1, Fault}, {2, Fault}, {2, Down}, {3, Fault}, {4, Fault}, {5, Found}} {
		if ends[end] == 0 {
			t.Errorf("never to %d by the rule %d", end[1], end[0])
		}
	}
	if len(ends) != 6 {
		t.Errorf("%v", ends)
	}
}

// Every set of flags at each level, on pages that are multiples, and that are not, with each access.
func TestJudgeOfFlags(t *testing.T) {
	ends := map[[2]int]int{}
	wants(func(w api.Want) {
		for flags := range uint64(256) {
			for _, level := range []int{-1, 0, 1, 2, 3} {
				for _, page := range []uint64{0, 1 << 17, 1 << 18} {
					judged(t, Make(page, flags), level, w, ends)
				}
			}
		}
	})
	allEnds(t, ends)
}

// All levels, right and wrong, with each bit of an entry by itself, and other entries.
func TestJudgeOfLevels(t *testing.T) {
	ends := map[[2]int]int{}
	l := someEntries(400)
	for _, level := range levels() {
		for _, e := range l {
			for _, w := range []api.Want{{}, {Priv: 1}, {Kind: 1, Priv: 1, Sum: true}, {Kind: 2, Priv: 1}, {Kind: 3, Priv: 1}} {
				judged(t, e, level, w, ends)
			}
		}
	}
	allEnds(t, ends)
}

func TestJudgeOfMany(t *testing.T) {
	ends := map[[2]int]int{}
	x := mixer(4)
	for range 60000 {
		judged(t, x.entry(), int(x.word()%5)-1, x.want(), ends)
	}
	allEnds(t, ends)
}

// Each bit of a leaf's page must be 0 just beneath 9 times the level.
func TestJudgeOfEachPageBit(t *testing.T) {
	w := api.Want{Priv: api.Super}
	for _, row := range []struct{ level, free int }{{-9, 0}, {-1, 0}, {0, 0}, {1, 9}, {2, 18}, {3, 18}, {4, 18}, {1 << 40, 18}} {
		for i := range 44 {
			want := Found
			if i < row.free {
				want = Fault
			}
			if got := Judge(Make(1<<i, 0x43), row.level, w); got != want {
				t.Errorf("the bit %d at %d: %d", i, row.level, got)
			}
			if got := Judge(Make(all-1<<i, 0x43), row.level, w); row.free > 1 && got != Fault {
				t.Errorf("all bits but %d at %d: %d", i, row.level, got)
			}
		}
		if got := Judge(Make(all-(1<<row.free-1), 0x43), row.level, w); got != Found {
			t.Errorf("all from %d on at %d: %d", row.free, row.level, got)
		}
	}
}

// Where more of the rules hold the first one tells: each pair of ends that differ.
func TestJudgeInOrder(t *testing.T) {
	w := api.Want{Priv: api.Super}
	for _, row := range []struct {
		what  string
		e     uint64
		level int
		want  int
	}{
		{"not Ok, and no leaf above 0", 0, 1, Fault},
		{"not Ok for its A, and no leaf above 0", V | A, 2, Fault},
		{"not Ok for its W, and no leaf above 0", V | W, 2, Fault},
		{"not Ok for its bit 54, and no leaf above 0", V | 1<<54, 2, Fault},
		{"not Ok, and a leaf that is allowed", R, 0, Fault},
		{"not Ok for its bit 63, and a leaf that is allowed", V | R | 1<<63, 0, Fault},
		{"no leaf at 0", V, 0, Fault},
		{"no leaf beneath 0", V, -1, Fault},
		{"no leaf, a page that is no multiple", Make(1, V), 1, Down},
		{"no leaf, and nothing allowed", V, 2, Down},
		{"no leaf above 2", Make(1, V), 3, Down},
		{"no leaf, and G", V | G, 1, Down},
		{"a leaf, no multiple, and allowed", Make(1, V|R), 1, Fault},
		{"a leaf, and not allowed", Make(512, V|X), 1, Fault},
		{"a leaf that is not full", V | R, 0, Found},
		{"a leaf of the level 2", Make(1<<18, V|R), 2, Found},
		{"a leaf above 2", Make(1<<18, V|R), 3, Found},
		{"a leaf beneath 0", Make(1, V|R), -1, Found},
	} {
		if got := Judge(row.e, row.level, w); got != row.want {
			t.Errorf("%s: %d", row.what, got)
		}
	}
	for _, kind := range []byte{3, 255} {
		w := api.Want{Kind: kind, Priv: api.Super}
		if Judge(V, 1, w) != Down || Judge(0xef, 0, w) != Fault {
			t.Errorf("of the kind %d: %d, %d", kind, Judge(V, 1, w), Judge(0xef, 0, w))
		}
	}
}

// P15.5

func TestIndex(t *testing.T) {
	index := func(a uint64, level int) {
		t.Helper()
		if want := piece(a, 12+9*modelLevel(level), 9); Index(a, level) != want {
			t.Fatalf("Index(%#x, %d): %d, not %d", a, level, Index(a, level), want)
		}
	}
	x := mixer(5)
	for _, level := range levels() {
		for i := range 64 {
			index(1<<i, level)
			index(all-1<<i, level)
		}
		for range 200 {
			index(x.word(), level)
		}
		index(0, level)
		index(all, level)
	}
	for i, want := range []uint64{0o123, 0o456, 0o712} {
		a := uint64(0o777)<<39 | 0o712<<30 | 0o456<<21 | 0o123<<12 | 0xfff
		if Index(a, i) != want {
			t.Errorf("at %d: %o", i, Index(a, i))
		}
	}
}

func TestPa(t *testing.T) {
	pa := func(e uint64, level int, a uint64) {
		t.Helper()
		if want := modelPa(e, level, a); Pa(e, level, a) != want {
			t.Fatalf("Pa(%#x, %d, %#x): %#x, not %#x", e, level, a, Pa(e, level, a), want)
		}
	}
	x := mixer(6)
	for _, level := range levels() {
		for i := range 64 {
			for _, w := range []uint64{0, all, x.word()} {
				pa(1<<i, level, w)
				pa(all-1<<i, level, w)
				pa(w, level, 1<<i)
				pa(w, level, all-1<<i)
			}
		}
		for range 200 {
			pa(x.word(), level, x.word())
		}
	}
}

func TestPaWrittenOut(t *testing.T) {
	e := Make(0xabcdef12345, 0xff)
	for _, row := range []struct {
		level int
		want  uint64
	}{{-1, 0xabcdef12345987}, {0, 0xabcdef12345987}, {1, 0xabcdef12254987}, {2, 0xabcdef36a54987}, {3, 0xabcdef36a54987}} {
		if got := Pa(e, row.level, 0xffffffff76a54987); row.want != got {
			t.Errorf("at %d: %#x, not %#x", row.level, got, row.want)
		}
	}
	if Pa(all, 0, 0) != 1<<56-4096 || Pa(0, 2, all) != 1<<30-1 || Pa(1<<54-1024, 2, all) != 1<<56-1 {
		t.Errorf("%#x, %#x, %#x", Pa(all, 0, 0), Pa(0, 2, all), Pa(1<<54-1024, 2, all))
	}
}

// P15.6

func TestCauses(t *testing.T) {
	for kind := range 256 {
		for _, priv := range []byte{0, 1, 3} {
			marks(api.Want{Kind: byte(kind), Priv: priv}, func(w api.Want) {
				if got := [3]uint64{PageFault(w), AccessFault(w), GuestFault(w)}; got != modelCauses(w) {
					t.Fatalf("of %+v: %d, not %d", w, got, modelCauses(w))
				}
			})
		}
	}
}
