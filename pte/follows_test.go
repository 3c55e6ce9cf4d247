package pte

import (
	"testing"

	"mezzanine/api"
)

// P15.7

// Page of Make of a page is its lowest 44 bits, whatever the flags.
func TestPageOfMake(t *testing.T) {
	x := mixer(7)
	for i := range 4000 {
		page, flags := x.word(), x.word()
		if i < 64 {
			page = 1 << i
		}
		if got := Page(Make(page, flags)); got != page%(1<<44) {
			t.Fatalf("Page(Make(%#x, %#x)): %#x", page, flags, got)
		}
	}
}

// No bit that is kept free is 1 in what Make tells, so all that it makes of flags that may be is Ok.
func TestMakeTellsNoFreeBits(t *testing.T) {
	x := mixer(8)
	for range 4000 {
		page, flags := x.word()|x.word(), x.word()
		e := Make(page, flags)
		if e/(1<<54) != 0 {
			t.Fatalf("Make(%#x, %#x): %#x", page, flags, e)
		}
		if Ok(e) != Ok(flags%256) {
			t.Fatalf("Ok(%#x): %t", e, Ok(e))
		}
	}
	for i := range 64 {
		if e := Make(1<<i, 1<<i); e/(1<<54) != 0 {
			t.Errorf("Make of the bit %d: %#x", i, e)
		}
	}
}

// What is allowed without a mark is allowed with it, each of the three by itself and all sets of them.
func TestMarksTakeNothingAway(t *testing.T) {
	wants(func(w api.Want) {
		for i := range uint64(8) {
			with := w
			with.Sum, with.Mxr, with.Vmxr = w.Sum || bit(i, 0), w.Mxr || bit(i, 1), w.Vmxr || bit(i, 2)
			for flags := range uint64(256) {
				if Allowed(flags, w) && !Allowed(flags, with) {
					t.Fatalf("%#x, %+v, not with %+v", flags, w, with)
				}
			}
		}
	})
}

// A user comes to what has U alone, and no supervisor fetches there, whatever the marks are.
func TestFloors(t *testing.T) {
	wants(func(w api.Want) {
		for flags := range uint64(256) {
			if !Allowed(flags, w) {
				continue
			}
			if w.Priv == api.User && flags&16 == 0 {
				t.Fatalf("a user, without U: %#x, %+v", flags, w)
			}
			if w.Priv != api.User && w.Kind == api.Fetch && flags&16 != 0 {
				t.Fatalf("a supervisor's fetch, with U: %#x, %+v", flags, w)
			}
		}
	})
}

// sizeOf is how many bytes a leaf of a level stands for.
func sizeOf(level int) uint64 {
	return [3]uint64{4096, 4096 * 512, 4096 * 512 * 512}[modelLevel(level)]
}

// foundIs holds what is Found against all that is promised of it, and says whether it is Found.
func foundIs(t *testing.T, e uint64, level int, w api.Want, a uint64) bool {
	t.Helper()
	if Judge(e, level, w) != Found {
		return false
	}
	if !Ok(e) || !Leaf(e) || !Allowed(e, w) {
		t.Fatalf("Judge(%#x, %d, %+v): Found, but %t, %t, %t", e, level, w, Ok(e), Leaf(e), Allowed(e, w))
	}
	pa, size := Pa(e, level, a), sizeOf(level)
	if pa%size != a%size {
		t.Fatalf("Pa(%#x, %d, %#x): %#x is not the address's own beneath %#x", e, level, a, pa, size)
	}
	if less := pa - a%size; less%size != 0 || less != Page(e)*4096 {
		t.Fatalf("Pa(%#x, %d, %#x): %#x less is %#x", e, level, a, pa, less)
	}
	return true
}

func TestWhatIsFound(t *testing.T) {
	var found [3]int
	x := mixer(9)
	for range 60000 {
		level := int(x.word() % 3)
		if foundIs(t, x.entry(), level, x.want(), x.word()) {
			found[level]++
		}
	}
	for level, n := range found {
		if n < 100 {
			t.Errorf("at %d: %d", level, n)
		}
	}
	for _, level := range levels() {
		for _, e := range someEntries(100) {
			foundIs(t, e, level, api.Want{Priv: api.Super}, x.word())
		}
	}
}
