package lay

import (
	"testing"

	"mezzanine/api"
	"mezzanine/pte"
)

// What stands here as numbers, and in the tests that call it, are the numbers of api and of the entries.
func TestTheNumbers(t *testing.T) {
	if api.Load != 0 || api.Store != 1 || api.Fetch != 2 || api.User != 0 || api.Super != 1 || api.RamBase != 0x80000*4096 || api.PageSize != 4096 {
		t.Error("kinds, privileges, or pages")
	}
	if pte.Fault != 0 || pte.Down != 1 || pte.Found != 2 || pte.A != 64 || pte.D != 128 {
		t.Error("what Judge tells, or the marks")
	}
	for kind, want := range [][3]uint64{{api.LoadPage, api.LoadFault, api.LoadGuest}, {api.StorePage, api.StoreFault, api.StoreGuest}, {api.FetchPage, api.FetchFault, api.FetchGuest}, {api.LoadPage, api.LoadFault, api.LoadGuest}} {
		if page, access, guest := Causes(byte(kind)); [3]uint64{page, access, guest} != want {
			t.Errorf("the causes of %d", kind)
		}
	}
}

// Words that are mixed are the same in each run, and are not alike.
func TestMix(t *testing.T) {
	state, again := uint64(5), uint64(5)
	seen := map[uint64]bool{}
	for range 10000 {
		w := Mix(&state)
		if w != Mix(&again) || seen[w] {
			t.Fatalf("%#x", w)
		}
		seen[w] = true
	}
}

// What stands in memory is put and got by the same address.
func TestPutAndGet(t *testing.T) {
	b := Bus(t, 1)
	Put(t, b, 0x80000ff8, 1<<63|5)
	if v, ok := Get(b, 0x80000ff8); v != 1<<63|5 || !ok {
		t.Errorf("%#x, %t", v, ok)
	}
	if v, ok := Get(b, 0x80001000); v != 0 || ok {
		t.Errorf("%#x, %t", v, ok)
	}
}
