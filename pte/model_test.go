package pte

import (
	"fmt"
	"math"
	"strings"
	"testing"

	"mezzanine/api"
	"mezzanine/lay"
)

// The calls have the signatures of the chapter.
var (
	_ func(page, flags uint64) uint64            = Make
	_ func(e uint64) uint64                      = Page
	_ func(e uint64) bool                        = Ok
	_ func(e uint64) bool                        = Leaf
	_ func(flags uint64, w api.Want) bool        = Allowed
	_ func(flags uint64, w api.Want) bool        = Full
	_ func(e uint64, level int, w api.Want) int  = Judge
	_ func(a uint64, level int) uint64           = Index
	_ func(e uint64, level int, a uint64) uint64 = Pa
	_ func(w api.Want) uint64                    = PageFault
	_ func(w api.Want) uint64                    = AccessFault
	_ func(w api.Want) uint64                    = GuestFault
	_ [V + R + W + X + U + G + A + D]struct{}    = [255]struct{}{}
	_ [100*Fault + 10*Down + Found]struct{}      = [12]struct{}{}
	_ [3]float64                                 = [...]float64{Fault, Down, Found}
	_ [8]float64                                 = [...]float64{V, R, W, X, U, G, A, D}
)

// all is a word of ones.
const all uint64 = math.MaxUint64

// names are the flags by their bits.
const names = "VRWXUGAD"

// bit says whether a word has the bit of that number.
func bit(w uint64, n int) bool { return w/(1<<n)%2 == 1 }

// has says whether an entry has the flag of that name.
func has(e uint64, name string) bool { return bit(e, strings.Index(names, name)) }

// piece is so many bits of a word as a number, from one on, put together one by one.
func piece(w uint64, from, n int) uint64 {
	var p, worth uint64 = 0, 1
	for i := range n {
		if bit(w, from+i) {
			p += worth
		}
		worth *= 2
	}
	return p
}

// modelPage is an entry's page.
func modelPage(e uint64) uint64 { return e / 1024 % (1 << 44) }

// modelLeaf says whether an entry is a leaf.
func modelLeaf(e uint64) bool { return has(e, "R") || has(e, "X") }

// modelOk says whether an entry is Ok: each of the chapter's conditions by itself.
func modelOk(e uint64) bool {
	ok := has(e, "V")
	if has(e, "W") {
		ok = ok && has(e, "R")
	}
	for n := 54; n <= 63; n++ {
		ok = ok && !bit(e, n)
	}
	for _, name := range []string{"A", "D", "U"} {
		if has(e, name) {
			ok = ok && modelLeaf(e)
		}
	}
	return ok
}

// rights are the flags of which one at least an access must find, and none if it is of no kind.
func rights(w api.Want) string {
	switch fmt.Sprint(w.Kind) {
	case "0":
		if w.Exec {
			return "X"
		}
		l := "R"
		if w.Mxr {
			l += "X"
		}
		if w.V && w.Vmxr {
			l += "X"
		}
		return l
	case "1":
		return "W"
	case "2":
		return "X"
	}
	return ""
}

// wrongFloor says whether the flag U alone keeps an access out.
func wrongFloor(flags uint64, w api.Want) bool {
	if w.Priv == 0 {
		return !has(flags, "U")
	}
	if has(flags, "U") {
		return w.Kind == 2 || !w.Sum
	}
	return false
}

// modelAllowed says whether flags allow an access.
func modelAllowed(flags uint64, w api.Want) bool {
	found := false
	for _, name := range rights(w) {
		found = found || has(flags, string(name))
	}
	return found && !wrongFloor(flags, w)
}

// modelFull says whether flags are full for an access.
func modelFull(flags uint64, w api.Want) bool {
	if w.Kind == 1 {
		return has(flags, "A") && has(flags, "D")
	}
	return has(flags, "A")
}

// modelLevel is a level as it is taken.
func modelLevel(level int) int {
	if level > 2 {
		return 2
	}
	if level < 0 {
		return 0
	}
	return level
}

// modelJudge is what a walk does, and the number of the rule that says so.
func modelJudge(e uint64, level int, w api.Want) (int, int) {
	if !modelOk(e) {
		return 0, 1
	}
	if !modelLeaf(e) {
		if level < 1 {
			return 0, 2
		}
		return 1, 2
	}
	for i := range 9 * modelLevel(level) {
		if bit(e, 10+i) {
			return 0, 3
		}
	}
	if !modelAllowed(e, w) {
		return 0, 4
	}
	return 2, 5
}

// modelPa is the address that a leaf tells, each bit by itself.
func modelPa(e uint64, level int, a uint64) uint64 {
	var pa uint64
	for i := range 56 {
		if i < 12+9*modelLevel(level) {
			if bit(a, i) {
				pa += 1 << i
			}
		} else if bit(e, i-12+10) {
			pa += 1 << i
		}
	}
	return pa
}

// modelCauses are the page fault, the access fault and the guest-page fault of an access.
func modelCauses(w api.Want) [3]uint64 {
	switch fmt.Sprint(w.Kind) {
	case "2":
		return [3]uint64{12, 1, 20}
	case "1":
		return [3]uint64{15, 7, 23}
	}
	return [3]uint64{13, 5, 21}
}

// levels are the levels of tables, and many that there are not.
func levels() []int {
	l := []int{math.MinInt, math.MinInt + 1, -1 << 60, -1 << 32, -64, -8, -7, -2, -1, 0, 1, 2, 3, 4, 5, 6, 7, 8, 63, 64, 1 << 32, 1 << 60, math.MaxInt - 1, math.MaxInt}
	// Nine times these goes round to what a level's own is.
	for _, n := range []int{1, 2, 3, 5} {
		l = append(l, int(all/9)*n, -int(all/9)*n, n<<62, 1<<32+n, -1<<32+n)
	}
	return l
}

// marks calls do with an access of each set of Exec, V, Sum, Mxr and Vmxr.
func marks(w api.Want, do func(w api.Want)) {
	for i := range uint64(32) {
		w.Exec, w.V, w.Sum, w.Mxr, w.Vmxr = bit(i, 0), bit(i, 1), bit(i, 2), bit(i, 3), bit(i, 4)
		do(w)
	}
}

// wants calls do with all accesses of the kinds that there are, of some that there are not, of users and of others.
func wants(do func(w api.Want)) {
	for _, kind := range []byte{0, 1, 2, 3, 4, 5, 6, 127, 128, 129, 130, 255} {
		for _, priv := range []byte{0, 1, 2, 3, 255} {
			marks(api.Want{Kind: kind, Priv: priv}, do)
		}
	}
}

// mixer makes words that look like chance, and are the same in each run.
type mixer uint64

func (x *mixer) word() uint64 { return lay.Mix((*uint64)(x)) }

// want makes an access, mostly of a kind that there is.
func (x *mixer) want() api.Want {
	b := x.word()
	w := api.Want{Kind: byte(x.word() % 3), Priv: byte(x.word() % 4)}
	if x.word()%8 == 0 {
		w.Kind = byte(x.word())
	}
	w.Exec, w.V, w.Sum, w.Mxr, w.Vmxr = bit(b, 0), bit(b, 1), bit(b, 2), bit(b, 3), bit(b, 4)
	return w
}

// entry makes an entry: a third of them has a page that is a multiple, most nothing in the bits that are kept free.
func (x *mixer) entry() uint64 {
	page := x.word() % (1 << 44)
	switch x.word() % 3 {
	case 0:
		page = page >> 9 << 9
	case 1:
		page = page >> 18 << 18
	}
	e := page*1024 + x.word()%1024
	if x.word()%2 == 0 {
		e |= 1
	}
	if x.word()%8 == 0 {
		e |= x.word() << 54
	}
	return e
}

// someEntries are entries at the edges, each bit by itself among them, and many others.
func someEntries(n int) []uint64 {
	l := []uint64{0, all}
	for flags := range uint64(256) {
		l = append(l, flags, Make(512, flags), Make(1<<18, flags), Make(1, flags), all-255+flags)
	}
	for i := range 64 {
		l = append(l, 1<<i, 1<<i|0xcf, all-1<<i)
	}
	x := mixer(15)
	for range n {
		l = append(l, x.entry())
	}
	return l
}

// The names that the model takes by their numbers have these numbers.
func TestTheChaptersNumbers(t *testing.T) {
	if api.Load != 0 || api.Store != 1 || api.Fetch != 2 || api.User != 0 || api.Super != 1 || api.Machine != 3 {
		t.Error("kinds, or privileges")
	}
	if fmt.Sprint(V, R, W, X, U, G, A, D) != "1 2 4 8 16 32 64 128" || fmt.Sprint(Fault, Down, Found) != "0 1 2" {
		t.Error(V, R, W, X, U, G, A, D, Fault, Down, Found)
	}
	if modelCauses(api.Want{Kind: 2}) != [3]uint64{api.FetchPage, api.FetchFault, api.FetchGuest} || modelCauses(api.Want{Kind: 1}) != [3]uint64{api.StorePage, api.StoreFault, api.StoreGuest} || modelCauses(api.Want{}) != [3]uint64{api.LoadPage, api.LoadFault, api.LoadGuest} {
		t.Error("causes")
	}
}
