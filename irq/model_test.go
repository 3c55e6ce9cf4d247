package irq

import (
	"math"
	"reflect"
	"slices"
	"strings"
	"testing"

	"mezzanine/api"
	"mezzanine/csr"
	"mezzanine/lay"
)

// The calls have the signatures of the chapter.
var (
	_ func(api.Hart, api.Lines) uint64   = Asks
	_ func(api.Hart, api.Lines) api.Trap = Next
	_ func(api.Hart, api.Lines) bool     = Wakes
)

// chapter is the chapter's order.
const chapter = "Mei, Msi, Mti, Sei, Ssi, Sti, Sgei, Vsei, Vssi, Vsti"

// numbers are the chapter's numbers of interrupts.
var numbers = map[string]int{"Ssi": 1, "Vssi": 2, "Msi": 3, "Sti": 5, "Vsti": 6, "Mti": 7, "Sei": 9, "Vsei": 10, "Mei": 11, "Sgei": 12}

// sequence is all numbers from 0 to 63 in their order, those of no place behind the others.
func sequence() []int {
	var l []int
	for _, name := range strings.Split(chapter, ", ") {
		l = append(l, numbers[name])
	}
	for n := range 64 {
		if !slices.Contains(l, n) {
			l = append(l, n)
		}
	}
	return l
}

// all is a word of ones.
const all uint64 = math.MaxUint64

// bit says whether a word has the bit of that number.
func bit(w uint64, n int) bool { return w/(1<<n)%2 == 1 }

// putBit makes a word's bit of that number so.
func putBit(w *uint64, n int, is bool) {
	if bit(*w, n) {
		*w -= 1 << n
	}
	if is {
		*w += 1 << n
	}
}

// modelAsks is what asks, as numbers.
func modelAsks(h api.Hart, l api.Lines) []int {
	var asks []int
	for n := range 64 {
		if bit(csr.Pending(h, l), n) && bit(h.Mie, n) {
			asks = append(asks, n)
		}
	}
	return asks
}

// modelLevel is the name of the level of an interrupt.
func modelLevel(h api.Hart, n int) string {
	if !bit(h.Mideleg, n) {
		return "machine"
	}
	if !bit(h.Hideleg, n) {
		return "host"
	}
	return "guest"
}

// modelOpen says whether a level is open.
func modelOpen(h api.Hart, level string) bool {
	const user, machine = 0, 3
	mie, sie, vsie := bit(h.Mstatus, 3), bit(h.Mstatus, 1), bit(h.Vsstatus, 1)
	switch level {
	case "machine":
		return h.Priv != machine || mie
	case "host":
		return h.Priv != machine && (h.V || h.Priv == user || sie)
	}
	return h.Priv != machine && h.V && (h.Priv == user || vsie)
}

// modelNext is the number of the interrupt that is taken, -1 if there is none.
func modelNext(h api.Hart, l api.Lines) int {
	asks := modelAsks(h, l)
	for _, level := range []string{"machine", "host", "guest"} {
		if !modelOpen(h, level) {
			continue
		}
		for _, n := range sequence() {
			if slices.Contains(asks, n) && modelLevel(h, n) == level {
				return n
			}
		}
	}
	return -1
}

// taken is the trap of an interrupt, of -1 the zero trap.
func taken(n int) api.Trap {
	if n < 0 {
		return api.Trap{}
	}
	return api.Trap{Is: true, Cause: 1<<63 + uint64(n)}
}

// short is what a test that fails tells of a hart.
func short(h api.Hart) api.Hart {
	return api.Hart{Priv: h.Priv, V: h.V, Mstatus: h.Mstatus, Vsstatus: h.Vsstatus, Hstatus: h.Hstatus, Mideleg: h.Mideleg, Hideleg: h.Hideleg, Mie: h.Mie, Mip: h.Mip, Hvip: h.Hvip, Hgeie: h.Hgeie}
}

// asModel holds all three calls against the model.
func asModel(t *testing.T, h api.Hart, l api.Lines) {
	t.Helper()
	var asks uint64
	for _, n := range modelAsks(h, l) {
		putBit(&asks, n, true)
	}
	if got := Asks(h, l); got != asks {
		t.Fatalf("Asks(%+v, %+v) is %#x, not %#x", short(h), l, got, asks)
	}
	if got := Wakes(h, l); got != (asks != 0) {
		t.Fatalf("Wakes(%+v, %+v) is %v", short(h), l, got)
	}
	if got, want := Next(h, l), taken(modelNext(h, l)); got != want {
		t.Fatalf("Next(%+v, %+v) is %+v, not %+v", short(h), l, got, want)
	}
}

// at is the hart's word of that name.
func at(h *api.Hart, name string) *uint64 {
	return reflect.ValueOf(h).Elem().FieldByName(name).Addr().Interface().(*uint64)
}

// words are the names of all words of a hart.
func words() []string {
	var l []string
	t := reflect.TypeFor[api.Hart]()
	for i := range t.NumField() {
		if f := t.Field(i); f.Type.Kind() == reflect.Uint64 {
			l = append(l, f.Name)
		}
	}
	return l
}

// full is a hart all of whose words are ones, and all else too.
func full() api.Hart {
	h := api.Hart{Priv: 255, V: true, Wait: true, Held: true}
	for i := range h.X {
		h.X[i] = all
	}
	for _, name := range words() {
		*at(&h, name) = all
	}
	return h
}

// fullLines are lines with everything.
var fullLines = api.Lines{Msip: true, Mtip: true, Meip: true, Seip: true, Geip: all, Time: all}

// eachMode calls do with the hart in each mode, those of no machine among them, and tells it by a name.
func eachMode(h api.Hart, do func(h api.Hart)) {
	for _, priv := range []byte{api.User, api.Super, api.Machine, 2, 4, 7, 16, 129, 131, 255} {
		for _, v := range []bool{false, true} {
			h.Priv, h.V = priv, v
			do(h)
		}
	}
}

// eachBits calls do with the hart with each set of the three bits that the chapter names.
func eachBits(h api.Hart, do func(h api.Hart)) {
	for i := range 8 {
		putBit(&h.Mstatus, 3, i/4 == 1)
		putBit(&h.Mstatus, 1, i/2%2 == 1)
		putBit(&h.Vsstatus, 1, i%2 == 1)
		do(h)
	}
}

// atLevel delegates an interrupt so that it is of that level.
func atLevel(h *api.Hart, n int, level string) {
	putBit(&h.Mideleg, n, level != "machine")
	putBit(&h.Hideleg, n, level == "guest")
}

// asking makes an interrupt ask, and be of that level.
func asking(h *api.Hart, n int, level string) {
	putBit(&h.Mip, n, true)
	putBit(&h.Mie, n, true)
	atLevel(h, n, level)
}

// mixer makes words that look like chance, and are the same in each run.
type mixer uint64

func (x *mixer) word() uint64 { return lay.Mix((*uint64)(x)) }

// hart makes a hart of such words; a third of them has few ones, a third many.
func (x *mixer) hart() api.Hart {
	kind := x.word() % 3
	word := func() uint64 {
		switch kind {
		case 0:
			return x.word() & x.word() & x.word()
		case 1:
			return x.word() | x.word() | x.word()
		}
		return x.word()
	}
	h := api.Hart{Priv: byte(x.word() % 5), V: x.word()%2 == 0}
	for _, name := range words() {
		*at(&h, name) = word()
	}
	return h
}

// lines makes lines of such words.
func (x *mixer) lines() api.Lines {
	b := x.word()
	return api.Lines{Msip: bit(b, 0), Mtip: bit(b, 1), Meip: bit(b, 2), Seip: bit(b, 3), Geip: x.word() & x.word(), Time: x.word()}
}

// someCases calls do with many harts and lines: of noughts, of ones, in each mode, others, and the legal ones of all these.
func someCases(n int, do func(h api.Hart, l api.Lines)) {
	both := func(h api.Hart, l api.Lines) {
		do(h, l)
		do(csr.Fix(h), l)
	}
	for _, start := range []api.Hart{{}, full(), {Mie: all, Mideleg: all}, {Mie: all, Mideleg: all, Hideleg: all, Hgeie: 2}} {
		eachMode(start, func(h api.Hart) {
			eachBits(h, func(h api.Hart) {
				both(h, api.Lines{})
				both(h, fullLines)
			})
		})
	}
	x := mixer(13)
	for range n {
		both(x.hart(), x.lines())
	}
}

// The model's order is the chapter's: ten that have a place, and all others behind them.
func TestTheChaptersOrder(t *testing.T) {
	want := []int{11, 3, 7, 9, 1, 5, 12, 10, 2, 6, 0, 4, 8, 13, 14, 15}
	if l := sequence(); len(l) != 64 || !slices.Equal(l[:16], want) || !slices.IsSorted(l[16:]) || l[63] != 63 {
		t.Errorf("%v", l)
	}
	if api.Ssi != 1 || api.Vssi != 2 || api.Msi != 3 || api.Sti != 5 || api.Vsti != 6 || api.Mti != 7 || api.Sei != 9 || api.Vsei != 10 || api.Mei != 11 || api.Sgei != 12 || api.Interrupt != 1<<63 {
		t.Errorf("the numbers of package api")
	}
}
