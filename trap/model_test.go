package trap

import (
	"fmt"
	"math"
	"reflect"
	"strings"
	"testing"

	"mezzanine/api"
	"mezzanine/csr"
	"mezzanine/lay"
)

// The calls have the signatures of the chapter.
var (
	_ func(api.Hart, uint64) int        = To
	_ func(api.Hart, api.Trap) api.Hart = Enter
	_ func(api.Hart) api.Hart           = Mret
	_ func(api.Hart) api.Hart           = Sret
)

// all is a word of ones.
const all uint64 = math.MaxUint64

// intr is the cause of an interrupt of that number.
func intr(n uint64) uint64 { return 1<<63 + n }

// The chapter's lists of what changes, as they stand: what becomes, and of what. A number behind a point is a bit's.
const (
	intoMachine = `Mepc Pc, Mcause Cause, Mtval Tval, Mtval2 Tval2, Mtinst Tinst
Mstatus.7 Mstatus.3, Mstatus.3 no, Mstatus.11 Priv.0, Mstatus.12 Priv.1, Mstatus.39 V, Mstatus.38 Gva`
	intoHost = `Sepc Pc, Scause Cause, Stval Tval, Htval Tval2, Htinst Tinst
Mstatus.5 Mstatus.1, Mstatus.1 no, Mstatus.8 super, Hstatus.7 V, Hstatus.6 Gva`
	intoGuest = `Vsepc Pc, Vscause GuestCause, Vstval Tval
Vsstatus.5 Vsstatus.1, Vsstatus.1 no, Vsstatus.8 super`
	backByMret   = `Pc Mepc, Mstatus.3 Mstatus.7, Mstatus.7 yes, Mstatus.11 no, Mstatus.12 no, Mstatus.39 no`
	hostsSret    = `Pc Sepc, Mstatus.1 Mstatus.5, Mstatus.5 yes, Mstatus.8 no, Mstatus.17 no, Hstatus.7 no`
	guestsSret   = `Pc Vsepc, Vsstatus.1 Vsstatus.5, Vsstatus.5 yes, Vsstatus.8 no, Mstatus.17 no`
	reservedOne  = `Held no, Res none`
	waitsNot     = `Wait no`
	mprvGoes     = `Mstatus.17 no`
	spvpOfGuests = `Hstatus.8 super`
)

// bit says whether a word has the bit of that number.
func bit(w uint64, n int) bool { return w/(1<<n)%2 == 1 }

// putBit makes a word's bit of that number so.
func putBit(w *uint64, n int, is bool) {
	if bit(*w, n) {
		*w -= 1 << n
	}
	if is {
		*w += 1 << n
	}
}

// at is the hart's word of that name.
func at(h *api.Hart, name string) *uint64 {
	return reflect.ValueOf(h).Elem().FieldByName(name).Addr().Interface().(*uint64)
}

// cut cuts a name and the number of a bit.
func cut(text string) (string, int) {
	name, n := text, -1
	if i := strings.Index(text, "."); i >= 0 {
		name = text[:i]
		fmt.Sscan(text[i+1:], &n)
	}
	return name, n
}

// isBit is what a list says of a bit, of a hart and a trap as they were.
func isBit(h api.Hart, t api.Trap, of string) bool {
	name, n := cut(of)
	switch name {
	case "no":
		return false
	case "yes":
		return true
	case "V":
		return h.V
	case "Gva":
		return t.Gva
	case "super":
		return h.Priv == 1
	case "Priv":
		return bit(uint64(h.Priv), n)
	}
	return bit(*at(&h, name), n)
}

// isWord is what a list says of a word.
func isWord(h api.Hart, t api.Trap, of string) uint64 {
	switch of {
	case "none":
		return 0
	case "Cause":
		return t.Cause
	case "Tval":
		return t.Tval
	case "Tval2":
		return t.Tval2
	case "Tinst":
		return t.Tinst
	case "GuestCause":
		return modelGuestCause(t.Cause)
	}
	return *at(&h, of)
}

// changed is a hart with what the lists say, all of it of the hart as it was.
func changed(h api.Hart, t api.Trap, lists ...string) api.Hart {
	next := h
	for _, list := range lists {
		for _, part := range strings.Split(strings.ReplaceAll(list, "\n", ", "), ", ") {
			f := strings.Fields(part)
			name, n := cut(f[0])
			switch {
			case name == "Held":
				next.Held = isBit(h, t, f[1])
			case name == "Wait":
				next.Wait = isBit(h, t, f[1])
			case n >= 0:
				putBit(at(&next, name), n, isBit(h, t, f[1]))
			default:
				*at(&next, name) = isWord(h, t, f[1])
			}
		}
	}
	return next
}

// modelGuestCause is a cause as a guest is told it.
func modelGuestCause(cause uint64) uint64 {
	for _, n := range []uint64{2, 6, 10} {
		if cause == intr(n) {
			return intr(n - 1)
		}
	}
	return cause
}

// modelPlace is where a vector register leads.
func modelPlace(vector, cause uint64) uint64 {
	at := vector / 4 * 4
	if vector%2 == 1 && cause/(1<<63) == 1 {
		for range 4 {
			at += cause % (1 << 63)
		}
	}
	return at
}

// modelTo is where a trap goes, by a name.
func modelTo(h api.Hart, cause uint64) string {
	is, n := cause/(1<<63) == 1, cause%(1<<63)
	if h.Priv == 3 || n >= 64 {
		return "machine"
	}
	has := func(exceptions, interrupts uint64) bool {
		if is {
			return bit(interrupts, int(n))
		}
		return bit(exceptions, int(n))
	}
	if !has(h.Medeleg, h.Mideleg) {
		return "machine"
	}
	if h.V && has(h.Hedeleg, h.Hideleg) {
		return "guest"
	}
	return "host"
}

// modelEnter is the hart that took a trap.
func modelEnter(h api.Hart, t api.Trap) api.Hart {
	if !t.Is {
		return h
	}
	switch modelTo(h, t.Cause) {
	case "machine":
		next := changed(h, t, intoMachine, waitsNot, reservedOne)
		next.Priv, next.V, next.Pc = 3, false, modelPlace(h.Mtvec, t.Cause)
		return next
	case "host":
		next := changed(h, t, intoHost, waitsNot, reservedOne)
		if h.V {
			next = changed(h, t, intoHost, waitsNot, reservedOne, spvpOfGuests)
		}
		next.Priv, next.V, next.Pc = 1, false, modelPlace(h.Stvec, t.Cause)
		return next
	}
	next := changed(h, t, intoGuest, waitsNot, reservedOne)
	next.Priv, next.Pc = 1, modelPlace(h.Vstvec, modelGuestCause(t.Cause))
	return next
}

// modelMret is the hart that came back by mret.
func modelMret(h api.Hart) api.Hart {
	next := changed(h, api.Trap{}, backByMret, reservedOne)
	if bit(h.Mstatus, 12) && bit(h.Mstatus, 11) {
		next.Priv, next.V = 3, false
		return next
	}
	next = changed(h, api.Trap{}, backByMret, reservedOne, mprvGoes)
	next.Priv, next.V = 0, bit(h.Mstatus, 39)
	if !bit(h.Mstatus, 12) && bit(h.Mstatus, 11) {
		next.Priv = 1
	}
	return next
}

// modelSret is the hart that came back by sret.
func modelSret(h api.Hart) api.Hart {
	next, of := changed(h, api.Trap{}, hostsSret, reservedOne), h.Mstatus
	if h.V {
		next, of = changed(h, api.Trap{}, guestsSret, reservedOne), h.Vsstatus
	} else {
		next.V = bit(h.Hstatus, 7)
	}
	next.Priv = 0
	if bit(of, 8) {
		next.Priv = 1
	}
	return next
}

// differ tells in what fields two harts differ.
func differ(got, want api.Hart) string {
	var l []string
	g, w := reflect.ValueOf(got), reflect.ValueOf(want)
	for i := range g.NumField() {
		if a, b := g.Field(i).Interface(), w.Field(i).Interface(); a != b {
			l = append(l, fmt.Sprintf("%s is %#x, not %#x", g.Type().Field(i).Name, a, b))
		}
	}
	return strings.Join(l, "; ")
}

// short is what a test that fails tells of a hart.
func short(h api.Hart) string {
	return fmt.Sprintf("{Pc %#x, Priv %d, V %v, Mstatus %#x, Hstatus %#x, Vsstatus %#x}", h.Pc, h.Priv, h.V, h.Mstatus, h.Hstatus, h.Vsstatus)
}

// same holds a hart against the one that it should be.
func same(t *testing.T, what string, before, got, want api.Hart) {
	t.Helper()
	if got != want {
		t.Fatalf("%s of %s: %s", what, short(before), differ(got, want))
	}
}

// nameOf is a place's name.
func nameOf(to int) string {
	switch to {
	case 0:
		return "machine"
	case 1:
		return "host"
	case 2:
		return "guest"
	}
	return "nowhere"
}

// toIs holds To against a place's name.
func toIs(t *testing.T, h api.Hart, cause uint64, want string) {
	t.Helper()
	if got := To(h, cause); nameOf(got) != want {
		t.Fatalf("To(%s, %#x) is %d, not %s", short(h), cause, got, want)
	}
}

// asModel holds To and Enter of a trap against the model.
func asModel(t *testing.T, h api.Hart, trap api.Trap) {
	t.Helper()
	toIs(t, h, trap.Cause, modelTo(h, trap.Cause))
	same(t, fmt.Sprintf("Enter %+v", trap), h, Enter(h, trap), modelEnter(h, trap))
}

// backAsModel holds Mret and Sret against the model.
func backAsModel(t *testing.T, h api.Hart) {
	t.Helper()
	same(t, "Mret", h, Mret(h), modelMret(h))
	same(t, "Sret", h, Sret(h), modelSret(h))
}

// words are the names of all words of a hart.
func words() []string {
	var l []string
	t := reflect.TypeFor[api.Hart]()
	for i := range t.NumField() {
		if f := t.Field(i); f.Type.Kind() == reflect.Uint64 {
			l = append(l, f.Name)
		}
	}
	return l
}

// full is a hart all of whose words are ones, and all else too.
func full() api.Hart {
	h := api.Hart{Priv: 255, V: true, Wait: true, Held: true}
	for i := range h.X {
		h.X[i] = all
	}
	for _, name := range words() {
		*at(&h, name) = all
	}
	return h
}

// each is a hart of which no two words are the same, nor registers.
func each() api.Hart {
	h := api.Hart{Wait: true, Held: true}
	for i := range h.X {
		h.X[i] = uint64(i) << 8
	}
	for i, name := range words() {
		*at(&h, name) = uint64(i+1) << 32
	}
	return h
}

// eachMode calls do with the hart in each mode, those of no machine among them.
func eachMode(h api.Hart, do func(h api.Hart)) {
	for _, priv := range []byte{api.User, api.Super, api.Machine, 2, 4, 5, 7, 128, 129, 131, 255} {
		for _, v := range []bool{false, true} {
			h.Priv, h.V = priv, v
			do(h)
		}
	}
}

// legalMode says whether a hart is in a mode that there is.
func legalMode(h api.Hart) bool {
	return h.Priv == api.User || h.Priv == api.Super || h.Priv == api.Machine && !h.V
}

// goingTo is a hart, in the mode that it is in, that delegates all so that traps go there as far as they can.
func goingTo(h api.Hart, to int) api.Hart {
	h.Medeleg, h.Mideleg, h.Hedeleg, h.Hideleg = 0, 0, 0, 0
	if to > 0 {
		h.Medeleg, h.Mideleg = all, all
	}
	if to > 1 {
		h.Hedeleg, h.Hideleg = all, all
	}
	return h
}

// causes are those of all low numbers, at the edges and beyond, of exceptions and interrupts.
func causes() []uint64 {
	var l []uint64
	for n := range uint64(67) {
		l = append(l, n, intr(n))
	}
	for _, n := range []uint64{127, 128, 255, 256, 1<<32 + 5, 1 << 61, 1<<61 + 1, 1 << 62, 1<<62 + 13, 1<<63 - 2, 1<<63 - 1} {
		l = append(l, n, intr(n))
	}
	return l
}

// mixer makes words that look like chance, and are the same in each run.
type mixer uint64

func (x *mixer) word() uint64 { return lay.Mix((*uint64)(x)) }

// hart makes a hart of such words; a third of them has few ones, a third many.
func (x *mixer) hart() api.Hart {
	kind := x.word() % 3
	word := func() uint64 {
		switch kind {
		case 0:
			return x.word() & x.word() & x.word()
		case 1:
			return x.word() | x.word() | x.word()
		}
		return x.word()
	}
	h := api.Hart{Priv: byte(x.word() % 4), V: x.word()%2 == 0, Wait: x.word()%2 == 0, Held: x.word()%2 == 0}
	for i := range h.X {
		h.X[i] = word()
	}
	for _, name := range words() {
		*at(&h, name) = word()
	}
	return h
}

// trap makes a trap of such words, of a number that can be delegated nearly always.
func (x *mixer) trap() api.Trap {
	cause := x.word() % 66
	if x.word()%2 == 0 {
		cause = intr(cause)
	}
	if x.word()%16 == 0 {
		cause = x.word()
	}
	return api.Trap{Is: x.word()%16 > 0, Cause: cause, Tval: x.word(), Tval2: x.word(), Tinst: x.word(), Gva: x.word()%2 == 0}
}

// someHarts calls do with many harts: of noughts, of ones, in each mode, going to each place, others, and the legal ones of all these.
func someHarts(n int, do func(h api.Hart)) {
	both := func(h api.Hart) {
		do(h)
		do(csr.Fix(h))
	}
	for _, start := range []api.Hart{{}, each(), full()} {
		for to := range 3 {
			eachMode(goingTo(start, to), both)
		}
	}
	x := mixer(14)
	for range n {
		both(x.hart())
	}
}
