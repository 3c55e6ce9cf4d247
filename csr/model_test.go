package csr

import (
	"math"
	"reflect"
	"slices"
	"strconv"
	"strings"
	"testing"

	"mezzanine/api"
	"mezzanine/csrno"
	"mezzanine/lay"
)

// The calls have the signatures of the chapter.
var (
	_ func(api.Hart, api.Lines) uint64                = Pending
	_ func(api.Hart, api.Lines, int) uint64           = Read
	_ func(api.Hart, api.Lines, int) uint64           = Base
	_ func(api.Hart, api.Lines, int, uint64) api.Hart = Write
	_ func(api.Hart) api.Hart                         = Fix
	_ func(api.Hart) bool                             = Legal
)

// chapter is the chapter's table of fields: registers; masks, where one stands for all or one for each; what is set. "all but" has the bits told by number.
const chapter = `mstatus | c0007e19aa | a00000000
medeleg, hedeleg | f0b7ff; b1ff |
mideleg, hideleg | 222; 444 | 1444; 0
mie | 1eee |
hvip, hgeie | 444; 2 |
mtvec, stvec, vstvec | all but 1 |
mepc, sepc, vsepc | all but 1 0 |
mcounteren, scounteren, hcounteren | 7 |
hstatus | 7013c0 | 200000000
vsstatus | c0122 | 200000000
satp, vsatp | all but |
hgatp | all but 59 58 1 0 |
mscratch, mcause, mtval, mtval2, mtinst, sscratch, scause, stval, vsscratch, vscause, vstval, htval, htinst, htimedelta, mcycle, minstret | all but |`

// bitsOf are the masks that the chapter tells by their bits' numbers besides.
const bitsOf = `mstatus 1 3 5 7 8 11 12 17 18 19 20 21 22 38 39
hstatus 6 7 8 9 12 20 21 22
vsstatus 1 5 8 18 19`

// row is a register that has a field.
type row struct {
	name, field string
	no          int
	mask, set   uint64
}

// all is a word of ones.
const all uint64 = math.MaxUint64

// number reads a number in hexadecimal.
func number(digits string) uint64 {
	n, err := strconv.ParseUint(digits, 16, 64)
	if err != nil {
		panic(err)
	}
	return n
}

// masks reads what a line says of n registers' bits.
func masks(text string, n int) []uint64 {
	if but, ok := strings.CutPrefix(text, "all but"); ok {
		m := all
		for _, bit := range strings.Fields(but) {
			i, _ := strconv.Atoi(bit)
			m -= 1 << i
		}
		return slices.Repeat([]uint64{m}, n)
	}
	var l []uint64
	for _, digits := range strings.Split(text, "; ") {
		l = append(l, number(digits))
	}
	if len(l) == 1 {
		return slices.Repeat(l, n)
	}
	return l
}

// rows reads the chapter's table.
func rows() []row {
	var l []row
	for _, line := range strings.Split(chapter, "\n") {
		cells := strings.Split(line, "|")
		names := strings.Split(strings.TrimSpace(cells[0]), ", ")
		m := masks(strings.TrimSpace(cells[1]), len(names))
		s := make([]uint64, len(names))
		if text := strings.TrimSpace(cells[2]); text != "" {
			s = masks(text, len(names))
		}
		for i, name := range names {
			l = append(l, row{name, fieldName(name), csrno.Number(name), m[i], s[i]})
		}
	}
	return l
}

// fieldName is the name of a register's field in api.Hart.
func fieldName(name string) string {
	switch name {
	case "mcycle":
		return "Cycle"
	case "minstret":
		return "Instret"
	}
	return strings.ToUpper(name[:1]) + name[1:]
}

// at is the hart's word of that name.
func at(h *api.Hart, name string) *uint64 {
	return reflect.ValueOf(h).Elem().FieldByName(name).Addr().Interface().(*uint64)
}

// bit is bit i of w, as a number.
func bit(w uint64, i int) uint64 { return w >> i & 1 }

// putBit makes bit i of w that of b.
func putBit(w *uint64, i int, b uint64) { *w = *w - bit(*w, i)<<i + b<<i }

// link is a bit of a view, the bit that it shows or writes, and the bit of a register that must be there for that.
type link struct {
	bit   int
	of    string
	to    int
	must  string
	must1 int
}

// shows is of each view that is put together of bits what these are: bit, of what, which bit, and, if so, the register and the bit that must be.
const shows = `sstatus: 1 Mstatus 1, 5 Mstatus 5, 8 Mstatus 8, 18 Mstatus 18, 19 Mstatus 19
sip: 1 pending 1 Mideleg 1, 5 pending 5 Mideleg 5, 9 pending 9 Mideleg 9
sie: 1 Mie 1 Mideleg 1, 5 Mie 5 Mideleg 5, 9 Mie 9 Mideleg 9
hip: 2 pending 2, 6 pending 6, 10 pending 10, 12 pending 12
hie: 2 Mie 2, 6 Mie 6, 10 Mie 10, 12 Mie 12
vsip: 1 pending 2 Hideleg 2, 5 pending 6 Hideleg 6, 9 pending 10 Hideleg 10
vsie: 1 Mie 2 Hideleg 2, 5 Mie 6 Hideleg 6, 9 Mie 10 Hideleg 10`

// writes is the same of what writing them does.
const writes = `sstatus: 1 Mstatus 1, 5 Mstatus 5, 8 Mstatus 8, 18 Mstatus 18, 19 Mstatus 19
mip: 1 Mip 1, 5 Mip 5, 9 Mip 9, 2 Hvip 2
sip: 1 Mip 1 Mideleg 1
sie: 1 Mie 1 Mideleg 1, 5 Mie 5 Mideleg 5, 9 Mie 9 Mideleg 9
hip: 2 Hvip 2
hie: 2 Mie 2, 6 Mie 6, 10 Mie 10, 12 Mie 12
vsip: 1 Hvip 2 Hideleg 2
vsie: 1 Mie 2 Hideleg 2, 5 Mie 6 Hideleg 6, 9 Mie 10 Hideleg 10`

// links reads such a text.
func links(text string) map[string][]link {
	m := map[string][]link{}
	for _, line := range strings.Split(text, "\n") {
		name, rest, _ := strings.Cut(line, ": ")
		for _, part := range strings.Split(rest, ", ") {
			f := append(strings.Fields(part), "", "0")
			n := func(i int) int { v, _ := strconv.Atoi(f[i]); return v }
			m[name] = append(m[name], link{n(0), f[1], n(2), f[3], n(4)})
		}
	}
	return m
}

// model is the chapter, read.
type model struct {
	rows          []row
	byNo          map[int]row
	shows, writes map[string][]link
}

// newModel reads the chapter.
func newModel() *model {
	m := &model{rows(), map[int]row{}, links(shows), links(writes)}
	for _, r := range m.rows {
		m.byNo[r.no] = r
	}
	return m
}

// pending is what is pending, bit by bit.
func (m *model) pending(h api.Hart, l api.Lines) uint64 {
	var p uint64
	for i := range 64 {
		is := bit(h.Mip, i)+bit(h.Hvip, i) > 0
		switch i {
		case 3:
			is = is || l.Msip
		case 7:
			is = is || l.Mtip
		case 11:
			is = is || l.Meip
		case 9:
			is = is || l.Seip
		case 10:
			is = is || bit(h.Hstatus, 12) == 1 && bit(l.Geip, 1) == 1
		case 12:
			for k := range 64 {
				is = is || bit(l.Geip, k)+bit(h.Hgeie, k) == 2
			}
		}
		if is {
			putBit(&p, i, 1)
		}
	}
	return p
}

// name is what a number means to the hart, no text if nothing.
func (m *model) name(h api.Hart, no int) string {
	name := csrno.Name(no)
	if h.V && slices.Contains(strings.Fields("sstatus sie stvec sscratch sepc scause stval sip satp"), name) {
		return "v" + name
	}
	return name
}

// read is what a register says.
func (m *model) read(h api.Hart, l api.Lines, no int) uint64 {
	name := m.name(h, no)
	if r, ok := m.byNo[csrno.Number(name)]; ok {
		return *at(&h, r.field)
	}
	if parts, ok := m.shows[name]; ok {
		var v uint64
		for _, k := range parts {
			w := m.pending(h, l)
			if k.of != "pending" {
				w = *at(&h, k.of)
			}
			if k.must == "" || bit(*at(&h, k.must), k.must1) == 1 {
				putBit(&v, k.bit, bit(w, k.to))
			}
		}
		if name == "sstatus" {
			putBit(&v, 33, 1)
		}
		return v
	}
	switch name {
	case "mip":
		return m.pending(h, l)
	case "hgeip":
		return bit(l.Geip, 1) * 2
	case "cycle":
		return h.Cycle
	case "instret":
		return h.Instret
	case "time":
		if h.V {
			return l.Time + h.Htimedelta
		}
		return l.Time
	case "misa":
		return 0x8000000000141181
	}
	return 0
}

// write is the hart behind writing v.
func (m *model) write(h api.Hart, no int, v uint64) api.Hart {
	name := m.name(h, no)
	r, ok := m.byNo[csrno.Number(name)]
	if !ok {
		before := h
		for _, k := range m.writes[name] {
			if k.must == "" || bit(*at(&before, k.must), k.must1) == 1 {
				putBit(at(&h, k.of), k.to, bit(v, k.bit))
			}
		}
		return h
	}
	if kind := v / 0x1000000000000000; strings.HasSuffix(name, "atp") && kind != 0 && kind != 8 {
		return h
	}
	field := at(&h, r.field)
	for i := range 64 {
		stays := name == "mstatus" && (i == 11 || i == 12) && bit(v, 12) == 1 && bit(v, 11) == 0
		if bit(r.mask, i) == 1 && !stays {
			putBit(field, i, bit(v, i))
		}
	}
	return h
}

// fix is the legal hart of h.
func (m *model) fix(h api.Hart) api.Hart {
	for _, r := range append(m.rows, row{field: "Mip", mask: 0x222}) {
		w := at(&h, r.field)
		for i := range 64 {
			if bit(r.mask, i) == 0 {
				putBit(w, i, bit(r.set, i))
			}
		}
		if kind := *w / 0x1000000000000000; strings.HasSuffix(r.field, "atp") && kind != 0 && kind != 8 {
			*w = 0
		}
	}
	if bit(h.Mstatus, 12) == 1 && bit(h.Mstatus, 11) == 0 {
		putBit(&h.Mstatus, 12, 0)
	}
	h.X[0] = 0
	h.Pc -= h.Pc % 4
	switch h.Priv {
	case 0, 1:
	case 3:
		h.V = false
	default:
		h.Priv = 0
	}
	h.Res = h.Res % 0x100000000000000 / 8 * 8
	if !h.Held {
		h.Res = 0
	}
	return h
}

// words are the names of all words of a hart that are registers' fields.
func words() []string {
	var l []string
	t := reflect.TypeOf(api.Hart{})
	for i := range t.NumField() {
		f := t.Field(i)
		if f.Type.Kind() == reflect.Uint64 && f.Name != "Pc" && f.Name != "Res" {
			l = append(l, f.Name)
		}
	}
	return l
}

// full is a hart all of whose words are ones, and all else too.
func full() api.Hart {
	h := api.Hart{Pc: all, Priv: 255, V: true, Wait: true, Held: true, Res: all}
	for i := range h.X {
		h.X[i] = all
	}
	for _, name := range words() {
		*at(&h, name) = all
	}
	return h
}

// mixer makes words that look like chance, and are the same in each run.
type mixer uint64

func (x *mixer) word() uint64 { return lay.Mix((*uint64)(x)) }

// hart makes a hart of such words; a third of them has few ones, a third many.
func (x *mixer) hart() api.Hart {
	kind := x.word() % 3
	word := func() uint64 {
		switch kind {
		case 0:
			return x.word() & x.word() & x.word()
		case 1:
			return x.word() | x.word() | x.word()
		}
		return x.word()
	}
	h := api.Hart{Pc: word(), Priv: byte(x.word() % 5), V: x.word()%2 == 0, Wait: x.word()%2 == 0, Held: x.word()%2 == 0, Res: word()}
	for i := range h.X {
		h.X[i] = word()
	}
	for _, name := range words() {
		*at(&h, name) = word()
	}
	return h
}

// lines makes lines of such words.
func (x *mixer) lines() api.Lines {
	b := x.word()
	return api.Lines{Msip: bit(b, 0) == 1, Mtip: bit(b, 1) == 1, Meip: bit(b, 2) == 1, Seip: bit(b, 3) == 1, Geip: x.word() & x.word(), Time: x.word()}
}

// someHarts are harts of noughts, of ones, the legal ones of these, and many others, some legal.
func someHarts(n int) []api.Hart {
	m := newModel()
	var l []api.Hart
	for _, h := range []api.Hart{{}, full()} {
		for _, priv := range []byte{api.User, api.Super, api.Machine, 2} {
			for _, v := range []bool{false, true} {
				h.Priv, h.V = priv, v
				l = append(l, h, m.fix(h))
			}
		}
	}
	x := mixer(12)
	for range n {
		h := x.hart()
		l = append(l, h, m.fix(h))
	}
	return l
}

// legalHarts are the legal ones of these.
func legalHarts(n int) []api.Hart {
	m := newModel()
	var l []api.Hart
	for _, h := range someHarts(n) {
		if h == m.fix(h) {
			l = append(l, h)
		}
	}
	return l
}

// someLines are lines without anything, with all, with one each, and others.
func someLines() []api.Lines {
	l := []api.Lines{
		{}, {Msip: true}, {Mtip: true}, {Meip: true}, {Seip: true}, {Geip: 1}, {Geip: 2}, {Geip: 4}, {Geip: all - 2}, {Time: 1}, {Time: all},
		{Msip: true, Mtip: true, Meip: true, Seip: true, Geip: all, Time: all},
	}
	x := mixer(7)
	for range 4 {
		l = append(l, x.lines())
	}
	return l
}

// someWords are noughts, ones, each bit by itself and each missing, kinds of tables, and others.
func someWords() []uint64 {
	l := []uint64{0, all, 0x1000, 0x800, 0x1800, 0xaaaaaaaaaaaaaaaa, 0x5555555555555555}
	for i := range 64 {
		l = append(l, 1<<i, all-1<<i)
	}
	for kind := range uint64(16) {
		l = append(l, kind<<60, kind<<60|1<<60-1)
	}
	x := mixer(9)
	for range 8 {
		l = append(l, x.word())
	}
	return l
}

// noRegisters are numbers that no register has.
func noRegisters() []int {
	l := []int{math.MinInt, math.MinInt + 1, math.MinInt32, math.MaxInt32, math.MaxInt - 1, math.MaxInt}
	for no := -4096; no < 2*4096; no++ {
		if !csrno.Known(no) {
			l = append(l, no)
		}
	}
	for _, no := range csrno.All() {
		l = append(l, no+1<<12, no+1<<16, no+1<<32, math.MinInt+no, -no)
	}
	return l
}

// The model itself is as the chapter says: 38 fields that are all words of a hart but Mip, and the masks that are told twice agree.
func TestTheChaptersTable(t *testing.T) {
	m := newModel()
	var fields []string
	for _, r := range m.rows {
		if r.no < 0 || r.mask&r.set != 0 {
			t.Errorf("%+v", r)
		}
		fields = append(fields, r.field)
	}
	want := words()
	slices.Sort(fields)
	slices.Sort(want)
	want = slices.DeleteFunc(want, func(s string) bool { return s == "Mip" })
	if len(m.rows) != 38 || !slices.Equal(fields, want) {
		t.Errorf("%d fields: %v, not %v", len(m.rows), fields, want)
	}
	for _, line := range strings.Split(bitsOf, "\n") {
		f := strings.Fields(line)
		var w uint64
		for _, digits := range f[1:] {
			i, _ := strconv.Atoi(digits)
			w += 1 << i
		}
		if r := m.byNo[csrno.Number(f[0])]; r.mask != w {
			t.Errorf("%s: %#x, and its bits %#x", f[0], r.mask, w)
		}
	}
}
