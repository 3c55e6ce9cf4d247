package fields

import (
	"math"
	"testing"
)

const all uint32 = math.MaxUint32

// The calls have the signatures of the chapter.
var (
	_ func(uint32, int, int) uint32   = Field
	_ func(int, uint32) (int64, bool) = Number
	_ func(int, int64) bool           = Fits
	_ func(int, int64) (uint32, bool) = Put
	_ func(int) uint32                = Bits
)

// nought is a number's bit that is 0 in all words.
const nought = -1

// model is a form bit by bit: of each bit of its number, the highest first, which one of the word it is; and the edges of what fits.
type model struct {
	form            int
	bits            []int
	least, greatest int64
}

// models are all forms.
var models = []model{
	{1, []int{31, 30, 29, 28, 27, 26, 25, 24, 23, 22, 21, 20}, -2048, 2047},
	{2, []int{31, 30, 29, 28, 27, 26, 25, 11, 10, 9, 8, 7}, -2048, 2047},
	{3, []int{31, 7, 30, 29, 28, 27, 26, 25, 11, 10, 9, 8, nought}, -4096, 4094},
	{4, []int{31, 30, 29, 28, 27, 26, 25, 24, 23, 22, 21, 20, 19, 18, 17, 16, 15, 14, 13, 12, nought, nought, nought, nought, nought, nought, nought, nought, nought, nought, nought, nought}, -2147483648, 2147479552},
	{5, []int{31, 19, 18, 17, 16, 15, 14, 13, 12, 20, 30, 29, 28, 27, 26, 25, 24, 23, 22, 21, nought}, -1048576, 1048574},
	{6, []int{25, 24, 23, 22, 21, 20}, 0, 63},
	{7, []int{24, 23, 22, 21, 20}, 0, 31},
	{8, []int{31, 30, 29, 28, 27, 26, 25, 24, 23, 22, 21, 20}, 0, 4095},
	{9, []int{19, 18, 17, 16, 15}, 0, 31},
}

// signed says whether the number's highest bit is worth less than 0.
func (m model) signed() bool { return m.least < 0 }

// step is by how much two numbers that fit are apart at least.
func (m model) step() int64 {
	n := int64(1)
	for _, b := range m.bits {
		if b == nought {
			n *= 2
		}
	}
	return n
}

// number adds up what the bits of w are worth.
func (m model) number(w uint32) int64 {
	var n int64
	worth := int64(1)
	for i := len(m.bits) - 1; i >= 0; i-- {
		if b := m.bits[i]; b != nought && bitOf(w, b) == 1 {
			if i == 0 && m.signed() {
				n -= worth
			} else {
				n += worth
			}
		}
		worth *= 2
	}
	return n
}

// word is made of the rests by 2 of an n that fits; what is added to one below 0 is beyond all forms' bits.
func (m model) word(n int64) uint32 {
	if n < 0 {
		n += 1 << 32
	}
	var w uint32
	for i := len(m.bits) - 1; i >= 0; i-- {
		if b := m.bits[i]; b != nought && n%2 == 1 {
			w += worth(b)
		}
		n /= 2
	}
	return w
}

// taken is the word of the bits that the number takes.
func (m model) taken() uint32 {
	var w uint32
	for _, b := range m.bits {
		if b != nought {
			w += worth(b)
		}
	}
	return w
}

// fits says whether n stands between the edges, at a step.
func (m model) fits(n int64) bool { return n >= m.least && n <= m.greatest && n%m.step() == 0 }

// bitOf asks for a bit by division, so that no shift of the program's own kind is trusted.
func bitOf(w uint32, i int) uint32 {
	for range i {
		w /= 2
	}
	return w % 2
}

// worth is what the bit i is worth.
func worth(i int) uint32 {
	w := uint32(1)
	for range i {
		w *= 2
	}
	return w
}

// words are those of no bits, one, two and nearly all bits, and some that have no order.
func words() []uint32 {
	l := []uint32{0, all, 0x00500093, 0xfff00093, 0xfe209ee3, 0x30529073, 0xaaaaaaaa, 0x55555555}
	for i := range 32 {
		for k := range i + 1 {
			l = append(l, worth(i)|worth(k), all^worth(i)^worth(k), worth(i)-worth(k))
		}
	}
	w := uint32(0x9e3779b9)
	for range 300 {
		w ^= w << 13
		w ^= w >> 17
		w ^= w << 5
		l = append(l, w)
	}
	return l
}

// places are all that a word has, those beside them, and far ones.
func places() []int {
	l := []int{math.MinInt, math.MinInt + 1, math.MinInt32, -1 << 32, -64, -33, -32, -31}
	for i := -3; i <= 35; i++ {
		l = append(l, i)
	}
	return append(l, 63, 64, 95, 256, 1<<32, 1<<32+5, math.MaxInt32, math.MaxInt-1, math.MaxInt)
}

// noForms are numbers that are no form's, some of which would be one's if they were cut.
func noForms() []int {
	l := []int{math.MinInt, math.MinInt + 1, math.MinInt32, -10, -9, -2, -1, 0, 10, 11, 12, 31, 32, 100, math.MaxInt32, math.MaxInt - 1, math.MaxInt}
	for form := 1; form <= 9; form++ {
		l = append(l, -form, form+16, form+1<<8, form+1<<16, form+1<<32, math.MinInt+form)
	}
	return l
}

// numbers are those at and about the edges of all forms, at and about each power of 2, and far ones.
func numbers() []int64 {
	l := []int64{math.MinInt64, math.MinInt64 + 1, math.MaxInt64 - 1, math.MaxInt64, 1<<62 + 5, -1<<62 - 5, 1<<32 + 4096, 1<<63 - 4096, -1<<63 + 4096, 6148914691236517205, -6148914691236517206}
	for i := range 63 {
		for d := int64(-5); d <= 5; d++ {
			l = append(l, 1<<i+d, -1<<i+d)
		}
	}
	for _, m := range models {
		for d := int64(-3); d <= 3; d++ {
			l = append(l, m.least+d, m.greatest+d, m.least+d*m.step(), m.greatest+d*m.step(), m.greatest/2+d, m.least/2+d)
		}
	}
	return l
}

// everyNumber goes over all that fit a form.
func everyNumber(m model, do func(n int64)) {
	for n := m.least; n <= m.greatest; n += m.step() {
		do(n)
	}
}

// numberIs holds Number against what it shall tell.
func numberIs(t *testing.T, form int, w uint32, want int64, wantOk bool) {
	t.Helper()
	if n, ok := Number(form, w); n != want || ok != wantOk {
		t.Fatalf("Number(%d, %#08x) is %d, %v, not %d, %v", form, w, n, ok, want, wantOk)
	}
}

// putIs holds Put and Fits against what they shall tell.
func putIs(t *testing.T, form int, n int64, want uint32, wantOk bool) {
	t.Helper()
	if w, ok := Put(form, n); w != want || ok != wantOk {
		t.Fatalf("Put(%d, %d) is %#08x, %v, not %#08x, %v", form, n, w, ok, want, wantOk)
	}
	if Fits(form, n) != wantOk {
		t.Fatalf("Fits(%d, %d) is not %v", form, n, wantOk)
	}
}

// The forms are numbered as the chapter says.
func TestForms(t *testing.T) {
	for i, form := range []int{FormI, FormS, FormB, FormU, FormJ, FormH, FormW, FormC, FormZ} {
		if form != i+1 || models[i].form != form {
			t.Errorf("the form %d is %d", i+1, form)
		}
	}
}

// P8.1

func TestFieldOfEveryPlace(t *testing.T) {
	for _, w := range words() {
		for _, high := range places() {
			for _, low := range places() {
				var want uint32
				if low >= 0 && low <= high && high <= 31 {
					for i := low; i <= high; i++ {
						want += bitOf(w, i) * worth(i-low)
					}
				}
				if got := Field(w, high, low); got != want {
					t.Fatalf("Field(%#08x, %d, %d) is %#x, not %#x", w, high, low, got, want)
				}
			}
		}
	}
}

func TestFieldsOfTheChapter(t *testing.T) {
	// csrrw x9, x5, 773 and hsv.d x12, (x11) have all their fields apart.
	const csrrw, hsv = 0x305294f3, 0x6ec5c073
	for i, x := range [][2]uint32{
		{Field(0xfff00093, 31, 20), 0xfff}, {Field(all, 3, 7), 0}, {Field(all, 32, 0), 0},
		{Field(all, 31, 0), all}, {Field(all, 31, -1), 0}, {Field(all, 32, 32), 0}, {Field(all, -1, -1), 0}, {Field(all, 0, 1), 0},
		{Field(all, 31, 31), 1}, {Field(all, 0, 0), 1}, {Field(1<<31, 31, 31), 1}, {Field(1<<31, 30, 0), 0}, {Field(2, 0, 0), 0}, {Field(all, 31, 1), 1<<31 - 1},
		{Field(csrrw, 6, 0), 0x73}, {Field(csrrw, 11, 7), 9}, {Field(csrrw, 14, 12), 1}, {Field(csrrw, 19, 15), 5}, {Field(csrrw, 31, 20), 773},
		{Field(hsv, 6, 0), 0x73}, {Field(hsv, 11, 7), 0}, {Field(hsv, 14, 12), 4}, {Field(hsv, 19, 15), 11}, {Field(hsv, 24, 20), 12}, {Field(hsv, 31, 25), 0x37},
	} {
		if x[0] != x[1] {
			t.Errorf("line %d: %#x, not %#x", i, x[0], x[1])
		}
	}
}

// P8.2

func TestNumberOfEveryForm(t *testing.T) {
	for _, m := range models {
		for _, w := range words() {
			numberIs(t, m.form, w, m.number(w), true)
		}
	}
}

// Each bit of the word is worth what the table says, and nothing where it is not named.
func TestNumberOfEachBit(t *testing.T) {
	for _, m := range models {
		left := int64(0)
		for i := range 32 {
			want := m.number(worth(i))
			numberIs(t, m.form, worth(i), want, true)
			left += want
		}
		numberIs(t, m.form, all, left, true)
	}
}

func TestNumbersOfTheChapter(t *testing.T) {
	for _, x := range []struct {
		form int
		w    uint32
		n    int64
	}{
		{FormI, 0xfff00093, -1}, {FormU, 0x80000037, -2147483648},
		{FormI, 0x00500093, 5}, {FormI, 0x80000003, -2048}, {FormI, 0x7ff00003, 2047}, {FormI, 0x000fffff, 0},
		{FormS, 0xfe113c23, -8}, {FormS, 0x00113423, 8}, {FormS, 0x80000023, -2048}, {FormS, 0x7e000fa3, 2047}, {FormS, 0x01fff07f, 0},
		{FormB, 0xfe209ee3, -4}, {FormB, 0x00000063, 0}, {FormB, 0x000000e3, 2048}, {FormB, 0x80000063, -4096}, {FormB, 0x7e000fe3, 4094}, {FormB, 0x01fff07f, 0},
		{FormU, 0x7ffff0b7, 2147479552}, {FormU, 0x00001fff, 4096}, {FormU, 0xffffffff, -4096}, {FormU, 0x00000fff, 0},
		{FormJ, 0x0040006f, 4}, {FormJ, 0xffdff06f, -4}, {FormJ, 0x8000006f, -1048576}, {FormJ, 0x0010006f, 2048}, {FormJ, 0x7ffff0ef, 1048574}, {FormJ, 0x000ff06f, 1044480},
		{FormH, 0x03f29293, 63}, {FormH, 0x01f29293, 31}, {FormH, 0xfc0fffff, 0}, {FormH, 0xffffffff, 63}, {FormH, 0x02000013, 32},
		{FormW, 0x4105d59b, 16}, {FormW, 0xfe0fffff, 0}, {FormW, 0xffffffff, 31},
		{FormC, 0x30529073, 773}, {FormC, 0xffffffff, 4095}, {FormC, 0x80000073, 2048}, {FormC, 0x000fffff, 0},
		{FormZ, 0x3001d0f3, 3}, {FormZ, 0xffffffff, 31}, {FormZ, 0xfff07fff, 0}, {FormZ, 0x00080000, 16},
	} {
		numberIs(t, x.form, x.w, x.n, true)
	}
}

func TestNumberOfNoForm(t *testing.T) {
	for _, form := range noForms() {
		for _, w := range words() {
			numberIs(t, form, w, 0, false)
		}
	}
}

// P8.3

func TestPutOfEveryNumber(t *testing.T) {
	for _, m := range models {
		count := 0
		everyNumber(m, func(n int64) {
			putIs(t, m.form, n, m.word(n), true)
			count++
		})
		said := 1
		for _, b := range m.bits {
			if b != nought {
				said *= 2
			}
		}
		if count != said {
			t.Fatalf("%d numbers fit the form %d, which may say %d", count, m.form, said)
		}
	}
}

// What does not fit stands between what does, beyond the edges, or would fit if it were cut.
func TestPutOfWrongNumbers(t *testing.T) {
	for _, m := range models {
		for _, n := range numbers() {
			if m.fits(n) {
				putIs(t, m.form, n, m.word(n), true)
			} else {
				putIs(t, m.form, n, 0, false)
			}
		}
		for n := m.least - 9000; n < m.least; n++ {
			putIs(t, m.form, n, 0, false)
		}
		for n := m.greatest + 1; n < m.greatest+9000; n++ {
			putIs(t, m.form, n, 0, false)
		}
		for n := int64(-9000); n < 9000; n++ {
			if !m.fits(n) {
				putIs(t, m.form, n, 0, false)
			}
		}
	}
}

func TestPutsOfTheChapter(t *testing.T) {
	for _, x := range []struct {
		form int
		n    int64
		w    uint32
		ok   bool
	}{
		{FormB, -2, 0xfe000f80, true}, {FormB, 3, 0, false}, {FormB, 4096, 0, false}, {FormJ, -1048576, 0x80000000, true},
		{FormS, 2047, 0x7e000f80, true}, {FormH, 64, 0, false},
		{FormI, -2048, 0x80000000, true}, {FormI, -2049, 0, false}, {FormI, 2047, 0x7ff00000, true}, {FormI, 2048, 0, false}, {FormI, -1, 0xfff00000, true}, {FormI, 0, 0, true}, {FormI, 4095, 0, false},
		{FormS, -2048, 0x80000000, true}, {FormS, -2049, 0, false}, {FormS, 2048, 0, false}, {FormS, 31, 0x00000f80, true}, {FormS, 32, 0x02000000, true},
		{FormB, -4096, 0x80000000, true}, {FormB, -4098, 0, false}, {FormB, 4094, 0x7e000f80, true}, {FormB, 4095, 0, false}, {FormB, 2048, 0x00000080, true}, {FormB, -1, 0, false}, {FormB, 1, 0, false},
		{FormU, -2147483648, 0x80000000, true}, {FormU, -2147483649, 0, false}, {FormU, 2147479552, 0x7ffff000, true}, {FormU, 2147483647, 0, false}, {FormU, 2147483648, 0, false}, {FormU, 1, 0, false}, {FormU, 4095, 0, false}, {FormU, -1, 0, false}, {FormU, -4096, 0xfffff000, true}, {FormU, 4294963200, 0, false},
		{FormJ, -1048578, 0, false}, {FormJ, 1048574, 0x7ffff000, true}, {FormJ, 1048576, 0, false}, {FormJ, 2048, 0x00100000, true}, {FormJ, 4096, 0x00001000, true}, {FormJ, 2, 0x00200000, true}, {FormJ, 1, 0, false},
		{FormH, 63, 0x03f00000, true}, {FormH, -1, 0, false}, {FormH, 32, 0x02000000, true},
		{FormW, 31, 0x01f00000, true}, {FormW, 32, 0, false}, {FormW, -1, 0, false},
		{FormC, 4095, 0xfff00000, true}, {FormC, 4096, 0, false}, {FormC, -1, 0, false}, {FormC, 2048, 0x80000000, true},
		{FormZ, 31, 0x000f8000, true}, {FormZ, 32, 0, false}, {FormZ, -1, 0, false}, {FormZ, 0, 0, true},
		{FormI, 1 << 32, 0, false}, {FormZ, 1<<32 + 1, 0, false}, {FormC, math.MinInt64, 0, false}, {FormU, math.MinInt64, 0, false}, {FormU, 1<<63 - 4096, 0, false},
	} {
		putIs(t, x.form, x.n, x.w, x.ok)
	}
}

func TestPutOfNoForm(t *testing.T) {
	for _, form := range noForms() {
		for _, n := range numbers() {
			putIs(t, form, n, 0, false)
		}
		putIs(t, form, 0, 0, false)
	}
}

func TestBits(t *testing.T) {
	for i, want := range []uint32{0xfff00000, 0xfe000f80, 0xfe000f80, 0xfffff000, 0xfffff000, 0x03f00000, 0x01f00000, 0xfff00000, 0x000f8000} {
		if got := Bits(i + 1); got != want || got != models[i].taken() {
			t.Errorf("Bits(%d) is %#08x, not %#08x", i+1, got, want)
		}
	}
	for _, form := range noForms() {
		if Bits(form) != 0 {
			t.Errorf("Bits(%d) is %#08x", form, Bits(form))
		}
	}
}

// P8.4

func TestNumberOfPut(t *testing.T) {
	for _, m := range models {
		everyNumber(m, func(n int64) {
			w, _ := Put(m.form, n)
			numberIs(t, m.form, w, n, true)
			if w&^Bits(m.form) != 0 {
				t.Fatalf("Put(%d, %d) is %#08x, with bits that the form has not", m.form, n, w)
			}
		})
	}
}

func TestPutOfNumber(t *testing.T) {
	for _, m := range models {
		for _, w := range words() {
			n, _ := Number(m.form, w)
			putIs(t, m.form, n, w&Bits(m.form), true)
		}
	}
}

func TestOtherBitsAreNoMatter(t *testing.T) {
	for _, m := range models {
		for _, n := range []int64{m.least, m.least + m.step(), 0, m.step(), m.greatest - m.step(), m.greatest} {
			own, ok := Put(m.form, n)
			if !ok {
				t.Fatalf("Put(%d, %d) is none", m.form, n)
			}
			for _, other := range words() {
				numberIs(t, m.form, own|other&^Bits(m.form), n, true)
			}
		}
	}
}

// Each bit that the form takes changes its number.
func TestEachBitOfTheFormMatters(t *testing.T) {
	for _, m := range models {
		for _, w := range words() {
			n, _ := Number(m.form, w)
			for i := range 32 {
				other, _ := Number(m.form, w^worth(i))
				if taken := bitOf(Bits(m.form), i) == 1; (other != n) != taken {
					t.Fatalf("Number(%d, %#08x) is %d, and %d with another bit %d", m.form, w, n, other, i)
				}
			}
		}
	}
}
