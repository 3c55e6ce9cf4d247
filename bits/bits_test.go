package bits

import (
	"math"
	"slices"
	"testing"
)

const all uint64 = math.MaxUint64

// words are ones whose edges the promises are about, with some that have no order.
func words() []uint64 {
	l := []uint64{0, 1, 2, 3, 0x7f, 0x80, 0xff, 0x100, 0xabcd, 1<<31 - 1, 1 << 31, 1<<32 - 1, 1 << 32, 1<<62 - 1, 1 << 62, 1<<63 - 1, 1 << 63, 1<<63 + 1, all - 127, all - 1, all}
	w := uint64(0x9e3779b97f4a7c15)
	for range 12 {
		w ^= w << 13
		w ^= w >> 7
		w ^= w << 17
		l = append(l, w)
	}
	return l
}

// numbers are places and widths: all that a word has, those beside them, and the farthest ones.
func numbers() []int {
	l := []int{math.MinInt, math.MinInt + 1, math.MinInt32, -65, -64, -2}
	for n := -1; n <= 66; n++ {
		l = append(l, n)
	}
	return append(l, 127, 128, 256, 1<<16, math.MaxInt32, 1<<32, 1<<32+1, math.MaxInt-1, math.MaxInt)
}

// bitOf asks for a bit by division, so that no shift of the program's own kind is trusted.
func bitOf(w uint64, i int) uint64 {
	for range i {
		w /= 2
	}
	return w % 2
}

// worth is what the bit i is worth.
func worth(i int) uint64 {
	w := uint64(1)
	for range i {
		w *= 2
	}
	return w
}

// length is how many bits the piece has, 0 if there is none.
func length(lo, n int) int {
	if lo < 0 || lo > 63 || n < 1 {
		return 0
	}
	return min(n, 64-lo)
}

// P1.1

func TestMask(t *testing.T) {
	for _, n := range numbers() {
		m := Mask(n)
		for i := range 64 {
			if one := bitOf(m, i) == 1; one != (i < n) {
				t.Errorf("Mask(%d): bit %d is %v", n, i, one)
			}
		}
	}
	for n, want := range map[int]uint64{-1: 0, 0: 0, 1: 1, 3: 7, 12: 4095, 32: 1<<32 - 1, 63: 1<<63 - 1, 64: all, 65: all, 99: all} {
		if Mask(n) != want {
			t.Errorf("Mask(%d) is %#x, not %#x", n, Mask(n), want)
		}
	}
}

func TestFieldOfEveryPiece(t *testing.T) {
	for _, w := range words() {
		for _, lo := range numbers() {
			for _, n := range numbers() {
				var want uint64
				for i := range length(lo, n) {
					want += bitOf(w, lo+i) * worth(i)
				}
				if got := Field(w, lo, n); got != want {
					t.Fatalf("Field(%#x, %d, %d) is %#x, not %#x", w, lo, n, got, want)
				}
			}
		}
	}
}

func TestPutOfEveryPiece(t *testing.T) {
	for k, w := range words() {
		v := words()[len(words())-1-k]
		for _, lo := range numbers() {
			for _, n := range numbers() {
				want := w
				for i := range length(lo, n) {
					want += (bitOf(v, i) - bitOf(w, lo+i)) * worth(lo+i)
				}
				if got := Put(w, lo, n, v); got != want {
					t.Fatalf("Put(%#x, %d, %d, %#x) is %#x, not %#x", w, lo, n, v, got, want)
				}
			}
		}
	}
}

func TestPiecesOfTheChapter(t *testing.T) {
	for i, x := range [][2]uint64{
		{Field(0xabcd, 4, 8), 0xbc}, {Field(0xabcd, 60, 9), 0}, {Field(1, 64, 1), 0}, {Field(5, 0, 0), 0},
		{Field(all, 60, 9), 15}, {Field(all, 63, math.MaxInt), 1}, {Field(all, 0, 64), all}, {Field(all, 0, 65), all}, {Field(all, -1, 64), 0}, {Field(all, 0, -1), 0}, {Field(all, 64, -1), 0},
		{Put(0xabcd, 4, 8, 0x112), 0xa12d}, {Put(0, 63, 5, 3), 1 << 63}, {Put(7, -1, 3, 0), 7},
		{Put(7, 64, 1, 1), 7}, {Put(7, 0, 0, 0), 7}, {Put(7, 0, -1, 0), 7}, {Put(7, 0, 64, 9), 9}, {Put(all, 0, 99, 0), 0}, {Put(all, 60, 99, 0), 1<<60 - 1},
	} {
		if x[0] != x[1] {
			t.Errorf("line %d: %#x, not %#x", i, x[0], x[1])
		}
	}
}

// P1.2

func TestSext(t *testing.T) {
	for _, w := range words() {
		for _, n := range numbers() {
			var want uint64
			for i := range 64 {
				if n >= 1 {
					want += bitOf(w, min(i, n-1)) * worth(i)
				}
			}
			if got := Sext(w, n); got != want {
				t.Errorf("Sext(%#x, %d) is %#x, not %#x", w, n, got, want)
			}
		}
	}
	for i, x := range [][2]uint64{
		{Sext(0x80, 8), all - 127}, {Sext(0x7f, 8), 127}, {Sext(3, 0), 0}, {Sext(5, 64), 5},
		{Sext(0x180, 8), all - 127}, {Sext(0x17f, 8), 127}, {Sext(1, 1), all}, {Sext(2, 1), 0}, {Sext(1<<62, 63), 3 << 62}, {Sext(1<<63, 63), 0}, {Sext(all, -1), 0}, {Sext(1<<63, 65), 1 << 63},
	} {
		if x[0] != x[1] {
			t.Errorf("line %d: %#x, not %#x", i, x[0], x[1])
		}
	}
}

func TestCanon(t *testing.T) {
	for _, w := range words() {
		for _, n := range numbers() {
			want := n >= 1
			for i := 0; i < 64; i++ {
				if n >= 1 && n <= 63 && i >= n-1 && bitOf(w, i) != bitOf(w, 63) {
					want = false
				}
			}
			if Canon(w, n) != want {
				t.Errorf("Canon(%#x, %d) is not %v", w, n, want)
			}
		}
	}
	for i, x := range []struct{ is, want bool }{
		{Canon(all-127, 8), true}, {Canon(0x80, 8), false}, {Canon(0x7f, 8), true}, {Canon(1, 0), false},
		{Canon(0, 0), false}, {Canon(0, -1), false}, {Canon(1, 1), false}, {Canon(all, 1), true}, {Canon(1<<62, 63), false}, {Canon(1<<63, 63), false}, {Canon(3<<62, 63), true}, {Canon(1<<63, 64), true}, {Canon(1, math.MaxInt), true},
	} {
		if x.is != x.want {
			t.Errorf("line %d: %v", i, x.is)
		}
	}
}

// P1.3

func TestUp(t *testing.T) {
	for _, x := range []struct {
		a, size, want uint64
		ok            bool
	}{
		{5, 4, 8, true}, {8, 4, 8, true}, {0, 4096, 0, true}, {1, 0, 0, false}, {all, 2, 0, false},
		{0, 0, 0, false}, {0, all, 0, true}, {1, all, all, true}, {all, 1, all, true}, {all, all, all, true}, {all, 3, all, true}, {all - 1, 3, all, true}, {all - 1, all, all, true},
		{1 << 63, 1 << 63, 1 << 63, true}, {1<<63 + 1, 1 << 63, 0, false}, {1, 1 << 63, 1 << 63, true}, {all - 4095, 4096, all - 4095, true}, {all - 4094, 4096, 0, false}, {10, 7, 14, true}, {4097, 4096, 8192, true}, {all, all - 1, 0, false},
	} {
		if got, ok := Up(x.a, x.size); got != x.want || ok != x.ok {
			t.Errorf("Up(%d, %d) is %d, %v", x.a, x.size, got, ok)
		}
	}
}

func TestUpIsTheLeast(t *testing.T) {
	for _, size := range []uint64{1, 2, 3, 7, 8, 10, 64} {
		for a := range uint64(200) {
			want := a
			for want%size != 0 {
				want++
			}
			if got, ok := Up(a, size); got != want || !ok {
				t.Errorf("Up(%d, %d) is %d, %v", a, size, got, ok)
			}
		}
		for a := all; a > all-200; a-- {
			// The last multiple of all is the last that may be answered.
			last := all - all%size
			got, ok := Up(a, size)
			if ok != (a <= last) || !ok && got != 0 || ok && (got < a || got-a >= size || got%size != 0) {
				t.Errorf("Up(%d, %d) is %d, %v", a, size, got, ok)
			}
		}
	}
}

// P1.4

type port uint8

// bitsOf holds Bit of one width against what division says.
func bitsOf[T Word](t *testing.T, has int, put func(uint64) T) {
	t.Helper()
	for _, w := range words() {
		v := put(w)
		for _, i := range numbers() {
			want := i >= 0 && i < has && bitOf(w, i) == 1
			if Bit(v, i) != want {
				t.Errorf("Bit of %d bits: Bit(%#x, %d) is not %v", has, v, i, want)
			}
		}
	}
}

func TestBitOfAllWidths(t *testing.T) {
	bitsOf(t, 8, func(w uint64) uint8 { return uint8(w) })
	bitsOf(t, 16, func(w uint64) uint16 { return uint16(w) })
	bitsOf(t, 32, func(w uint64) uint32 { return uint32(w) })
	bitsOf(t, 64, func(w uint64) uint64 { return w })
	bitsOf(t, 8, func(w uint64) port { return port(w) })
	if !Bit(uint8(0x80), 7) || Bit(uint8(0x80), 8) || Bit(uint8(0xff), -1) || Bit(uint16(1<<15), 16) || Bit(uint32(1<<31), 32) || Bit(all, 64) || !Bit(all, 63) {
		t.Error("an edge of Bit")
	}
}

func TestOf(t *testing.T) {
	for i, x := range [][2]uint64{
		{Of(0, 3, 64), 9}, {Of(), 0}, {Of(nil...), 0}, {Of(63), 1 << 63}, {Of(63, 63, 63), 1 << 63}, {Of(-1, 64, 65, 128, math.MinInt, math.MaxInt), 0}, {Of(5, 4, -64, 5, 1<<32), 48}, {Of([]int{1, 2}...), 6},
	} {
		if x[0] != x[1] {
			t.Errorf("line %d: %#x, not %#x", i, x[0], x[1])
		}
	}
	for i := range 64 {
		if Of(i) != worth(i) {
			t.Errorf("Of(%d) is %#x", i, Of(i))
		}
	}
	if Of(numbers()...) != all {
		t.Error("Of all numbers")
	}
}

func TestOnes(t *testing.T) {
	for _, w := range words() {
		var want []int
		for i := range 64 {
			if bitOf(w, i) == 1 {
				want = append(want, i)
			}
		}
		if !slices.Equal(Ones(w), want) {
			t.Errorf("Ones(%#x) is %v", w, Ones(w))
		}
	}
	if !slices.Equal(Ones(9), []int{0, 3}) || !slices.Equal(Ones(1<<63), []int{63}) || len(Ones(0)) != 0 || len(Ones(all)) != 64 {
		t.Error("an edge of Ones")
	}
}

// P1.5

func TestOfOnlyReads(t *testing.T) {
	whole := []int{7, 64, -1, 7, 0, 99}
	Of(whole[:4]...)
	if !slices.Equal(whole, []int{7, 64, -1, 7, 0, 99}) {
		t.Errorf("Of made of its list %v", whole)
	}
}

func TestOnesIsNewMemory(t *testing.T) {
	for _, w := range []uint64{1, 0xf0f0, all} {
		first, second := Ones(w), Ones(w)
		room := first[:cap(first)]
		for i := range room {
			room[i] = -1
		}
		// The second list is looked at ahead of a further call, which might write it anew.
		if slices.Contains(second, -1) {
			t.Errorf("Ones(%#x): two lists share: %v", w, second)
		}
		if third := Ones(w); Of(third...) != w || slices.Contains(third, -1) {
			t.Errorf("Ones(%#x) keeps its list: %v", w, third)
		}
	}
}

// P1.6

func TestPutAndField(t *testing.T) {
	for _, w := range words() {
		for _, v := range []uint64{0, 1, 0xa5a5a5a5a5a5a5a5, all} {
			for lo := range 64 {
				for n := 1; n <= 66; n++ {
					whole := Put(w, lo, n, v)
					if Field(whole, lo, n) != Field(v, 0, length(lo, n)) {
						t.Fatalf("Field of Put(%#x, %d, %d, %#x)", w, lo, n, v)
					}
					if Field(whole, 0, lo) != Field(w, 0, lo) || Field(whole, lo+n, 64) != Field(w, lo+n, 64) {
						t.Fatalf("what lies beside Put(%#x, %d, %d, %#x)", w, lo, n, v)
					}
					if Put(w, lo, n, Field(w, lo, n)) != w {
						t.Fatalf("Put of Field(%#x, %d, %d)", w, lo, n)
					}
				}
			}
		}
	}
}

func TestSextAndCanon(t *testing.T) {
	for _, w := range words() {
		for _, n := range numbers() {
			s := Sext(w, n)
			if n >= 1 && (!Canon(s, n) || Field(s, 0, n) != Field(w, 0, n)) {
				t.Errorf("Sext(%#x, %d) is %#x", w, n, s)
			}
			if Canon(w, n) && s != w {
				t.Errorf("%#x is canonical of %d bits, and Sext tells %#x", w, n, s)
			}
		}
	}
}

func TestOfAndOnes(t *testing.T) {
	for _, w := range words() {
		if Of(Ones(w)...) != w {
			t.Errorf("Of of Ones of %#x is %#x", w, Of(Ones(w)...))
		}
	}
}

func TestUpOfAMultiple(t *testing.T) {
	for _, size := range words() {
		if size == 0 {
			continue
		}
		for _, k := range []uint64{0, 1, 2, all / size} {
			if k > all/size {
				continue
			}
			if got, ok := Up(k*size, size); got != k*size || !ok {
				t.Errorf("Up(%d, %d) is %d, %v", k*size, size, got, ok)
			}
		}
	}
}
