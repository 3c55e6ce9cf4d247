package arith

import (
	"math"
	"math/big"
	"testing"

	"mezzanine/api"
)

// The chapter's M and L, and the least half.
const (
	m   uint64 = math.MaxUint64
	l   uint64 = 1 << 63
	l32 uint64 = 1 << 31
)

// op is an operation as Do knows it, with its function (nil, if it has none of its own) and what it shall tell.
type op struct {
	name string
	op   int
	word bool
	f    func(a, b uint64) uint64
	want func(a, b uint64) uint64
}

// ops are all operations. What they shall tell is reckoned with numbers of any size, whose products and quotients lose nothing.
func ops() []op {
	return []op{
		{"Mul", OpMul, false, nil, product(true, true, 64, 0)},
		{"Mulh", OpMulh, false, Mulh, product(true, true, 64, 64)},
		{"Mulhsu", OpMulhsu, false, Mulhsu, product(true, false, 64, 64)},
		{"Mulhu", OpMulhu, false, Mulhu, product(false, false, 64, 64)},
		{"Div", OpDiv, false, Div, quotient(true, 64)},
		{"Divu", OpDivu, false, Divu, quotient(false, 64)},
		{"Rem", OpRem, false, Rem, rest(true, 64)},
		{"Remu", OpRemu, false, Remu, rest(false, 64)},
		{"Mulw", OpMul, true, Mulw, product(true, true, 32, 0)},
		{"Divw", OpDiv, true, Divw, quotient(true, 32)},
		{"Divuw", OpDivu, true, Divuw, quotient(false, 32)},
		{"Remw", OpRem, true, Remw, rest(true, 32)},
		{"Remuw", OpRemu, true, Remuw, rest(false, 32)},
	}
}

func product(signedA, signedB bool, n, from uint) func(a, b uint64) uint64 {
	return func(a, b uint64) uint64 {
		p := new(big.Int).Mul(number(a, signedA, n), number(b, signedB, n))
		return wordOf(p.Rsh(p, from), n)
	}
}

func quotient(signed bool, n uint) func(a, b uint64) uint64 {
	return func(a, b uint64) uint64 {
		d := number(b, signed, n)
		if d.Sign() == 0 {
			return m
		}
		return wordOf(d.Quo(number(a, signed, n), d), n)
	}
}

func rest(signed bool, n uint) func(a, b uint64) uint64 {
	return func(a, b uint64) uint64 {
		c, d := number(a, signed, n), number(b, signed, n)
		if d.Sign() == 0 {
			return wordOf(c, n)
		}
		return wordOf(d.Rem(c, d), n)
	}
}

// round is 2^n.
func round(n uint) *big.Int {
	return new(big.Int).Lsh(big.NewInt(1), n)
}

// number is the lowest n bits of w as a number.
func number(w uint64, signed bool, n uint) *big.Int {
	x := new(big.Int).SetUint64(w)
	x.Mod(x, round(n))
	if signed && x.Cmp(round(n-1)) >= 0 {
		x.Sub(x, round(n))
	}
	return x
}

// wordOf is x cut to n bits, and drawn out by the highest of them.
func wordOf(x *big.Int, n uint) uint64 {
	x = new(big.Int).Mod(x, round(n))
	if x.Cmp(round(n-1)) >= 0 {
		x.Add(x, round(64)).Sub(x, round(n))
	}
	return x.Uint64()
}

// words are the edges of words and of halves, with some that have no order.
func words() []uint64 {
	w := []uint64{0, 1, 2, 3, 7, 10, 1<<16 - 1, l32 - 1, l32, l32 + 1, 1<<32 - 7, 1<<32 - 1, 1 << 32, 1<<32 + 1, 1<<32 + l32, 5<<32 + 3, l32 << 32, l - 1, l, l + 1, l + l32, m - l32, m - l32 + 1, m - 1<<32 + 1, m - 9, m - 6, m - 2, m - 1, m}
	x := uint64(0x9e3779b97f4a7c15)
	for i := range 24 {
		x ^= x << 13
		x ^= x >> 7
		x ^= x << 17
		// Small ones among them let quotients be of all lengths.
		w = append(w, x>>(i*5%64))
	}
	return w
}

// eachPair goes through all pairs of words.
func eachPair(f func(a, b uint64)) {
	for _, a := range words() {
		for _, b := range words() {
			f(a, b)
		}
	}
}

// same holds what was told against what shall be told, a line each.
func same(t *testing.T, lines [][2]uint64) {
	t.Helper()
	for i, x := range lines {
		if x[0] != x[1] {
			t.Errorf("line %d: %#x, not %#x", i, x[0], x[1])
		}
	}
}

// P2.1 to P2.3

func TestAllFunctions(t *testing.T) {
	for _, o := range ops() {
		if o.f == nil {
			continue
		}
		eachPair(func(a, b uint64) {
			if got, want := o.f(a, b), o.want(a, b); got != want {
				t.Errorf("%s(%#x, %#x) is %#x, not %#x", o.name, a, b, got, want)
			}
		})
	}
}

// P2.1

func TestUpperHalves(t *testing.T) {
	same(t, [][2]uint64{
		{Mulhu(m, m), m - 1}, {Mulh(m, m), 0}, {Mulhsu(m, m), m}, {Mulh(l, l), 1 << 62}, {Mulhu(l, 2), 1},
		{Mulhu(l, l), 1 << 62}, {Mulhsu(l, l), 3 << 62}, {Mulh(l, 2), m}, {Mulh(2, l), m}, {Mulhsu(2, l), 1}, {Mulhsu(l, 2), m},
		{Mulh(m, 1), m}, {Mulh(1, m), m}, {Mulhsu(m, 1), m}, {Mulhsu(1, m), 0}, {Mulhu(1, m), 0}, {Mulhu(m, 1), 0},
		{Mulh(0, m), 0}, {Mulhsu(m, 0), 0}, {Mulhsu(0, m), 0}, {Mulhu(0, m), 0}, {Mulh(l, m), 0}, {Mulhsu(l, m), l}, {Mulhsu(m, l), m}, {Mulhu(l, m), l - 1},
		{Mulh(l-1, l-1), 1<<62 - 1}, {Mulh(l-1, l), 3 << 62}, {Mulhu(1<<32, 1<<32), 1}, {Mulhu(1<<32, 1<<32-1), 0}, {Mulhu(1<<32-1, 1<<32+1), 0},
	})
}

// P2.2

func TestQuotientsAndRests(t *testing.T) {
	same(t, [][2]uint64{
		{Div(l, m), l}, {Rem(l, m), 0}, {Div(7, 0), m}, {Rem(7, 0), 7}, {Div(m-6, 2), m - 2}, {Rem(m-6, 2), m},
		{Divu(m, 2), l - 1}, {Remu(m, 10), 5}, {Divu(1, 0), m}, {Remu(1, 0), 1},
		{Div(7, m-1), m - 2}, {Rem(7, m-1), 1}, {Div(m-6, m-1), 3}, {Rem(m-6, m-1), m}, {Div(7, 2), 3}, {Rem(7, 2), 1},
		{Div(0, 0), m}, {Rem(0, 0), 0}, {Div(l, 0), m}, {Rem(l, 0), l}, {Div(m, 0), m}, {Rem(m, 0), m}, {Divu(0, 0), m}, {Remu(0, 0), 0}, {Divu(m, 0), m}, {Remu(m, 0), m}, {Remu(l, 0), l},
		{Div(l, 1), l}, {Rem(l, 1), 0}, {Div(l, l), 1}, {Rem(l, l), 0}, {Div(l-1, m), l + 1}, {Div(l-1, l), 0}, {Rem(l-1, l), l - 1}, {Div(l, l-1), m}, {Rem(l, l-1), m},
		{Divu(l, m), 0}, {Remu(l, m), l}, {Divu(m, m), 1}, {Remu(m, m), 0}, {Divu(m-1, m), 0}, {Remu(m-1, m), m - 1}, {Divu(m, l), 1}, {Remu(m, l), l - 1}, {Divu(0, m), 0},
	})
}

// P2.3

func TestHalves(t *testing.T) {
	same(t, [][2]uint64{
		{Mulw(l32, 3), m - l32 + 1}, {Divw(l32, m), m - l32 + 1}, {Remw(l32, m), 0}, {Divuw(1<<32-1, 1), m}, {Remuw(l32, 0), m - l32 + 1},
		{Mulw(l32, 2), 0}, {Mulw(1<<16, 1<<15), m - l32 + 1}, {Mulw(1<<32-1, 1<<32-1), 1}, {Mulw(1<<32, 1<<32), 0}, {Mulw(l32-1, 2), m - 1}, {Mulw(5<<32+3, 9<<32+7), 21},
		{Divw(7, 0), m}, {Remw(7, 0), 7}, {Divuw(7, 0), m}, {Remuw(7, 0), 7}, {Divw(l32, 0), m}, {Remw(l32, 0), m - l32 + 1}, {Remw(5<<32+7, 0), 7}, {Remuw(5<<32+7, 0), 7}, {Remuw(1<<32-1, 0), m}, {Divw(0, 0), m}, {Divuw(0, 0), m},
		{Divw(9, 1<<32), m}, {Divuw(9, 1<<32), m}, {Remw(9, 1<<32), 9}, {Remuw(9, 1<<32), 9},
		{Divw(l32, 1<<32-1), m - l32 + 1}, {Remw(l32, 1<<32-1), 0}, {Divw(7<<32+l32, 5<<32-1), m - l32 + 1}, {Divw(l32, 1), m - l32 + 1}, {Divw(l32-1, m), m - l32 + 2},
		{Divw(1<<32-7, 2), m - 2}, {Remw(1<<32-7, 2), m}, {Divuw(1<<32-7, 2), l32 - 4}, {Remuw(1<<32-7, 2), 1}, {Divuw(m-6, 2), l32 - 4}, {Remuw(m-6, 10), 9}, {Divw(7, 1<<32-2), m - 2}, {Remw(7, 1<<32-2), 1},
		{Divuw(l32, 1), m - l32 + 1}, {Divuw(l32, 1<<32-1), 0}, {Remuw(l32, 1<<32-1), m - l32 + 1}, {Remuw(1<<32-2, 1<<32-1), m - 1}, {Divuw(1<<32-1, l32), 1}, {Remuw(1<<32-1, l32), l32 - 1},
	})
}

// P2.4

func TestDo(t *testing.T) {
	for _, o := range ops() {
		eachPair(func(a, b uint64) {
			got, err := Do(o.op, o.word, a, b)
			if want := o.want(a, b); got != want || err != api.OK {
				t.Errorf("Do(%d, %v, %#x, %#x) is %#x, %d, not %#x", o.op, o.word, a, b, got, err, want)
			}
			if o.f != nil && o.f(a, b) != got {
				t.Errorf("%s(%#x, %#x) and Do are two", o.name, a, b)
			}
		})
	}
}

func TestNumbersOfOperations(t *testing.T) {
	for want, is := range []int{OpMul, OpMulh, OpMulhsu, OpMulhu, OpDiv, OpDivu, OpRem, OpRemu} {
		if is != want {
			t.Errorf("the operation %d has the number %d", want, is)
		}
	}
	for i, x := range []struct {
		op   int
		word bool
		a, b uint64
		want uint64
	}{
		{0, false, m, 3, m - 2}, {1, false, m, m, 0}, {2, false, m, m, m}, {3, false, m, m, m - 1}, {4, false, m - 6, 2, m - 2}, {5, false, m - 6, 2, l - 4}, {6, false, m - 6, 2, m}, {7, false, m - 6, 10, 9},
		{0, true, l32, 3, m - l32 + 1}, {4, true, 1<<32 - 7, 2, m - 2}, {5, true, 1<<32 - 7, 2, l32 - 4}, {6, true, 1<<32 - 7, 2, m}, {7, true, 1<<32 - 7, 2, 1},
	} {
		if got, err := Do(x.op, x.word, x.a, x.b); got != x.want || err != api.OK {
			t.Errorf("line %d: %#x, %d, not %#x", i, got, err, x.want)
		}
	}
}

func TestDoOfNoOperation(t *testing.T) {
	refuse := func(op int, word bool) {
		for _, b := range []uint64{0, 1, m} {
			if got, err := Do(op, word, 1, b); got != 0 || err != api.ErrArg {
				t.Errorf("Do(%d, %v, 1, %#x) is %#x, %d", op, word, b, got, err)
			}
		}
	}
	for _, op := range []int{math.MinInt, math.MinInt32, -256, -8, -2, -1, 8, 9, 13, 16, 64, 256, 1 << 16, 1 << 32, 1<<32 + 4, math.MaxInt} {
		refuse(op, false)
		refuse(op, true)
	}
	for _, op := range []int{OpMulh, OpMulhsu, OpMulhu} {
		refuse(op, true)
	}
}

// P2.5

func TestQuotientTimesDivisorAndRest(t *testing.T) {
	eachPair(func(a, b uint64) {
		if Div(a, b)*b+Rem(a, b) != a {
			t.Errorf("Div and Rem of %#x, %#x", a, b)
		}
		if Divu(a, b)*b+Remu(a, b) != a {
			t.Errorf("Divu and Remu of %#x, %#x", a, b)
		}
		if b != 0 && Remu(a, b) >= b {
			t.Errorf("Remu(%#x, %#x) is not below it", a, b)
		}
		if r := Rem(a, b); r != 0 && r>>63 != a>>63 {
			t.Errorf("Rem(%#x, %#x) has another sign", a, b)
		}
	})
}

func TestUpperHalfIsBelowBoth(t *testing.T) {
	eachPair(func(a, b uint64) {
		if u := Mulhu(a, b); a != 0 && b != 0 && (u >= a || u >= b) {
			t.Errorf("Mulhu(%#x, %#x) is %#x", a, b, u)
		}
	})
}

func TestSignedAndUnsignedUpperHalf(t *testing.T) {
	eachPair(func(a, b uint64) {
		var apart uint64
		if b >= l {
			apart += a
		}
		if a >= l {
			apart += b
		}
		if Mulhu(a, b)-Mulh(a, b) != apart {
			t.Errorf("Mulh and Mulhu of %#x, %#x", a, b)
		}
	})
}

func TestHalvesAreDrawnOutAndAlone(t *testing.T) {
	for _, o := range ops() {
		if !o.word {
			continue
		}
		eachPair(func(a, b uint64) {
			got := o.f(a, b)
			if got != uint64(int32(got)) {
				t.Errorf("%s(%#x, %#x) is %#x", o.name, a, b, got)
			}
			for _, beside := range []uint64{0, 1 << 32, l, m - 1<<32 + 1} {
				if o.f(a%(1<<32)+beside, b) != got || o.f(a, b%(1<<32)+beside) != got {
					t.Errorf("%s(%#x, %#x) hangs on more than halves (%#x)", o.name, a, b, beside)
				}
			}
		})
	}
}
