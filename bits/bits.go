// Package bits is layer 1: words of 64 bits, their pieces, signs and multiples (see shared/doc/01-bits.md).
package bits

// width is how many bits a word has.
const width = 64

// Word is all widths of words that Bit may be asked of.
type Word interface {
	~uint8 | ~uint16 | ~uint32 | ~uint64
}

// Mask is the word whose lowest n bits are 1.
func Mask(n int) uint64 {
	switch {
	case n < 1:
		return 0
	case n >= width:
		return ^uint64(0)
	}
	return 1<<n - 1
}

// Field is the piece of w of n bits from lo on.
func Field(w uint64, lo, n int) uint64 {
	if !isPlace(lo) {
		return 0
	}
	// A piece that reaches beyond the word is cut by the shift, which brings in noughts alone.
	return w >> lo & Mask(n)
}

// Put is w, with v in the place of that piece.
func Put(w uint64, lo, n int, v uint64) uint64 {
	if !isPlace(lo) {
		return w
	}
	piece := Mask(n) << lo
	return w&^piece | v<<lo&piece
}

// Sext is the lowest n bits of w, drawn out by the highest of them.
func Sext(w uint64, n int) uint64 {
	if n < 1 {
		return 0
	}
	// The sign goes to the word's top, so that a signed shift back draws it out.
	gap := width - min(n, width)
	return uint64(int64(w<<gap) >> gap)
}

// Canon says whether w is its lowest n bits, drawn out.
func Canon(w uint64, n int) bool {
	return n >= 1 && Sext(w, n) == w
}

// Up is the least multiple of size that is not below a, if there is one in 64 bits.
func Up(a, size uint64) (uint64, bool) {
	if size == 0 {
		return 0, false
	}
	rest := a % size
	if rest == 0 {
		return a, true
	}
	up := a + (size - rest)
	// What is added is above 0, so a sum that is not above a has gone round.
	if up < a {
		return 0, false
	}
	return up, true
}

// Bit says whether the bit i of w is 1.
func Bit[T Word](w T, i int) bool {
	// A shift by T's width or more leaves 0, just as a bit that w has not shall be answered.
	return i >= 0 && w>>i&1 == 1
}

// Of is the word whose bits of these numbers are 1.
func Of(l ...int) uint64 {
	var w uint64
	for _, i := range l {
		if isPlace(i) {
			w |= 1 << i
		}
	}
	return w
}

// Ones is the numbers of the bits of w that are 1, rising.
func Ones(w uint64) []int {
	var l []int
	for i := range width {
		if Bit(w, i) {
			l = append(l, i)
		}
	}
	return l
}

// isPlace says whether a word has a bit of the number i.
func isPlace(i int) bool {
	return i >= 0 && i < width
}
