package asm

import (
	"math"
	"math/big"
	"regexp"
	"slices"
	"strconv"
	"strings"
	"testing"

	"mezzanine/api"
	"mezzanine/decode"
)

// mod64 is n modulo 2^64, as a number that is signed.
func mod64(n *big.Int) *big.Int {
	half := new(big.Int).Lsh(big.NewInt(1), 63)
	m := new(big.Int).Add(n, half)
	m.Mod(m, new(big.Int).Lsh(big.NewInt(1), 64))
	return m.Sub(m, half)
}

// between says whether least <= n <= greatest.
func between(n *big.Int, least, greatest int64) bool {
	return n.Cmp(big.NewInt(least)) >= 0 && n.Cmp(big.NewInt(greatest)) <= 0
}

// lowOf is the number from -2048 to 2047 that differs from n by a multiple of 4096.
func lowOf(n *big.Int) int64 {
	low := new(big.Int).Mod(n, big.NewInt(4096)).Int64()
	if low > 2047 {
		low -= 4096
	}
	return low
}

// modelLi is Li by the chapter's words, with numbers of any size.
func modelLi(rd int, n *big.Int) []api.Instr {
	if between(n, -2048, 2047) {
		return []api.Instr{{Op: api.OpAddi, Rd: rd, A: 0, Imm: n.Int64()}}
	}
	low := lowOf(n)
	m := new(big.Int).Sub(n, big.NewInt(low))
	if between(n, -2147483648, 2147483647) {
		high := m.Int64()
		if high == 2147483648 {
			high = -2147483648
		}
		list := []api.Instr{{Op: api.OpLui, Rd: rd, Imm: high}}
		if low != 0 {
			list = append(list, api.Instr{Op: api.OpAddiw, Rd: rd, A: rd, Imm: low})
		}
		return list
	}
	m = mod64(m)
	z := 0
	for new(big.Int).Mod(m, big.NewInt(2)).Sign() == 0 {
		m.Quo(m, big.NewInt(2))
		z++
	}
	list := append(modelLi(rd, m), api.Instr{Op: api.OpSlli, Rd: rd, A: rd, Imm: int64(z)})
	if low != 0 {
		list = append(list, api.Instr{Op: api.OpAddi, Rd: rd, A: rd, Imm: low})
	}
	return list
}

// liNumbers are numbers at the edges of Li's cases, at those of bits, and some that have no order.
func liNumbers() []int64 {
	list := []int64{0, 1, -1, 2047, 2048, 2049, -2047, -2048, -2049, 4095, 4096, 4097, -4096, -4095, -4097, 6143, 6144,
		math.MaxInt32, math.MaxInt32 - 2048, math.MaxInt32 - 2047, math.MaxInt32 - 2046, math.MaxInt32 + 1, math.MaxInt32 + 2, math.MaxInt32 + 2048, math.MaxInt32 + 2049,
		math.MinInt32, math.MinInt32 - 1, math.MinInt32 + 1, math.MinInt32 - 2048, math.MinInt32 - 2049, math.MaxUint32, math.MaxUint32 + 1,
		math.MaxInt64, math.MaxInt64 - 2047, math.MaxInt64 - 2048, math.MaxInt64 - 4096, math.MinInt64, math.MinInt64 + 1, math.MinInt64 + 2047, math.MinInt64 + 2048, math.MinInt64 + 4096}
	for bit := range 64 {
		for _, d := range []int64{0, 1, -1, 2047, 2048, -2047, -2048, -2049, 4096} {
			list = append(list, int64(uint64(1)<<bit)+d, -int64(uint64(1)<<bit)+d)
		}
		for other := range bit {
			list = append(list, int64(uint64(1)<<bit|1<<other), int64(uint64(1)<<bit-1<<other))
		}
	}
	x := uint64(0x9e3779b97f4a7c15)
	for n := range 20000 {
		x ^= x << 13
		x ^= x >> 7
		x ^= x << 17
		list = append(list, int64(x), int64(x)>>(n%64), int64(x<<(n%64)), int64(x|0x7ff00000800)^int64(n%2))
	}
	return list
}

// run does instructions as the chapter says, and tells what is in the registers; it begins with what is no matter.
func run(t *testing.T, list []api.Instr) [32]uint64 {
	t.Helper()
	var x [32]uint64
	for k := range x {
		x[k] = 0xdeadbeefcafef00d * uint64(k)
	}
	for _, i := range list {
		var v uint64
		switch i.Op {
		case api.OpAddi:
			v = x[i.A] + uint64(i.Imm)
		case api.OpAddiw:
			v = uint64(int64(int32(uint32(x[i.A]) + uint32(i.Imm))))
		case api.OpLui:
			v = uint64(i.Imm)
		case api.OpSlli:
			v = x[i.A] << i.Imm
		default:
			t.Fatalf("Li tells %+v", i)
		}
		if i.Rd != 0 {
			x[i.Rd] = v
		}
	}
	return x
}

// P10.2

func TestExamplesOfLi(t *testing.T) {
	for _, x := range []struct {
		n    int64
		want []string
	}{
		{0, []string{"addi x5, x0, 0"}},
		{5, []string{"addi x5, x0, 5"}},
		{2047, []string{"addi x5, x0, 2047"}},
		{-2048, []string{"addi x5, x0, -2048"}},
		{2048, []string{"lui x5, 4096", "addiw x5, x5, -2048"}},
		{-2049, []string{"lui x5, -4096", "addiw x5, x5, 2047"}},
		{4096, []string{"lui x5, 4096"}},
		{-4096, []string{"lui x5, -4096"}},
		{2147483647, []string{"lui x5, -2147483648", "addiw x5, x5, -1"}},
		{2147481599, []string{"lui x5, 2147479552", "addiw x5, x5, 2047"}},
		{2147481600, []string{"lui x5, -2147483648", "addiw x5, x5, -2048"}},
		{-2147483648, []string{"lui x5, -2147483648"}},
		{2147483648, []string{"addi x5, x0, 1", "slli x5, x5, 31"}},
		{-2147483649, []string{"addi x5, x0, -1", "slli x5, x5, 31", "addi x5, x5, -1"}},
		{math.MaxInt64, []string{"addi x5, x0, -1", "slli x5, x5, 63", "addi x5, x5, -1"}},
		{math.MinInt64, []string{"addi x5, x0, -1", "slli x5, x5, 63"}},
	} {
		var lines []string
		for _, i := range Li(5, x.n) {
			line, _ := Print(i)
			lines = append(lines, line)
		}
		if !slices.Equal(lines, x.want) {
			t.Errorf("Li(5, %d) is %q, not %q", x.n, lines, x.want)
		}
	}
}

func TestLi(t *testing.T) {
	for k, n := range liNumbers() {
		rd := k % 32
		if list, want := Li(rd, n), modelLi(rd, big.NewInt(n)); !slices.Equal(list, want) {
			t.Fatalf("Li(%d, %d) is %+v, not %+v", rd, n, list, want)
		}
	}
}

func TestLiOfEachRegister(t *testing.T) {
	for rd := range 32 {
		for _, n := range []int64{0, 2048, 4096, 1 << 31, 0x123456789abcdef} {
			if list, want := Li(rd, n), modelLi(rd, big.NewInt(n)); !slices.Equal(list, want) {
				t.Errorf("Li(%d, %d) is %+v, not %+v", rd, n, list, want)
			}
		}
	}
}

func TestLiOfWrongRegisters(t *testing.T) {
	for _, rd := range []int{-1, -2, -32, 32, 33, 64, 256, 1 << 31, 1 << 32, 1<<32 + 5, math.MinInt, math.MaxInt} {
		for _, n := range []int64{0, 1, 2048, 4096, 1 << 31, math.MaxInt64, math.MinInt64} {
			if list := Li(rd, n); len(list) != 0 {
				t.Errorf("Li(%d, %d) is %+v", rd, n, list)
			}
		}
	}
}

func TestLiAnswersNewMemory(t *testing.T) {
	for _, n := range []int64{1, 2048, 1 << 31, 0x123456789abcdef} {
		first := Li(5, n)
		full := first[:cap(first)]
		for k := range full {
			full[k] = api.Instr{Op: -1}
		}
		if list, want := Li(5, n), modelLi(5, big.NewInt(n)); !slices.Equal(list, want) {
			t.Errorf("Li(5, %d) is %+v behind another call", n, list)
		}
	}
}

// P10.5

func TestLiPutsTheNumber(t *testing.T) {
	most := 0
	for k, n := range liNumbers() {
		rd := k % 32
		list := Li(rd, n)
		most = max(most, len(list))
		want := run(t, nil)
		if rd != 0 {
			want[rd] = uint64(n)
		}
		if got := run(t, list); got != want {
			t.Fatalf("behind Li(%d, %d) the registers are %#x", rd, n, got)
		}
		for _, i := range list {
			if _, e := decode.Encode(i); e != api.OK {
				t.Fatalf("Li(%d, %d) has %+v, which is wrong", rd, n, i)
			}
		}
	}
	if most != 8 {
		t.Errorf("the longest list has %d", most)
	}
}

// modelLine is a line of a program, read by the chapter's words.
type modelLine struct {
	label, names string
	words        []uint32
	instr        api.Instr
	la, jump     bool
}

var (
	isLabel = regexp.MustCompile(`^([a-z][a-z0-9_]{0,31}):$`)
	isLi    = regexp.MustCompile(`^li ([^ ,]*), ([^ ,]*)$`)
	isLa    = regexp.MustCompile(`^la ([^ ,]*), @([a-z][a-z0-9_]{0,31})$`)
	isWord  = regexp.MustCompile(`^\.word ([^ ,]*)$`)
	isJump  = regexp.MustCompile(`^((?:jal|beq|bne|blt|bge|bltu|bgeu) .*, )@([a-z][a-z0-9_]{0,31})$`)
)

// line is what a line of a program says.
func (m model) line(text string) (modelLine, bool) {
	if at := strings.IndexByte(text, '#'); at >= 0 {
		text = text[:at]
	}
	for text != "" && (text[0] == 32 || text[0] == 9) {
		text = text[1:]
	}
	for text != "" && (text[len(text)-1] == 32 || text[len(text)-1] == 9) {
		text = text[:len(text)-1]
	}
	if text == "" {
		return modelLine{}, true
	}
	if f := isLabel.FindStringSubmatch(text); f != nil {
		return modelLine{label: f[1]}, true
	}
	if f := isLi.FindStringSubmatch(text); f != nil {
		rd, ok := modelRegister(f[1])
		n, is := modelNumber(f[2], math.MinInt64, math.MaxInt64)
		if !ok || !is {
			return modelLine{}, false
		}
		return modelLine{words: wordsOf(modelLi(rd, big.NewInt(n)))}, true
	}
	if f := isLa.FindStringSubmatch(text); f != nil {
		rd, ok := modelRegister(f[1])
		return modelLine{names: f[2], la: true, instr: api.Instr{Rd: rd}, words: make([]uint32, 2)}, ok
	}
	if f := isWord.FindStringSubmatch(text); f != nil {
		n, ok := modelNumber(f[1], 0, math.MaxUint32)
		return modelLine{words: []uint32{uint32(n)}}, ok
	}
	if f := isJump.FindStringSubmatch(text); f != nil {
		i, ok := m.parse(f[1] + "0")
		return modelLine{names: f[2], jump: true, instr: i, words: make([]uint32, 1)}, ok
	}
	i, ok := m.parse(text)
	if !ok {
		return modelLine{}, false
	}
	return modelLine{words: wordsOf([]api.Instr{i})}, true
}

// wordsOf is the words of instructions that are right.
func wordsOf(list []api.Instr) []uint32 {
	var words []uint32
	for _, i := range list {
		w, e := decode.Encode(i)
		if e != api.OK {
			panic("the model makes what is wrong")
		}
		words = append(words, w)
	}
	return words
}

// assemble is Assemble by the chapter's words, of a text that is not too long and a base that is right.
func (m model) assemble(text string, base uint64) ([]uint32, int, api.Errno) {
	var lines []modelLine
	for n, text := range strings.Split(text, "\n") {
		l, ok := m.line(text)
		if !ok {
			return nil, n + 1, api.ErrText
		}
		lines = append(lines, l)
	}
	for n, l := range lines {
		for _, ahead := range lines[:n] {
			if l.label != "" && ahead.label == l.label {
				return nil, n + 1, api.ErrLabel
			}
		}
	}
	var words []uint32
	for n, l := range lines {
		if l.names == "" {
			words = append(words, l.words...)
			continue
		}
		here := base + 4*uint64(len(words))
		there, at, ok := uint64(0), base, false
		for _, other := range lines {
			if other.label == l.names {
				there, ok = at, true
			}
			at += 4 * uint64(len(other.words))
		}
		if !ok {
			return nil, n + 1, api.ErrLabel
		}
		far := int64(there - here)
		k := kinds()[max(l.instr.Op, 1)-1]
		least, greatest, _ := k.edges()
		if l.la {
			least, greatest = -1<<31, 1<<31-2049
		}
		if far < least || far > greatest {
			return nil, n + 1, api.ErrFar
		}
		words = append(words, l.aimed(far)...)
	}
	return words, 0, api.OK
}

// aimed is the words of a line by how far the label is.
func (l modelLine) aimed(far int64) []uint32 {
	if l.la {
		low := lowOf(big.NewInt(far))
		return wordsOf([]api.Instr{{Op: api.OpAuipc, Rd: l.instr.Rd, Imm: far - low}, {Op: api.OpAddi, Rd: l.instr.Rd, A: l.instr.Rd, Imm: low}})
	}
	l.instr.Imm = far
	return wordsOf([]api.Instr{l.instr})
}

// assembleIs holds Assemble against what it shall tell.
func assembleIs(t *testing.T, text string, base uint64, want []uint32, wantLine int, wantE api.Errno) {
	t.Helper()
	words, line, e := Assemble(text, base)
	if !slices.Equal(words, want) || line != wantLine || e != wantE {
		t.Errorf("Assemble(%.200q, %#x) is %#x, %d, %d, not %#x, %d, %d", text, base, words, line, e, want, wantLine, wantE)
	}
}

// assembleFails tells that Assemble has that error at that line.
func assembleFails(t *testing.T, text string, line int, e api.Errno) {
	t.Helper()
	for _, base := range []uint64{0, api.RamBase, math.MaxUint64 - 3} {
		assembleIs(t, text, base, nil, line, e)
	}
}

// P10.3

func TestExamplesOfAssemble(t *testing.T) {
	assembleIs(t, "a:\nbeq x0, x0, @a\njal x0, @b\nb:\n", 0, []uint32{0x00000063, 0x0040006f}, 0, api.OK)
	assembleIs(t, "jal x0, @c", 0, nil, 1, api.ErrLabel)
	assembleIs(t, "a:\na:", 0, nil, 2, api.ErrLabel)
	assembleIs(t, "x", 0, nil, 1, api.ErrText)
	assembleIs(t, "", 2, nil, 0, api.ErrArg)
}

func TestAssembleOfEachKindOfLine(t *testing.T) {
	for _, base := range []uint64{0, 4, api.RamBase, 1 << 63, math.MaxUint64 - 3, math.MaxUint64 - 11} {
		assembleIs(t, "", base, nil, 0, api.OK)
		assembleIs(t, "\n\n", base, nil, 0, api.OK)
		assembleIs(t, " \t\n\t# what\n#\n ## # \n", base, nil, 0, api.OK)
		assembleIs(t, "addi x1, x0, 5", base, []uint32{0x00500093}, 0, api.OK)
		assembleIs(t, "addi x1, x0, 5\n", base, []uint32{0x00500093}, 0, api.OK)
		assembleIs(t, "\t addi x1, x0, 5 \t # five\nwfi#\n  wfi", base, []uint32{0x00500093, 0x10500073, 0x10500073}, 0, api.OK)
		assembleIs(t, "li x5, 2048\nli x5, 4096\nli x0, -1", base, []uint32{0x000012b7, 0x8002829b, 0x000012b7, 0xfff00013}, 0, api.OK)
		assembleIs(t, ".word 0\n.word 4294967295\n.word 65536", base, []uint32{0, 0xffffffff, 65536}, 0, api.OK)
		assembleIs(t, "a:\nla x5, @a\nla x6, @b\nb:", base, []uint32{0x00000297, 0x00028293, 0x00000317, 0x00830313}, 0, api.OK)
		assembleIs(t, "jal x1, 8\nbne x1, x2, -4", base, []uint32{0x008000ef, 0xfe209ee3}, 0, api.OK)
		assembleIs(t, " a: # here\nb:\nwfi\njal x0, @a\njal x0, @b # there", base, []uint32{0x10500073, 0xffdff06f, 0xff9ff06f}, 0, api.OK)
		assembleIs(t, "a:", base, nil, 0, api.OK)
	}
}

func TestBranchesOfAllKindsNameLabels(t *testing.T) {
	for _, name := range []string{"beq", "bne", "blt", "bge", "bltu", "bgeu"} {
		i := api.Instr{Op: decode.Op(name), A: 3, B: 4, Imm: -4}
		assembleIs(t, "l:\nwfi\n"+name+" x3, x4, @l", 0, []uint32{0x10500073, wordsOf([]api.Instr{i})[0]}, 0, api.OK)
	}
	m := newModel()
	for _, k := range kinds() {
		k.rights(func(i api.Instr) {
			line := k.text(i)
			for _, text := range []string{line[:strings.LastIndexByte(line, ' ')+1] + "@l", line + ", @l", line + " @l", line + "@l"} {
				m.assembleIs(t, "l:\n"+text, 0)
			}
		})
	}
}

// assembleIs holds Assemble against the model, and tells the error.
func (m model) assembleIs(t *testing.T, text string, base uint64) api.Errno {
	t.Helper()
	want, wantLine, wantE := m.assemble(text, base)
	assembleIs(t, text, base, want, wantLine, wantE)
	return wantE
}

func TestLabelsNames(t *testing.T) {
	longest := strings.Repeat("z", 32)
	for _, name := range []string{"a", "z", "a0", "a9", "a_", "az09_", "x", "x1", "li", "la", "wfi", "addi", "loop_2", longest} {
		assembleIs(t, name+":\njal x0, @"+name, 0, []uint32{0x0000006f}, 0, api.OK)
		assembleIs(t, name+":\nla x5, @"+name, 0, []uint32{0x00000297, 0x00028293}, 0, api.OK)
	}
	for _, name := range []string{"", "A", "aB", "0", "0a", "9", "_", "_a", "a-b", "a.b", "a b", "a\tb", ".a", "a:", "@a", "@", "a@", "ä", "a\x00", "\xff", "a\r", "`", "{", "a/", "a;", "a,", "a, a", longest + "z"} {
		assembleFails(t, "wfi\n"+name+":", 2, api.ErrText)
		assembleFails(t, "wfi\njal x0, @"+name, 2, api.ErrText)
		assembleFails(t, "wfi\nbeq x0, x0, @"+name, 2, api.ErrText)
		assembleFails(t, "wfi\nla x5, @"+name, 2, api.ErrText)
	}
	assembleFails(t, "a :", 1, api.ErrText)
	assembleFails(t, "a::", 1, api.ErrText)
	assembleFails(t, ":", 1, api.ErrText)
	assembleFails(t, "a: wfi", 1, api.ErrText)
	assembleFails(t, "a: b:", 1, api.ErrText)
}

func TestErrText(t *testing.T) {
	for _, line := range []string{
		"x", "x1", "wfi wfi", "wfi;", "wfi\r", "wfi\v", "\fwfi", "\u00a0wfi", "\x00", "addi x1,x0, 5", "addi x1, x0, 2048", "addi x01, x0, 5", "add.aq x1, x2, x3", "beq x0, x0, 3", "beq x0, x0, 4096", "jal x0, 1048576", "lui x1, 1", "lui x1, 2147483648",
		"li", "li ", "li x5", "li x5,", "li x5, ", "li x5,1", "li x5 1", "li  x5, 1", "li x5,  1", "li x5, 1, 2", "li x32, 1", "li x05, 1", "li 5, 1", "li x5, x1", "li x5, 01", "li x5, -0", "li x5, +1", "li x5, 0x10", "li x5, @a", "li x5, 9223372036854775808",
		"li x5, -9223372036854775809", "li x5, 18446744073709551615", "li x-1, 1", "li.aq x5, 1", "LI x5, 1", "lix5, 1", "li x5, 1 2", "li x5, 1,",
		"la", "la ", "la x5", "la x5,", "la x5, ", "la x5, a", "la x5,@a", "la x5 @a", "la  x5, @a", "la x5,  @a", "la x5, @ a", "la x32, @a", "la x05, @a", "la 5, @a", "la x5, 0", "la x5, @a, @a", "la x5, x5, @a", "la , @a", "la, @a", "la x5, 1@a",
		".word", ".word ", ".word x", ".word -1", ".word -0", ".word 01", ".word +1", ".word 4294967296", ".word 18446744073709551616", ".word 0x1", ".word 1, 2", ".word 1 2", ".word @a", "word 1", ".word  1", ".words 1", ".Word 1", ".word1", ".word 1,",
		"jal @a", "jal x0 @a", "jal x0,@a", "jal x0,  @a", "jal x0, -@a", "jal x0, 1@a", "jal x0, 0, @a", "jal x32, @a", "jal, @a", "jal x0, x0, @a", "jal x0, @a, @a", "jal.aq x0, @a", "beq x0, @a", "beq x0, x0, x0, @a", "beq x0, x0,@a", "beq @a, x0, x0", "beq x0, @a, x0",
		"beq x0, x32, @a", "jalr x0, x0, @a", "auipc x5, @a", "lui x5, @a", "addi x5, x5, @a", "ld x5, x5, @a", "sd x5, x5, @a", "slli x5, x5, @a", "csrrw x0, x5, @a", "csrrwi x0, 3, @a", "csrrwi x0, @a, 3", "fence x0, x0, @a", "add x0, x0, @a", "wfi @a", "wfi, @a", "@a", ", @a", "@a:",
		"j @a", ".data", ".word:", "li:x", "a:b",
	} {
		assembleFails(t, line, 1, api.ErrText)
		assembleFails(t, "a:\nwfi\n\n  "+line+"\t# no\nx\njal x0, @none\na:", 4, api.ErrText)
		assembleFails(t, "a:\nwfi\n#\n"+line, 4, api.ErrText)
	}
}

func TestErrLabel(t *testing.T) {
	assembleFails(t, "a:\nwfi\na:\na:", 3, api.ErrLabel)
	assembleFails(t, "a:\nb:\n  b: # again\na:", 3, api.ErrLabel)
	assembleFails(t, "b:\na:\nc:\na:\nb:", 4, api.ErrLabel)
	for _, line := range []string{"jal x0, @c", "beq x0, x0, @c", "la x5, @c"} {
		assembleFails(t, line, 1, api.ErrLabel)
		assembleFails(t, "a:\n\njal x0, @a\n"+line+"\n"+line+"\nb:", 4, api.ErrLabel)
		assembleFails(t, "cc:\nc_:\nc0:\nbc:\n"+line, 5, api.ErrLabel)
	}
}

// pad is lines of so many words.
func pad(words int) string { return strings.Repeat("wfi\n", words) }

func TestErrFarOfBranches(t *testing.T) {
	for _, name := range []string{"beq", "bne", "blt", "bge", "bltu", "bgeu"} {
		branch := name + " x1, x2, @l"
		m := newModel()
		for _, x := range []struct {
			text string
			line int
			e    api.Errno
		}{
			{branch + "\n" + pad(1022) + "l:", 0, api.OK},
			{branch + "\n" + pad(1023) + "l:", 1, api.ErrFar},
			{branch + "\n" + pad(1024) + "l:", 1, api.ErrFar},
			{"l:\n" + pad(1024) + branch, 0, api.OK},
			{"l:\n" + pad(1025) + branch, 1027, api.ErrFar},
			{"l:\n" + pad(1025) + branch + "\n" + branch, 1027, api.ErrFar},
			{"l:\n" + pad(1024) + branch + "\n" + branch, 1027, api.ErrFar},
		} {
			for _, base := range []uint64{0, api.RamBase, math.MaxUint64 - 3, math.MaxUint64 - 2051} {
				want, line, e := m.assemble(x.text, base)
				if line != x.line || e != x.e {
					t.Fatalf("the model tells %d, %d", line, e)
				}
				assembleIs(t, x.text, base, want, line, e)
			}
		}
	}
	words, line, e := Assemble("beq x0, x0, @l\n"+pad(1022)+"l:", 0)
	if e != api.OK || line != 0 || len(words) != 1023 || words[0] != 0x7e000ee3|1<<7 {
		t.Errorf("the farthest branch: %#x, %d, %d", words[:1], line, e)
	}
}

// Within a text that is not too long a jal or a la comes to all labels, so that what is too far for them is asked of what their lines say.
func TestTooFarForJalAndLa(t *testing.T) {
	for _, x := range []struct {
		text            string
		least, greatest int64
		step            int64
	}{
		{"jal x1, @l", -1 << 20, 1<<20 - 2, 2},
		{"beq x1, x2, @l", -4096, 4094, 2},
		{"la x7, @l", -1 << 31, 1<<31 - 2049, 1},
	} {
		s, ok := read(x.text)
		if !ok || s.names != "l" {
			t.Fatalf("%q says %+v, %v", x.text, s, ok)
		}
		want, _ := newModel().line(x.text)
		for _, far := range []int64{0, x.step, -x.step, x.least, x.least + x.step, x.greatest, x.greatest - x.step, 2046, -2046, -2048, 2044} {
			words, ok := s.aim(far)
			if !ok || !slices.Equal(words, want.aimed(far)) || len(words) != len(s.words) {
				t.Errorf("%q, %d: %#x, %v, not %#x", x.text, far, words, ok, want.aimed(far))
			}
		}
		for _, far := range []int64{x.least - 1, x.least - 2, x.least - 2048, x.least - 4096, x.greatest + 1, x.greatest + 2, x.greatest + 2048, 2 * x.greatest, 2 * x.least, math.MinInt64, math.MinInt64 + 1, math.MaxInt64, math.MaxInt64 - 1} {
			if x.step == 2 && far == x.greatest+1 {
				continue
			}
			if words, ok := s.aim(far); ok || len(words) != 0 {
				t.Errorf("%q, %d: %#x, %v", x.text, far, words, ok)
			}
		}
	}
}

func TestJalAndLaComeFar(t *testing.T) {
	m := newModel()
	for _, text := range []string{
		"jal x1, @l\n" + pad(16000) + "l:",
		"l:\n" + pad(16000) + "jal x1, @l",
		"la x1, @l\n" + pad(16000) + "l:\nwfi",
		"l:\n" + pad(16000) + "la x1, @l",
		"la x1, @l\n" + pad(509) + "l:",
		"la x1, @l\n" + pad(510) + "l:",
		"la x1, @l\n" + pad(511) + "l:",
		"l:\n" + pad(512) + "la x1, @l",
		"l:\n" + pad(513) + "la x1, @l",
	} {
		for _, base := range []uint64{0, api.RamBase, math.MaxUint64 - 2047} {
			if m.assembleIs(t, text, base) != api.OK {
				t.Errorf("%.20q and on is wrong", text)
			}
		}
	}
}

// The kinds of faults are told in their order, wherever they stand.
func TestOrderOfFaults(t *testing.T) {
	const noLine, twice, missing = "x", "b:\nb:", "jal x0, @none"
	far := "beq x0, x0, @e"
	filled := pad(1100)
	assembleFails(t, missing+"\n"+twice+"\n"+noLine, 4, api.ErrText)
	assembleFails(t, noLine+"\n"+twice+"\n"+missing, 1, api.ErrText)
	assembleFails(t, missing+"\n"+twice, 3, api.ErrLabel)
	assembleFails(t, far+"\n"+missing+"\n"+filled+"e:", 1, api.ErrFar)
	assembleFails(t, missing+"\n"+far+"\n"+filled+"e:", 1, api.ErrLabel)
	assembleFails(t, far+"\n"+missing+"\n"+filled+"e:\ne:", 1104, api.ErrLabel)
	assembleFails(t, far+"\n"+missing+"\n"+filled+"e:\ne:\n"+noLine, 1105, api.ErrText)
	assembleFails(t, far+"\n"+missing+"\n"+filled, 1, api.ErrLabel)
	assembleFails(t, "wfi\n"+noLine+"\n"+noLine, 2, api.ErrText)
	assembleFails(t, "wfi\n"+missing+"\n"+missing, 2, api.ErrLabel)
	assembleFails(t, "wfi\n"+far+"\n"+far+"\n"+filled+"e:", 2, api.ErrFar)
}

func TestErrArg(t *testing.T) {
	for _, base := range []uint64{1, 2, 3, 5, 6, 7, api.RamBase + 2, math.MaxUint64, math.MaxUint64 - 1, math.MaxUint64 - 2, 1<<63 + 1} {
		for _, text := range []string{"", "wfi", "x", "a:\na:", "jal x0, @none", strings.Repeat(" ", api.MaxText)} {
			assembleIs(t, text, base, nil, 0, api.ErrArg)
		}
		for _, text := range []string{strings.Repeat(" ", api.MaxText+1), pad(1 << 15)} {
			assembleIs(t, text, base, nil, 0, api.ErrLong)
		}
	}
}

func TestErrLong(t *testing.T) {
	full := pad(api.MaxText / 4)
	if len(full) != 65536 {
		t.Fatalf("%d bytes", len(full))
	}
	words, line, e := Assemble(full, 0)
	if len(words) != 16384 || line != 0 || e != api.OK {
		t.Errorf("a text of MaxText bytes: %d words, %d, %d", len(words), line, e)
	}
	assembleIs(t, strings.Repeat("\n", api.MaxText), 0, nil, 0, api.OK)
	assembleIs(t, strings.Repeat("#", api.MaxText), 0, nil, 0, api.OK)
	assembleIs(t, strings.Repeat("x", api.MaxText), 0, nil, 1, api.ErrText)
	assembleIs(t, strings.Repeat("\n", api.MaxText-1)+"x", 0, nil, api.MaxText, api.ErrText)
	for _, text := range []string{full + "\n", full + " ", " " + full, strings.Repeat("#", api.MaxText+1), strings.Repeat("x", api.MaxText+1), strings.Repeat("\n", api.MaxText+1), strings.Repeat("a:\n", 1<<16), strings.Repeat("x", 1<<22)} {
		for _, base := range []uint64{0, 4, api.RamBase} {
			assembleIs(t, text, base, nil, 0, api.ErrLong)
		}
	}
}

// manyLines are lines of all kinds, right and wrong ones.
func manyLines() (right, wrong []string) {
	for _, k := range kinds() {
		n := 0
		k.rights(func(i api.Instr) {
			if n++; n%17 == 5 {
				right = append(right, k.text(i))
			}
		})
	}
	right = append(right, "", " ", "# x", "li x5, 2048", "li x31, -9223372036854775808", "li x1, 81985529216486895", "li x0, 7", ".word 7", ".word 4294967295", "\twfi # w", "  ecall\t")
	for n := range 8 {
		l := "l" + strconv.Itoa(n)
		for range 4 {
			right = append(right, "jal x1, @"+l, "beq x1, x2, @"+l, "bgeu x31, x0, @"+l, "la x5, @"+l, " la x31, @"+l+" # "+l)
		}
	}
	return right, []string{"x", "wfi x1", "li x5,1", "jal x0, @", ".word -1", "addi x1, x2, 5000", "l9 :", "la x5, @l0 x"}
}

func TestProgramsOfAllLines(t *testing.T) {
	m := newModel()
	right, wrong := manyLines()
	seen := map[api.Errno]int{}
	x := uint64(0x2545f4914f6cdd1d)
	next := func(n int) int {
		x ^= x << 13
		x ^= x >> 7
		x ^= x << 17
		return int(x >> 11 % uint64(n))
	}
	for round := range 1500 {
		var lines []string
		for range next(60) {
			lines = append(lines, right[next(len(right))])
		}
		for n := range 8 {
			if round%3 == 0 && next(12) == 0 {
				continue
			}
			lines = slices.Insert(lines, next(len(lines)+1), "l"+strconv.Itoa(n)+":")
		}
		switch {
		case round%5 == 1:
			lines = slices.Insert(lines, next(len(lines)+1), "l"+strconv.Itoa(next(8))+":")
		case round%5 == 2:
			lines = slices.Insert(lines, next(len(lines)+1), wrong[next(len(wrong))])
		case round%5 == 3:
			lines = slices.Insert(lines, next(len(lines)+1), strings.TrimSuffix(pad(1000+next(100)), "\n"))
		}
		seen[m.assembleIs(t, strings.Join(lines, "\n"), 4*x)]++
	}
	for _, e := range []api.Errno{api.OK, api.ErrText, api.ErrLabel, api.ErrFar} {
		if seen[e] < 20 {
			t.Errorf("only %d programs answer %d", seen[e], e)
		}
	}
}

// Lines with a byte changed are held against the model, too.
func TestProgramsOfNearLines(t *testing.T) {
	m := newModel()
	for _, line := range []string{"a:", "a_0z:", "li x5, 2048", "li x31, -5", "la x5, @a", "jal x0, @a", "beq x10, x2, @a", ".word 115", " wfi # w", "sc.w.aq x1, x2, x3"} {
		near(line, func(line string) {
			m.assembleIs(t, "a:\n"+line+"\nwfi", 0)
			m.assembleIs(t, line, api.RamBase)
		})
	}
}

func TestAssembleAnswersNewMemory(t *testing.T) {
	const text = "a:\nwfi\nli x5, 123456789012\nla x6, @a\njal x0, @a\n.word 5"
	want, _, _ := newModel().assemble(text, 0)
	first, _, _ := Assemble(text, 0)
	full := first[:cap(first)]
	for n := range full {
		full[n] = 0xdeadbeef
	}
	assembleIs(t, text, 0, want, 0, api.OK)
	assembleIs(t, text, api.RamBase, want, 0, api.OK)
}

// P10.6

func TestLinesOfInstructionsAreTheirWords(t *testing.T) {
	var lines []string
	var words []uint32
	for _, k := range kinds() {
		n := 0
		k.rights(func(i api.Instr) {
			if n++; n%4 != 1 {
				return
			}
			line, _ := Print(i)
			lines = append(lines, line)
			words = append(words, wordsOf([]api.Instr{i})...)
			assembleIs(t, line, 8, words[len(words)-1:], 0, api.OK)
		})
	}
	for _, base := range []uint64{0, api.RamBase, math.MaxUint64 - 7} {
		assembleIs(t, strings.Join(lines, "\n"), base, words, 0, api.OK)
		assembleIs(t, strings.Join(lines, "\n")+"\n", base, words, 0, api.OK)
	}
	if len(words) < 1000 {
		t.Errorf("only %d words", len(words))
	}
}
