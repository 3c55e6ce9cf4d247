package decode

import (
	"math"
	"strings"
	"sync"
	"testing"

	"mezzanine/api"
)

// The calls have the signatures of the chapter.
var (
	_ func(uint32) (api.Instr, bool)           = Decode
	_ func(api.Instr) (uint32, api.Errno)      = Encode
	_ func(int) string                         = Name
	_ func(string) int                         = Op
	_ func(*Decoder, uint32) (api.Instr, bool) = (*Decoder).Decode
)

// line is a line of the chapter's table.
type line struct {
	op          int
	name        string
	mask, match uint32
	form        byte
}

// lines are the chapter's table as it stands there.
var lines = []line{
	{api.OpLui, "lui", 0x0000007f, 0x00000037, 'U'},
	{api.OpAuipc, "auipc", 0x0000007f, 0x00000017, 'U'},
	{api.OpJal, "jal", 0x0000007f, 0x0000006f, 'J'},
	{api.OpJalr, "jalr", 0x0000707f, 0x00000067, 'I'},
	{api.OpBeq, "beq", 0x0000707f, 0x00000063, 'B'},
	{api.OpBne, "bne", 0x0000707f, 0x00001063, 'B'},
	{api.OpBlt, "blt", 0x0000707f, 0x00004063, 'B'},
	{api.OpBge, "bge", 0x0000707f, 0x00005063, 'B'},
	{api.OpBltu, "bltu", 0x0000707f, 0x00006063, 'B'},
	{api.OpBgeu, "bgeu", 0x0000707f, 0x00007063, 'B'},
	{api.OpLb, "lb", 0x0000707f, 0x00000003, 'I'},
	{api.OpLh, "lh", 0x0000707f, 0x00001003, 'I'},
	{api.OpLw, "lw", 0x0000707f, 0x00002003, 'I'},
	{api.OpLd, "ld", 0x0000707f, 0x00003003, 'I'},
	{api.OpLbu, "lbu", 0x0000707f, 0x00004003, 'I'},
	{api.OpLhu, "lhu", 0x0000707f, 0x00005003, 'I'},
	{api.OpLwu, "lwu", 0x0000707f, 0x00006003, 'I'},
	{api.OpSb, "sb", 0x0000707f, 0x00000023, 'S'},
	{api.OpSh, "sh", 0x0000707f, 0x00001023, 'S'},
	{api.OpSw, "sw", 0x0000707f, 0x00002023, 'S'},
	{api.OpSd, "sd", 0x0000707f, 0x00003023, 'S'},
	{api.OpAddi, "addi", 0x0000707f, 0x00000013, 'I'},
	{api.OpSlti, "slti", 0x0000707f, 0x00002013, 'I'},
	{api.OpSltiu, "sltiu", 0x0000707f, 0x00003013, 'I'},
	{api.OpXori, "xori", 0x0000707f, 0x00004013, 'I'},
	{api.OpOri, "ori", 0x0000707f, 0x00006013, 'I'},
	{api.OpAndi, "andi", 0x0000707f, 0x00007013, 'I'},
	{api.OpSlli, "slli", 0xfc00707f, 0x00001013, 'H'},
	{api.OpSrli, "srli", 0xfc00707f, 0x00005013, 'H'},
	{api.OpSrai, "srai", 0xfc00707f, 0x40005013, 'H'},
	{api.OpAddiw, "addiw", 0x0000707f, 0x0000001b, 'I'},
	{api.OpSlliw, "slliw", 0xfe00707f, 0x0000101b, 'W'},
	{api.OpSrliw, "srliw", 0xfe00707f, 0x0000501b, 'W'},
	{api.OpSraiw, "sraiw", 0xfe00707f, 0x4000501b, 'W'},
	{api.OpAdd, "add", 0xfe00707f, 0x00000033, 'R'},
	{api.OpSub, "sub", 0xfe00707f, 0x40000033, 'R'},
	{api.OpSll, "sll", 0xfe00707f, 0x00001033, 'R'},
	{api.OpSlt, "slt", 0xfe00707f, 0x00002033, 'R'},
	{api.OpSltu, "sltu", 0xfe00707f, 0x00003033, 'R'},
	{api.OpXor, "xor", 0xfe00707f, 0x00004033, 'R'},
	{api.OpSrl, "srl", 0xfe00707f, 0x00005033, 'R'},
	{api.OpSra, "sra", 0xfe00707f, 0x40005033, 'R'},
	{api.OpOr, "or", 0xfe00707f, 0x00006033, 'R'},
	{api.OpAnd, "and", 0xfe00707f, 0x00007033, 'R'},
	{api.OpAddw, "addw", 0xfe00707f, 0x0000003b, 'R'},
	{api.OpSubw, "subw", 0xfe00707f, 0x4000003b, 'R'},
	{api.OpSllw, "sllw", 0xfe00707f, 0x0000103b, 'R'},
	{api.OpSrlw, "srlw", 0xfe00707f, 0x0000503b, 'R'},
	{api.OpSraw, "sraw", 0xfe00707f, 0x4000503b, 'R'},
	{api.OpMul, "mul", 0xfe00707f, 0x02000033, 'R'},
	{api.OpMulh, "mulh", 0xfe00707f, 0x02001033, 'R'},
	{api.OpMulhsu, "mulhsu", 0xfe00707f, 0x02002033, 'R'},
	{api.OpMulhu, "mulhu", 0xfe00707f, 0x02003033, 'R'},
	{api.OpDiv, "div", 0xfe00707f, 0x02004033, 'R'},
	{api.OpDivu, "divu", 0xfe00707f, 0x02005033, 'R'},
	{api.OpRem, "rem", 0xfe00707f, 0x02006033, 'R'},
	{api.OpRemu, "remu", 0xfe00707f, 0x02007033, 'R'},
	{api.OpMulw, "mulw", 0xfe00707f, 0x0200003b, 'R'},
	{api.OpDivw, "divw", 0xfe00707f, 0x0200403b, 'R'},
	{api.OpDivuw, "divuw", 0xfe00707f, 0x0200503b, 'R'},
	{api.OpRemw, "remw", 0xfe00707f, 0x0200603b, 'R'},
	{api.OpRemuw, "remuw", 0xfe00707f, 0x0200703b, 'R'},
	{api.OpLrW, "lr.w", 0xf9f0707f, 0x1000202f, 'L'},
	{api.OpScW, "sc.w", 0xf800707f, 0x1800202f, 'A'},
	{api.OpAmoswapW, "amoswap.w", 0xf800707f, 0x0800202f, 'A'},
	{api.OpAmoaddW, "amoadd.w", 0xf800707f, 0x0000202f, 'A'},
	{api.OpAmoxorW, "amoxor.w", 0xf800707f, 0x2000202f, 'A'},
	{api.OpAmoandW, "amoand.w", 0xf800707f, 0x6000202f, 'A'},
	{api.OpAmoorW, "amoor.w", 0xf800707f, 0x4000202f, 'A'},
	{api.OpAmominW, "amomin.w", 0xf800707f, 0x8000202f, 'A'},
	{api.OpAmomaxW, "amomax.w", 0xf800707f, 0xa000202f, 'A'},
	{api.OpAmominuW, "amominu.w", 0xf800707f, 0xc000202f, 'A'},
	{api.OpAmomaxuW, "amomaxu.w", 0xf800707f, 0xe000202f, 'A'},
	{api.OpLrD, "lr.d", 0xf9f0707f, 0x1000302f, 'L'},
	{api.OpScD, "sc.d", 0xf800707f, 0x1800302f, 'A'},
	{api.OpAmoswapD, "amoswap.d", 0xf800707f, 0x0800302f, 'A'},
	{api.OpAmoaddD, "amoadd.d", 0xf800707f, 0x0000302f, 'A'},
	{api.OpAmoxorD, "amoxor.d", 0xf800707f, 0x2000302f, 'A'},
	{api.OpAmoandD, "amoand.d", 0xf800707f, 0x6000302f, 'A'},
	{api.OpAmoorD, "amoor.d", 0xf800707f, 0x4000302f, 'A'},
	{api.OpAmominD, "amomin.d", 0xf800707f, 0x8000302f, 'A'},
	{api.OpAmomaxD, "amomax.d", 0xf800707f, 0xa000302f, 'A'},
	{api.OpAmominuD, "amominu.d", 0xf800707f, 0xc000302f, 'A'},
	{api.OpAmomaxuD, "amomaxu.d", 0xf800707f, 0xe000302f, 'A'},
	{api.OpFence, "fence", 0x0000707f, 0x0000000f, 'I'},
	{api.OpFenceI, "fence.i", 0x0000707f, 0x0000100f, 'I'},
	{api.OpEcall, "ecall", 0xffffffff, 0x00000073, 'N'},
	{api.OpEbreak, "ebreak", 0xffffffff, 0x00100073, 'N'},
	{api.OpSret, "sret", 0xffffffff, 0x10200073, 'N'},
	{api.OpMret, "mret", 0xffffffff, 0x30200073, 'N'},
	{api.OpWfi, "wfi", 0xffffffff, 0x10500073, 'N'},
	{api.OpSfenceVma, "sfence.vma", 0xfe007fff, 0x12000073, 'F'},
	{api.OpHfenceVvma, "hfence.vvma", 0xfe007fff, 0x22000073, 'F'},
	{api.OpHfenceGvma, "hfence.gvma", 0xfe007fff, 0x62000073, 'F'},
	{api.OpCsrrw, "csrrw", 0x0000707f, 0x00001073, 'C'},
	{api.OpCsrrs, "csrrs", 0x0000707f, 0x00002073, 'C'},
	{api.OpCsrrc, "csrrc", 0x0000707f, 0x00003073, 'C'},
	{api.OpCsrrwi, "csrrwi", 0x0000707f, 0x00005073, 'Z'},
	{api.OpCsrrsi, "csrrsi", 0x0000707f, 0x00006073, 'Z'},
	{api.OpCsrrci, "csrrci", 0x0000707f, 0x00007073, 'Z'},
	{api.OpHlvB, "hlv.b", 0xfff0707f, 0x60004073, 'V'},
	{api.OpHlvBu, "hlv.bu", 0xfff0707f, 0x60104073, 'V'},
	{api.OpHlvH, "hlv.h", 0xfff0707f, 0x64004073, 'V'},
	{api.OpHlvHu, "hlv.hu", 0xfff0707f, 0x64104073, 'V'},
	{api.OpHlvxHu, "hlvx.hu", 0xfff0707f, 0x64304073, 'V'},
	{api.OpHlvW, "hlv.w", 0xfff0707f, 0x68004073, 'V'},
	{api.OpHlvWu, "hlv.wu", 0xfff0707f, 0x68104073, 'V'},
	{api.OpHlvxWu, "hlvx.wu", 0xfff0707f, 0x68304073, 'V'},
	{api.OpHlvD, "hlv.d", 0xfff0707f, 0x6c004073, 'V'},
	{api.OpHsvB, "hsv.b", 0xfe007fff, 0x62004073, 'F'},
	{api.OpHsvH, "hsv.h", 0xfe007fff, 0x66004073, 'F'},
	{api.OpHsvW, "hsv.w", 0xfe007fff, 0x6a004073, 'F'},
	{api.OpHsvD, "hsv.d", 0xfe007fff, 0x6e004073, 'F'},
}

// count is how many instructions there are.
const count = 113

// parts are what the forms say, a letter each: d, a, b the registers, c the Csr, q, l the two marks; a form's own letter its Imm.
var parts = map[byte]string{
	'U': "dU", 'J': "dJ", 'I': "daI", 'B': "abB", 'S': "abS", 'H': "daH", 'W': "daW", 'R': "dab",
	'L': "daql", 'A': "dabql", 'N': "", 'F': "ab", 'C': "dac", 'Z': "dZc", 'V': "da",
}

// says tells whether the line's form says that part.
func (l line) says(part byte) bool { return strings.IndexByte(parts[l.form], part) >= 0 }

// hasImm tells whether the line's form says an Imm.
func (l line) hasImm() bool { return strings.IndexByte("UJIBSHWZ", l.form) >= 0 }

// immOf is the Imm of a form that stands in w, each form spelled out by itself.
func immOf(form byte, w uint32) int64 {
	s := int64(int32(w))
	switch form {
	case 'U':
		return s &^ 0xfff
	case 'J':
		return s>>31<<20 | int64(w>>12&0xff<<12|w>>20&1<<11|w>>21&0x3ff<<1)
	case 'I':
		return s >> 20
	case 'B':
		return s>>31<<12 | int64(w>>7&1<<11|w>>25&0x3f<<5|w>>8&0xf<<1)
	case 'S':
		return s>>25<<5 | int64(w>>7&0x1f)
	case 'H':
		return int64(w >> 20 & 0x3f)
	case 'W':
		return int64(w >> 20 & 0x1f)
	case 'Z':
		return int64(w >> 15 & 0x1f)
	}
	return 0
}

// immWord is the word of an Imm that fits, each form spelled out by itself.
func immWord(form byte, imm int64) uint32 {
	n := uint32(imm)
	switch form {
	case 'U':
		return n
	case 'J':
		return n>>20&1<<31 | n>>12&0xff<<12 | n>>11&1<<20 | n>>1&0x3ff<<21
	case 'I':
		return n << 20
	case 'B':
		return n>>12&1<<31 | n>>11&1<<7 | n>>5&0x3f<<25 | n>>1&0xf<<8
	case 'S':
		return n>>5<<25 | n&0x1f<<7
	case 'H', 'W':
		return n << 20
	case 'Z':
		return n << 15
	}
	return 0
}

// immEdges are the least and the greatest Imm of a form, and by how much two are apart at least.
func immEdges(form byte) (least, greatest, step int64) {
	switch form {
	case 'U':
		return -1 << 31, 1<<31 - 4096, 4096
	case 'J':
		return -1 << 20, 1<<20 - 2, 2
	case 'I', 'S':
		return -2048, 2047, 1
	case 'B':
		return -4096, 4094, 2
	case 'H':
		return 0, 63, 1
	case 'W', 'Z':
		return 0, 31, 1
	}
	return 0, 0, 1
}

// model is the instruction that w is, by the table, line by line.
func model(w uint32) (api.Instr, bool) {
	for _, l := range lines {
		if w&l.mask == l.match {
			return l.read(w), true
		}
	}
	return api.Instr{}, false
}

// read is what the line says of w.
func (l line) read(w uint32) api.Instr {
	i := api.Instr{Op: l.op}
	for _, part := range []byte(parts[l.form]) {
		switch part {
		case 'd':
			i.Rd = int(w / 128 % 32)
		case 'a':
			i.A = int(w / 32768 % 32)
		case 'b':
			i.B = int(w / 1048576 % 32)
		case 'c':
			i.Csr = int(w / 1048576)
		case 'q':
			i.Aq = w/67108864%2 == 1
		case 'l':
			i.Rl = w/33554432%2 == 1
		default:
			i.Imm = immOf(part, w)
		}
	}
	return i
}

// right tells whether i is right.
func right(i api.Instr) bool {
	if i.Op < 1 || i.Op > count {
		return false
	}
	l := lines[i.Op-1]
	least, greatest, step := int64(0), int64(0), int64(1)
	if l.hasImm() {
		least, greatest, step = immEdges(l.form)
	}
	return upTo(i.Rd, 31, l.says('d')) && upTo(i.A, 31, l.says('a')) && upTo(i.B, 31, l.says('b')) && upTo(i.Csr, 4095, l.says('c')) &&
		i.Imm >= least && i.Imm <= greatest && i.Imm%step == 0 && (l.says('q') || !i.Aq) && (l.says('l') || !i.Rl)
}

// upTo tells whether n is from 0 to most, or 0 where the form does not say it.
func upTo(n, most int, said bool) bool {
	if !said {
		most = 0
	}
	return n >= 0 && n <= most
}

// word is the word that a right i is.
func word(i api.Instr) uint32 {
	l := lines[i.Op-1]
	w := l.match + uint32(i.Rd)*128 + uint32(i.A)*32768 + uint32(i.B)*1048576 + uint32(i.Csr)*1048576
	if i.Aq {
		w += 67108864
	}
	if i.Rl {
		w += 33554432
	}
	return w + immWord(l.form, i.Imm)
}

// decodeIs holds Decode and a Decoder against what they shall tell.
func decodeIs(t *testing.T, d *Decoder, w uint32, want api.Instr, wantOk bool) {
	t.Helper()
	if i, ok := Decode(w); i != want || ok != wantOk {
		t.Fatalf("Decode(%#08x) is %+v, %v, not %+v, %v", w, i, ok, want, wantOk)
	}
	if i, ok := d.Decode(w); i != want || ok != wantOk {
		t.Fatalf("a Decoder's Decode(%#08x) is %+v, %v, not %+v, %v", w, i, ok, want, wantOk)
	}
}

// encodeIs holds Encode against the model.
func encodeIs(t *testing.T, i api.Instr) {
	t.Helper()
	var want uint32
	wantE := api.ErrWord
	if right(i) {
		want, wantE = word(i), api.OK
	}
	if w, e := Encode(i); w != want || e != wantE {
		t.Fatalf("Encode(%+v) is %#08x, %d, not %#08x, %d", i, w, e, want, wantE)
	}
}

// randomWords hands out so many words that have no order.
func randomWords(n int, do func(w uint32)) {
	w := uint32(0x9e3779b9)
	for range n {
		w ^= w << 13
		w ^= w >> 17
		w ^= w << 5
		do(w)
	}
}

// others are what registers' fields and all else may hold while what is asked stands elsewhere.
var others = []uint32{0, 0xffffffff, 0xaaaaaaaa, 0x55555555, 1<<7 | 1<<15 | 1<<20 | 1<<25, 0x80000000}

// flips hands out w with each bit and each two bits changed.
func flips(w uint32, do func(w uint32)) {
	do(w)
	for i := range 32 {
		for k := range i + 1 {
			do(w ^ 1<<i ^ 1<<k&^(1<<i))
		}
	}
}

// rights hands out right instructions of a line: what it says stands at edges, in all ways.
func rights(l line, do func(i api.Instr)) {
	registers := []int{0, 1, 2, 15, 16, 31}
	none := []int{0}
	pick := func(part byte, edges []int) []int {
		if l.says(part) {
			return edges
		}
		return none
	}
	marks := []bool{false, true}
	if !l.says('q') {
		marks = marks[:1]
	}
	for _, rd := range pick('d', registers) {
		for _, a := range pick('a', registers) {
			for _, b := range pick('b', registers) {
				for _, csr := range pick('c', []int{0, 1, 773, 2047, 2048, 4095}) {
					for _, imm := range imms(l) {
						for _, aq := range marks {
							for _, rl := range marks {
								do(api.Instr{Op: l.op, Rd: rd, A: a, B: b, Csr: csr, Imm: imm, Aq: aq, Rl: rl})
							}
						}
					}
				}
			}
		}
	}
}

// imms are Imms at the edges of what a line may say, and each one's bit.
func imms(l line) []int64 {
	if !l.hasImm() {
		return []int64{0}
	}
	least, greatest, step := immEdges(l.form)
	all := []int64{least, greatest, least + step, greatest - step}
	if least < 0 {
		all = append(all, -step)
	}
	for n := step; n <= greatest; n *= 2 {
		all = append(all, n)
	}
	return append(all, 0)
}

// wrongs hands out i with one thing changed, mostly to what is wrong: beyond an edge, below 0, or what would be right if it were cut.
func wrongs(i api.Instr, do func(i api.Instr)) {
	for _, n := range []int{-1, -2, -31, -32, -33, -4096, 1, 31, 32, 33, 63, 64, 4095, 4096, 4097, 1 << 16, 1<<31 - 1, 1 << 31, 1 << 32, 1<<32 + 1, 1<<40 + 31, math.MinInt, math.MinInt + 1, math.MaxInt, math.MinInt32} {
		for _, k := range []api.Instr{
			{Op: i.Op, Rd: n, A: i.A, B: i.B, Imm: i.Imm, Csr: i.Csr, Aq: i.Aq, Rl: i.Rl},
			{Op: i.Op, Rd: i.Rd, A: n, B: i.B, Imm: i.Imm, Csr: i.Csr, Aq: i.Aq, Rl: i.Rl},
			{Op: i.Op, Rd: i.Rd, A: i.A, B: n, Imm: i.Imm, Csr: i.Csr, Aq: i.Aq, Rl: i.Rl},
			{Op: i.Op, Rd: i.Rd, A: i.A, B: i.B, Imm: i.Imm, Csr: n, Aq: i.Aq, Rl: i.Rl},
			{Op: i.Op, Rd: i.Rd, A: i.A, B: i.B, Imm: int64(n), Csr: i.Csr, Aq: i.Aq, Rl: i.Rl},
		} {
			do(k)
		}
	}
	for _, marks := range [][2]bool{{false, false}, {false, true}, {true, false}, {true, true}} {
		k := i
		k.Aq, k.Rl = marks[0], marks[1]
		do(k)
	}
}

// wrongOps are numbers that are no Op's, some of which would be one's if they were cut.
func wrongOps() []int {
	l := []int{0, -1, -2, -22, -113, 114, 115, 127, 128, 255, 256, 1 << 16, 1 << 31, math.MinInt, math.MinInt + 22, math.MaxInt, math.MinInt32}
	for op := 1; op <= count; op += 7 {
		l = append(l, -op, op+128, op+1<<8, op+1<<16, op+1<<32, op-1<<32)
	}
	return l
}

// The test's own table is the chapter's: as long, in order, with one word for one instruction.
func TestTable(t *testing.T) {
	if len(lines) != count {
		t.Fatalf("%d lines", len(lines))
	}
	names := map[string]int{}
	for n, l := range lines {
		if l.op != n+1 {
			t.Errorf("the line %d tells %d", n+1, l.op)
		}
		if l.match&^l.mask != 0 {
			t.Errorf("%s: the match has bits that the mask has not", l.name)
		}
		names[l.name]++
		for _, k := range lines[:n] {
			if (l.match^k.match)&l.mask&k.mask == 0 {
				t.Errorf("a word may be %s and %s", l.name, k.name)
			}
		}
	}
	if len(names) != count {
		t.Errorf("%d names", len(names))
	}
}

// P9.1

func TestExamplesOfDecode(t *testing.T) {
	var d Decoder
	for _, x := range []struct {
		w    uint32
		want api.Instr
		ok   bool
	}{
		{0x00500093, api.Instr{Op: api.OpAddi, Rd: 1, Imm: 5}, true},
		{0xfe209ee3, api.Instr{Op: api.OpBne, A: 1, B: 2, Imm: -4}, true},
		{0x30529073, api.Instr{Op: api.OpCsrrw, A: 5, Csr: 773}, true},
		{0x60a54573, api.Instr{}, false},
		{0x00000000, api.Instr{}, false},
		{0xffffffff, api.Instr{}, false},
		{0x6c05c533, api.Instr{}, false},
		{0x10500073, api.Instr{Op: api.OpWfi}, true},
		{0x100522af, api.Instr{Op: api.OpLrW, Rd: 5, A: 10}, true},
		{0x80000037, api.Instr{Op: api.OpLui, Imm: -1 << 31}, true},
		{0xffdff0ef, api.Instr{Op: api.OpJal, Rd: 1, Imm: -4}, true},
		{0xfe113c23, api.Instr{Op: api.OpSd, A: 2, B: 1, Imm: -8}, true},
		{0x43f2d293, api.Instr{Op: api.OpSrai, Rd: 5, A: 5, Imm: 63}, true},
		{0x43f2d29b, api.Instr{}, false},
		{0x41f2d29b, api.Instr{Op: api.OpSraiw, Rd: 5, A: 5, Imm: 31}, true},
		{0x1eb6262f, api.Instr{Op: api.OpScW, Rd: 12, A: 12, B: 11, Aq: true, Rl: true}, true},
		{0x0cb6362f, api.Instr{Op: api.OpAmoswapD, Rd: 12, A: 12, B: 11, Aq: true}, true},
		{0x1205b62f, api.Instr{Op: api.OpLrD, Rd: 12, A: 11, Rl: true}, true},
		{0x1215b62f, api.Instr{}, false},
		{0x12b50073, api.Instr{Op: api.OpSfenceVma, A: 10, B: 11}, true},
		{0x12b500f3, api.Instr{}, false},
		{0xc01fd5f3, api.Instr{Op: api.OpCsrrwi, Rd: 11, Imm: 31, Csr: 0xc01}, true},
		{0x6830c0f3, api.Instr{Op: api.OpHlvxWu, Rd: 1, A: 1}, true},
		{0x6eb54073, api.Instr{Op: api.OpHsvD, A: 10, B: 11}, true},
		{0x0ff0000f, api.Instr{Op: api.OpFence, Imm: 255}, true},
		{0x8000100f, api.Instr{Op: api.OpFenceI, Imm: -2048}, true},
		{0x000000f3, api.Instr{}, false},
		{0x00008073, api.Instr{}, false},
	} {
		decodeIs(t, &d, x.w, x.want, x.ok)
	}
}

// All that the table asks for stands in the lowest seven bits and funct3, funct7, rs2, but for rd and rs1 of a few.
func TestDecodeOfEveryMask(t *testing.T) {
	var d Decoder
	known := map[uint32]bool{}
	for _, l := range lines {
		known[l.match%128] = true
	}
	for opcode := range uint32(128) {
		for high := range uint32(1 << 15) {
			if !known[opcode] && high%37 != 0 {
				continue
			}
			w := opcode | high%8<<12 | high/8<<20
			for _, registers := range []uint32{0, 21<<7 | 10<<15} {
				want, ok := model(w | registers)
				decodeIs(t, &d, w|registers, want, ok)
			}
		}
	}
}

func TestDecodeAboutEveryMatch(t *testing.T) {
	var d Decoder
	for _, l := range lines {
		for _, other := range others {
			flips(l.match|other&^l.mask, func(w uint32) {
				want, ok := model(w)
				decodeIs(t, &d, w, want, ok)
			})
		}
	}
}

func TestDecodeOfAnyWord(t *testing.T) {
	var d Decoder
	randomWords(100000, func(w uint32) {
		want, ok := model(w)
		decodeIs(t, &d, w, want, ok)
	})
	randomWords(2000, func(w uint32) {
		for _, l := range lines {
			decodeIs(t, &d, l.match|w&^l.mask, l.read(w), true)
		}
	})
}

// P9.2

func TestExamplesOfEncode(t *testing.T) {
	for _, i := range []api.Instr{{Op: api.OpAddi, Rd: 32}, {Op: api.OpEcall, Rd: 1}, {Op: api.OpBeq, Imm: 3}, {}} {
		if w, e := Encode(i); w != 0 || e != api.ErrWord {
			t.Errorf("Encode(%+v) is %#08x, %d", i, w, e)
		}
	}
	for _, x := range []struct {
		i api.Instr
		w uint32
	}{
		{api.Instr{Op: api.OpAddi, Rd: 1, Imm: 5}, 0x00500093},
		{api.Instr{Op: api.OpBne, A: 1, B: 2, Imm: -4}, 0xfe209ee3},
		{api.Instr{Op: api.OpCsrrw, A: 5, Csr: 773}, 0x30529073},
		{api.Instr{Op: api.OpWfi}, 0x10500073},
		{api.Instr{Op: api.OpLrW, Rd: 5, A: 10}, 0x100522af},
		{api.Instr{Op: api.OpScW, Rd: 12, A: 12, B: 11, Aq: true, Rl: true}, 0x1eb6262f},
		{api.Instr{Op: api.OpLrD, Rd: 12, A: 11, Rl: true}, 0x1205b62f},
		{api.Instr{Op: api.OpCsrrwi, Rd: 11, Imm: 31, Csr: 0xc01}, 0xc01fd5f3},
		{api.Instr{Op: api.OpLui, Imm: -1 << 31}, 0x80000037},
		{api.Instr{Op: api.OpHsvD, A: 10, B: 11}, 0x6eb54073},
	} {
		if w, e := Encode(x.i); w != x.w || e != api.OK {
			t.Errorf("Encode(%+v) is %#08x, %d, not %#08x", x.i, w, e, x.w)
		}
	}
}

func TestEncodeOfRights(t *testing.T) {
	for _, l := range lines {
		rights(l, func(i api.Instr) {
			if !right(i) {
				t.Fatalf("%+v shall be right", i)
			}
			encodeIs(t, i)
		})
	}
}

// Each register, each Csr, and each Imm of a form that has few.
func TestEncodeOfEveryNumber(t *testing.T) {
	for _, l := range lines {
		for n := -5000; n <= 5000; n++ {
			encodeIs(t, api.Instr{Op: l.op, Rd: n})
			encodeIs(t, api.Instr{Op: l.op, A: n})
			encodeIs(t, api.Instr{Op: l.op, B: n})
			encodeIs(t, api.Instr{Op: l.op, Csr: n})
			encodeIs(t, api.Instr{Op: l.op, Imm: int64(n)})
		}
	}
}

func TestEncodeOfWrongs(t *testing.T) {
	for _, l := range lines {
		least, greatest, step := immEdges(l.form)
		one := api.Instr{Op: l.op}
		if l.says('d') {
			one.Rd = 31
		}
		if l.says('b') {
			one.B = 9
		}
		for _, imm := range []int64{0, least, greatest} {
			if !l.hasImm() {
				imm = 0
			}
			one.Imm = imm
			wrongs(one, func(i api.Instr) { encodeIs(t, i) })
		}
		for _, n := range []int64{least - step, least - 1, least + 1, greatest + 1, greatest + step, greatest - 1, 2*greatest + 2, 2 * least, least - 1<<32, greatest + 1<<32, 1 << 32, -1 << 32, 1 << 31, 1<<32 - 4096, math.MinInt64, math.MaxInt64} {
			one.Imm = n
			encodeIs(t, one)
		}
	}
}

func TestEncodeOfNoOp(t *testing.T) {
	for _, op := range wrongOps() {
		for _, i := range []api.Instr{{Op: op}, {Op: op, Rd: 1, A: 2}, {Op: op, Imm: 5}, {Op: op, Aq: true}, {Op: op, Csr: 773}} {
			if w, e := Encode(i); w != 0 || e != api.ErrWord {
				t.Fatalf("Encode(%+v) is %#08x, %d", i, w, e)
			}
		}
	}
}

// The mask has just those bits that the form does not take.
func TestEncodeTakesAllBits(t *testing.T) {
	for _, l := range lines {
		var taken uint32
		rights(l, func(i api.Instr) {
			w, _ := Encode(i)
			taken |= w ^ l.match
		})
		if taken != ^l.mask {
			t.Errorf("%s: the form takes %#08x, the mask leaves %#08x", l.name, taken, ^l.mask)
		}
	}
}

// P9.3

func TestNames(t *testing.T) {
	for _, l := range lines {
		if Name(l.op) != l.name {
			t.Errorf("Name(%d) is %q, not %q", l.op, Name(l.op), l.name)
		}
		if Op(l.name) != l.op {
			t.Errorf("Op(%q) is %d, not %d", l.name, Op(l.name), l.op)
		}
	}
	if Name(1) != "lui" || Op("hlvx.wu") != 108 {
		t.Error("the chapter's examples")
	}
}

func TestNoNames(t *testing.T) {
	for _, op := range wrongOps() {
		if Name(op) != "" {
			t.Errorf("Name(%d) is %q", op, Name(op))
		}
	}
	for _, name := range []string{"", "x", " ", "\x00", "li", "la", ".word", "nop", "lr", "amoadd", "hlv", "hlvx", "hlvx.d", "hlvx.b", "sc.w.aq", "fencei", "fence.", ".i", "c.addi", "sfence", "uret", "lu", "luii"} {
		if Op(name) != 0 {
			t.Errorf("Op(%q) is %d", name, Op(name))
		}
	}
	for _, l := range lines {
		for _, name := range []string{strings.ToUpper(l.name), " " + l.name, l.name + " ", l.name + ".", l.name + "\x00", l.name + l.name, strings.ReplaceAll(l.name, ".", "_") + "_"} {
			if Op(name) != 0 {
				t.Errorf("Op(%q) is %d", name, Op(name))
			}
		}
	}
}

// P9.4

// asDecode holds a Decoder against Decode, on words of each instruction and of none.
func asDecode(t *testing.T, d *Decoder) {
	t.Helper()
	check := func(w uint32) {
		want, wantOk := Decode(w)
		if i, ok := d.Decode(w); i != want || ok != wantOk {
			t.Errorf("Decode(%#08x) is %+v, %v, not %+v, %v", w, i, ok, want, wantOk)
		}
	}
	for _, l := range lines {
		for _, other := range others {
			check(l.match | other&^l.mask)
			check(l.match ^ other&l.mask)
		}
	}
	for opcode := range uint32(128) {
		check(opcode)
		check(opcode | 0xffffff80)
	}
	randomWords(5000, check)
}

func TestDecoderThatNobodyMade(t *testing.T) {
	var d Decoder
	asDecode(t, &d)
	asDecode(t, &d)
	asDecode(t, new(Decoder))
	asDecode(t, &Decoder{})
	list := make([]Decoder, 3)
	for n := range list {
		asDecode(t, &list[n])
	}
}

func TestNilDecoder(t *testing.T) {
	var d *Decoder
	asDecode(t, d)
	if i, ok := d.Decode(0x00500093); !ok || i != (api.Instr{Op: api.OpAddi, Rd: 1, Imm: 5}) {
		t.Errorf("a nil Decoder tells %+v, %v", i, ok)
	}
	if i, ok := d.Decode(0); ok || i != (api.Instr{}) {
		t.Errorf("a nil Decoder tells %+v, %v", i, ok)
	}
}

// What is asked first is no matter: each word is asked of a Decoder of its own.
func TestDecoderIsAskedFirst(t *testing.T) {
	for _, l := range lines {
		var d Decoder
		decodeIs(t, &d, l.match, l.read(l.match), true)
	}
	for _, w := range []uint32{0, 0xffffffff, 0x60a54573, 0x6c05c533} {
		var d Decoder
		decodeIs(t, &d, w, api.Instr{}, false)
		decodeIs(t, &d, 0x10500073, api.Instr{Op: api.OpWfi}, true)
	}
}

func TestDecoderOfSeveralGoroutines(t *testing.T) {
	for range 20 {
		var d Decoder
		var all sync.WaitGroup
		start := make(chan struct{})
		for range 8 {
			all.Go(func() {
				<-start
				asDecode(t, &d)
			})
		}
		close(start)
		all.Wait()
	}
}

func TestDecoderMakesItsTableOnce(t *testing.T) {
	var d Decoder
	stands := func() (places [][]int, n int) {
		for _, ops := range d.table {
			n += len(ops)
			places = append(places, ops)
		}
		return places, n
	}
	if _, n := stands(); n != 0 {
		t.Fatalf("%d Ops stand there ahead of the first word", n)
	}
	d.Decode(0)
	before, n := stands()
	if n != count {
		t.Fatalf("%d Ops stand there", n)
	}
	asDecode(t, &d)
	after, n := stands()
	if len(after) != 128 {
		t.Errorf("the table has %d numbers", len(after))
	}
	for at := range after {
		if len(before[at]) > 0 && &before[at][0] != &after[at][0] {
			t.Errorf("the table was made again at %d", at)
		}
	}
	if n != count {
		t.Errorf("%d Ops stand there at last", n)
	}
}

// P9.5

func TestDecodeOfEncode(t *testing.T) {
	var d Decoder
	for _, l := range lines {
		rights(l, func(i api.Instr) {
			w, e := Encode(i)
			if e != api.OK {
				t.Fatalf("Encode(%+v) is %d", i, e)
			}
			decodeIs(t, &d, w, i, true)
		})
	}
}

func TestEncodeOfDecode(t *testing.T) {
	back := func(w uint32) {
		i, ok := Decode(w)
		if !ok {
			return
		}
		if k, e := Encode(i); k != w || e != api.OK {
			t.Fatalf("Encode(%+v) is %#08x, %d, not %#08x", i, k, e, w)
		}
	}
	for _, l := range lines {
		flips(l.match, back)
		flips(l.match|^l.mask, back)
		randomWords(1000, func(w uint32) { back(l.match | w&^l.mask) })
	}
	randomWords(100000, back)
}

func TestEachNameHasOneOp(t *testing.T) {
	ops := map[string]int{}
	for op := 1; op <= count; op++ {
		name := Name(op)
		if name == "" || ops[name] != 0 {
			t.Errorf("the name %q of %d is that of %d", name, op, ops[name])
		}
		ops[name] = op
		if Op(name) != op {
			t.Errorf("Op(Name(%d)) is %d", op, Op(name))
		}
	}
}

func TestOtherBitsAreNoMatter(t *testing.T) {
	for _, l := range lines {
		for bit := range 32 {
			i, ok := Decode(l.match ^ 1<<bit)
			if left := l.mask>>bit&1 == 0; (ok && i.Op == l.op) != left {
				t.Errorf("%s with another bit %d is %+v, %v", l.name, bit, i, ok)
			}
		}
		randomWords(500, func(w uint32) {
			if i, ok := Decode(l.match | w&^l.mask); !ok || i.Op != l.op {
				t.Fatalf("%s with other bits of %#08x is %+v, %v", l.name, w, i, ok)
			}
		})
	}
}
