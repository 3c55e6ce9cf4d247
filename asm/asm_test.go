package asm

import (
	"math"
	"math/big"
	"regexp"
	"strconv"
	"strings"
	"testing"

	"mezzanine/api"
	"mezzanine/decode"
)

// The calls have the signatures of the chapter.
var (
	_ func(api.Instr) (string, api.Errno)             = Print
	_ func(string) (api.Instr, api.Errno)             = Parse
	_ func(int, int64) []api.Instr                    = Li
	_ func(string, uint64) ([]uint32, int, api.Errno) = Assemble
)

// names are the instructions' names by forms, in the order of layer 9's table, a form's letter ahead of its names.
const names = `
U lui auipc J jal I jalr B beq bne blt bge bltu bgeu I lb lh lw ld lbu lhu lwu S sb sh sw sd
I addi slti sltiu xori ori andi H slli srli srai I addiw W slliw srliw sraiw
R add sub sll slt sltu xor srl sra or and addw subw sllw srlw sraw
R mul mulh mulhsu mulhu div divu rem remu mulw divw divuw remw remuw
L lr.w A sc.w amoswap.w amoadd.w amoxor.w amoand.w amoor.w amomin.w amomax.w amominu.w amomaxu.w
L lr.d A sc.d amoswap.d amoadd.d amoxor.d amoand.d amoor.d amomin.d amomax.d amominu.d amomaxu.d
I fence fence.i N ecall ebreak sret mret wfi F sfence.vma hfence.vvma hfence.gvma
C csrrw csrrs csrrc Z csrrwi csrrsi csrrci
V hlv.b hlv.bu hlv.h hlv.hu hlvx.hu hlv.w hlv.wu hlvx.wu hlv.d F hsv.b hsv.h hsv.w hsv.d`

// kind is an instruction's name and form.
type kind struct {
	op   int
	name string
	form byte
}

// kinds are all instructions.
func kinds() []kind {
	var list []kind
	var form byte
	for _, w := range strings.Fields(names) {
		if len(w) == 1 {
			form = w[0]
			continue
		}
		list = append(list, kind{len(list) + 1, w, form})
	}
	return list
}

// parts are a form's operands in their order, a letter each: d, a, b registers, c the Csr, i the Imm.
func (k kind) parts() string {
	switch k.form {
	case 'U', 'J':
		return "di"
	case 'I', 'H', 'W':
		return "dai"
	case 'B', 'S':
		return "abi"
	case 'R', 'A':
		return "dab"
	case 'L', 'V':
		return "da"
	case 'F':
		return "ab"
	case 'C':
		return "dac"
	case 'Z':
		return "dic"
	}
	return ""
}

// has says whether there is such an operand.
func (k kind) has(part byte) bool { return strings.IndexByte(k.parts(), part) >= 0 }

// marked says whether Aq and Rl are said.
func (k kind) marked() bool { return k.form == 'L' || k.form == 'A' }

// edges are the least and the greatest Imm, and by how much two are apart at least.
func (k kind) edges() (least, greatest, step int64) {
	switch k.form {
	case 'U':
		return -2147483648, 2147479552, 4096
	case 'J':
		return -1048576, 1048574, 2
	case 'I', 'S':
		return -2048, 2047, 1
	case 'B':
		return -4096, 4094, 2
	case 'H':
		return 0, 63, 1
	case 'W', 'Z':
		return 0, 31, 1
	}
	return 0, 0, 1
}

// text is the line of an instruction that is right.
func (k kind) text(i api.Instr) string {
	line := k.name
	if i.Aq || i.Rl {
		line += "."
	}
	if i.Aq {
		line += "aq"
	}
	if i.Rl {
		line += "rl"
	}
	for n, part := range []byte(k.parts()) {
		if n == 0 {
			line += " "
		} else {
			line += ", "
		}
		switch part {
		case 'd':
			line += "x" + strconv.Itoa(i.Rd)
		case 'a':
			line += "x" + strconv.Itoa(i.A)
		case 'b':
			line += "x" + strconv.Itoa(i.B)
		case 'c':
			line += strconv.Itoa(i.Csr)
		case 'i':
			line += big.NewInt(i.Imm).String()
		}
	}
	return line
}

// rights hands out right instructions of a kind: each operand at its edges and between, the others somewhere.
func (k kind) rights(do func(i api.Instr)) {
	base := api.Instr{Op: k.op}
	least, greatest, step := k.edges()
	imms := []int64{0, least, greatest, least + step, greatest - step, step, 2 * step, 10 * step}
	if least < 0 {
		imms = append(imms, -step, -10*step)
	}
	some := []int{0, 1, 2, 9, 10, 19, 20, 29, 30, 31}
	for n := range 40 {
		i := base
		if k.has('d') {
			i.Rd = some[n%len(some)]
		}
		if k.has('a') {
			i.A = some[(n/3+1)%len(some)]
		}
		if k.has('b') {
			i.B = some[(n/7+2)%len(some)]
		}
		if k.has('c') {
			i.Csr = []int{0, 1, 9, 10, 99, 100, 768, 773, 999, 1000, 2047, 2048, 4095}[n%13]
		}
		if k.has('i') {
			i.Imm = imms[n%len(imms)]
		}
		if k.marked() {
			i.Aq, i.Rl = n&1 == 1, n&2 == 2
		}
		do(i)
	}
}

// How a register, a number and a name with its marks are written.
var (
	isRegister = regexp.MustCompile(`^x(\d|[12]\d|3[01])$`)
	isNumber   = regexp.MustCompile(`^(0|-?[1-9]\d*)$`)
	aName      = regexp.MustCompile(`^([a-z.]+?)(\.aqrl|\.aq|\.rl)?$`)
)

// modelRegister is the register that is written there.
func modelRegister(text string) (int, bool) {
	if !isRegister.MatchString(text) {
		return 0, false
	}
	n, err := strconv.Atoi(text[1:])
	return n, err == nil
}

// modelNumber is the number that is written there, if it is one from least to greatest.
func modelNumber(text string, least, greatest int64) (int64, bool) {
	if !isNumber.MatchString(text) {
		return 0, false
	}
	n, ok := new(big.Int).SetString(text, 10)
	if !ok || n.Cmp(big.NewInt(least)) < 0 || n.Cmp(big.NewInt(greatest)) > 0 {
		return 0, false
	}
	return n.Int64(), true
}

// model reads lines by the chapter's words, part by part.
type model struct {
	byName map[string]kind
}

func newModel() model {
	m := model{map[string]kind{}}
	for _, k := range kinds() {
		m.byName[k.name] = k
	}
	return m
}

// parse is the instruction of a line.
func (m model) parse(line string) (api.Instr, bool) {
	name, rest, more := strings.Cut(line, " ")
	found := aName.FindStringSubmatch(name)
	if found == nil {
		return api.Instr{}, false
	}
	k, ok := m.byName[found[1]]
	if !ok || found[2] != "" && !k.marked() || more != (k.parts() != "") {
		return api.Instr{}, false
	}
	i := api.Instr{Op: k.op, Aq: strings.HasPrefix(found[2], ".aq"), Rl: strings.HasSuffix(found[2], "rl")}
	var texts []string
	if more {
		texts = strings.Split(rest, ", ")
	}
	if len(texts) != len(k.parts()) {
		return api.Instr{}, false
	}
	for n, text := range texts {
		if !k.operand(&i, k.parts()[n], text) {
			return api.Instr{}, false
		}
	}
	return i, true
}

// operand puts an operand into i, if it is one.
func (k kind) operand(i *api.Instr, part byte, text string) bool {
	var ok bool
	switch part {
	case 'd':
		i.Rd, ok = modelRegister(text)
	case 'a':
		i.A, ok = modelRegister(text)
	case 'b':
		i.B, ok = modelRegister(text)
	case 'c':
		var n int64
		n, ok = modelNumber(text, 0, 4095)
		i.Csr = int(n)
	case 'i':
		least, greatest, step := k.edges()
		i.Imm, ok = modelNumber(text, least, greatest)
		ok = ok && i.Imm%step == 0
	}
	return ok
}

// parseIs holds Parse against the model, and tells whether there is such an instruction.
func (m model) parseIs(t *testing.T, line string) bool {
	t.Helper()
	want, ok := m.parse(line)
	wantE := api.OK
	if !ok {
		want, wantE = api.Instr{}, api.ErrText
	}
	if i, e := Parse(line); i != want || e != wantE {
		t.Fatalf("Parse(%q) is %+v, %d, not %+v, %d", line, i, e, want, wantE)
	}
	return ok
}

// textIsWrong tells that Parse refuses the line.
func textIsWrong(t *testing.T, line string) {
	t.Helper()
	if i, e := Parse(line); i != (api.Instr{}) || e != api.ErrText {
		t.Errorf("Parse(%q) is %+v, %d", line, i, e)
	}
}

// The test's own names are layer 9's.
func TestKinds(t *testing.T) {
	list := kinds()
	if len(list) != 113 {
		t.Fatalf("%d names", len(list))
	}
	for _, k := range list {
		if decode.Name(k.op) != k.name {
			t.Errorf("the name of %d is %q, not %q", k.op, decode.Name(k.op), k.name)
		}
	}
}

// P10.1

func TestExamplesOfPrint(t *testing.T) {
	for _, x := range []struct {
		i    api.Instr
		line string
	}{
		{api.Instr{Op: api.OpAddi, Rd: 1, A: 2, Imm: -5}, "addi x1, x2, -5"},
		{api.Instr{Op: api.OpScW, Rd: 1, A: 2, B: 3, Aq: true}, "sc.w.aq x1, x2, x3"},
		{api.Instr{Op: api.OpCsrrwi, Rd: 1, Imm: 3, Csr: 768}, "csrrwi x1, 3, 768"},
		{api.Instr{Op: api.OpWfi}, "wfi"},
		{api.Instr{Op: api.OpLrD, Rd: 31, A: 30, Aq: true, Rl: true}, "lr.d.aqrl x31, x30"},
		{api.Instr{Op: api.OpAmomaxuD, Rd: 5, Rl: true}, "amomaxu.d.rl x5, x0, x0"},
		{api.Instr{Op: api.OpSd, A: 31, B: 1, Imm: 8}, "sd x31, x1, 8"},
		{api.Instr{Op: api.OpLui, Rd: 5, Imm: -2147483648}, "lui x5, -2147483648"},
		{api.Instr{Op: api.OpBeq, A: 1, B: 2, Imm: -4096}, "beq x1, x2, -4096"},
		{api.Instr{Op: api.OpJal, Imm: 1048574}, "jal x0, 1048574"},
		{api.Instr{Op: api.OpCsrrw, Rd: 0, A: 5, Csr: 773}, "csrrw x0, x5, 773"},
		{api.Instr{Op: api.OpFenceI}, "fence.i x0, x0, 0"},
		{api.Instr{Op: api.OpSfenceVma, A: 1, B: 2}, "sfence.vma x1, x2"},
		{api.Instr{Op: api.OpHlvxWu, Rd: 10, A: 11}, "hlvx.wu x10, x11"},
		{api.Instr{Op: api.OpSrai, Rd: 1, A: 1, Imm: 63}, "srai x1, x1, 63"},
	} {
		if line, e := Print(x.i); line != x.line || e != api.OK {
			t.Errorf("Print(%+v) is %q, %d, not %q", x.i, line, e, x.line)
		}
		if i, e := Parse(x.line); i != x.i || e != api.OK {
			t.Errorf("Parse(%q) is %+v, %d", x.line, i, e)
		}
	}
}

func TestExamplesOfParse(t *testing.T) {
	for _, line := range []string{"addi x1,x2, 5", "addi x01, x2, 5", "wfi ", "add.aq x1, x2, x3"} {
		textIsWrong(t, line)
	}
}

func TestPrintOfRightOnes(t *testing.T) {
	for _, k := range kinds() {
		k.rights(func(i api.Instr) {
			if line, e := Print(i); line != k.text(i) || e != api.OK {
				t.Fatalf("Print(%+v) is %q, %d, not %q", i, line, e, k.text(i))
			}
		})
	}
}

// wrongs hands out i with one thing changed, most often to what is wrong.
func wrongs(i api.Instr, do func(i api.Instr)) {
	for _, n := range []int{-1, -32, -4096, 1, 3, 31, 32, 33, 64, 4095, 4096, 1 << 32, 1<<32 + 1, math.MinInt, math.MaxInt} {
		k := i
		k.Rd = n
		do(k)
		k = i
		k.A = n
		do(k)
		k = i
		k.B = n
		do(k)
		k = i
		k.Csr = n
		do(k)
		k = i
		k.Imm = int64(n)
		do(k)
	}
	for n := range 4 {
		k := i
		k.Aq, k.Rl = n&1 == 1, n&2 == 2
		do(k)
	}
	for _, op := range []int{0, -1, 114, 128 + i.Op, 1<<32 + i.Op, -i.Op, math.MinInt, math.MaxInt} {
		k := i
		k.Op = op
		do(k)
	}
}

func TestPrintOfWrongOnes(t *testing.T) {
	refused := 0
	for _, k := range kinds() {
		base := api.Instr{Op: k.op}
		wrongs(base, func(i api.Instr) {
			_, wrong := decode.Encode(i)
			line, e := Print(i)
			if wrong == api.OK {
				if line != k.text(i) || e != api.OK {
					t.Fatalf("Print(%+v) is %q, %d", i, line, e)
				}
				return
			}
			refused++
			if line != "" || e != api.ErrWord {
				t.Fatalf("Print(%+v) is %q, %d", i, line, e)
			}
		})
	}
	if refused < 1000 {
		t.Errorf("only %d were wrong", refused)
	}
	for _, i := range []api.Instr{{}, {Op: 114}, {Op: api.OpAddi, Rd: 32}, {Op: api.OpAddi, B: 1}, {Op: api.OpAddi, Imm: 2048}, {Op: api.OpWfi, Rd: 1}, {Op: api.OpAdd, Aq: true}, {Op: api.OpBeq, Imm: 3}, {Op: api.OpCsrrw, Csr: 4096}, {Op: api.OpLui, Imm: 1}, {Op: api.OpLrW, B: 1}} {
		if line, e := Print(i); line != "" || e != api.ErrWord {
			t.Errorf("Print(%+v) is %q, %d", i, line, e)
		}
	}
}

func TestParseOfEachLine(t *testing.T) {
	m := newModel()
	for _, k := range kinds() {
		k.rights(func(i api.Instr) {
			if !m.parseIs(t, k.text(i)) {
				t.Fatalf("the model refuses %q", k.text(i))
			}
		})
	}
}

// near hands out the text with a byte put in, left out or changed.
func near(text string, do func(text string)) {
	const strange = " \t,x0129-+._aqrl@#:\n\r\x00\xff"
	for at := range len(text) + 1 {
		for n := range len(strange) {
			do(text[:at] + strange[n:n+1] + text[at:])
			if at < len(text) {
				do(text[:at] + strange[n:n+1] + text[at+1:])
			}
		}
		if at < len(text) {
			do(text[:at] + text[at+1:])
			do(text[:at])
			do(text[at:])
			do(text[:at] + strings.ToUpper(text[at:]))
		}
	}
}

func TestParseOfNearLines(t *testing.T) {
	m := newModel()
	good, bad := 0, 0
	for _, k := range kinds() {
		n := 0
		k.rights(func(i api.Instr) {
			n++
			if n%13 != 1 {
				return
			}
			near(k.text(i), func(line string) {
				if m.parseIs(t, line) {
					good++
				} else {
					bad++
				}
			})
		})
	}
	if good < 1000 || bad < 10000 {
		t.Errorf("%d good and %d bad lines", good, bad)
	}
}

// Each name with each number of operands of each kind: just one of them is right.
func TestParseOfOtherOperands(t *testing.T) {
	m := newModel()
	some := []string{"x0", "x31", "x32", "0", "2", "4096", "-2", "-0", "", "@a"}
	for _, k := range kinds() {
		for _, mark := range []string{"", ".aq", ".rl", ".aqrl", ".rlaq", ".aq.rl", "."} {
			name := k.name + mark
			m.parseIs(t, name)
			for _, p := range some {
				m.parseIs(t, name+" "+p)
				for _, q := range some {
					m.parseIs(t, name+" "+p+", "+q)
					for _, r := range some {
						m.parseIs(t, name+" "+p+", "+q+", "+r)
						if p == "x0" && q == "x0" {
							m.parseIs(t, name+" "+p+", "+q+", "+r+", x0")
							m.parseIs(t, name+" "+p+", "+q+", "+r+", 0")
						}
					}
				}
			}
		}
	}
}

func TestParseOfNumbers(t *testing.T) {
	m := newModel()
	for _, k := range kinds() {
		if !k.has('i') && !k.has('c') {
			continue
		}
		for _, n := range []string{
			"0", "-0", "00", "+0", "+1", "1", "01", "-1", "-01", "--1", "-", "+", "1_0", "0x1", "0b1", "0o7", "1e1", "1.0", "1.", "٣", "１",
			"31", "32", "63", "64", "2047", "2048", "-2048", "-2049", "4094", "4095", "4096", "-4096", "-4098", "1048574", "1048576", "-1048576", "-1048578",
			"2147479552", "2147483647", "2147483648", "-2147483648", "-2147487744", "4294967296", "4294967297", "8192", "9223372036854775807", "9223372036854775808",
			"-9223372036854775808", "-9223372036854775809", "18446744073709551616", "18446744073709551617", "-18446744073709551615", "99999999999999999999999999",
		} {
			for _, line := range numbered(k, n) {
				m.parseIs(t, line)
			}
		}
	}
}

// numbered is lines of a kind with that number in the place of each of its numbers.
func numbered(k kind, n string) []string {
	var lines []string
	for at, part := range []byte(k.parts()) {
		if part != 'i' && part != 'c' {
			continue
		}
		var texts []string
		for other, part := range []byte(k.parts()) {
			switch {
			case other == at:
				texts = append(texts, n)
			case part == 'i' || part == 'c':
				texts = append(texts, "0")
			default:
				texts = append(texts, "x7")
			}
		}
		lines = append(lines, k.name+" "+strings.Join(texts, ", "))
	}
	return lines
}

func TestParseOfRegisters(t *testing.T) {
	m := newModel()
	for n := range 100 {
		r := "x" + strconv.Itoa(n)
		for _, line := range []string{"add " + r + ", x0, x0", "add x0, " + r + ", x0", "add x0, x0, " + r, "lui " + r + ", 0", "sfence.vma " + r + ", x1"} {
			if m.parseIs(t, line) != (n <= 31) {
				t.Errorf("the model of %q", line)
			}
		}
	}
	for _, r := range []string{"", "x", "x-1", "x-0", "x+1", "x00", "x01", "x031", "X1", "1", "xx1", "x1x", "x 1", "x1 ", " x1", "ra", "zero", "a0", "x4294967297", "x18446744073709551617", "x1_0", "x0x1", "f1"} {
		for _, line := range []string{"add " + r + ", x0, x0", "add x0, " + r + ", x0", "add x0, x0, " + r, "li " + r + ", 0"} {
			textIsWrong(t, line)
		}
	}
}

func TestParseOfWhatIsNoInstruction(t *testing.T) {
	for _, line := range []string{
		"", " ", "\t", "\n", "#", "# wfi", "wfi # it waits", "wfi#", " wfi", "\twfi", "wfi\t", "wfi\n", "\nwfi", "wfi\r", "wfi\x00", "wfi,", "wfi, ", "wfi x0", "WFI", "Wfi",
		"wfi\nwfi", "a:", "wfi:", "li x1, 5", "la x1, @a", ".word 0", ".word 115", "nop", "ret", "mv x1, x2", "j 0", "add", "add ", "add x1", "add x1, x2", "add x1, x2, x3, x4", "add x1, x2, 3",
		"addi x1, x2, x3", "addi x1, x2,5", "addi x1, x2 , 5", "addi  x1, x2, 5", "addi x1,  x2, 5", "addi x1, x2,  5", "addi\tx1, x2, 5", "addi x1,\tx2, 5", "addi, x1, x2, 5", "addi x1, x2, 5,",
		"addi x1, x2, 5, ", "addi x1, x2, 2048", "addi x1, x2, -2049", "beq x0, x0, @a", "jal x0, @a", "jal x0, 1", "jal x0", "ld x1, 8(x2)", "sd x1, x2", "csrrw x0, x5, mtvec", "csrrw x0, x5, 0x305",
		"csrrw x0, 5, 773", "csrrwi x0, x5, 773", "csrrwi x0, 773, 5", "csrrwi x0, 32, 5", "csrrw x0, x5, 4096", "csrrw x0, x5, -1", "lui x1, 1", "lui x1, 2147483648", "slli x1, x1, 64", "slliw x1, x1, 32",
		"lr.w x1, x2, x3", "lr.w x1", "lr x1, x2", "lr.w.rlaq x1, x2", "lr.w.aq.rl x1, x2", "lr.w.aqaq x1, x2", "lr.w. x1, x2", "lr.aq.w x1, x2", "sc.w.aq.aq x1, x2, x3", "addi.rl x1, x2, 5", "wfi.aq", "fence.i.aq x0, x0, 0",
		".aq", ".rl", ".aqrl", "aq", ".", "fence", "fence.i", "fence x0, x0", "sfence.vma", "hlv.b x1, 0", "hsv.b x1, x2, 0", "x1", "5", ",", ", ",
	} {
		textIsWrong(t, line)
	}
	textIsWrong(t, strings.Repeat("x", 1<<20))
	textIsWrong(t, "add x1"+strings.Repeat(", x1", 1<<18))
	textIsWrong(t, "addi x1, x2, "+strings.Repeat("1", 1<<20))
	textIsWrong(t, "addi x1, x2, 5"+strings.Repeat(" ", 1<<20))
}

// P10.4

func TestParseOfPrint(t *testing.T) {
	for _, k := range kinds() {
		check := func(i api.Instr) {
			line, e := Print(i)
			if e != api.OK {
				return
			}
			if back, e := Parse(line); back != i || e != api.OK {
				t.Fatalf("Parse(Print(%+v)) is %+v, %d", i, back, e)
			}
		}
		k.rights(check)
		k.rights(func(i api.Instr) { wrongs(i, check) })
	}
}

func TestPrintOfParse(t *testing.T) {
	back := func(line string) {
		i, e := Parse(line)
		if e != api.OK {
			return
		}
		if again, e := Print(i); again != line || e != api.OK {
			t.Fatalf("Print(Parse(%q)) is %q, %d", line, again, e)
		}
		if _, e := decode.Encode(i); e != api.OK {
			t.Fatalf("Parse(%q) is %+v, which is wrong", line, i)
		}
	}
	for _, k := range kinds() {
		n := 0
		k.rights(func(i api.Instr) {
			if n++; n%7 == 2 {
				near(k.text(i), back)
			}
		})
	}
}

// Each word that is an instruction has a line, and the line is no other one's.
func TestLinesOfWords(t *testing.T) {
	seen := map[string]uint32{}
	w := uint32(0x9e3779b9)
	for range 300000 {
		w ^= w << 13
		w ^= w >> 17
		w ^= w << 5
		i, ok := decode.Decode(w)
		if !ok {
			continue
		}
		line, e := Print(i)
		if e != api.OK || line == "" {
			t.Fatalf("Print(%+v) is %q, %d", i, line, e)
		}
		if other, ok := seen[line]; ok && other != w {
			t.Fatalf("%q is the line of %#08x and of %#08x", line, w, other)
		}
		seen[line] = w
		if back, e := Parse(line); back != i || e != api.OK {
			t.Fatalf("Parse(%q) is %+v, %d", line, back, e)
		}
	}
}
