package asm

import (
	"math"
	"math/bits"
	"strings"

	"mezzanine/api"
	"mezzanine/decode"
	"mezzanine/fields"
)

// registers is how many a hart has.
const registers = 32

// wordSize is how many bytes a program's word takes.
const wordSize = 4

// blanks are those that are no matter ahead of what a line says, and behind it.
const blanks = " \t"

// mostName is how many bytes a label's name has at most.
const mostName = 32

// How far a label that la names may be.
const (
	leastFar    = math.MinInt32
	greatestFar = math.MaxInt32 - 2048
)

// Li is the instructions that put n into the register rd, if there is such a one.
func Li(rd int, n int64) []api.Instr {
	if rd < 0 || rd >= registers {
		return nil
	}
	if fields.Fits(fields.FormI, n) {
		return []api.Instr{{Op: api.OpAddi, Rd: rd, Imm: n}}
	}
	low := lowPart(n)
	high := n - low
	add := api.OpAddi
	var list []api.Instr
	if n >= math.MinInt32 && n <= math.MaxInt32 {
		add = api.OpAddiw
		list = []api.Instr{{Op: api.OpLui, Rd: rd, Imm: int64(int32(high))}}
	} else {
		noughts := bits.TrailingZeros64(uint64(high))
		list = append(Li(rd, high>>noughts), api.Instr{Op: api.OpSlli, Rd: rd, A: rd, Imm: int64(noughts)})
	}
	if low != 0 {
		list = append(list, api.Instr{Op: add, Rd: rd, A: rd, Imm: low})
	}
	return list
}

// lowPart is the number that FormI may say whose bits there are the lowest ones of n.
func lowPart(n int64) int64 {
	const above = 64 - 12
	return n << above >> above
}

// Assemble is the words of a program that lies from base on, or its first fault and the number of the line.
func Assemble(text string, base uint64) (words []uint32, line int, e api.Errno) {
	if len(text) > api.MaxText {
		return nil, 0, api.ErrLong
	}
	if base%wordSize != 0 {
		return nil, 0, api.ErrArg
	}
	statements, fault := readAll(text)
	if fault != 0 {
		return nil, fault, api.ErrText
	}
	labels, fault := place(statements, base)
	if fault != 0 {
		return nil, fault, api.ErrLabel
	}
	return link(statements, labels, base)
}

// statement is what a line of a program says; of one that is empty nothing.
type statement struct {
	// The label that the line is.
	label string
	// The line's words; where it names a label, only as many as there are.
	words []uint32
	// The label that the line names, and its words by how far that one is, if it is not too far.
	names string
	aim   func(far int64) ([]uint32, bool)
}

// readAll is what the lines say, or the number of the first one that says nothing that may stand there.
func readAll(text string) (statements []statement, fault int) {
	for n, line := range strings.Split(text, "\n") {
		s, ok := read(line)
		if !ok {
			return nil, n + 1
		}
		statements = append(statements, s)
	}
	return statements, 0
}

// place is where each label is, or the number of the first line whose label stands in a line ahead.
func place(statements []statement, base uint64) (labels map[string]uint64, fault int) {
	labels = map[string]uint64{}
	at := base
	for n, s := range statements {
		if s.label != "" {
			if _, ok := labels[s.label]; ok {
				return nil, n + 1
			}
			labels[s.label] = at
		}
		at += wordSize * uint64(len(s.words))
	}
	return labels, 0
}

// link is all words, or the first line that names no label, or one that is too far.
func link(statements []statement, labels map[string]uint64, base uint64) (words []uint32, fault int, e api.Errno) {
	at := base
	for n, s := range statements {
		if s.aim != nil {
			label, ok := labels[s.names]
			if !ok {
				return nil, n + 1, api.ErrLabel
			}
			if s.words, ok = s.aim(int64(label - at)); !ok {
				return nil, n + 1, api.ErrFar
			}
		}
		words = append(words, s.words...)
		at += wordSize * uint64(len(s.words))
	}
	return words, 0, api.OK
}

// read is what a line says, if it is one that may stand in a program.
func read(line string) (statement, bool) {
	line, _, _ = strings.Cut(line, "#")
	line = strings.Trim(line, blanks)
	if line == "" {
		return statement{}, true
	}
	if name, ok := strings.CutSuffix(line, ":"); ok {
		return statement{label: name}, isName(name)
	}
	if head, name, ok := strings.Cut(line, ", @"); ok {
		return readNaming(head, name)
	}
	words, ok := readWords(line)
	return statement{words: words}, ok
}

// isName says whether a label may have this name.
func isName(name string) bool {
	if len(name) < 1 || len(name) > mostName || !isLetter(name[0]) {
		return false
	}
	for _, b := range []byte(name) {
		if !isLetter(b) && (b < '0' || b > '9') && b != '_' {
			return false
		}
	}
	return true
}

// isLetter says whether a name may begin with b.
func isLetter(b byte) bool { return b >= 'a' && b <= 'z' }

// readNaming is what a line says that names a label, and what stands ahead of that.
func readNaming(head, name string) (statement, bool) {
	if !isName(name) {
		return statement{}, false
	}
	aim, ok := aimOfLa(head)
	if !ok {
		aim, ok = aimOfJump(head)
	}
	if !ok {
		return statement{}, false
	}
	words, ok := aim(0)
	return statement{words: words, names: name, aim: aim}, ok
}

// aimOfLa makes the words of a la by how far its label is, if that is what stands ahead of the label.
func aimOfLa(head string) (aim func(far int64) ([]uint32, bool), ok bool) {
	name, rest, _ := strings.Cut(head, " ")
	register, _ := reader(rest)
	rd := register()
	if name != "la" || write(name, registerText(rd)) != head {
		return nil, false
	}
	return func(far int64) ([]uint32, bool) {
		if far < leastFar || far > greatestFar {
			return nil, false
		}
		low := lowPart(far)
		return encode(
			api.Instr{Op: api.OpAuipc, Rd: rd, Imm: far - low},
			api.Instr{Op: api.OpAddi, Rd: rd, A: rd, Imm: low},
		)
	}, true
}

// aimOfJump makes the word of a jump or a branch by how far its label is, if that is what stands ahead of the label.
func aimOfJump(head string) (aim func(far int64) ([]uint32, bool), ok bool) {
	// With a number in the label's place it is an instruction's line.
	i, e := Parse(head + ", " + numberText(0))
	if e != api.OK || !jumps(i.Op) {
		return nil, false
	}
	return func(far int64) ([]uint32, bool) {
		i.Imm = far
		return encode(i)
	}, true
}

// jumps says whether an Op's Imm is how far it goes, so that a label may stand there.
func jumps(op int) bool {
	switch op {
	case api.OpJal, api.OpBeq, api.OpBne, api.OpBlt, api.OpBge, api.OpBltu, api.OpBgeu:
		return true
	}
	return false
}

// readWords is the words of a line that hangs on no label, if it is one.
func readWords(line string) ([]uint32, bool) {
	name, rest, _ := strings.Cut(line, " ")
	register, number := reader(rest)
	switch name {
	case "li":
		rd, n := register(), number()
		list := Li(rd, n)
		if len(list) == 0 || write(name, registerText(rd), numberText(n)) != line {
			return nil, false
		}
		return encode(list...)
	case ".word":
		n := number()
		if n < 0 || n > math.MaxUint32 || write(name, numberText(n)) != line {
			return nil, false
		}
		return []uint32{uint32(n)}, true
	}
	i, e := Parse(line)
	if e != api.OK {
		return nil, false
	}
	return encode(i)
}

// encode is the words of instructions, if all are right.
func encode(list ...api.Instr) (words []uint32, ok bool) {
	for _, i := range list {
		w, e := decode.Encode(i)
		if e != api.OK {
			return nil, false
		}
		words = append(words, w)
	}
	return words, true
}
