package asm_test

import (
	"fmt"
	"math"
	"math/big"
	"regexp"
	"slices"
	"strings"

	"besom/api"
	"besom/sample"
)

// What the chapter's words say of programs and their text, written down once more, with patterns and with numbers that know of no greatest one.

// same reports whether two programs are alike; a nil list is an empty one.
func same(a, b []api.Instr) bool {
	return slices.Equal(a, b)
}

func isReg(n int) bool {
	return n >= 0 && n <= 3
}

// valid reports whether an instruction is valid in a program of n instructions.
func valid(x api.Instr, n int) bool {
	goal, noOp := x.To >= 0 && x.To <= n, x.Op == api.Op{}
	switch x.Kind {
	case api.InstrDo:
		return x.A == 0 && x.B == 0 && x.To == 0 && validOp(x.Op)
	case api.InstrAdd, api.InstrSub:
		return noOp && isReg(x.A) && isReg(x.B) && x.To == 0
	case api.InstrJump:
		return noOp && x.A == 0 && x.B == 0 && goal
	case api.InstrZero:
		return noOp && isReg(x.A) && x.B == 0 && goal
	case api.InstrSame:
		return noOp && isReg(x.A) && isReg(x.B) && goal
	}
	return x == api.Instr{Kind: api.InstrHalt}
}

// validOp reports whether the operation of an instruction is valid.
func validOp(op api.Op) bool {
	want := api.Op{Kind: op.Kind, A: op.A}
	switch op.Kind {
	case api.OpNew:
		want.Shape = op.Shape
	case api.OpLoad, api.OpStore:
		want.B, want.Field = op.B, op.Field
	case api.OpMove, api.OpWeak, api.OpUpgrade, api.OpPut, api.OpGet:
		want.B = op.B
	case api.OpConst, api.OpFinal, api.OpClean:
		want.W = op.W
	case api.OpNil, api.OpDel:
	case api.OpGc:
		want.A = 0
	default:
		return false
	}
	s := op.Shape
	return op == want && isReg(op.A) && isReg(op.B) && op.Field >= 0 && op.Field <= 47 && s.N >= 0 && s.N <= 48 && s.Mask < 1<<s.N
}

// checked is what Check answers.
func checked(l []api.Instr) api.Errno {
	if len(l) > 256 || slices.ContainsFunc(l, func(x api.Instr) bool { return !valid(x, len(l)) }) {
		return api.ErrForm
	}
	return api.OK
}

// lineOf is the line of a valid instruction with this label.
func lineOf(x api.Instr, label string) string {
	op := x.Op
	switch x.Kind {
	case api.InstrAdd:
		return fmt.Sprintf("add r%d r%d", x.A, x.B)
	case api.InstrSub:
		return fmt.Sprintf("sub r%d r%d", x.A, x.B)
	case api.InstrJump:
		return "jump " + label
	case api.InstrZero:
		return fmt.Sprintf("zero r%d %s", x.A, label)
	case api.InstrSame:
		return fmt.Sprintf("same r%d r%d %s", x.A, x.B, label)
	case api.InstrHalt:
		return "halt"
	}
	name := map[api.OpKind]string{
		api.OpLoad: "load", api.OpStore: "store", api.OpMove: "move", api.OpConst: "const", api.OpNil: "nil", api.OpWeak: "weak", api.OpUpgrade: "up",
		api.OpPut: "put", api.OpGet: "get", api.OpDel: "del", api.OpFinal: "final", api.OpClean: "clean",
	}[op.Kind]
	switch op.Kind {
	case api.OpGc:
		return "gc"
	case api.OpNew:
		return fmt.Sprintf("new r%d %d %d", op.A, op.Shape.N, op.Shape.Mask)
	case api.OpLoad, api.OpStore:
		return fmt.Sprintf("%s r%d r%d %d", name, op.A, op.B, op.Field)
	case api.OpConst, api.OpFinal, api.OpClean:
		return fmt.Sprintf("%s r%d %d", name, op.A, op.W)
	case api.OpNil, api.OpDel:
		return fmt.Sprintf("%s r%d", name, op.A)
	}
	return fmt.Sprintf("%s r%d r%d", name, op.A, op.B)
}

// uses reports whether an instruction has a label.
func uses(x api.Instr) bool {
	return x.Kind == api.InstrJump || x.Kind == api.InstrZero || x.Kind == api.InstrSame
}

// printed is what Print answers.
func printed(l []api.Instr) (string, api.Errno) {
	if why := checked(l); why != api.OK {
		return "", why
	}
	labels := map[int]string{}
	for at := range len(l) + 1 {
		if slices.ContainsFunc(l, func(x api.Instr) bool { return uses(x) && x.To == at }) {
			labels[at] = fmt.Sprintf("L%d", len(labels))
		}
	}
	out := ""
	for at := range len(l) + 1 {
		if label, ok := labels[at]; ok {
			out += label + ":\n"
		}
		if at < len(l) {
			out += lineOf(l[at], labels[l[at].To]) + "\n"
		}
	}
	return out, api.OK
}

const (
	aReg   = "r([0-3])"
	aWord  = "(0|[1-9][0-9]*)"
	aLabel = "([A-Za-z0-9]{1,32})"
)

var labelLine = regexp.MustCompile("^" + aLabel + ":$")

// lines are the patterns of the lines of instructions, and what they tell of an instruction.
var lines = []struct {
	pattern *regexp.Regexp
	kind    api.InstrKind
	op      api.OpKind
	fields  string
}{
	{pattern("new", aReg, aWord, aWord), api.InstrDo, api.OpNew, "anm"},
	{pattern("load", aReg, aReg, aWord), api.InstrDo, api.OpLoad, "abf"},
	{pattern("store", aReg, aReg, aWord), api.InstrDo, api.OpStore, "abf"},
	{pattern("move", aReg, aReg), api.InstrDo, api.OpMove, "ab"},
	{pattern("const", aReg, aWord), api.InstrDo, api.OpConst, "aw"},
	{pattern("nil", aReg), api.InstrDo, api.OpNil, "a"},
	{pattern("weak", aReg, aReg), api.InstrDo, api.OpWeak, "ab"},
	{pattern("up", aReg, aReg), api.InstrDo, api.OpUpgrade, "ab"},
	{pattern("put", aReg, aReg), api.InstrDo, api.OpPut, "ab"},
	{pattern("get", aReg, aReg), api.InstrDo, api.OpGet, "ab"},
	{pattern("del", aReg), api.InstrDo, api.OpDel, "a"},
	{pattern("final", aReg, aWord), api.InstrDo, api.OpFinal, "aw"},
	{pattern("clean", aReg, aWord), api.InstrDo, api.OpClean, "aw"},
	{pattern("gc"), api.InstrDo, api.OpGc, ""},
	{pattern("add", aReg, aReg), api.InstrAdd, 0, "AB"},
	{pattern("sub", aReg, aReg), api.InstrSub, 0, "AB"},
	{pattern("jump", aLabel), api.InstrJump, 0, "T"},
	{pattern("zero", aReg, aLabel), api.InstrZero, 0, "AT"},
	{pattern("same", aReg, aReg, aLabel), api.InstrSame, 0, "ABT"},
	{pattern("halt"), api.InstrHalt, 0, ""},
}

func pattern(words ...string) *regexp.Regexp {
	return regexp.MustCompile("^" + strings.Join(words, " ") + "$")
}

// told is the instruction of a line, and its label.
func told(line string) (x api.Instr, label string, ok bool) {
	for _, l := range lines {
		words := l.pattern.FindStringSubmatch(line)
		if words == nil {
			continue
		}
		x = api.Instr{Kind: l.kind, Op: api.Op{Kind: l.op}}
		for i, field := range l.fields {
			word := words[1+i]
			if field == 'T' {
				label = word
				continue
			}
			n, _ := new(big.Int).SetString(word, 10)
			if n.Cmp(new(big.Int).SetUint64(math.MaxUint64)) > 0 {
				return x, "", false
			}
			if strings.ContainsRune("nf", field) && n.Cmp(big.NewInt(1000)) > 0 {
				return x, "", false
			}
			set(&x, field, n.Uint64())
		}
		return x, label, valid(x, 0)
	}
	return x, "", false
}

func set(x *api.Instr, field rune, n uint64) {
	switch field {
	case 'a':
		x.Op.A = int(n)
	case 'b':
		x.Op.B = int(n)
	case 'f':
		x.Op.Field = int(n)
	case 'n':
		x.Op.Shape.N = int(n)
	case 'm':
		x.Op.Shape.Mask = n
	case 'w':
		x.Op.W = n
	case 'A':
		x.A = int(n)
	case 'B':
		x.B = int(n)
	}
}

// parsed is what Parse answers.
func parsed(text string) ([]api.Instr, int, api.Errno) {
	if len(text) > 65536 {
		return nil, 0, api.ErrRange
	}
	var l []api.Instr
	places := map[string]int{}
	all := strings.Split(text, "\n")
	for i, line := range all {
		if line == "" {
			continue
		}
		if label := labelLine.FindStringSubmatch(line); label != nil {
			if _, twice := places[label[1]]; twice {
				return nil, i + 1, api.ErrTwice
			}
			places[label[1]] = len(l)
			continue
		}
		x, _, ok := told(line)
		if !ok {
			return nil, i + 1, api.ErrForm
		}
		if len(l) == 256 {
			return nil, i + 1, api.ErrFull
		}
		l = append(l, x)
	}
	at := 0
	for i, line := range all {
		x, label, ok := told(line)
		if !ok {
			continue
		}
		if uses(x) {
			to, there := places[label]
			if !there {
				return nil, i + 1, api.ErrNone
			}
			l[at].To = to
		}
		at++
	}
	return l, 0, api.OK
}

// chapterText is the text of the chapter's examples.
const chapterText = "top:\nnew r1 3 5\nstore r1 r0 2\n\nsame r0 r1 end\nfinal r1 7\njump top\nend:\n"

// goodLines are lines that there may be, and badLines are lines that are none.
func goodLines() []string {
	out := []string{"", "a:", "b:", "L0:", "gc:", "halt:", "r1:", "0:", "00:", "Zz9:", strings.Repeat("x", 32) + ":", "jump a", "jump halt", "zero r3 b", "same r1 r2 L0", "jump 0", "jump " + strings.Repeat("x", 32)}
	for _, x := range sample.Instrs(0) {
		out = append(out, lineOf(x, "a"))
	}
	return out
}

func badLines() []string {
	return []string{
		"gc ", " gc", "gc\r", "gc\t", "GC", "Gc", "g", "gcc", "gc:x", "gc r0", "gc 0", "halt ", "halt halt", "halt r0", " ", "  ", "\t", "\r", "\x00", "\xff", ";", "#", "# gc", "gc # 1", "gc;halt",
		"const r4 1", "const r0 18446744073709551616", "new r0 2 4", "load r0 r1 48", "a b:", "add r0  r1", "const r0 007", ":",
		"::", "a::", ":a", "a :", " a:", "a: ", "a:gc", "a: gc", "a_b:", "a-b:", "a.b:", "@:", "@0:", "é:", "\xe9:", strings.Repeat("x", 33) + ":", strings.Repeat("x", 100) + ":",
		"jump", "jump ", "jump  a", "jump a b", "jump a:", "jump @0", "jump a_b", "jump -1", "jump é", "jump " + strings.Repeat("x", 33), "Jump a", "jmp a",
		"zero", "zero r0", "zero a", "zero a r0", "zero r4 a", "zero 0 a", "zero r0 a b", "zero r0 ", "same r0 r1", "same r0 a", "same r0 r4 a", "same r0 r1 a b", "same r0 r1 ", "same r0 r1 @5",
		"add", "add r0", "add r0 r1 r2", "add r0 1", "add 0 1", "add r0,r1", "add r00 r1", "add r0 r01", "add r0 r4", "add r0 r10", "add r-1 r0", "add r+1 r0", "add r r0", "add R0 r1", "add r0 rr1", "add r1.0 r0", "add r18446744073709551616 r0", "add r18446744073709551617 r0", "add r4294967296 r0",
		"sub r0", "sub r0 r4", "sub\tr0 r1", "sub r0\tr1", "sub r0 r1\x00",
		"const", "const r0", "const r0 ", "const r0 -1", "const r0 +1", "const r0 0x10", "const r0 1_000", "const r0 1e3", "const r0 00", "const r0 01", "const r0 1.0", "const r0 a", "const r0 r1", "const 0 1", "const r0 1 2", "const r0 18446744073709551617", "const r0 99999999999999999999", "const r0 184467440737095516160", "const r0 ٣", "const r0 1 ",
		"final r0", "final r4 1", "final r0 -7", "final r0 18446744073709551616", "clean r0", "clean r4 1", "clean r0 01", "clean r0 18446744073709551616",
		"new", "new r0", "new r0 1", "new r0 1 1 1", "new r4 1 1", "new 0 1 1", "new r0 49 0", "new r0 -1 0", "new r0 0 1", "new r0 1 2", "new r0 48 281474976710656", "new r0 47 140737488355328", "new r0 48 18446744073709551615", "new r0 48 18446744073709551616", "new r0 18446744073709551615 0", "new r0 9223372036854775808 0", "new r0 4294967297 0", "new r0 01 0", "new r0 1 01", "new r0 r1 0",
		"load r0 r1", "load r0 r1 ", "load r0 r1 -1", "load r0 r1 00", "load r0 r1 100", "load r0 r1 18446744073709551616", "load r0 r1 18446744073709551615", "load r0 r1 4294967296", "load r0 r4 0", "load r4 r0 0", "load r0 1 2", "load r0 r1 r2", "load r0 r1 2 3",
		"store r0 r1", "store r0 r1 48", "store r4 r1 0", "store r1 r4 0", "store r0 r1 02",
		"move r0", "move r0 r4", "move r4 r0", "move r0 1", "nil", "nil r4", "nil 0", "nil r0 r1", "nil r0 0", "weak r0", "weak r4 r0", "weak r0 r4", "up r0", "up r0 r4", "upgrade r0 r1", "put r0", "put r4 r1", "put r0 4", "get r0", "get r0 r4", "get r0 r1 r2", "del", "del r4", "del r0 r1",
		"do", "none", "add add", "r0", "1", "nop", "new:r0", "mov r0 r1",
	}
}
