package asm_test

import (
	"math"
	"slices"
	"strings"
	"testing"

	"besom/api"
	"besom/asm"
	"besom/sample"
)

// expect holds Parse to what is expected of a text.
func expect(t *testing.T, text string, want []api.Instr, line int, no api.Errno) {
	t.Helper()
	if l, at, why := asm.Parse(text); !same(l, want) || at != line || why != no {
		t.Errorf("Parse of %.100q: %v, line %d, error %d; want line %d, error %d", text, l, at, why, line, no)
	}
}

// TestInvalidComesFirst: a program that is not valid has no text, and nothing in it is counted.
func TestInvalidComesFirst(t *testing.T) {
	for i, l := range sample.BadPrograms() {
		if text, why := asm.Print(l); text != "" || why != api.ErrForm {
			t.Errorf("Print of invalid program %d: %q, error %d", i, text, why)
		}
		for _, kinds := range [][]api.InstrKind{nil, {api.InstrHalt}, {api.InstrDo, api.InstrJump}, {255}} {
			if n, why := asm.Count(l, kinds...); n != 0 || why != api.ErrForm {
				t.Errorf("Count of invalid program %d: %d, error %d", i, n, why)
			}
		}
	}
}

// 24.1

func TestCheck(t *testing.T) {
	for i, l := range sample.Programs() {
		if why := asm.Check(l); why != api.OK || checked(l) != api.OK {
			t.Errorf("Check of program %d: error %d", i, why)
		}
	}
	for i, l := range sample.BadPrograms() {
		if why := asm.Check(l); why != api.ErrForm || checked(l) != api.ErrForm {
			t.Errorf("Check of invalid program %d: error %d", i, why)
		}
	}
	for i, l := range [][]api.Instr{make([]api.Instr, 257), {{Kind: api.InstrJump, To: 2}}, {{Kind: api.InstrHalt, A: 1}}, {{Kind: api.InstrAdd, B: 4}}} {
		if why := asm.Check(l); why != api.ErrForm {
			t.Errorf("example %d: error %d", i, why)
		}
	}
}

// changes are all that may be changed of one field of an instruction.
func changes() []func(x *api.Instr) {
	var out []func(x *api.Instr)
	for kind := range 256 {
		out = append(out, func(x *api.Instr) { x.Kind = api.InstrKind(kind) }, func(x *api.Instr) { x.Op.Kind = api.OpKind(kind) })
	}
	for _, n := range append(sample.Ints(), 0, 1, 2, 3, 4, 5, 46, 47, 48, 49, 255, 256, 257, 1<<32+1, 1<<62) {
		out = append(out, func(x *api.Instr) { x.A = n }, func(x *api.Instr) { x.B = n }, func(x *api.Instr) { x.To = n }, func(x *api.Instr) { x.Op.A = n },
			func(x *api.Instr) { x.Op.B = n }, func(x *api.Instr) { x.Op.Field = n }, func(x *api.Instr) { x.Op.Shape.N = n })
	}
	for _, w := range []uint64{0, 1, 2, 4, 5, 1 << 32, 1 << 47, 1<<48 - 1, 1 << 48, 1 << 63, math.MaxUint64} {
		out = append(out, func(x *api.Instr) { x.Op.W = w }, func(x *api.Instr) { x.Op.Shape.Mask = w })
	}
	return out
}

// TestCheckFields: whatever one field of an instruction is replaced by, Check and Line answer what the chapter's words say.
func TestCheckFields(t *testing.T) {
	counts := map[bool]int{}
	for i, start := range sample.Instrs(3) {
		for k, change := range changes() {
			x := start
			change(&x)
			l := []api.Instr{{Kind: api.InstrHalt}, x, {Kind: api.InstrHalt}}
			want := checked(l)
			counts[want == api.OK]++
			if why := asm.Check(l); why != want {
				t.Errorf("instruction %d, change %d, %v: error %d", i, k, x, why)
			}
			if _, why := asm.Line(x); (why == api.OK) != valid(x, 256) || why != api.OK && why != api.ErrForm {
				t.Errorf("Line of instruction %d, change %d, %v: error %d", i, k, x, why)
			}
		}
	}
	if counts[true] < 2000 || counts[false] < 2000 {
		t.Error(counts)
	}
}

// TestCheckLength: there are at most 256 instructions, and To is no greater than their number.
func TestCheckLength(t *testing.T) {
	halt := api.Instr{Kind: api.InstrHalt}
	for _, n := range []int{0, 1, 2, 255, 256, 257, 258, 512, 4096, 70000} {
		l := slices.Repeat([]api.Instr{halt}, n)
		if why := asm.Check(l); (why == api.OK) != (n <= 256) {
			t.Error(n, why)
		}
		for _, kind := range []api.InstrKind{api.InstrJump, api.InstrZero, api.InstrSame} {
			for _, to := range []int{-1, 0, 1, n - 1, n, n + 1, 2 * n, 255, 256, 257, math.MinInt, math.MaxInt} {
				for _, at := range []int{0, n / 2, n - 1} {
					if n == 0 {
						continue
					}
					l := slices.Clone(l)
					l[at] = api.Instr{Kind: kind, To: to}
					if why := asm.Check(l); (why == api.OK) != (n <= 256 && to >= 0 && to <= n) {
						t.Error(n, kind, to, at, why)
					}
				}
			}
		}
	}
}

func TestCount(t *testing.T) {
	all := []api.InstrKind{api.InstrDo, api.InstrAdd, api.InstrSub, api.InstrJump, api.InstrZero, api.InstrSame, api.InstrHalt}
	for i, l := range sample.Programs() {
		for _, kinds := range [][]api.InstrKind{
			nil, {}, {api.InstrDo}, {api.InstrJump}, {api.InstrDo, api.InstrJump}, {api.InstrJump, api.InstrDo}, {api.InstrHalt, api.InstrHalt, api.InstrHalt},
			{api.InstrAdd, api.InstrSub}, {api.InstrNone}, {api.InstrCount, 128, 255}, {api.InstrNone, api.InstrSame, 255}, all, slices.Concat(all, all), make([]api.InstrKind, 1000),
		} {
			want := 0
			for _, x := range l {
				if slices.Index(kinds, x.Kind) >= 0 {
					want++
				}
			}
			if n, why := asm.Count(l, kinds...); n != want || why != api.OK {
				t.Errorf("Count in program %d of %d: %d, error %d; want %d", i, kinds, n, why, want)
			}
		}
		if n, _ := asm.Count(l, all...); n != len(l) {
			t.Errorf("program %d has %d instructions, and %d of all kinds", i, len(l), n)
		}
	}
}

// 24.2

// TestParseLines: each line that may be is read as what it tells, and each other one is refused, alone and behind others.
func TestParseLines(t *testing.T) {
	for _, line := range goodLines() {
		x, label, ok := told(line)
		if !ok {
			expect(t, line, nil, 0, api.OK)
			continue
		}
		if label == "" {
			expect(t, line, []api.Instr{x}, 0, api.OK)
			continue
		}
		expect(t, line, nil, 1, api.ErrNone)
		x.To = 1
		expect(t, line+"\n"+label+":", []api.Instr{x}, 0, api.OK)
	}
	for _, line := range badLines() {
		expect(t, line, nil, 1, api.ErrForm)
		expect(t, line+"\n", nil, 1, api.ErrForm)
		expect(t, "\na:\ngc\n"+line+"\nhalt\n", nil, 4, api.ErrForm)
	}
}

// TestParseOperands: each instruction is read from its line.
func TestParseOperands(t *testing.T) {
	for _, x := range sample.Instrs(0) {
		want := []api.Instr{x}
		if uses(x) {
			want[0].To = 0
		}
		expect(t, "here:\n"+lineOf(x, "here"), want, 0, api.OK)
	}
}

// TestParseSomeTexts: texts of lines as they come, some of which are changed, are answered as the chapter's words say.
func TestParseSomeTexts(t *testing.T) {
	p := sample.Picks(243)
	good, bad := goodLines(), badLines()
	whys := map[api.Errno]int{}
	for i := range 20000 {
		var l []string
		for range p.Below(12) {
			line := good[p.Below(len(good))]
			if p.Below(60) == 0 {
				line = bad[p.Below(len(bad))]
			}
			l = append(l, line)
		}
		// Most jumps go to a, and to a label that there is.
		if p.Below(3) > 0 {
			l = append(slices.DeleteFunc(l, func(line string) bool { return strings.HasSuffix(line, ":") }), "a:", "b:", "L0:", "0:", "halt:", strings.Repeat("x", 32)+":")
		}
		if p.Below(12) == 0 {
			l = slices.Insert(l, p.Below(len(l)+1), "a:")
		}
		text := strings.Join(l, "\n")
		if p.Below(4) == 0 {
			text = sample.Spoilt(&p, text, "\n\n  :rr0019aZ\r\t\x00\xff_@-+")
		}
		want, line, no := parsed(text)
		expect(t, text, want, line, no)
		whys[no]++
		if i%4 == 0 {
			expect(t, text+"\n", want, line, no)
		}
	}
	for _, why := range []api.Errno{api.OK, api.ErrForm, api.ErrTwice, api.ErrNone} {
		if whys[why] < 500 {
			t.Error(whys)
		}
	}
}

// TestParseErrors: the first line with an error is told, whatever comes behind it; that a label is not there comes last, and is told of the first line that goes to it.
func TestParseErrors(t *testing.T) {
	gc := func(n int) string { return strings.Repeat("gc\n", n) }
	for _, x := range []struct {
		text string
		line int
		want api.Errno
	}{
		{"jump a", 1, api.ErrNone}, {"gc\njump a\nzero r0 b\n", 2, api.ErrNone}, {"\n\n\nsame r0 r1 a\njump b\nb:", 4, api.ErrNone}, {"a:\njump a\njump A\n", 3, api.ErrNone}, {"jump ab\na:\nb:\n", 1, api.ErrNone},
		{"a:\na:", 2, api.ErrTwice}, {"a:\ngc\nb:\na:\nb:", 4, api.ErrTwice}, {"a:\nb:\nb:\na:", 3, api.ErrTwice}, {"a:\nA:\nAa:\nA:\n", 4, api.ErrTwice},
		{"jump a\nb:\nb:\n", 3, api.ErrTwice}, {"jump a\n x\n", 2, api.ErrForm}, {"jump a\nx", 2, api.ErrForm}, {"a:\na:\nx", 2, api.ErrTwice}, {"x\na:\na:", 1, api.ErrForm},
		{gc(256) + "gc", 257, api.ErrFull}, {gc(257), 257, api.ErrFull}, {gc(300), 257, api.ErrFull}, {"\na:\n\n" + gc(256) + "\nb:\ngc", 262, api.ErrFull}, {gc(256) + "jump a", 257, api.ErrFull}, {"jump a\n" + gc(256), 257, api.ErrFull},
		{gc(256) + "gc ", 257, api.ErrForm}, {gc(256) + "a:\nb:\na:\ngc", 259, api.ErrTwice}, {gc(256) + "a:\ngc\na:", 258, api.ErrFull}, {gc(256) + "new r0 2 4\ngc", 257, api.ErrForm}, {gc(256) + "gc\ngc ", 257, api.ErrFull}, {gc(255) + "jump a\n\n", 256, api.ErrNone},
		{"gc\ngc \na:\na:\njump b", 2, api.ErrForm}, {"gc\r\n", 1, api.ErrForm}, {"\r\n", 1, api.ErrForm}, {"a:\r\n", 1, api.ErrForm}, {"gc\rgc", 1, api.ErrForm}, {"\ufeffgc", 1, api.ErrForm}, {"gc\x0bgc", 1, api.ErrForm}, {"\n\x00\n", 2, api.ErrForm},
	} {
		expect(t, x.text, nil, x.line, x.want)
		if _, line, why := parsed(x.text); line != x.line || why != x.want {
			t.Errorf("%.100q: line %d, error %d", x.text, line, why)
		}
	}
}

// TestParsePlaces: a label stands for the number of instructions before it, wherever it is used, and several may stand for the same one.
func TestParsePlaces(t *testing.T) {
	gc := sample.Do(api.Op{Kind: api.OpGc})
	jump := func(to int) api.Instr { return api.Instr{Kind: api.InstrJump, To: to} }
	for _, x := range []struct {
		text string
		want []api.Instr
	}{
		{"", nil}, {"\n", nil}, {"\n\n\n", nil}, {"a:", nil}, {"a:\nb:\n", nil}, {"gc", []api.Instr{gc}}, {"gc\n", []api.Instr{gc}}, {"\n\ngc\n\n\ngc", []api.Instr{gc, gc}},
		{"a:\njump a", []api.Instr{jump(0)}}, {"jump a\na:", []api.Instr{jump(1)}}, {"a:\n\n\nb:\njump a\njump b\nc:\njump c\nd:\ne:\njump e\njump d\nf:\n\njump f\n", []api.Instr{jump(0), jump(0), jump(2), jump(3), jump(3), jump(5)}},
		{"jump end\ngc\ngc\nend:\n", []api.Instr{jump(3), gc, gc}}, {"a:\nA:\naA:\ngc\nAa:\njump A\njump Aa\njump aA", []api.Instr{gc, jump(0), jump(1), jump(0)}},
		{"0:\ngc\n00:\ngc\n1:\njump 00\njump 0\njump 1", []api.Instr{gc, gc, jump(1), jump(0), jump(2)}}, {"halt:\njump jump\njump:\njump halt", []api.Instr{jump(1), jump(0)}},
	} {
		expect(t, x.text, x.want, 0, api.OK)
	}
	last := strings.Repeat("gc\n", 255) + "jump end\nend:"
	expect(t, last, append(slices.Repeat([]api.Instr{gc}, 255), jump(256)), 0, api.OK)
}

// TestParseLabels: a label has from 1 to 32 bytes, each a letter or a digit.
func TestParseLabels(t *testing.T) {
	for n := range 70 {
		name := strings.Repeat("q", n)
		if n >= 1 && n <= 32 {
			expect(t, name+":\njump "+name, []api.Instr{{Kind: api.InstrJump}}, 0, api.OK)
			continue
		}
		expect(t, name+":", nil, 1, api.ErrForm)
		expect(t, "jump "+name, nil, 1, api.ErrForm)
	}
	for c := range 256 {
		name := string([]byte{'a', byte(c), 'b'})
		if c == '\n' {
			continue
		}
		if c >= '0' && c <= '9' || c >= 'A' && c <= 'Z' || c >= 'a' && c <= 'z' {
			expect(t, name+":\nzero r2 "+name, []api.Instr{{Kind: api.InstrZero, A: 2}}, 0, api.OK)
			expect(t, name[1:2]+":\nzero r2 "+name[1:2], []api.Instr{{Kind: api.InstrZero, A: 2}}, 0, api.OK)
			continue
		}
		expect(t, name+":", nil, 1, api.ErrForm)
		expect(t, "gc\nzero r2 "+name, nil, 2, api.ErrForm)
		expect(t, name[1:2]+":", nil, 1, api.ErrForm)
	}
}

// TestParseLong: a text has at most 65536 bytes, and what is longer is refused whatever is in it.
func TestParseLong(t *testing.T) {
	gc := []api.Instr{sample.Do(api.Op{Kind: api.OpGc})}
	for n, want := range map[int]api.Errno{65535: api.OK, 65536: api.OK, 65537: api.ErrRange, 65538: api.ErrRange, 1 << 20: api.ErrRange} {
		l := gc
		if want != api.OK {
			l = nil
		}
		expect(t, "gc"+strings.Repeat("\n", n-2), l, 0, want)
		expect(t, strings.Repeat("\n", n-2)+"gc", l, 0, want)
	}
	expect(t, "a:\na:\n"+strings.Repeat("\n", 65536), nil, 0, api.ErrRange)
	expect(t, strings.Repeat("x", 65537), nil, 0, api.ErrRange)
	expect(t, strings.Repeat("x", 65536), nil, 1, api.ErrForm)
	expect(t, strings.Repeat(" ", 65536), nil, 1, api.ErrForm)
	expect(t, "add"+strings.Repeat(" r0", 20000), nil, 1, api.ErrForm)
	expect(t, strings.Repeat("\n", 65534)+"gx", nil, 65535, api.ErrForm)
	expect(t, "const r0 "+strings.Repeat("9", 60000), nil, 1, api.ErrForm)
}

// TestChapter: the chapter's own examples.
func TestChapter(t *testing.T) {
	l, line, why := asm.Parse(chapterText)
	if !same(l, sample.FiveInstrs()) || line != 0 || why != api.OK || l[2].To != 5 || l[4].To != 0 {
		t.Error("Parse:", l, line, why)
	}
	if n, why := asm.Count(l, api.InstrDo, api.InstrJump); n != 4 || why != api.OK {
		t.Error("Count:", n, why)
	}
	want := "L0:\nnew r1 3 5\nstore r1 r0 2\nsame r0 r1 L1\nfinal r1 7\njump L0\nL1:\n"
	if text, why := asm.Print(l); text != want || why != api.OK {
		t.Errorf("Print: %q, error %d", text, why)
	}
	if text, why := asm.Line(l[2]); text != "same r0 r1 @5" || why != api.OK {
		t.Errorf("Line: %q, error %d", text, why)
	}
	for _, text := range []string{"gc ", "const r4 1", "const r0 18446744073709551616", "new r0 2 4", "load r0 r1 48", "a b:", "add r0  r1", "const r0 007", ":"} {
		expect(t, text, nil, 1, api.ErrForm)
	}
	expect(t, "jump a", nil, 1, api.ErrNone)
	expect(t, strings.Repeat("halt\n", 257), nil, 257, api.ErrFull)
	two := []api.Instr{sample.Do(api.Op{Kind: api.OpConst, W: 5}), {Kind: api.InstrJump}}
	expect(t, "a:\nconst r0 5\njump a\n", two, 0, api.OK)
	if text, why := asm.Print(two); text != "L0:\nconst r0 5\njump L0\n" || why != api.OK {
		t.Errorf("Print: %q, error %d", text, why)
	}
}

// 24.3

func TestPrint(t *testing.T) {
	for i, l := range sample.Programs() {
		want, no := printed(l)
		if text, why := asm.Print(l); text != want || why != no || why != api.OK {
			t.Errorf("Print of program %d: %q, error %d; want %q", i, text, why, want)
		}
	}
}

// TestPrintLabels: there is a label where an instruction goes to, and nowhere else; they are numbered as they come in the text.
func TestPrintLabels(t *testing.T) {
	jump := func(to int) api.Instr { return api.Instr{Kind: api.InstrJump, To: to} }
	for _, x := range []struct {
		l    []api.Instr
		want string
	}{
		{nil, ""}, {[]api.Instr{{Kind: api.InstrHalt}}, "halt\n"}, {[]api.Instr{jump(0)}, "L0:\njump L0\n"}, {[]api.Instr{jump(1)}, "jump L0\nL0:\n"},
		{[]api.Instr{jump(2), jump(1)}, "jump L1\nL0:\njump L0\nL1:\n"}, {[]api.Instr{jump(3), jump(3), jump(3)}, "jump L0\njump L0\njump L0\nL0:\n"},
		{[]api.Instr{jump(2), jump(0), jump(1)}, "L0:\njump L2\nL1:\njump L0\nL2:\njump L1\n"},
		{[]api.Instr{{Kind: api.InstrZero, A: 1, To: 1}, {Kind: api.InstrAdd}, {Kind: api.InstrSame, B: 1, To: 0}}, "L0:\nzero r1 L1\nL1:\nadd r0 r0\nsame r0 r1 L0\n"},
		// To is 0, where it is not used: nothing goes there.
		{[]api.Instr{sample.Do(api.Op{Kind: api.OpGc}), {Kind: api.InstrSub, A: 3, B: 2}, {Kind: api.InstrHalt}}, "gc\nsub r3 r2\nhalt\n"},
	} {
		if text, why := asm.Print(x.l); text != x.want || why != api.OK {
			t.Errorf("Print of %v: %q, error %d; want %q", x.l, text, why, x.want)
		}
	}
}

func TestLine(t *testing.T) {
	for _, count := range []int{0, 1, 5, 255, 256} {
		for _, x := range sample.Instrs(count) {
			want := lineOf(x, "@"+itoa(x.To))
			if text, why := asm.Line(x); text != want || why != api.OK {
				t.Errorf("Line of %v: %q, error %d; want %q", x, text, why, want)
			}
		}
	}
	for i, x := range sample.BadInstrs() {
		if text, why := asm.Line(x); text != "" || why != api.ErrForm {
			t.Errorf("Line of invalid instruction %d, %v: %q, error %d", i, x, text, why)
		}
	}
}

// TestLineGoals: To is at most 256, for there are no programs in which it is greater.
func TestLineGoals(t *testing.T) {
	for _, x := range []struct {
		instr api.Instr
		want  string
		why   api.Errno
	}{
		{api.Instr{Kind: api.InstrJump}, "jump @0", api.OK}, {api.Instr{Kind: api.InstrJump, To: 255}, "jump @255", api.OK}, {api.Instr{Kind: api.InstrJump, To: 256}, "jump @256", api.OK},
		{api.Instr{Kind: api.InstrJump, To: 257}, "", api.ErrForm}, {api.Instr{Kind: api.InstrZero, A: 3, To: 256}, "zero r3 @256", api.OK}, {api.Instr{Kind: api.InstrZero, To: 257}, "", api.ErrForm},
		{api.Instr{Kind: api.InstrSame, To: 257}, "", api.ErrForm}, {api.Instr{Kind: api.InstrSame, To: -1}, "", api.ErrForm}, {api.Instr{Kind: api.InstrJump, To: math.MaxInt}, "", api.ErrForm}, {api.Instr{Kind: api.InstrJump, To: math.MinInt}, "", api.ErrForm},
		{api.Instr{Kind: api.InstrHalt, To: 1}, "", api.ErrForm}, {api.Instr{Kind: api.InstrAdd, To: 1}, "", api.ErrForm}, {sample.Do(api.Op{Kind: api.OpConst, W: math.MaxUint64}), "const r0 18446744073709551615", api.OK},
		{sample.Do(api.Op{Kind: api.OpNew, A: 2, Shape: api.Shape{N: 48, Mask: 1<<48 - 1}}), "new r2 48 281474976710655", api.OK}, {sample.Do(api.Op{Kind: api.OpUpgrade, A: 1, B: 2}), "up r1 r2", api.OK}, {sample.Do(api.Op{Kind: api.OpGc, A: 1}), "", api.ErrForm},
	} {
		if text, why := asm.Line(x.instr); text != x.want || why != x.why {
			t.Errorf("Line of %v: %q, error %d; want %q", x.instr, text, why, x.want)
		}
	}
}

// 24.5

// TestThereAndBack: Parse of Print is the program.
func TestThereAndBack(t *testing.T) {
	for i, l := range sample.Programs() {
		text, no := asm.Print(l)
		if got, line, why := asm.Parse(text); !same(got, l) || line != 0 || why != api.OK || no != api.OK {
			t.Errorf("program %d, %.200q: line %d, error %d", i, text, line, why)
		}
	}
}

// TestBackAndThere: a text that is read, printed and read again is the same program, and is printed as it was.
func TestBackAndThere(t *testing.T) {
	p := sample.Picks(244)
	for i := range 300 {
		text := someText(&p, 1+p.Below(40))
		l, line, why := asm.Parse(text)
		if line != 0 || why != api.OK {
			t.Fatalf("text %d, %q: line %d, error %d", i, text, line, why)
		}
		first, why := asm.Print(l)
		again, _, no := asm.Parse(first)
		second, _ := asm.Print(again)
		if !same(again, l) || first != second || why != api.OK || no != api.OK {
			t.Fatalf("text %d, %q: %q, and %q", i, text, first, second)
		}
	}
}

// someText is a text of so many instructions with labels and empty lines between them. Some labels are used by none, and some more than once.
func someText(p *sample.Picks, count int) string {
	places := make([][]string, count+1)
	names := []string{"a", "L1", "L0", "x9", "END", "7", strings.Repeat("z", 32), "gc", "top"}
	for _, name := range names {
		at := p.Below(count + 1)
		places[at] = append(places[at], name)
	}
	var out []string
	for at, labels := range places {
		for _, label := range labels {
			out = append(out, label+":")
		}
		for range p.Below(3) {
			out = append(out, "")
		}
		if at < count {
			out = append(out, lineOf(sample.SomeInstr(p, count), names[p.Below(len(names))]))
		}
	}
	return strings.Join(out, "\n")
}
