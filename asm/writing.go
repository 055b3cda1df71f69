package asm

import (
	"slices"
	"strconv"
	"strings"

	"besom/api"
)

// goals are the positions to which the instructions of a program go, in ascending order.
type goals []int

func goalsOf(l []api.Instr) goals {
	var g goals
	for _, x := range l {
		if jumps(x) {
			g = append(g, x.To)
		}
	}
	slices.Sort(g)
	return slices.Compact(g)
}

// jumps reports whether an instruction uses To.
func jumps(x api.Instr) bool {
	f, _ := formOf(x)
	return slices.Contains(f.list(), instrTo)
}

// label returns the label of a position, or nothing if there is none.
func (g goals) label(at int) string {
	number, ok := slices.BinarySearch(g, at)
	if !ok {
		return ""
	}
	return "L" + strconv.Itoa(number)
}

// labelLine returns the line of the label of a position, or nothing if there is none.
func (g goals) labelLine(at int) string {
	label := g.label(at)
	if label == "" {
		return ""
	}
	return label + ":\n"
}

// text returns the text of a valid program.
func text(l []api.Instr) string {
	g := goalsOf(l)
	var out strings.Builder
	for at, x := range l {
		out.WriteString(g.labelLine(at))
		out.WriteString(line(x, g.label(x.To)) + "\n")
	}
	out.WriteString(g.labelLine(len(l)))
	return out.String()
}

// line returns the line of a valid instruction, with this label.
func line(x api.Instr, label string) string {
	f, _ := formOf(x)
	words := []string{f.name}
	for _, o := range f.list() {
		words = append(words, o.word(x, label))
	}
	return strings.Join(words, " ")
}

// word returns the word that tells an operand.
func (o operand) word(x api.Instr, label string) string {
	if o == instrTo {
		return label
	}
	digits := strconv.FormatUint(o.get(x), 10)
	if o.isReg() {
		return "r" + digits
	}
	return digits
}
