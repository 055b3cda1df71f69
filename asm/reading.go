package asm

import (
	"strings"

	"besom/api"
	"besom/head"
	"besom/plain"
)

// command is an instruction as its line tells it: where it goes is not known until all labels are.
type command struct {
	api.Instr
	goal string
	line int
}

// reading is what was read of a text.
type reading struct {
	// labels are the positions of labels: the numbers of instructions before them.
	labels   map[string]int
	commands []command
}

// read goes on with a line, whose number is number.
func (r *reading) read(line string, number int) api.Errno {
	if line == "" {
		return api.OK
	}
	if name, ok := strings.CutSuffix(line, ":"); ok && isLabel(name) {
		return r.place(name)
	}
	c, ok := parse(line)
	if !ok {
		return api.ErrForm
	}
	if len(r.commands) >= api.MaxCode {
		return api.ErrFull
	}
	c.line = number
	r.commands = append(r.commands, c)
	return api.OK
}

// place makes a label stand for the next instruction.
func (r *reading) place(name string) api.Errno {
	if _, twice := r.labels[name]; twice {
		return api.ErrTwice
	}
	r.labels[name] = len(r.commands)
	return api.OK
}

// program returns the instructions and 0, or the number of the first line whose label there is not.
func (r *reading) program() ([]api.Instr, int, api.Errno) {
	var l []api.Instr
	for _, c := range r.commands {
		if c.goal != "" {
			to, ok := r.labels[c.goal]
			if !ok {
				return nil, c.line, api.ErrNone
			}
			c.To = to
		}
		l = append(l, c.Instr)
	}
	return l, 0, api.OK
}

// parse returns what the line of an instruction tells.
func parse(line string) (command, bool) {
	words := strings.Split(line, " ")
	f, ok := named(words[0])
	if !ok {
		return command{}, false
	}
	l := f.list()
	if len(words) != 1+len(l) {
		return command{}, false
	}
	c := command{Instr: f.bare()}
	for i, o := range l {
		if !c.tell(o, words[1+i]) {
			return command{}, false
		}
	}
	if head.Check(c.Op.Shape) != api.OK {
		return command{}, false
	}
	return c, true
}

// tell goes on with a word that tells an operand, and reports whether it does.
func (c *command) tell(o operand, word string) bool {
	if o == instrTo {
		c.goal = word
		return isLabel(word)
	}
	if o.isReg() {
		digits, ok := strings.CutPrefix(word, "r")
		if !ok {
			return false
		}
		word = digits
	}
	n, ok := plain.Number(word)
	if !ok || n > o.most(0) {
		return false
	}
	o.put(&c.Instr, n)
	return true
}

func isLabel(name string) bool {
	if len(name) < 1 || len(name) > api.MaxLabel {
		return false
	}
	for i := range len(name) {
		if !isLabelByte(name[i]) {
			return false
		}
	}
	return true
}

func isLabelByte(c byte) bool {
	return c >= 'A' && c <= 'Z' || c >= 'a' && c <= 'z' || c >= '0' && c <= '9'
}
