package ir

import (
	"strconv"
	"strings"

	"reticule/api"
	"reticule/prog"
)

// Print is code as text: a line of each instruction.
func Print(c api.Code) (string, api.Errno) {
	if _, wrong := Check(c); wrong != api.OK {
		return "", api.ErrForm
	}
	var lines strings.Builder
	for at, i := range c.List {
		lines.WriteString(line(at, i))
	}
	return lines.String(), api.OK
}

// Parse is the code of a program that a text says.
func Parse(p api.Program, s string) (api.Code, api.Errno) {
	forms, top, wrong := prog.Write(p)
	if wrong != api.OK {
		return api.Code{}, api.ErrForm
	}
	var c api.Code
	c.Program, _, _ = prog.Read(forms, top) // that is p again, in memory of its own
	for l := range strings.Lines(s) {
		c.List = append(c.List, instr(l))
	}
	// What a line says is guessed so far: it must be said so, and not otherwise.
	if again, wrong := Print(c); wrong != api.OK || again != s {
		return api.Code{}, api.ErrForm
	}
	return c, api.OK
}

// word is that of a kind of instructions; empty, if there is none.
func word(kind api.InstrKind) string {
	words := [...]string{api.SetInstr: "set", api.FoldInstr: "fold", api.SendInstr: "send", api.TakeInstr: "take", api.Unless: "unless", api.Jump: "jump", api.Stop: "stop"}
	if int(kind) >= len(words) {
		return ""
	}
	return words[kind]
}

// line is an instruction as text.
func line(at int, i api.Instr) string {
	parts := []string{strconv.Itoa(at), word(i.Kind)}
	for _, number := range numbers(&i) {
		parts = append(parts, strconv.Itoa(*number))
	}
	return strings.Join(parts, " ") + "\n"
}

// instr is an instruction that a line may say.
func instr(line string) api.Instr {
	var i api.Instr
	parts := strings.Fields(line)
	if len(parts) < 2 {
		return i
	}
	for i.Kind <= api.Stop && word(i.Kind) != parts[1] {
		i.Kind++
	}
	for n, number := range numbers(&i) {
		if n+2 < len(parts) {
			*number, _ = strconv.Atoi(parts[n+2])
		}
	}
	return i
}

// numbers are those of an instruction that are told.
func numbers(i *api.Instr) []*int {
	switch i.Kind {
	case api.Unless:
		return []*int{&i.At, &i.To}
	case api.Jump:
		return []*int{&i.To}
	case api.Stop:
		return nil
	}
	return []*int{&i.At}
}
