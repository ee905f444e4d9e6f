package ir

import "reticule/api"

// isOf tells whether an instruction has a kind, and is of a statement of it, where it must be of one.
func isOf(i api.Instr, stmts []api.Stmt) bool {
	switch i.Kind {
	case api.Jump, api.Stop:
		return i.At == 0
	}
	return isPlace(i.At, len(stmts)) && does(i.Kind, stmts[i.At].Kind)
}

// does tells whether an instruction of a kind can do a statement of a kind, or a part of it.
func does(kind api.InstrKind, stmt api.StmtKind) bool {
	switch kind {
	case api.SetInstr:
		return stmt == api.SetIt
	case api.FoldInstr:
		return stmt == api.FoldIt
	case api.SendInstr, api.TakeInstr:
		return stmt == api.EachIt
	case api.Unless:
		return stmt == api.IfIt || stmt == api.WhileIt
	}
	return false
}

// leads tells whether an instruction can go on elsewhere than to the one behind it.
func leads(i api.Instr) bool { return i.Kind == api.Unless || i.Kind == api.Jump }

// leadsRight tells whether an instruction leads to one of so many, as far as it leads anywhere.
func leadsRight(i api.Instr, many int) bool {
	if leads(i) {
		return isPlace(i.To, many)
	}
	return i.To == 0
}

// standsRight tells whether an instruction may stand among the others where it does; what it is of, and where it leads, is right.
func standsRight(l []api.Instr, at int) bool {
	i := l[at]
	isLast := at == len(l)-1
	switch {
	case i.Kind == api.SendInstr:
		return !isLast && isPair(i, l[at+1])
	case i.Kind == api.TakeInstr:
		return !isLast && at > 0 && isPair(l[at-1], i)
	case leads(i) && l[i.To].Kind == api.TakeInstr:
		return false
	}
	return !isLast || i.Kind == api.Stop || i.Kind == api.Jump
}

// isPair tells whether what is sent is what is taken.
func isPair(sent, taken api.Instr) bool {
	taken.To = 0 // where it leads is its own fault, not that of the one ahead
	return sent == api.Instr{Kind: api.SendInstr, At: taken.At} && taken == api.Instr{Kind: api.TakeInstr, At: sent.At}
}
