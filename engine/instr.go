package engine

import (
	"iter"

	"reticule/agg"
	"reticule/api"
	"reticule/eval"
	"reticule/kernel"
	"reticule/mail"
	"reticule/num"
	"reticule/perm"
)

// none is the place of an expression, an edge, or a node, where there is none.
const none = -1

// combining: of seeds that are a multiple of it, each worker combines what it sends.
const combining = 3

// deed does an instruction by a seed, and is where it goes on. With an error nothing is changed.
type deed func(i api.Instr, k uint64) (int, api.Errno)

// doing is how instructions of a kind are done.
func (e *Engine) doing(kind api.InstrKind) deed {
	switch kind {
	case api.SetInstr:
		return e.set
	case api.FoldInstr:
		return e.fold
	case api.SendInstr:
		return e.send
	case api.TakeInstr:
		return e.take
	case api.Unless:
		return e.unless
	case api.Jump:
		return e.jump
	}
	return e.stop
}

func (e *Engine) set(i api.Instr, _ uint64) (int, api.Errno) {
	s := e.code.Program.Stmts[i.At]
	w, wrong := e.value(s.E, none)
	if wrong != api.OK {
		return 0, wrong
	}
	return e.at + 1, e.table.Set(scalarKey(s.Name), 0, w)
}

func (e *Engine) fold(i api.Instr, k uint64) (int, api.Errno) {
	s := e.code.Program.Stmts[i.At]
	all := agg.New(s.Op, e.parts.Workers())
	for worker, v := range e.nodes(k) {
		if wrong := e.takeIn(all, worker, s, v); wrong != api.OK {
			return 0, wrong
		}
	}
	old, wrong := e.table.Get(scalarKey(s.Name), 0)
	if wrong != api.OK {
		return 0, wrong
	}
	whole, wrong := all.Whole(k)
	if wrong != api.OK {
		return 0, wrong
	}
	w, wrong := num.Do(s.Op, old, whole)
	if wrong != api.OK {
		return 0, wrong
	}
	return e.at + 1, e.table.Set(scalarKey(s.Name), 0, w)
}

// takeIn lets a worker's part take in a node's value, if its condition is true.
func (e *Engine) takeIn(all *agg.Agg, worker int, s api.Stmt, v int) api.Errno {
	if s.Cond != none {
		is, wrong := e.value(s.Cond, v)
		if wrong != api.OK || !num.Truth(is) {
			return wrong
		}
	}
	w, wrong := e.value(s.E, v)
	if wrong != api.OK {
		return wrong
	}
	return all.Take(worker, w)
}

// put is what stands at a node at the end of a step.
type put struct {
	node  int
	write api.Write
}

func (e *Engine) send(i api.Instr, k uint64) (int, api.Errno) {
	acts := e.code.Program.Stmts[i.At].Acts
	var puts []put
	var inbox []api.Message
	for _, nodes := range e.workers(k) {
		own, sent, wrong := e.sendAll(acts, nodes, k)
		if wrong != api.OK {
			return 0, wrong
		}
		puts = append(puts, own...)
		inbox = append(inbox, sent...)
	}
	if wrong := e.write(puts); wrong != api.OK {
		return 0, wrong
	}
	e.inbox = mail.Turned(inbox, k)
	e.sent += len(inbox)
	e.most = max(e.most, len(inbox))
	return e.at + 1, api.OK
}

// sendAll is what a worker's nodes put, and the messages that it sends.
func (e *Engine) sendAll(acts []api.Act, nodes []int, k uint64) ([]put, []api.Message, api.Errno) {
	var puts []put
	var sent []api.Message
	for _, v := range nodes {
		writes, wrong := kernel.Puts(e.code.Program, acts, e.graph, e.table, v)
		if wrong != api.OK {
			return nil, nil, wrong
		}
		messages, wrong := kernel.Sends(e.code.Program, acts, e.graph, e.table, v, k)
		if wrong != api.OK {
			return nil, nil, wrong
		}
		puts = gathered(puts, v, writes)
		sent = append(sent, messages...)
	}
	if k%combining != 0 {
		return puts, sent, api.OK
	}
	combined, wrong := mail.Combined(sent, kernel.Ops(acts))
	return puts, combined, wrong
}

func (e *Engine) take(i api.Instr, k uint64) (int, api.Errno) {
	acts := e.code.Program.Stmts[i.At].Acts
	var puts []put
	for _, v := range e.nodes(k) {
		writes, wrong := kernel.Takes(e.code.Program, acts, e.table, v, mail.For(e.inbox, v))
		if wrong != api.OK {
			return 0, wrong
		}
		puts = gathered(puts, v, writes)
	}
	if wrong := e.write(puts); wrong != api.OK {
		return 0, wrong
	}
	e.inbox = nil
	return e.at + 1, api.OK
}

func (e *Engine) unless(i api.Instr, _ uint64) (int, api.Errno) {
	is, wrong := e.value(e.code.Program.Stmts[i.At].E, none)
	if wrong != api.OK || num.Truth(is) {
		return e.at + 1, wrong
	}
	return i.To, api.OK
}

func (e *Engine) jump(i api.Instr, _ uint64) (int, api.Errno) { return i.To, api.OK }

func (e *Engine) stop(api.Instr, uint64) (int, api.Errno) {
	e.halted = true
	return e.at, api.OK
}

// workers yields each worker with its nodes, all in the order of a number.
func (e *Engine) workers(k uint64) iter.Seq2[int, []int] {
	return func(yield func(int, []int) bool) {
		turn, _ := perm.From(e.parts.Workers(), k) // MaxWorkers is below MaxPerm: it has no error
		for _, w := range turn {
			if !yield(w, e.parts.Order(w, k)) {
				return
			}
		}
	}
}

// nodes yields each node behind its worker, worker by worker, all in the order of a number.
func (e *Engine) nodes(k uint64) iter.Seq2[int, int] {
	return func(yield func(int, int) bool) {
		for w, nodes := range e.workers(k) {
			for _, v := range nodes {
				if !yield(w, v) {
					return
				}
			}
		}
	}
}

// value is an expression's at a node, along no edge.
func (e *Engine) value(at, v int) (api.Word, api.Errno) {
	return eval.Value(e.code.Program, at, e.graph, e.table, eval.Place{Node: v, Edge: none, Far: none})
}

// gathered are puts, and a node's writes behind them.
func gathered(puts []put, v int, writes []api.Write) []put {
	for _, w := range writes {
		puts = append(puts, put{v, w})
	}
	return puts
}

// write lets puts stand in the columns.
func (e *Engine) write(puts []put) api.Errno {
	behind := e.table.Fork()
	for _, p := range puts {
		if wrong := behind.Set(api.Key{Name: p.write.Name, Side: api.OfNode}, p.node, p.write.Val); wrong != api.OK {
			return wrong
		}
	}
	e.table = behind
	return api.OK
}

func scalarKey(name string) api.Key { return api.Key{Name: name, Side: api.Scalar} }
