package engine

import (
	"math"

	"reticule/api"
	"reticule/column"
	"reticule/graph"
	"reticule/mail"
	"reticule/num"
)

const (
	numbers      = 5 // where it stands, steps, sent, most, how many are in the inbox
	numberBytes  = 4
	headBytes    = numbers*numberBytes + 1 // and whether it is halted
	messageBytes = 10                      // as mail has them
)

// Save are the bytes of how far the engine has come: Load makes an engine of them that goes on as this one does.
func (e *Engine) Save() ([]byte, api.Errno) {
	if e == nil {
		return nil, api.ErrNil
	}
	var b []byte
	for _, n := range [numbers]int{e.at, e.steps, e.sent, e.most, len(e.inbox)} {
		if uint64(n) > math.MaxUint32 {
			return nil, api.ErrSpace // it must not go round
		}
		word := num.Bytes(api.Word(n))
		b = append(b, word[len(word)-numberBytes:]...)
	}
	b = append(b, asByte(e.halted))
	messages, wrong := mail.Encode(e.inbox)
	if wrong != api.OK {
		return nil, wrong
	}
	columns, wrong := column.Encode(e.table)
	if wrong != api.OK {
		return nil, wrong
	}
	b = append(b, messages...)
	return append(b, columns...), api.OK
}

func asByte(is bool) byte {
	if is {
		return 1
	}
	return 0
}

// Load is the engine that has come as far as bytes tell, of code, a graph, and a script.
func Load(c api.Code, g *graph.Graph, s api.Script, b []byte) (*Engine, api.Errno) {
	if len(b) < headBytes || b[headBytes-1] > 1 {
		return nil, api.ErrForm
	}
	inbox, rest, right := readInbox(numberOf(b, numbers-1), b[headBytes:])
	if !right {
		return nil, api.ErrForm
	}
	t, wrong := column.Decode(g.N(), g.M(), rest)
	if wrong != api.OK {
		return nil, api.ErrForm
	}
	e := New(c, g, t, s)
	if e == nil {
		return nil, api.ErrForm
	}
	e.at, e.steps, e.sent, e.most = numberOf(b, 0), numberOf(b, 1), numberOf(b, 2), numberOf(b, 3)
	e.inbox, e.halted = inbox, b[headBytes-1] == 1
	if e.at >= len(e.code.List) || e.halted && e.code.List[e.at].Kind != api.Stop {
		return nil, api.ErrForm
	}
	return e, api.OK
}

// numberOf is the number that stands at a place among those with which b begins.
func numberOf(b []byte, i int) int {
	var word [8]byte
	copy(word[len(word)-numberBytes:], b[i*numberBytes:])
	return int(num.Join(word))
}

// readInbox are the n messages with which b begins, and what stands behind them; false, if there are fewer.
func readInbox(n int, b []byte) ([]api.Message, []byte, bool) {
	if n > len(b)/messageBytes {
		return nil, nil, false
	}
	end := n * messageBytes
	inbox, _, wrong := mail.Decode(b[:end])
	return inbox, b[end:], wrong == api.OK
}
