package graph

import "reticule/api"

const (
	headBytes = 2 // how many nodes, how many edges
	edgeBytes = 2 // From, To
)

// Encode are n, how many edges there are, and the ends of each, a byte each.
func Encode(n int, l []api.Edge) ([]byte, api.Errno) {
	if _, e := Check(n, l); e != api.OK {
		return nil, e
	}
	b := make([]byte, 0, headBytes+edgeBytes*len(l))
	b = append(b, byte(n), byte(len(l)))
	for _, e := range l {
		b = append(b, byte(e.From), byte(e.To))
	}
	return b, api.OK
}

// Decode is the graph whose Encode b is; if there is none, the place of the first byte that is wrong.
func Decode(b []byte) (int, []api.Edge, int, api.Errno) {
	if at, right := firstWrong(b); !right {
		return 0, nil, at, api.ErrForm
	}
	var l []api.Edge
	for at := headBytes; at < len(b); at += edgeBytes {
		l = append(l, api.Edge{From: int(b[at]), To: int(b[at+1])})
	}
	return int(b[0]), l, 0, api.OK
}

// firstWrong is the place of the first byte of b that is wrong, or its length, if one is missing; true, if all is right.
func firstWrong(b []byte) (int, bool) {
	end := headBytes // only byte 1 tells how long it must be
	for at, v := range b {
		switch {
		case at == 0 && !mayBeNodes(int(v)):
			return at, false
		case at == 1 && v > api.MaxEdges:
			return at, false
		case at == 1:
			end = headBytes + edgeBytes*int(v)
		case at >= headBytes && (at >= end || !isNode(int(b[0]), int(v))):
			return at, false
		}
	}
	return len(b), len(b) == end
}
