package plain

import (
	"slices"

	"reticule/api"
	"reticule/num"
)

// Puts is what a node puts into its own by acts that may be done; or the first error.
func (w World) Puts(p api.Program, l []api.Act, v int) ([]api.Write, api.Errno) {
	var out []api.Write
	for _, a := range l {
		if a.Kind != api.PutIt {
			continue
		}
		is, wrong := w.holds(p, a.Cond, v)
		if wrong != api.OK {
			return nil, wrong
		}
		if !is {
			continue
		}
		val, wrong := w.Value(p, a.E, v, -1, -1)
		if wrong != api.OK {
			return nil, wrong
		}
		out = append(out, api.Write{Name: a.Name, Val: val})
	}
	return out, api.OK
}

func (w World) holds(p api.Program, cond, v int) (bool, api.Errno) {
	if cond == -1 {
		return true, api.OK
	}
	is, wrong := w.Value(p, cond, v, -1, -1)
	return is != 0, wrong
}

// Sends are the messages that a node sends by acts that may be done, in the order of a number; or the first error.
func (w World) Sends(p api.Program, l []api.Act, v int, k uint64) ([]api.Message, api.Errno) {
	var out []api.Message
	for tag, a := range l {
		if a.Kind != api.PushIt {
			continue
		}
		is, wrong := w.holds(p, a.Cond, v)
		if wrong != api.OK {
			return nil, wrong
		}
		if !is {
			continue
		}
		mine := w.edgesOf(v, a.In)
		for _, n := range ByNumber(k)(len(mine)) {
			far, _ := other(w.Edges[mine[n]], v, a.In)
			val, wrong := w.Value(p, a.E, v, mine[n], far)
			if wrong != api.OK {
				return nil, wrong
			}
			out = append(out, api.Message{To: far, Tag: tag, Val: val})
		}
	}
	return Turned(out, k), api.OK
}

// Takes is what a node puts into its own by acts that may be done, behind messages; or the first error.
func (w World) Takes(l []api.Act, v int, in []api.Message) ([]api.Write, api.Errno) {
	var out []api.Write
	for first, a := range l {
		if a.Kind != api.PushIt || len(sentFor(in, v, first)) == 0 {
			continue
		}
		if slices.ContainsFunc(out, func(w api.Write) bool { return w.Name == a.Name }) {
			continue
		}
		val, wrong := w.get(a.Name, api.OfNode, v)
		if wrong != api.OK {
			return nil, wrong
		}
		for tag, b := range l {
			if b.Kind != api.PushIt || b.Name != a.Name {
				continue
			}
			for _, m := range sentFor(in, v, tag) {
				val, _ = num.Do(b.Op, val, m.Val)
			}
		}
		out = append(out, api.Write{Name: a.Name, Val: val})
	}
	return out, api.OK
}

// sentFor are the messages to a node that have a tag.
func sentFor(in []api.Message, v, tag int) []api.Message {
	return slices.DeleteFunc(slices.Clone(in), func(m api.Message) bool { return m.To != v || m.Tag != tag })
}

// Turned are messages in the order of a number: in rows of MaxPerm, the last row first, if it is odd.
func Turned(l []api.Message, k uint64) []api.Message {
	var rows [][]api.Message
	for row := range slices.Chunk(l, api.MaxPerm) {
		var turned []api.Message
		for _, i := range ByNumber(k)(len(row)) {
			turned = append(turned, row[i])
		}
		rows = append(rows, turned)
	}
	if k%2 == 1 {
		slices.Reverse(rows)
	}
	return slices.Concat(rows...)
}
