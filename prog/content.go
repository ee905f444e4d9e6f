package prog

import "reticule/api"

// none is the place of an expression where there is none.
const none = -1

// content is what stands in a bracket behind its first word.
type content struct {
	name        string
	op          api.Op
	in          bool
	e, cond     int
	acts        []api.Act
	then, other []int
}

// fault is what reading, or telling, gives up with: the error, and where.
type fault struct {
	at    int
	errno api.Errno
}

// caught does f, and is the fault with which that gave up; the zero one, if it did not.
func caught(f func()) (wrong fault) {
	defer func() {
		if thrown := recover(); thrown != nil {
			wrong = thrown.(fault) // what is no fault of what was handed in goes on as a panic
		}
	}()
	f()
	return wrong
}

func asWord(truth bool) api.Word {
	if truth {
		return 1
	}
	return 0
}
