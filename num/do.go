package num

import "reticule/api"

// Arity is of how many numbers o is; 0, if it is no operation.
func Arity(o api.Op) int {
	switch {
	case o == api.Not:
		return 1
	case o == api.If:
		return 3
	case api.Add <= o && o <= api.LastOp:
		return 2
	}
	return 0
}

// Reduces tells whether o can take in many numbers in any order, and from which one on.
func Reduces(o api.Op) (api.Word, bool) {
	switch o {
	case api.Add, api.Or:
		return 0, true
	case api.Min:
		return greatest, true
	case api.Max:
		return least, true
	case api.And:
		return 1, true
	}
	return 0, false
}

// Do is the operation o of the numbers l.
func Do(o api.Op, l ...api.Word) (api.Word, api.Errno) {
	many := Arity(o)
	if many == 0 {
		return 0, api.ErrRange
	}
	if len(l) != many {
		return 0, api.ErrForm
	}
	switch o {
	case api.Not:
		return asWord(!Truth(l[0])), api.OK
	case api.If:
		return choose(l[0], l[1], l[2]), api.OK
	}
	return ofTwo(o, l[0], l[1]), api.OK
}

// ofTwo is an operation whose Arity is 2.
func ofTwo(o api.Op, a, b api.Word) api.Word {
	switch o {
	case api.Add:
		return Add(a, b)
	case api.Sub:
		return Sub(a, b)
	case api.Mul:
		return Mul(a, b)
	case api.Div:
		return Div(a, b)
	case api.Mod:
		return Mod(a, b)
	case api.Min:
		return min(a, b)
	case api.Max:
		return max(a, b)
	case api.Shl:
		return Shl(a, b)
	case api.Shr:
		return Shr(a, b)
	case api.Narrow:
		return Narrow(a, b)
	case api.BitAnd:
		return a & b
	case api.BitOr:
		return a | b
	case api.BitXor:
		return a ^ b
	}
	return asWord(holds(o, a, b))
}

// holds is an operation of two numbers whose answer is a truth.
func holds(o api.Op, a, b api.Word) bool {
	switch o {
	case api.Eq:
		return a == b
	case api.Lt:
		return a < b
	case api.And:
		return Truth(a) && Truth(b)
	case api.Or:
		return Truth(a) || Truth(b)
	}
	return false
}

func choose(which, yes, no api.Word) api.Word {
	if Truth(which) {
		return yes
	}
	return no
}

func asWord(is bool) api.Word {
	if is {
		return 1
	}
	return 0
}
