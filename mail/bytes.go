package mail

import (
	"reticule/api"
	"reticule/num"
)

const (
	headBytes    = 2 // a message's To and Tag
	wordBytes    = 8
	messageBytes = headBytes + wordBytes
)

// Encode are the bytes of messages: of each its To, its Tag, and its Val, the highest byte first.
func Encode(l []api.Message) ([]byte, api.Errno) {
	for _, m := range l {
		if !isTo(m.To) || !isTag(m.Tag) {
			return nil, api.ErrRange
		}
	}
	b := make([]byte, 0, len(l)*messageBytes)
	for _, m := range l {
		val := num.Bytes(m.Val)
		b = append(b, byte(m.To), byte(m.Tag))
		b = append(b, val[:]...)
	}
	return b, api.OK
}

func isTo(to int) bool { return 0 <= to && to < api.MaxNodes }

func isTag(tag int) bool { return 0 <= tag && tag < api.MaxActs }

// Decode are the messages whose Encode b is; or the error, and where the first byte is that is wrong, or missing.
func Decode(b []byte) ([]api.Message, int, api.Errno) {
	var all []api.Message
	for from := 0; from < len(b); from += messageBytes {
		if wrong := wrongByte(b[from:]); wrong >= 0 {
			return nil, from + wrong, api.ErrForm
		}
		val := num.Join([wordBytes]byte(b[from+headBytes:]))
		all = append(all, api.Message{To: int(b[from]), Tag: int(b[from+1]), Val: val})
	}
	return all, 0, api.OK
}

// wrongByte is the place of the first byte that is wrong in the message with which b begins, or of the end, if that comes too early; -1, if there is none.
func wrongByte(b []byte) int {
	switch {
	case !isTo(int(b[0])):
		return 0
	case len(b) > 1 && !isTag(int(b[1])):
		return 1
	case len(b) < messageBytes:
		return len(b)
	}
	return -1
}
