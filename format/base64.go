package format

import (
	"strings"

	"colander/answer"
	"colander/api"
	"colander/runes"
)

const (
	// signs stand for the numbers from 0 to 63.
	signs    = "ABCDEFGHIJKLMNOPQRSTUVWXYZabcdefghijklmnopqrstuvwxyz0123456789+/"
	padding  = "="
	signBits = 6
	byteBits = 8
	group    = 4 // so many signs are three bytes
)

// encoded answers s in base 64.
func encoded(s string) string {
	var wait queue
	text := each(s, func(out *strings.Builder, c byte) {
		wait.push(int(c), byteBits)
		for wait.many >= signBits {
			out.WriteByte(signs[wait.take(signBits)])
		}
	})
	if wait.many > 0 {
		wait.push(0, signBits-wait.many)
		n := wait.take(signBits)
		text += signs[n : n+1]
	}
	for len(text)%group > 0 {
		text += padding
	}
	return text
}

// decodedValue answers the bytes that a value is in base 64, cleaned.
func decodedValue(v api.Value) (string, api.Err) {
	s, ok := decoded(String(v))
	if !ok {
		return failed(answer.Told(v) + " is not valid base64 data")
	}
	return runes.Clean([]byte(s)), api.Err{}
}

// decoded answers the bytes that s is in base 64, and whether it is any.
func decoded(s string) (string, bool) {
	s = strings.TrimSuffix(strings.TrimSuffix(s, padding), padding)
	ok := len(s)%group != 1 // one sign has too few bits for a byte
	var wait queue
	out := each(s, func(out *strings.Builder, c byte) {
		n := strings.IndexByte(signs, c)
		if n < 0 {
			ok = false
			return
		}
		wait.push(n, signBits)
		if wait.many >= byteBits {
			out.WriteByte(byte(wait.take(byteBits)))
		}
	})
	return out, ok
}

// queue holds bits until there are enough of them for what they are taken for.
type queue struct {
	bits int // those that wait, as a number
	many int
}

// push puts a number of so many bits behind those that wait.
func (q *queue) push(n, many int) {
	q.bits = q.bits<<many | n
	q.many += many
}

// take takes so many of the bits away that have waited longest.
func (q *queue) take(many int) int {
	q.many -= many
	n := q.bits >> q.many
	q.bits -= n << q.many
	return n
}
