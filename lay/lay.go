// Package lay is layer 1: see shared/doc/01-lay.md.
package lay

import (
	"strconv"
	"strings"

	"affidavit/api"
)

// Number lays a number.
func Number(n int) string { return strconv.Itoa(n) + ";" }

// Text lays a text.
func Text(s string) (string, api.Errno) {
	if len(s) > api.MaxText {
		return "", api.ErrBig
	}
	return strconv.Itoa(len(s)) + ":" + s, api.OK
}

// Numbers lays numbers.
func Numbers(l []int) (string, api.Errno) {
	return layList(l, func(n int) (string, api.Errno) { return Number(n), api.OK })
}

// Texts lays texts.
func Texts(l []string) (string, api.Errno) { return layList(l, Text) }

// ReadNumber reads a number.
func ReadNumber(s string, at int) (int, int, api.Errno) {
	if !isPlace(s, at) {
		return 0, 0, api.ErrRange
	}
	first := at
	if strings.HasPrefix(s[at:], "-") {
		first++
	}
	end, e := endOfDigits(s, first, ';')
	if e != api.OK {
		return 0, 0, e
	}
	if first > at && s[first] == '0' {
		return 0, 0, api.ErrForm
	}
	n, err := strconv.Atoi(s[at:end])
	if err != nil {
		return 0, 0, api.ErrBig
	}
	return n, end + 1, api.OK
}

// ReadText reads a text.
func ReadText(s string, at int) (string, int, api.Errno) {
	if !isPlace(s, at) {
		return "", 0, api.ErrRange
	}
	end, e := endOfDigits(s, at, ':')
	if e != api.OK {
		return "", 0, e
	}
	size, err := strconv.Atoi(s[at:end])
	if err != nil || size > api.MaxText {
		return "", 0, api.ErrBig
	}
	rest := s[end+1:]
	if len(rest) < size {
		return "", 0, api.ErrShort
	}
	// A piece of s would keep all of s: what is answered is new memory.
	return strings.Clone(rest[:size]), end + 1 + size, api.OK
}

// ReadNumbers reads numbers.
func ReadNumbers(s string, at int) ([]int, int, api.Errno) {
	return readList(s, at, func(at int) (int, int, api.Errno) { return ReadNumber(s, at) })
}

// ReadTexts reads texts.
func ReadTexts(s string, at int) ([]string, int, api.Errno) {
	return readList(s, at, func(at int) (string, int, api.Errno) { return ReadText(s, at) })
}

// layList lays a list, its items by layItem.
func layList[T any](l []T, layItem func(T) (string, api.Errno)) (string, api.Errno) {
	if len(l) > api.MaxList {
		return "", api.ErrBig
	}
	var b strings.Builder
	b.WriteByte('(')
	for _, x := range l {
		laid, e := layItem(x)
		if e != api.OK {
			return "", e
		}
		b.WriteString(laid)
	}
	b.WriteByte(')')
	return b.String(), api.OK
}

// readList reads the list of s that begins at a place, its items by readItem, which knows s.
func readList[T any](s string, at int, readItem func(at int) (T, int, api.Errno)) ([]T, int, api.Errno) {
	if !isPlace(s, at) {
		return nil, 0, api.ErrRange
	}
	if at == len(s) {
		return nil, 0, api.ErrShort
	}
	if s[at] != '(' {
		return nil, 0, api.ErrForm
	}
	at++
	var l []T
	for !strings.HasPrefix(s[at:], ")") {
		// Ahead of the item's own errors, the end of s among them: the chapter names it first.
		if len(l) == api.MaxList {
			return nil, 0, api.ErrBig
		}
		x, next, e := readItem(at)
		if e != api.OK {
			return nil, 0, e
		}
		l = append(l, x)
		at = next
	}
	return l, at + 1, api.OK
}

// isPlace tells whether at is from 0 to the number of bytes of s.
func isPlace(s string, at int) bool { return at >= 0 && at <= len(s) }

// endOfDigits tells the place behind all digits that stand at a place. They are laid well if there is one, the first of several is no 0, and stop stands behind them.
func endOfDigits(s string, at int, stop byte) (int, api.Errno) {
	end := at
	for end < len(s) && s[end] >= '0' && s[end] <= '9' {
		end++
	}
	if end == len(s) {
		return 0, api.ErrShort
	}
	needless := end-at > 1 && s[at] == '0'
	if end == at || s[end] != stop || needless {
		return 0, api.ErrForm
	}
	return end, api.OK
}
