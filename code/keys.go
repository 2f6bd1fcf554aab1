package code

import (
	"slices"
	"strings"

	"millhand/api"
)

const (
	markNumber = 1 // ahead of a number's bytes, below markText: numbers stand ahead of texts
	markText   = 2
	wordBytes  = 8 // of a number in a key
)

// In a key a text ends with two bytes 0. What is put behind a byte 0 of its own tells that apart from the end, and lets it stand above it.
const behindZero = 255

// Key is parts as a key.
func Key(l []api.Part) (string, api.Errno) {
	if len(l) < 1 || len(l) > api.MaxParts {
		return "", api.ErrMany
	}
	if slices.ContainsFunc(l, mayNotBe) {
		return "", api.ErrBad
	}
	var b []byte
	for _, p := range l {
		// Asked ahead of appending: a text of any length may be handed in.
		if len(p.S) > api.MaxKey {
			return "", api.ErrText
		}
		b = appendPart(b, p)
	}
	if len(b) > api.MaxKey {
		return "", api.ErrText
	}
	return string(b), api.OK
}

func mayNotBe(p api.Part) bool {
	return p.Text && p.N != 0 || !p.Text && p.S != ""
}

func appendPart(b []byte, p api.Part) []byte {
	switch p.Text {
	case true:
		b = appendText(append(b, markText), p.S)
	case false:
		b = appendWord(append(b, markNumber), p.N)
	}
	return b
}

// appendWord puts the greatest byte first, so that bytes stand as numbers do.
func appendWord(b []byte, n uint64) []byte {
	for i := wordBytes - 1; i >= 0; i-- {
		b = append(b, byte(n>>(8*i)))
	}
	return b
}

func appendText(b []byte, s string) []byte {
	for _, c := range []byte(s) {
		b = append(b, c)
		if c == 0 {
			b = append(b, behindZero)
		}
	}
	return append(b, 0, 0)
}

// Parts is the parts of a key.
func Parts(s string) ([]api.Part, api.Errno) {
	if len(s) < 1 || len(s) > api.MaxKey {
		return nil, api.ErrText
	}
	var l []api.Part
	for s != "" {
		p, rest, ok := cutPart(s)
		if !ok || len(l) == api.MaxParts {
			return nil, api.ErrBad
		}
		l, s = append(l, p), rest
	}
	return l, api.OK
}

// cutPart is the part that s, which is not empty, begins with, and what stands behind it.
func cutPart(s string) (api.Part, string, bool) {
	switch s[0] {
	case markNumber:
		n, rest, ok := cutWord(s[1:])
		return api.Part{N: n}, rest, ok
	case markText:
		text, rest, ok := cutText(s[1:])
		return api.Part{Text: true, S: text}, rest, ok
	}
	return api.Part{}, "", false
}

func cutWord(s string) (uint64, string, bool) {
	if len(s) < wordBytes {
		return 0, "", false
	}
	var n uint64
	for i := range wordBytes {
		n = n<<8 | uint64(s[i])
	}
	return n, s[wordBytes:], true
}

func cutText(s string) (string, string, bool) {
	var text []byte
	for {
		// Where there is no byte 0, nothing stands behind it either.
		head, tail, _ := strings.Cut(s, "\x00")
		if tail == "" {
			return "", "", false
		}
		text = append(text, head...)
		switch tail[0] {
		case 0:
			return string(text), tail[1:], true
		case behindZero:
			text = append(text, 0)
		default:
			return "", "", false
		}
		s = tail[1:]
	}
}

// Above is the least text above s and all texts that begin with it.
func Above(s string) (string, bool) {
	n := len(s)
	for n > 0 && s[n-1] == 255 {
		n--
	}
	if n == 0 {
		return "", false
	}
	b := []byte(s[:n])
	b[n-1]++
	return string(b), true
}
