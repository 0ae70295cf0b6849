package frame

import (
	"strings"
	"unicode/utf8"

	"ratchet/api"
	"ratchet/leb"
)

// Utf8 tells whether b is well-formed UTF-8, or the place of the first byte with which no such text goes on.
func Utf8(b []byte) (int, bool) { return wellFormed(string(b)) }

// wellFormed looks twice at RuneError: a range tells it of bytes that are no character, and of U+FFFD itself.
func wellFormed(s string) (int, bool) {
	for i, char := range s {
		if char == utf8.RuneError && !strings.HasPrefix(s[i:], string(utf8.RuneError)) {
			return i + begun(s[i:]), false
		}
	}
	return 0, true
}

// begun tells with how many bytes s begins a character that it does not have whole.
func begun(s string) int {
	// Of the first bytes from the one up to the other: from where up to where the second byte goes.
	leads := [...]struct{ from, to, low, high byte }{
		{0xc2, 0xdf, 0x80, 0xbf},
		{0xe0, 0xe0, 0xa0, 0xbf}, // below: a number in more bytes than it needs
		{0xe1, 0xec, 0x80, 0xbf},
		{0xed, 0xed, 0x80, 0x9f}, // above: surrogates
		{0xee, 0xef, 0x80, 0xbf},
		{0xf0, 0xf0, 0x90, 0xbf}, // below: a number in more bytes than it needs
		{0xf1, 0xf3, 0x80, 0xbf},
		{0xf4, 0xf4, 0x80, 0x8f}, // above: more than 10FFFF
	}
	for _, l := range leads {
		if l.from <= s[0] && s[0] <= l.to {
			return 1 + goingOn(s[1:], l.low, l.high)
		}
	}
	return 0
}

// goingOn tells how many bytes go on with a character, the first of them from low up to high. There are never too many: the character would be whole.
func goingOn(s string, low, high byte) int {
	n := 0
	for n < len(s) && low <= s[n] && s[n] <= high {
		low, high = 0x80, 0xbf
		n++
	}
	return n
}

// Name tells the name at a place, and the place behind it.
func Name(b []byte, at int) (string, int, api.Errno) {
	// A place outside of b is what its number's reader looks at first.
	r := reader{b, at}
	name, f := attempt(r.name)
	if f.e != api.OK {
		return "", f.at, f.e
	}
	return name, r.at, api.OK
}

// PutName writes a name's bytes.
func PutName(s string) ([]byte, api.Errno) {
	if e := nameFault(s); e != api.OK {
		return nil, e
	}
	return nameBytes(s), api.OK
}

// nameFault tells why a text is no name.
func nameFault(s string) api.Errno {
	if len(s) > api.MaxNames {
		return api.ErrLong
	}
	if _, ok := wellFormed(s); !ok {
		return api.ErrName
	}
	return api.OK
}

func nameBytes(s string) []byte { return append(leb.PutU(uint64(len(s))), s...) }
