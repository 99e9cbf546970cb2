// Package fields is layer 1: numbers in texts of bytes, the highest byte first.
package fields

// Get16 is the number of two bytes at a place; false: they are not there.
func Get16(s string, at int) (n uint16, ok bool) {
	if !there(s, at, 2) {
		return 0, false
	}
	return uint16(s[at])<<8 | uint16(s[at+1]), true
}

// Get32 is the number of four bytes at a place; false: they are not there.
func Get32(s string, at int) (n uint32, ok bool) {
	if !there(s, at, 4) {
		return 0, false
	}
	high := uint32(s[at])<<24 | uint32(s[at+1])<<16
	low := uint32(s[at+2])<<8 | uint32(s[at+3])
	return high | low, true
}

// Put16 is a number's bytes.
func Put16(n uint16) string { return Word(n) }

// Put32 is a number's bytes.
func Put32(n uint32) string { return Word(uint16(n>>16), uint16(n)) }

// With is a text with a part in the place of as many bytes; false: they are not there.
func With(s string, at int, part string) (out string, ok bool) {
	if !there(s, at, len(part)) {
		return "", false
	}
	return s[:at] + part + s[at+len(part):], true
}

// Word is the bytes of all numbers, one behind the other.
func Word(l ...uint16) string {
	b := make([]byte, 0, 2*len(l))
	for _, n := range l {
		b = append(b, byte(n>>8), byte(n))
	}
	return string(b)
}

// there tells whether a text has so many bytes at a place. It takes many off
// the length, as a place and many, added, could run over.
func there(s string, at, many int) bool {
	return at >= 0 && at <= len(s)-many
}
