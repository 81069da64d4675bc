// Package hex writes bytes in digits 0 to 9 and a to f, two each, and reads them.
package hex

import "strings"

const all = "0123456789abcdef"

// Digits of bytes.
func Digits(b string) string {
	var s strings.Builder
	for i := range len(b) {
		s.WriteByte(all[b[i]>>4])
		s.WriteByte(all[b[i]&15])
	}
	return s.String()
}

// Bytes of digits; false: these are not what Digits makes.
func Bytes(s string) (string, bool) {
	if len(s)%2 > 0 {
		return "", false
	}
	var b strings.Builder
	for i := 0; i < len(s); i += 2 {
		high, low := strings.IndexByte(all, s[i]), strings.IndexByte(all, s[i+1])
		if high < 0 || low < 0 {
			return "", false
		}
		b.WriteByte(byte(high<<4 | low))
	}
	return b.String(), true
}
