package hex

import (
	"encoding/hex"
	"testing"
)

// everyByte there is, one behind the other.
func everyByte() string {
	var b []byte
	for i := range 256 {
		b = append(b, byte(i))
	}
	return string(b)
}

func TestDigits(t *testing.T) {
	for _, b := range []string{"", "\x00", "\xff\x10", "abc", "ä\n", everyByte()} {
		s := Digits(b)
		if s != hex.EncodeToString([]byte(b)) {
			t.Errorf("%q: %s", b, s)
		}
		if again, right := Bytes(s); again != b || !right {
			t.Errorf("%q: %q, %v", b, again, right)
		}
	}
}

func TestNoDigits(t *testing.T) {
	for _, s := range []string{"0", "000", "0A", "A0", "g0", "0g", "00 0", " 0", "0x", "00zz", "ä", "-1", "00\n\n"} {
		if b, right := Bytes(s); b != "" || right {
			t.Errorf("%q: %q, %v", s, b, right)
		}
	}
}
