package hex

import (
	"strings"

	"lampbearer/api"
)

// write has two digits for each byte of b, that of its upper half first.
func write(b []byte) string {
	out := make([]byte, 0, 2*len(b))
	for _, c := range b {
		out = append(out, digits[c>>4], digits[c&15])
	}
	return string(out)
}

// read is the bytes that are written so; ErrForm, if there are none.
func read(written string) ([]byte, api.Errno) {
	if len(written)%2 == 1 {
		return nil, api.ErrForm
	}
	out := make([]byte, len(written)/2)
	for at, sign := range written {
		half, ok := digitValue(sign)
		if !ok {
			return nil, api.ErrForm
		}
		out[at/2] = out[at/2]<<4 | half
	}
	return out, api.OK
}

// digitValue is what a digit stands for, and whether sign is one: held as a whole rune, since
// the last byte of a sign beyond ASCII may be that of a digit.
func digitValue(sign rune) (half byte, ok bool) {
	switch {
	case '0' <= sign && sign <= '9':
		return byte(sign - '0'), true
	case 'a' <= sign && sign <= 'f':
		return byte(sign-'a') + 10, true
	}
	return 0, false
}

// isShortest is whether a word may be written by as many signs, without a nought ahead that it does not need.
func isShortest(written string) bool {
	if written == "" || len(written) > wordDigits {
		return false
	}
	return written == nought || !strings.HasPrefix(written, nought)
}
