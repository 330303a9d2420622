package hex

import (
	"bytes"
	"fmt"
	"math/big"
	"strings"
	"testing"

	"lampbearer/api"
	"lampbearer/word"
)

const full = 1<<64 - 1

var highest = api.Word{full, full, full, full}

// texts are byte lists of all lengths from none on, noughts ahead and behind among them.
func texts() [][]byte {
	out := [][]byte{nil, {}, {0}, {0, 0}, {0, 1}, {1, 0}, {255}, {1, 2, 171}, bytes.Repeat([]byte{0}, 33), bytes.Repeat([]byte{255}, 33)}
	for n := range 100 {
		b := make([]byte, n)
		for i := range b {
			b[i] = byte(i*167 + n)
		}
		out = append(out, b)
	}
	return out
}

// words are the named ones, each with one bit, those beside it, and some of all lengths, the same ones each time.
func words() []api.Word {
	out := []api.Word{{}, {1}, {9}, {10}, {15}, {16}, {255}, {256}, {300}, {full}, {0, 1}, {0, full}, {0, 0, 0, 1 << 63}, highest}
	for bit := range uint64(256) {
		var p api.Word
		p[bit/64] = 1 << (bit % 64)
		out = append(out, p, word.Sub(p, word.Int(1)), word.Add(p, word.Int(1)))
	}
	x := uint64(88172645463325252)
	for i := range 100 {
		var w api.Word
		for j := range 1 + i%4 {
			x ^= x << 13
			x ^= x >> 7
			x ^= x << 17
			w[j] = x
		}
		out = append(out, w)
	}
	return out
}

// slowPrint goes by the words of D1, from a list of digits of its own.
func slowPrint(b []byte) string {
	list := strings.Split("0 1 2 3 4 5 6 7 8 9 a b c d e f", " ")
	out := "0x"
	for _, c := range b {
		out += list[c/16] + list[c%16]
	}
	return out
}

// slowNumber goes by whole numbers without end.
func slowNumber(a api.Word) string {
	h := word.Bytes(a)
	return "0x" + new(big.Int).SetBytes(h[:]).Text(16)
}

func parses(t *testing.T, s string, want []byte) {
	t.Helper()
	if got, err := Parse(s); err != api.OK || !bytes.Equal(got, want) {
		t.Errorf("Parse of %q is %x, %d, not %x", s, got, err, want)
	}
}

func parsesNot(t *testing.T, s string) {
	t.Helper()
	if got, err := Parse(s); err != api.ErrForm || len(got) != 0 {
		t.Errorf("Parse of %q is %x, %d, not ErrForm", s, got, err)
	}
}

func numbers(t *testing.T, s string, want api.Word) {
	t.Helper()
	if got, err := ParseNumber(s); err != api.OK || got != want {
		t.Errorf("ParseNumber of %q is %x, %d, not %x", s, got, err, want)
	}
}

func numbersNot(t *testing.T, s string) {
	t.Helper()
	if got, err := ParseNumber(s); err != api.ErrForm || got != (api.Word{}) {
		t.Errorf("ParseNumber of %q is %x, %d, not ErrForm", s, got, err)
	}
}

// oneForm holds both readers against what is written: they answer what is written as s, or ErrForm and nothing.
func oneForm(t *testing.T, s string) {
	t.Helper()
	switch b, err := Parse(s); {
	case err == api.OK && slowPrint(b) != s, err == api.ErrForm && len(b) != 0, err != api.OK && err != api.ErrForm:
		t.Errorf("Parse of %q is %x, %d", s, b, err)
	}
	switch a, err := ParseNumber(s); {
	case err == api.OK && slowNumber(a) != s, err == api.ErrForm && a != api.Word{}, err != api.OK && err != api.ErrForm:
		t.Errorf("ParseNumber of %q is %x, %d", s, a, err)
	}
}

func TestPrintOfNamedTexts(t *testing.T) { // D1
	for _, c := range []struct {
		b    []byte
		want string
	}{
		{nil, "0x"}, {[]byte{}, "0x"}, {[]byte{0}, "0x00"}, {[]byte{1}, "0x01"}, {[]byte{16}, "0x10"}, {[]byte{255}, "0xff"},
		{[]byte{0, 0}, "0x0000"}, {[]byte{1, 2, 171}, "0x0102ab"}, {[]byte{0x01, 0x23, 0x45, 0x67, 0x89, 0xab, 0xcd, 0xef}, "0x0123456789abcdef"},
	} {
		if got := Print(c.b); got != c.want {
			t.Errorf("Print of %v is %q, not %q", c.b, got, c.want)
		}
		parses(t, c.want, c.b)
	}
}

func TestEachByte(t *testing.T) { // D1
	for c := range 256 {
		b := []byte{byte(c)}
		want := fmt.Sprintf("0x%02x", c)
		if got := Print(b); got != want {
			t.Errorf("Print of the byte %d is %q, not %q", c, got, want)
		}
		parses(t, want, b)
	}
}

func TestPrintAndBack(t *testing.T) { // D1
	for _, b := range texts() {
		if got, want := Print(b), slowPrint(b); got != want {
			t.Errorf("Print of %x is %q, not %q", b, got, want)
		}
		parses(t, Print(b), b)
	}
}

func TestManyBytes(t *testing.T) { // D1: in one go, since byte by byte anew it would not end in time
	b := bytes.Repeat([]byte{0xab, 0x00, 0x5f}, 1<<20)
	s := Print(b)
	if s != "0x"+strings.Repeat("ab005f", 1<<20) {
		t.Fatalf("Print of %d bytes is another text, of %d", len(b), len(s))
	}
	if got, err := Parse(s); err != api.OK || !bytes.Equal(got, b) {
		t.Errorf("Parse of many digits is %d bytes, %d", len(got), err)
	}
	if got, err := Parse(s[:len(s)-1] + "g"); err != api.ErrForm || len(got) != 0 {
		t.Errorf("Parse of many digits and one sign that is none is %d bytes, %d", len(got), err)
	}
}

// wrongTexts are written neither as bytes nor as a number.
func wrongTexts() []string {
	return []string{
		"", "0", "x", "00", "x0", "12", "ab", "12ab", "x12", "1x12", "00x12", "0x0x12", "-0x12", "+0x12", "0x-12", "0x+1", "0x+12",
		"0X", "0X12", "0Xab", "0XAB", "0xA0", "0xAb", "0xaB", "0xF", "0xFF", "0xABCD", "0x1A", "0xA1",
		" 0x12", "0x12 ", "0x 12", "0x1 2", "0x12\n", "\t0x12", "0x1_2", "0x_12", "0x1_23", "0x12\x00", "\x000x12",
		"0xg0", "0x0g", "0x0 ", "0x/0", "0x:0", "0x`0", "0x@0", "0x1:", "0x1g", "0x1/", "0x1`", "0x12.0", "0x1p4", "0o12", "0b11", "0xx1",
		"0xé", "0xéé", "0x1é2", "0x12é", "0x12\xff4", "0x\xff\xff", "0x\x80", "0x1\xb1", "0x\xef\xbf\xbd1", "0x\ufffd",
		"0x１２", "0x١٢", "0xа1", "０x12", "0х12",
	}
}

func TestWrongTexts(t *testing.T) { // D1, D2, Z4
	for _, s := range wrongTexts() {
		parsesNot(t, s)
		numbersNot(t, s)
	}
}

func TestParseOfOddCounts(t *testing.T) { // D1
	for n := range 200 {
		s := "0x" + strings.Repeat("7", n)
		if n%2 == 1 {
			parsesNot(t, s)
		} else {
			parses(t, s, bytes.Repeat([]byte{0x77}, n/2))
		}
	}
}

func TestSignsThatEndLikeDigits(t *testing.T) { // D1, D2: U+0130 ends in the byte of 0, and so on, plane by plane
	for _, digit := range digits {
		for above := rune(0x100); above <= 0x10ff00; above += 0x100 {
			sign := string(above | digit)
			for _, s := range []string{"0x" + sign, "0x1" + sign, "0x" + sign + "1", "0x1" + sign + "1", "0x" + sign + sign} {
				if b, err := Parse(s); err != api.ErrForm || len(b) != 0 {
					t.Fatalf("Parse of %q is %x, %d", s, b, err)
				}
				if a, err := ParseNumber(s); err != api.ErrForm || a != (api.Word{}) {
					t.Fatalf("ParseNumber of %q is %x, %d", s, a, err)
				}
			}
		}
	}
}

func TestEachPairOfSigns(t *testing.T) { // D1, D2: nothing but the digits is read, and all of them are
	const own = "0123456789abcdef"
	for i := range 256 {
		for j := range 256 {
			s := string([]byte{'0', 'x', byte(i), byte(j)})
			up, low := strings.IndexByte(own, byte(i)), strings.IndexByte(own, byte(j))
			switch {
			case up < 0 || low < 0:
				parsesNot(t, s)
				numbersNot(t, s)
			case up == 0:
				parses(t, s, []byte{byte(low)})
				numbersNot(t, s)
			default:
				parses(t, s, []byte{byte(16*up + low)})
				numbers(t, s, word.Int(uint64(16*up+low)))
			}
		}
	}
}

func TestEachSingleSign(t *testing.T) { // D1, D2
	for c := range 256 {
		s := string([]byte{'0', 'x', byte(c)})
		parsesNot(t, s)
		if v := strings.IndexByte("0123456789abcdef", byte(c)); v >= 0 {
			numbers(t, s, word.Int(uint64(v)))
		} else {
			numbersNot(t, s)
		}
	}
}

func TestOneSignChanged(t *testing.T) { // D1, D2: nothing has two forms
	for _, s := range []string{"0x", "0x0", "0x12c", "0x0102ab", "0x" + strings.Repeat("f", 63), "0x" + strings.Repeat("9a", 32)} {
		for at := range len(s) {
			for c := range 256 {
				changed := []byte(s)
				changed[at] = byte(c)
				oneForm(t, string(changed))
				oneForm(t, s[:at]+string([]byte{byte(c)})+s[at:])
			}
			oneForm(t, s[:at]+s[at+1:])
			oneForm(t, s[:at])
			oneForm(t, s[at:])
		}
	}
}

func TestNumberOfNamedWords(t *testing.T) { // D2
	for _, c := range []struct {
		a    api.Word
		want string
	}{
		{api.Word{}, "0x0"}, {api.Word{1}, "0x1"}, {api.Word{10}, "0xa"}, {api.Word{15}, "0xf"}, {api.Word{16}, "0x10"}, {api.Word{300}, "0x12c"},
		{api.Word{full}, "0xffffffffffffffff"},
		{api.Word{0, 1}, "0x10000000000000000"},
		{api.Word{0, 0, 0, 1 << 63}, "0x8" + strings.Repeat("0", 63)},
		{highest, "0x" + strings.Repeat("f", 64)},
		{api.Word{0x0123456789abcdef, 0xfedcba9876543210, 0, 0x0a}, "0xa" + strings.Repeat("0", 16) + "fedcba98765432100123456789abcdef"},
	} {
		if got := Number(c.a); got != c.want {
			t.Errorf("Number of %x is %q, not %q", c.a, got, c.want)
		}
		numbers(t, c.want, c.a)
	}
}

func TestNumberAndBack(t *testing.T) { // D2
	for _, a := range words() {
		if got, want := Number(a), slowNumber(a); got != want {
			t.Errorf("Number of %x is %q, not %q", a, got, want)
		}
		numbers(t, Number(a), a)
	}
}

func TestNoughtsAhead(t *testing.T) { // D2
	for _, a := range words() {
		written := strings.TrimPrefix(slowNumber(a), "0x")
		for _, noughts := range []int{1, 2, 3, 64 - len(written), 65 - len(written), 100} {
			if noughts > 0 {
				numbersNot(t, "0x"+strings.Repeat("0", noughts)+written)
			}
		}
	}
}

func TestNumberByCounts(t *testing.T) { // D2: none, 64 and 65 digits, and far more
	numbersNot(t, "0x")
	numbersNot(t, "")
	for n := 1; n <= 64; n++ {
		one := word.Exp(word.Int(16), word.Int(uint64(n-1)))
		numbers(t, "0x1"+strings.Repeat("0", n-1), one)
		numbers(t, "0x"+strings.Repeat("f", n), word.Sub(word.Mul(one, word.Int(16)), word.Int(1)))
	}
	for _, n := range []int{65, 66, 67, 127, 128, 129, 1 << 20} {
		numbersNot(t, "0x1"+strings.Repeat("0", n-1))
		numbersNot(t, "0x"+strings.Repeat("0", n))
		numbersNot(t, "0x"+strings.Repeat("0", n-1)+"1")
		numbersNot(t, "0x"+strings.Repeat("f", n))
	}
}

func TestUpperCase(t *testing.T) { // D1, D2
	for _, s := range []string{"0xabcdef", "0x" + strings.Repeat("f", 64), "0x1a"} {
		upper := "0x" + strings.ToUpper(s[2:])
		parsesNot(t, upper)
		numbersNot(t, upper)
		parsesNot(t, "0X"+s[2:])
		numbersNot(t, "0X"+s[2:])
	}
}

func TestErrorBehindGoodDigits(t *testing.T) { // D1, D2, Z4: nothing of what was read ahead of the error is answered
	for n := range 66 {
		s := "0x" + strings.Repeat("1", n) + "g"
		parsesNot(t, s)
		parsesNot(t, s+"1")
		numbersNot(t, s)
		numbersNot(t, s+"1")
	}
}

func TestOnlyRead(t *testing.T) { // Z2
	for n := range 40 {
		room := bytes.Repeat([]byte{0xee}, 100)
		before := bytes.Clone(room)
		if got, want := Print(room[:n]), slowPrint(bytes.Clone(room[:n])); got != want {
			t.Errorf("Print of %d bytes with room behind is %q, not %q", n, got, want)
		}
		if !bytes.Equal(room, before) {
			t.Fatalf("what %d bytes were handed in with is changed", n)
		}
	}
}

func TestAnswersAreNewMemory(t *testing.T) { // Z2
	b := []byte{1, 2, 3}
	s := Print(b)
	b[0] = 9
	if s != "0x010203" {
		t.Errorf("what Print answered has become %q", s)
	}
	first, _ := Parse(s)
	first[1] = 9
	parses(t, s, []byte{1, 2, 3})
}

func FuzzOneForm(f *testing.F) { // D1, D2, Z1
	for _, s := range wrongTexts() {
		f.Add(s)
	}
	f.Add("0x12c0")
	f.Fuzz(oneForm)
}
