package twos

import (
	"math/big"
	"testing"

	"lampbearer/api"
	"lampbearer/word"
)

const full = 1<<64 - 1

var (
	zero     = api.Word{}
	one      = api.Word{1}
	minusOne = api.Word{full, full, full, full}
	least    = api.Word{0, 0, 0, 1 << 63}
	greatest = api.Word{full, full, full, 1<<63 - 1}
)

// samples are words about which signs, bytes and parts turn, and some of all lengths, the same ones each time.
func samples() []api.Word {
	out := []api.Word{
		zero, one, {2}, {7}, {0x7f}, {0x80}, {0xff}, {0x100}, {0x7fff}, {0x8000}, {1 << 63}, {full}, {0, 1}, {full, full},
		{0, 0, 1 << 63}, {full, full, full}, {0, 0, 0, 1 << 55}, {0, 0, 0, 1<<56 - 1}, greatest, least, {1, 0, 0, 1 << 63},
		minusOne, {full - 1, full, full, full}, {full - 6, full, full, full}, {0, full, full, full}, {0, 0, 0, full},
	}
	x := uint64(88172645463325252)
	for i := range 40 {
		var w api.Word
		for j := range 1 + i%4 {
			x ^= x << 13
			x ^= x >> 7
			x ^= x << 17
			w[j] = x
		}
		out = append(out, w)
	}
	return out
}

// counts are words that a shift, a byte's place or a number of bytes may be, up to those of more than 64 bits.
func counts() []api.Word {
	out := []api.Word{{full}, {1 << 63}, {0, 1}, {8, 1}, {1, 0, 1}, {31, 0, 0, 1}, least, minusOne}
	for n := range uint64(600) {
		out = append(out, api.Word{n})
	}
	return out
}

func eachPair(do func(a, b api.Word)) {
	l := samples()
	for _, a := range l {
		for _, b := range l {
			do(a, b)
		}
	}
}

func plain(a api.Word) *big.Int {
	h := word.Bytes(a)
	return new(big.Int).SetBytes(h[:])
}

func signed(a api.Word) *big.Int {
	x := plain(a)
	if x.Bit(255) == 1 {
		x.Sub(x, new(big.Int).Lsh(big.NewInt(1), 256))
	}
	return x
}

func toWord(x *big.Int) api.Word {
	return word.Read(new(big.Int).Mod(x, new(big.Int).Lsh(big.NewInt(1), 256)).Bytes())
}

// power is n, so far as it matters what it is: no word has a bit at 1000.
func power(n api.Word) uint {
	if x := plain(n); x.Cmp(big.NewInt(1000)) < 0 {
		return uint(x.Uint64())
	}
	return 1000
}

func same(t *testing.T, what string, got, want api.Word, args ...api.Word) {
	t.Helper()
	if got != want {
		t.Errorf("%s%x is %x, not %x", what, args, got, want)
	}
}

func TestBitByBit(t *testing.T) { // B1
	a, b := api.Word{0b1100, 0, full, 1 << 63}, api.Word{0b1010, full, full, 1}
	same(t, "And", And(a, b), api.Word{0b1000, 0, full, 0}, a, b)
	same(t, "Or", Or(a, b), api.Word{0b1110, full, full, 1<<63 | 1}, a, b)
	same(t, "Xor", Xor(a, b), api.Word{0b0110, full, 0, 1<<63 | 1}, a, b)
	same(t, "Not", Not(a), api.Word{full - 0b1100, full, 0, 1<<63 - 1}, a)
	eachPair(func(a, b api.Word) {
		x, y := plain(a), plain(b)
		same(t, "And", And(a, b), toWord(new(big.Int).And(x, y)), a, b)
		same(t, "Or", Or(a, b), toWord(new(big.Int).Or(x, y)), a, b)
		same(t, "Xor", Xor(a, b), toWord(new(big.Int).Xor(x, y)), a, b)
	})
	for _, a := range samples() {
		same(t, "Not", Not(a), toWord(new(big.Int).Not(plain(a))), a)
	}
}

func TestNeg(t *testing.T) { // B1
	same(t, "Neg", Neg(zero), zero, zero)
	same(t, "Neg", Neg(least), least, least)
	same(t, "Neg", Neg(one), minusOne, one)
	same(t, "Neg", Neg(minusOne), one, minusOne)
	for _, a := range samples() {
		same(t, "Neg", Neg(a), toWord(new(big.Int).Neg(plain(a))), a)
		same(t, "sum with Neg", word.Add(a, Neg(a)), zero, a)
	}
}

func TestShifts(t *testing.T) { // B2
	for _, c := range []struct {
		name          string
		call          func(n, a api.Word) api.Word
		n, a, outcome api.Word
	}{
		{"Shl", Shl, zero, minusOne, minusOne},
		{"Shl", Shl, api.Word{255}, minusOne, least},
		{"Shl", Shl, api.Word{256}, minusOne, zero},
		{"Shl", Shl, api.Word{0, 1}, minusOne, zero},
		{"Shl", Shl, api.Word{1, 1}, minusOne, zero},
		{"Shr", Shr, zero, minusOne, minusOne},
		{"Shr", Shr, api.Word{255}, minusOne, one},
		{"Shr", Shr, api.Word{256}, minusOne, zero},
		{"Shr", Shr, api.Word{1, 0, 0, 1}, minusOne, zero},
		{"Sar", Sar, zero, least, least},
		{"Sar", Sar, api.Word{255}, least, minusOne},
		{"Sar", Sar, api.Word{254}, least, api.Word{full - 1, full, full, full}},
		{"Sar", Sar, api.Word{256}, least, minusOne},
		{"Sar", Sar, api.Word{0, 1}, least, minusOne},
		{"Sar", Sar, api.Word{1, 1}, greatest, zero},
		{"Sar", Sar, api.Word{256}, greatest, zero},
		{"Sar", Sar, one, Neg(api.Word{7}), Neg(api.Word{4})},
	} {
		same(t, c.name, c.call(c.n, c.a), c.outcome, c.n, c.a)
	}
	for _, a := range samples() {
		for _, n := range counts() {
			same(t, "Shl", Shl(n, a), toWord(new(big.Int).Lsh(plain(a), power(n))), n, a)
			same(t, "Shr", Shr(n, a), toWord(new(big.Int).Rsh(plain(a), power(n))), n, a)
			same(t, "Sar", Sar(n, a), toWord(new(big.Int).Rsh(signed(a), power(n))), n, a)
		}
	}
}

func TestByte(t *testing.T) { // B2
	var text api.Hash
	for i := range text {
		text[i] = byte(0xa0 + i)
	}
	a := word.Read(text[:])
	same(t, "Byte", Byte(zero, a), api.Word{0xa0}, zero, a)
	same(t, "Byte", Byte(api.Word{31}, a), api.Word{0xbf}, api.Word{31}, a)
	for _, a := range append(samples(), a) {
		for _, n := range counts() {
			var want api.Word
			if at := power(n); at < 32 {
				want = api.Word{uint64(word.Bytes(a)[at])}
			}
			same(t, "Byte", Byte(n, a), want, n, a)
		}
	}
}

func TestExtend(t *testing.T) { // B2
	low := api.Word{full, full, full, 1<<56 - 1}
	for _, c := range [][3]api.Word{
		{zero, {0x7f}, {0x7f}},
		{zero, {0x80}, Neg(api.Word{0x80})},
		{zero, {0x1234567f, 5, 6, least[3]}, {0x7f}},
		{one, {0xff7fff}, {0x7fff}},
		{one, {0x8000}, Neg(api.Word{0x8000})},
		{{30}, {0, 0, 0, 1 << 55}, {0, 0, 0, 0xff80 << 48}},
		{{30}, {3, 0, 0, 0xab7f << 48}, {3, 0, 0, 0x7f << 48}},
		{{30}, low, minusOne},
		{{31}, low, low},
		{{31}, least, least},
		{{32}, low, low},
		{{0, 1}, {0x80}, {0x80}},
		{minusOne, {0x80}, {0x80}},
	} {
		same(t, "Extend", Extend(c[0], c[1]), c[2], c[0], c[1])
	}
	for _, a := range samples() {
		for _, k := range counts() {
			same(t, "Extend", Extend(k, a), extended(power(k), a), k, a)
		}
	}
}

// extended writes the sign's bytes ahead, one by one.
func extended(k uint, a api.Word) api.Word {
	if k >= 31 {
		return a
	}
	h := word.Bytes(a)
	fill := byte(0)
	if h[31-k] >= 0x80 {
		fill = 0xff
	}
	for i := range 31 - k {
		h[i] = fill
	}
	return word.Read(h[:])
}

func TestQuotientsWithSigns(t *testing.T) { // B3
	num := func(n int64) api.Word { return toWord(big.NewInt(n)) }
	for _, c := range [][4]api.Word{
		{num(7), num(2), num(3), num(1)},
		{num(-7), num(2), num(-3), num(-1)},
		{num(7), num(-2), num(-3), num(1)},
		{num(-7), num(-2), num(3), num(-1)},
		{num(-6), num(3), num(-2), zero},
		{num(-1), num(7), zero, num(-1)},
		{least, minusOne, least, zero},
		{least, one, least, zero},
		{least, least, one, zero},
		{greatest, least, zero, greatest},
		{least, greatest, minusOne, minusOne},
	} {
		q, r := SDivMod(c[0], c[1])
		same(t, "quotient", q, c[2], c[0], c[1])
		same(t, "rest", r, c[3], c[0], c[1])
	}
	eachPair(func(a, b api.Word) {
		wantQ, wantR := new(big.Int), new(big.Int)
		if b != zero {
			wantQ.QuoRem(signed(a), signed(b), wantR)
		}
		q, r := SDivMod(a, b)
		same(t, "quotient", q, toWord(wantQ), a, b)
		same(t, "rest", r, toWord(wantR), a, b)
	})
}

func TestDivisorNought(t *testing.T) { // B3
	for _, a := range samples() {
		q, r := SDivMod(a, zero)
		same(t, "quotient", q, zero, a, zero)
		same(t, "rest", r, zero, a, zero)
	}
}

func TestOrderWithSigns(t *testing.T) { // B3
	rising := []api.Word{least, {1, 0, 0, 1 << 63}, minusOne, zero, one, {full - 1, full, full, 1<<63 - 1}, greatest}
	for i, a := range rising {
		for j, b := range rising {
			if got, want := SCmp(a, b), big.NewInt(int64(i)).Cmp(big.NewInt(int64(j))); got != want {
				t.Errorf("SCmp of %x and %x is %d, not %d", a, b, got, want)
			}
		}
	}
	eachPair(func(a, b api.Word) {
		if got, want := SCmp(a, b), signed(a).Cmp(signed(b)); got != want {
			t.Errorf("SCmp of %x and %x is %d, not %d", a, b, got, want)
		}
	})
}
