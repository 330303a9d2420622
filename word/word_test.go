package word

import (
	"bytes"
	"math/big"
	"testing"

	"lampbearer/api"
)

const full = 1<<64 - 1

var (
	zero    = api.Word{}
	one     = api.Word{1}
	highest = api.Word{full, full, full, full}
	half    = api.Word{0, 0, 0, 1 << 63}
)

// edges are words about which carries, borrows and the tops of parts turn.
func edges() []api.Word {
	return []api.Word{
		zero, one, {2}, {3}, {10}, {full}, {0, 1}, {1, 1}, {full, full}, {0, 0, 1}, {full, 0, full}, {full, full, full},
		{0, 0, 0, 1}, {1 << 63, 3, 0, 5}, {full, full, full, 1<<63 - 1}, half, {1, 0, 0, 1 << 63}, {0, full, full, full},
		{full - 1, full, full, full}, highest,
	}
}

// spread are words of many lengths, the same ones each time.
func spread(n int) []api.Word {
	var out []api.Word
	x := uint64(0x9e3779b97f4a7c15)
	for i := range n {
		var w api.Word
		for j := range 1 + i%4 {
			x ^= x << 13
			x ^= x >> 7
			x ^= x << 17
			w[j] = x >> (x % 64)
		}
		out = append(out, w)
	}
	return out
}

func toBig(a api.Word) *big.Int {
	out := new(big.Int)
	for i := 3; i >= 0; i-- {
		out.Lsh(out, 64)
		out.Or(out, new(big.Int).SetUint64(a[i]))
	}
	return out
}

func fromBig(x *big.Int) api.Word {
	var out api.Word
	rest := new(big.Int).Mod(x, modulus())
	for i := range out {
		out[i] = new(big.Int).And(rest, new(big.Int).SetUint64(full)).Uint64()
		rest.Rsh(rest, 64)
	}
	return out
}

func modulus() *big.Int {
	return new(big.Int).Lsh(big.NewInt(1), 256)
}

func same(t *testing.T, what string, got, want api.Word, args ...api.Word) {
	t.Helper()
	if got != want {
		t.Errorf("%s%x is %x, not %x", what, args, got, want)
	}
}

func eachPair(do func(a, b api.Word)) {
	l := append(edges(), spread(60)...)
	for _, a := range l {
		for _, b := range l {
			do(a, b)
		}
	}
}

func TestSumsDifferencesProducts(t *testing.T) { // A1
	for _, c := range []struct {
		name          string
		call          func(a, b api.Word) api.Word
		a, b, outcome api.Word
	}{
		{"Add", Add, highest, one, zero},
		{"Add", Add, api.Word{full, full}, one, api.Word{0, 0, 1}},
		{"Add", Add, highest, highest, api.Word{full - 1, full, full, full}},
		{"Sub", Sub, zero, one, highest},
		{"Sub", Sub, api.Word{0, 0, 0, 1}, one, api.Word{full, full, full}},
		{"Mul", Mul, highest, highest, one},
		{"Mul", Mul, half, api.Word{2}, zero},
		{"Mul", Mul, api.Word{0, 1}, api.Word{0, 0, 1}, api.Word{0, 0, 0, 1}},
	} {
		same(t, c.name, c.call(c.a, c.b), c.outcome, c.a, c.b)
	}
	eachPair(func(a, b api.Word) {
		x, y := toBig(a), toBig(b)
		same(t, "Add", Add(a, b), fromBig(new(big.Int).Add(x, y)), a, b)
		same(t, "Sub", Sub(a, b), fromBig(new(big.Int).Sub(x, y)), a, b)
		same(t, "Mul", Mul(a, b), fromBig(new(big.Int).Mul(x, y)), a, b)
	})
}

func TestQuotients(t *testing.T) { // A1
	q, r := DivMod(Int(17), Int(5))
	same(t, "quotient", q, Int(3), Int(17), Int(5))
	same(t, "rest", r, Int(2), Int(17), Int(5))
	eachPair(func(a, b api.Word) {
		wantQ, wantR := new(big.Int), new(big.Int)
		if b != zero {
			wantQ.QuoRem(toBig(a), toBig(b), wantR)
		}
		q, r := DivMod(a, b)
		same(t, "quotient", q, fromBig(wantQ), a, b)
		same(t, "rest", r, fromBig(wantR), a, b)
		if b != zero {
			same(t, "quotient times divisor with the rest", Add(Mul(q, b), r), a, a, b)
		}
	})
}

func TestDivisorNought(t *testing.T) { // A1, A2
	for _, a := range edges() {
		q, r := DivMod(a, zero)
		same(t, "quotient", q, zero, a, zero)
		same(t, "rest", r, zero, a, zero)
		same(t, "AddMod", AddMod(a, highest, zero), zero, a, highest, zero)
		same(t, "MulMod", MulMod(a, highest, zero), zero, a, highest, zero)
	}
}

func TestWholeSumsAndProductsRestM(t *testing.T) { // A2
	same(t, "AddMod", AddMod(highest, one, Int(7)), Int(2), highest, one, Int(7))
	same(t, "AddMod", AddMod(highest, highest, highest), zero, highest, highest, highest)
	same(t, "AddMod", AddMod(highest, Int(2), highest), Int(2), highest, Int(2), highest)
	same(t, "MulMod", MulMod(highest, highest, Int(10)), Int(5), highest, highest, Int(10))
	same(t, "MulMod", MulMod(half, Int(2), highest), one, half, Int(2), highest)
	same(t, "MulMod", MulMod(highest, highest, one), zero, highest, highest, one)
	ms := append(edges(), spread(8)...)
	eachPair(func(a, b api.Word) {
		for _, m := range ms {
			if m == zero {
				continue
			}
			s := new(big.Int).Add(toBig(a), toBig(b))
			p := new(big.Int).Mul(toBig(a), toBig(b))
			same(t, "AddMod", AddMod(a, b, m), fromBig(s.Mod(s, toBig(m))), a, b, m)
			same(t, "MulMod", MulMod(a, b, m), fromBig(p.Mod(p, toBig(m))), a, b, m)
		}
	})
}

func TestPowers(t *testing.T) { // A3
	for _, a := range edges() {
		same(t, "Exp", Exp(a, zero), one, a, zero)
		same(t, "Exp", Exp(a, one), a, a, one)
		same(t, "Exp", Exp(a, Int(3)), Mul(a, Mul(a, a)), a, Int(3))
	}
	same(t, "Exp", Exp(zero, highest), zero, zero, highest)
	same(t, "Exp", Exp(Int(2), Int(255)), half, Int(2), Int(255))
	same(t, "Exp", Exp(Int(2), Int(256)), zero, Int(2), Int(256))
	same(t, "Exp", Exp(highest, highest), highest, highest, highest)
	eachPair(func(a, b api.Word) {
		want := new(big.Int).Exp(toBig(a), toBig(b), modulus())
		same(t, "Exp", Exp(a, b), fromBig(want), a, b)
	})
}

func TestOrder(t *testing.T) { // A4
	eachPair(func(a, b api.Word) {
		if got, want := Cmp(a, b), toBig(a).Cmp(toBig(b)); got != want {
			t.Errorf("Cmp of %x and %x is %d, not %d", a, b, got, want)
		}
	})
}

func TestInt(t *testing.T) { // A4
	for _, n := range []uint64{0, 1, 1 << 63, full} {
		same(t, "Int", Int(n), fromBig(new(big.Int).SetUint64(n)))
	}
}

func TestBytesAndBack(t *testing.T) { // A4
	want := api.Hash{0: 1, 1: 2, 7: 3, 8: 4, 23: 5, 24: 6, 31: 7}
	a := api.Word{6<<56 | 7, 5, 4 << 56, 1<<56 | 2<<48 | 3}
	if got := Bytes(a); got != want {
		t.Errorf("Bytes of %x are %x, not %x", a, got, want)
	}
	for _, a := range append(edges(), spread(60)...) {
		h := Bytes(a)
		var filled [32]byte
		toBig(a).FillBytes(filled[:])
		if h != filled {
			t.Errorf("Bytes of %x are %x, not %x", a, h, filled)
		}
		same(t, "Read of Bytes", Read(h[:]), a, a)
	}
}

func TestReadOfEachLength(t *testing.T) { // A4
	same(t, "Read of nil", Read(nil), zero)
	same(t, "Read of none", Read([]byte{}), zero)
	same(t, "Read of few", Read([]byte{1, 2}), Int(258))
	var text []byte
	for n := range 100 {
		last := text[max(0, n-32):]
		same(t, "Read", Read(text), fromBig(new(big.Int).SetBytes(last)), Int(uint64(n)))
		text = append(text, byte(200+n))
	}
}

func TestReadOnlyReads(t *testing.T) { // Z2
	room := bytes.Repeat([]byte{0xee}, 80)
	before := bytes.Clone(room)
	for _, n := range []int{0, 1, 31, 32, 33, 40} {
		inner, alone := Read(room[8:8+n]), Read(bytes.Clone(room[8:8+n]))
		same(t, "Read of a part", inner, alone, Int(uint64(n)))
		if !bytes.Equal(room, before) {
			t.Fatalf("Read of %d bytes changed what it was handed", n)
		}
	}
}
