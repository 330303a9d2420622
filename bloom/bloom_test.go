package bloom

import (
	"bytes"
	"math/big"
	"slices"
	"strconv"
	"strings"
	"testing"

	"lampbearer/api"
	"lampbearer/sponge"
)

var allBits = api.Hash(bytes.Repeat([]byte{255}, 32))

// slowOf is a filter as a whole number whose bit n is the filter's bit n.
func slowOf(texts ...[]byte) *big.Int {
	set := new(big.Int)
	for _, text := range texts {
		sum := sponge.Sum(text)
		for i := range 3 {
			set.SetBit(set, int(sum[i]), 1)
		}
	}
	return set
}

// setOf is f as such a number: its bytes, the least one first.
func setOf(f api.Hash) *big.Int {
	slices.Reverse(f[:])
	return new(big.Int).SetBytes(f[:])
}

func has(set *big.Int, n int) bool { return set.Bit(n) == 1 }

func oneBit(n int) api.Hash {
	var f api.Hash
	set := new(big.Int).Lsh(big.NewInt(1), uint(n))
	set.FillBytes(f[:])
	slices.Reverse(f[:])
	return f
}

// someTexts are n texts, no two of them the same, that of no bytes first.
func someTexts(n int) [][]byte {
	out := [][]byte{nil}
	for i := 1; i < n; i++ {
		out = append(out, []byte(strings.Repeat("t", i%40)+strconv.Itoa(i)))
	}
	return out
}

// someFilters are the edges, each filter of one bit and of all but one, and those of some texts.
func someFilters() []api.Hash {
	out := []api.Hash{{}, allBits}
	for n := range 256 {
		f := oneBit(n)
		out = append(out, f)
		for i := range f {
			f[i] ^= 255
		}
		out = append(out, f)
	}
	texts := someTexts(40)
	for i := range texts {
		out = append(out, Of(texts[i:i+1]), Of(texts[:i]))
	}
	return out
}

func isOf(t *testing.T, texts [][]byte) {
	t.Helper()
	if got, want := setOf(Of(texts)), slowOf(texts...); got.Cmp(want) != 0 {
		t.Errorf("Of %d texts has the bits %x, not %x", len(texts), got, want)
	}
}

func isOfTwo(t *testing.T, f, g api.Hash) {
	t.Helper()
	a, b := setOf(f), setOf(g)
	join, within := new(big.Int), true
	for n := range 256 {
		if has(a, n) || has(b, n) {
			join.SetBit(join, n, 1)
		}
		within = within && (!has(a, n) || has(b, n))
	}
	if got := setOf(Join(f, g)); got.Cmp(join) != 0 {
		t.Fatalf("Join of %x and %x has the bits %x, not %x", f, g, got, join)
	}
	if got := Within(f, g); got != within {
		t.Fatalf("whether %x is within %x is %v", f, g, got)
	}
}

func isMay(t *testing.T, f api.Hash, text []byte) {
	t.Helper()
	set, sum := setOf(f), sponge.Sum(text)
	want := has(set, int(sum[0])) && has(set, int(sum[1])) && has(set, int(sum[2]))
	if got := May(f, text); got != want {
		t.Fatalf("whether %x may have %q is %v", f, text, got)
	}
}

// sameTwice are texts of which two bits, or all three, are the same.
func sameTwice(t *testing.T) [][]byte {
	t.Helper()
	var twice, thrice []byte
	for i := 0; twice == nil || thrice == nil; i++ {
		text := []byte(strconv.Itoa(i))
		sum := sponge.Sum(text)
		switch {
		case sum[0] == sum[1] && sum[1] == sum[2]:
			thrice = text
		case sum[0] == sum[1] || sum[1] == sum[2] || sum[0] == sum[2]:
			twice = text
		}
		if i > 1<<21 {
			t.Fatal("there is no text whose bits are the same")
		}
	}
	return [][]byte{twice, thrice}
}

func TestOfKnownTexts(t *testing.T) { // J1: the sums of these texts begin with 8b c6 a8, 71 ab fe, 38 cd 5d and 7d b3 c2
	for _, c := range []struct {
		text string
		want api.Hash
	}{
		{"a", api.Hash{17: 8, 21: 1, 24: 64}},
		{"", api.Hash{14: 2, 21: 8, 31: 64}},
		{strings.Repeat("ab", 15), api.Hash{7: 1, 25: 32, 11: 32}},
		{strings.Repeat("ab", 16), api.Hash{15: 32, 22: 8, 24: 4}},
	} {
		if got := Of([][]byte{[]byte(c.text)}); got != c.want {
			t.Errorf("Of %q is %v, not %v", c.text, got, c.want)
		}
	}
	want := api.Hash{14: 2, 17: 8, 21: 9, 24: 64, 31: 64}
	if got := Of([][]byte{[]byte("a"), {}}); got != want {
		t.Errorf("Of a and the text of no bytes is %v, not %v", got, want)
	}
}

func TestOfNone(t *testing.T) { // J1, Z3
	if Of(nil) != (api.Hash{}) || Of([][]byte{}) != (api.Hash{}) {
		t.Error("a filter of no texts has bits")
	}
}

func TestNilAndEmptyAreTheSame(t *testing.T) { // J1, Z3
	none := Of([][]byte{nil})
	if none != Of([][]byte{{}}) || none == (api.Hash{}) {
		t.Errorf("the text of no bytes has the bits %x, or others as nil", none)
	}
	for _, f := range []api.Hash{{}, none, allBits, Of([][]byte{[]byte("a")})} {
		if May(f, nil) != May(f, []byte{}) {
			t.Errorf("whether %x may have nil, or a text of no bytes, differs", f)
		}
		isMay(t, f, nil)
	}
}

func TestOfTexts(t *testing.T) { // J1: up to so many that no bit is left
	texts := someTexts(700)
	for i := range texts {
		isOf(t, texts[i:i+1])
		isOf(t, texts[:i])
	}
	if f := Of(someTexts(5000)); f != allBits {
		t.Errorf("many texts have the bits %x alone", f)
	}
}

func TestOfEachBit(t *testing.T) { // J1: each bit, by whichever of the three numbers
	var seen [3][256]bool
	left := 3 * 256
	for i := 0; left > 0 && i < 1<<16; i++ {
		text := []byte(strconv.Itoa(i))
		sum := sponge.Sum(text)
		for at := range seen {
			if !seen[at][sum[at]] {
				seen[at][sum[at]] = true
				left--
				isOf(t, [][]byte{text})
			}
		}
	}
	if left > 0 {
		t.Errorf("%d numbers are told by no text", left)
	}
}

func TestOfTextsWithSameBits(t *testing.T) { // J1: they may be the same
	for i, text := range sameTwice(t) {
		f := Of([][]byte{text})
		isOf(t, [][]byte{text})
		isOf(t, [][]byte{text, text})
		count := 0
		for n := range 256 {
			count += int(setOf(f).Bit(n))
		}
		if count != 2-i || !May(f, text) || May(api.Hash{}, text) {
			t.Errorf("%q has %d bits, %x", text, count, f)
		}
	}
}

func TestOfHasNoOrder(t *testing.T) { // J1: neither the order nor how often a text stands there is any matter
	texts := someTexts(30)
	f := Of(texts)
	back := slices.Clone(texts)
	slices.Reverse(back)
	if Of(back) != f || Of(slices.Concat(texts, back, texts[3:9])) != f {
		t.Error("another order, or a text twice, makes another filter")
	}
	for i := range texts {
		if Join(Of(texts[:i]), Of(texts[i:])) != f {
			t.Errorf("parted at %d the texts have other bits", i)
		}
	}
}

func TestJoinAndWithinByBits(t *testing.T) { // J1
	filters := someFilters()
	for i, f := range filters {
		for j, g := range filters {
			if i < 20 || i > len(filters)-80 || (i+j)%11 == 0 || i/2 == j/2 {
				isOfTwo(t, f, g)
			}
		}
	}
}

func TestJoinIsARoof(t *testing.T) { // J1
	filters := someFilters()
	for i, f := range filters {
		g := filters[(i*7+3)%len(filters)]
		h := Join(f, g)
		if h != Join(g, f) || !Within(f, h) || !Within(g, h) || Join(f, f) != f || Join(f, api.Hash{}) != f || Join(f, allBits) != allBits {
			t.Errorf("Join of %x and %x is %x", f, g, h)
		}
		if !Within(f, f) || !Within(api.Hash{}, f) || !Within(f, allBits) {
			t.Errorf("%x is not within itself or all bits, or no bits are not within it", f)
		}
		if Within(f, api.Hash{}) != (f == api.Hash{}) || Within(allBits, f) != (f == allBits) {
			t.Errorf("%x is within no bits, or has all", f)
		}
		if Within(f, g) && Within(g, f) && f != g {
			t.Errorf("%x and %x are within each other", f, g)
		}
	}
}

func TestWithinOfOneBit(t *testing.T) { // J1: each bit counts, and one that lacks is enough
	for n := range 256 {
		one, others := oneBit(n), allBits
		others[n/8] -= one[n/8]
		if Within(one, others) || Within(allBits, others) || !Within(others, allBits) || !Within(one, one) || Join(one, others) != allBits {
			t.Errorf("bit %d is not looked at", n)
		}
	}
}

func TestWhatWentInIsNotDenied(t *testing.T) { // J1
	texts := someTexts(300)
	for n := range texts {
		f := Of(texts[:n])
		for i, text := range texts {
			if i < n && !May(f, text) {
				t.Fatalf("%q went into a filter of %d, and is denied", text, n)
			}
			isMay(t, f, text)
		}
	}
}

func TestMayWithABitLess(t *testing.T) { // J1: each of the three bits is asked for, and no other one
	for _, text := range append(someTexts(100), sameTwice(t)...) {
		f := Of([][]byte{text})
		if !May(f, text) || May(api.Hash{}, text) || !May(allBits, text) {
			t.Errorf("%q is denied by its own bits or all, or not by none", text)
		}
		for n := range 256 {
			less, mine := allBits, has(setOf(f), n)
			less[n/8] &^= 1 << (n % 8)
			if May(less, text) == mine {
				t.Errorf("without bit %d, whether there may be %q is %v", n, text, !mine)
			}
			if !May(Join(f, oneBit(n)), text) {
				t.Errorf("with bit %d beside its own, %q is denied", n, text)
			}
		}
	}
}

func TestOnlyRead(t *testing.T) { // Z2
	for n := range 70 {
		room := bytes.Repeat([]byte{0xee}, 200)
		text := room[:n]
		alone := bytes.Clone(text)
		list := [][]byte{text, text[:n/2], []byte("behind"), nil}
		f := Of(list[:2])
		if f != Of([][]byte{alone, alone[:n/2]}) || !May(f, text) || May(f, text) != May(f, alone) {
			t.Fatalf("what stands behind %d bytes is looked at", n)
		}
		if !bytes.Equal(room, bytes.Repeat([]byte{0xee}, 200)) || len(list[0]) != n || len(list[1]) != n/2 || string(list[2]) != "behind" || list[3] != nil {
			t.Fatalf("what %d bytes were handed in with is changed", n)
		}
	}
}

func TestNothingIsKept(t *testing.T) { // Z1, Z2
	text := []byte("a")
	f := Of([][]byte{text})
	text[0] = 'b'
	if f != (api.Hash{17: 8, 21: 1, 24: 64}) || May(f, text) || !May(f, []byte("a")) {
		t.Error("what was handed in is kept")
	}
	Of(someTexts(50))
	Join(f, allBits)
	if Of([][]byte{[]byte("a")}) != f || Of(nil) != (api.Hash{}) || May(api.Hash{}, text) {
		t.Error("a call answers otherwise behind other calls")
	}
}

func TestLongText(t *testing.T) { // J1, Z1
	long := bytes.Repeat([]byte{0, 255, 7}, 1<<18)
	isOf(t, [][]byte{long, long[1:]})
	if f := Of([][]byte{long}); !May(f, long) || May(f, long[1:]) {
		t.Error("a long text is denied, or told from no other")
	}
}

func FuzzFilters(f *testing.F) { // J1, Z1
	f.Add([]byte("a"), []byte("bc"), []byte{1, 2, 3})
	f.Add([]byte{}, bytes.Repeat([]byte{255}, 32), bytes.Repeat([]byte{254}, 32))
	f.Fuzz(func(t *testing.T, text, first, second []byte) {
		var g, h api.Hash
		copy(g[:], first)
		copy(h[:], second)
		isOfTwo(t, g, h)
		isOfTwo(t, g, Join(g, h))
		isOf(t, [][]byte{text, first, second})
		isMay(t, g, text)
		isMay(t, Join(g, Of([][]byte{text})), text)
	})
}
