package sponge

import (
	"bytes"
	"encoding/binary"
	"encoding/hex"
	"math/big"
	"slices"
	"strings"
	"testing"

	"lampbearer/api"
)

const full = 1<<64 - 1

var allFull = api.State{full, full, full, full, full, full, full, full}

// states are the edges, each state with one bit, and some others, the same ones each time.
func states() []api.State {
	out := []api.State{{}, allFull, {1, 2, 3, 4, 5, 6, 7, 8}}
	for bit := range 512 {
		var s api.State
		s[bit/64] = 1 << (bit % 64)
		out = append(out, s)
	}
	x := uint64(88172645463325252)
	for range 200 {
		var s api.State
		for i := range s {
			x ^= x << 13
			x ^= x >> 7
			x ^= x << 17
			s[i] = x
		}
		out = append(out, s)
	}
	return out
}

// text has n bytes, none of them like its neighbours, and marks and noughts among them.
func text(n int) []byte {
	out := make([]byte, n)
	for i := range out {
		out[i] = byte(i * 129)
	}
	return out
}

// slowMix goes by the words of C1 with whole numbers without end.
func slowMix(s api.State) api.State {
	var parts [8]*big.Int
	for i, p := range s {
		parts[i] = new(big.Int).SetUint64(p)
	}
	end := new(big.Int).Lsh(big.NewInt(1), 64)
	scale, _ := new(big.Int).SetString("9e3779b97f4a7c15", 16)
	for r := int64(1); r <= 12; r++ {
		stir := new(big.Int).Mul(big.NewInt(r), scale)
		parts[0] = new(big.Int).Xor(parts[0], stir.Mod(stir, end))
		for i := range parts {
			x := new(big.Int).Xor(parts[(i+1)%8], parts[(i+5)%8])
			x.Lsh(x, uint(5*i+3))
			above, below := new(big.Int).DivMod(x, end, new(big.Int))
			whole := new(big.Int).Add(parts[i], below.Or(below, above))
			parts[i] = whole.Mod(whole, end)
		}
	}
	for i, p := range parts {
		s[i] = p.Uint64()
	}
	return s
}

// slowPad lays bytes behind b one by one, by the words of C2.
func slowPad(b []byte) []byte {
	out := append(bytes.Clone(b), 1)
	for len(out)%32 != 31 {
		out = append(out, 0)
	}
	return append(out, 128)
}

// slowSum goes by the words of C3.
func slowSum(b []byte) api.Hash {
	var s api.State
	for block := range slices.Chunk(slowPad(b), 32) {
		for i := range 4 {
			s[i] ^= binary.LittleEndian.Uint64(block[8*i:])
		}
		s = slowMix(s)
	}
	var h api.Hash
	for i := range 4 {
		binary.LittleEndian.PutUint64(h[8*i:], s[i])
	}
	return h
}

func TestMix(t *testing.T) { // C1
	for _, s := range states() {
		if got, want := Mix(s), slowMix(s); got != want {
			t.Errorf("Mix of %x is %x, not %x", s, got, want)
		}
	}
}

func TestUnmixAndBack(t *testing.T) { // C1
	for _, s := range states() {
		if got := Unmix(slowMix(s)); got != s {
			t.Errorf("Unmix of what %x is mixed to is %x", s, got)
		}
		if got := Unmix(Mix(s)); got != s {
			t.Errorf("Unmix of Mix of %x is %x", s, got)
		}
		if got := Mix(Unmix(s)); got != s {
			t.Errorf("Mix of Unmix of %x is %x", s, got)
		}
	}
}

func TestMixTwiceAndBackTwice(t *testing.T) { // C1
	for _, s := range []api.State{{}, allFull} {
		if got := Unmix(Unmix(Mix(Mix(s)))); got != s {
			t.Errorf("%x, mixed twice and back, is %x", s, got)
		}
		if got := Mix(Mix(Unmix(Unmix(s)))); got != s {
			t.Errorf("%x, unmixed twice and back, is %x", s, got)
		}
		if Mix(s) == s || Unmix(s) == s {
			t.Errorf("%x is left as it is", s)
		}
	}
}

func TestPadOfNamedSizes(t *testing.T) { // C2
	for _, c := range []struct{ size, noughts int }{
		{0, 30}, {1, 29}, {29, 1}, {30, 0}, {31, 31}, {32, 30}, {33, 29}, {62, 0}, {63, 31}, {64, 30},
	} {
		b := bytes.Repeat([]byte{7}, c.size)
		want := strings.Repeat("\x07", c.size) + "\x01" + strings.Repeat("\x00", c.noughts) + "\x80"
		if got := Pad(b); string(got) != want {
			t.Errorf("Pad of %d bytes is %x, not %x", c.size, got, want)
		}
	}
}

func TestPadOfEachSize(t *testing.T) { // C2
	for n := range 300 {
		b := text(n)
		if got, want := Pad(b), slowPad(b); !bytes.Equal(got, want) {
			t.Errorf("Pad of %x is %x, not %x", b, got, want)
		}
	}
}

func TestSumOfKnownTexts(t *testing.T) { // C3
	for text, want := range map[string]string{
		"":                             "71abfed90d9cb023e103acb1b8efa21ae0a9bdb5f245e7344f9e755c6d510359",
		"a":                            "8bc6a841633619a53ee416b8a003836cec6c28eaec25a0db9e29a325c03070f2",
		strings.Repeat("ab", 15):       "38cd5d320c15faa6570f0c9963e1376e5b967e6b2978372d81eca995fb303ede",
		strings.Repeat("ab", 15) + "a": "d58c09b5f1e1a60d2b826d07a0847368dbdbfe80a16a51d021337378d856b586",
		strings.Repeat("ab", 16):       "7db3c2804741db252b58e41ec4a4c86b5ea015d966a4b3c77df05a5a96307efb",
		strings.Repeat("ab", 31) + "a": "de2d2d147cc495289c3a16dba6db561bf44403adcd6f834f32962d790a327ba9",
		strings.Repeat("ab", 34) + "a": "d182f7e8fc9168cffed94351db3c16dce8ae4e5a003e756e166ac621a0c9031e",
	} {
		h := Sum([]byte(text))
		if got := hex.EncodeToString(h[:]); got != want {
			t.Errorf("Sum of %q is %s, not %s", text, got, want)
		}
	}
}

func TestSumOfEachSize(t *testing.T) { // C3: below, at and above multiples of 32
	for n := range 200 {
		b := text(n)
		if got, want := Sum(b), slowSum(b); got != want {
			t.Errorf("Sum of %x is %x, not %x", b, got, want)
		}
	}
	for _, n := range []int{3199, 3200, 3201, 32*1000 - 2, 32*1000 - 1, 32 * 1000, 32*1000 + 1} {
		b := text(n)
		if got, want := Sum(b), slowSum(b); got != want {
			t.Errorf("Sum of %d bytes is %x, not %x", n, got, want)
		}
	}
}

func TestSumsDiffer(t *testing.T) { // C2, C3: the first mark tells a nought at the end from none
	seen := map[api.Hash]int{}
	for n := range 130 {
		h := Sum(make([]byte, n))
		if other, ok := seen[h]; ok {
			t.Errorf("%d and %d noughts come to the same", other, n)
		}
		seen[h] = n
	}
}

func checkEach(t *testing.T, parts [][]byte) {
	t.Helper()
	got := Each(parts)
	if len(got) != len(parts) {
		t.Fatalf("Each of %d parts has %d sums", len(parts), len(got))
	}
	for i := range parts {
		joined := bytes.Join(parts[:i+1], nil)
		if want := slowSum(joined); got[i] != want || Sum(joined) != want {
			t.Errorf("sum %d of %x is %x, and of the joined text %x, not %x", i, parts, got[i], Sum(joined), want)
		}
	}
}

func TestEachOfNone(t *testing.T) { // C3, Z3
	if got := Each(nil); len(got) != 0 {
		t.Errorf("Each of nil is %x", got)
	}
	if got := Each([][]byte{}); len(got) != 0 {
		t.Errorf("Each of none is %x", got)
	}
}

func TestEachOfOne(t *testing.T) { // C3
	for n := range 100 {
		checkEach(t, [][]byte{text(n)})
	}
}

func TestEachOfEmptyParts(t *testing.T) { // C3, Z3
	checkEach(t, [][]byte{nil})
	checkEach(t, [][]byte{{}, nil, {}})
	for n := range 70 {
		checkEach(t, [][]byte{nil, text(n), {}, nil, text(3), nil})
	}
}

func TestEachHoweverParted(t *testing.T) { // C3: however a text is parted it comes to the same
	whole := text(97)
	for i := range len(whole) + 1 {
		for j := i; j <= len(whole); j++ {
			got := Each([][]byte{whole[:i], whole[i:j], whole[j:]})
			if got[0] != Sum(whole[:i]) || got[1] != Sum(whole[:j]) || got[2] != Sum(whole) {
				t.Errorf("parted at %d and %d the text comes to %x", i, j, got)
			}
		}
	}
	for size := 1; size <= 66; size++ {
		checkEach(t, slices.Collect(slices.Chunk(text(200), size)))
	}
}

func TestEachOfManyParts(t *testing.T) { // C3: in one go, since from the beginning for each part it would not end in time
	part := text(33)
	parts := slices.Repeat([][]byte{part}, 20000)
	got := Each(parts)
	if want := Sum(bytes.Repeat(part, len(parts))); got[len(got)-1] != want {
		t.Errorf("the last sum of many is %x, not %x", got[len(got)-1], want)
	}
}

func TestOnlyRead(t *testing.T) { // Z2
	for n := range 70 {
		room := bytes.Repeat([]byte{0xee}, 200)
		before := bytes.Clone(room)
		b := room[:n]
		alone := bytes.Clone(b)
		if !bytes.Equal(Pad(b), Pad(alone)) || Sum(b) != Sum(alone) {
			t.Fatalf("what stands behind %d bytes is looked at", n)
		}
		if got, want := Each([][]byte{b, room[n : 2*n], b}), Each([][]byte{alone, alone, alone}); !slices.Equal(got, want) {
			t.Fatalf("Each of three times %d bytes is %x, not %x", n, got, want)
		}
		if !bytes.Equal(room, before) {
			t.Fatalf("what %d bytes were handed in with is changed", n)
		}
	}
}

func TestEachReadsListOnly(t *testing.T) { // Z2
	list := [][]byte{text(5), text(40), text(31), []byte("behind"), nil}
	before := slices.Clone(list)
	Each(list[:3])
	for i := range list {
		if !bytes.Equal(list[i], before[i]) {
			t.Errorf("part %d is changed to %x", i, list[i])
		}
	}
}

func TestPadIsNewMemory(t *testing.T) { // Z2
	b := make([]byte, 30, 64)
	out := Pad(b)
	out[0] = 9
	if b[0] != 0 {
		t.Error("what Pad answers shares memory with what it was handed")
	}
	b[1] = 9
	if out[1] != 0 {
		t.Error("what Pad was handed shares memory with what it answers")
	}
}

func TestNilAndEmptyAreTheSame(t *testing.T) { // Z3
	if !bytes.Equal(Pad(nil), Pad([]byte{})) || Sum(nil) != Sum([]byte{}) {
		t.Error("nil and a text of no bytes differ")
	}
}

func TestNothingIsKept(t *testing.T) { // Z1
	parts := [][]byte{text(7), text(64), nil}
	first, sum := Each(parts), Sum(parts[0])
	Each([][]byte{text(50)})
	Sum(text(33))
	if !slices.Equal(Each(parts), first) || Sum(parts[0]) != sum {
		t.Error("a call answers otherwise behind other calls")
	}
}
