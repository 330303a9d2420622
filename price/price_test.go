package price

import (
	"bytes"
	"math/big"
	"math/bits"
	"slices"
	"strconv"
	"strings"
	"testing"

	"lampbearer/api"
	"lampbearer/code"
)

const full = 1<<64 - 1

// byPrice is the chapter's list: a price, and the names that cost it.
func byPrice() map[uint64]string {
	return map[uint64]string{
		0:   "stop return revert",
		1:   "land",
		2:   "pop pc size gas self caller value insize codesize backsize time number keeper",
		3:   "add sub lt gt slt sgt eq zero and or xor not byte shl shr sar inword incopy backcopy load store store8",
		5:   "mul div sdiv mod smod extend",
		8:   "addmod mulmod jump",
		10:  "branch exp",
		30:  "sum",
		50:  "slot log0",
		100: "money keep log1",
		150: "log2",
		200: "call look lend",
		500: "make",
	}
}

// byName is what the chapter says of each name.
func byName(t *testing.T) map[string]uint64 {
	out := map[string]uint64{}
	set := func(name string, price uint64) {
		if _, ok := out[name]; ok {
			t.Fatalf("%s stands in the list twice", name)
		}
		out[name] = price
	}
	for price, names := range byPrice() {
		for _, name := range strings.Fields(names) {
			set(name, price)
		}
	}
	for n := 1; n <= 32; n++ {
		set("push"+strconv.Itoa(n), 3)
	}
	for n := 1; n <= 16; n++ {
		set("dup"+strconv.Itoa(n), 3)
		set("swap"+strconv.Itoa(n), 3)
	}
	return out
}

// edges are numbers about which rounding, and what 64 bits hold, turn.
func edges() []uint64 {
	var out []uint64
	for shift := range 64 {
		n := uint64(1) << shift
		out = append(out, n-2, n-1, n, n+1, 3*n, n+31, n+63, -n, 63*n)
	}
	return out
}

// spread are numbers of all lengths, the same ones each time.
func spread(count int) []uint64 {
	seed := uint64(1)
	var out []uint64
	for i := range count {
		seed = seed*6364136223846793005 + 1442695040888963407
		out = append(out, bits.RotateLeft64(seed, 32)>>(i%64))
	}
	return out
}

func number(n uint64) *big.Int { return new(big.Int).SetUint64(n) }

// slowWords is the whole fraction n through 32, and one more if something of it is left.
func slowWords(n uint64) uint64 {
	q, r := new(big.Int).DivMod(number(n), big.NewInt(32), new(big.Int))
	if r.Sign() > 0 {
		q.Add(q, big.NewInt(1))
	}
	return q.Uint64()
}

// slowRoom is the lesser one of asked and 64 parts less one of left.
func slowRoom(left, asked uint64) uint64 {
	most := new(big.Int).Div(number(left), big.NewInt(64))
	most.Sub(number(left), most)
	if most.Cmp(number(asked)) < 0 {
		return most.Uint64()
	}
	return asked
}

func slowIntrinsic(data []byte, made bool) uint64 {
	noughts := bytes.Count(data, []byte{0})
	cost := 500 + 4*noughts + 16*(len(data)-noughts)
	if made {
		cost += 700
	}
	return uint64(cost)
}

func TestOpByNames(t *testing.T) { // M1: each byte, and each name of the list
	prices := byName(t)
	seen := map[string]bool{}
	for op := range 256 {
		name := code.Name(byte(op))
		want, ok := prices[name]
		if !ok && name != "" {
			t.Errorf("%s does not stand in the list", name)
		}
		if got := Op(byte(op)); got != want {
			t.Errorf("%02x, %q, costs %d, not %d", op, name, got, want)
		}
		seen[name] = true
	}
	for name := range prices {
		if !seen[name] {
			t.Errorf("no operation is called %s", name)
		}
	}
}

func TestOpAtTheEdges(t *testing.T) { // M1: the ends of what is told by a count, and the bytes beside them
	for _, c := range []struct {
		op   byte
		want uint64
	}{
		{0x00, 0}, {0x01, 3}, {0x02, 5}, {0x0a, 10}, {0x0b, 5}, {0x0c, 0}, {0x20, 30}, {0x21, 0}, {0x5b, 1}, {0x5c, 0},
		{0x5f, 0}, {0x60, 3}, {0x61, 3}, {0x7f, 3}, {0x80, 3}, {0x8f, 3}, {0x90, 3}, {0x9f, 3},
		{0xa0, 50}, {0xa1, 100}, {0xa2, 150}, {0xa3, 0}, {0xa4, 0}, {0xaf, 0},
		{0xef, 0}, {0xf0, 500}, {0xf1, 200}, {0xf2, 0}, {0xf3, 200}, {0xf4, 200}, {0xf5, 0}, {0xfc, 0}, {0xfd, 0}, {0xfe, 0}, {0xff, 0},
	} {
		if got := Op(c.op); got != c.want {
			t.Errorf("%02x costs %d, not %d", c.op, got, c.want)
		}
	}
}

func TestOpOfWhatHasNoName(t *testing.T) { // M1
	count := 0
	for op := range 256 {
		if code.Name(byte(op)) != "" {
			continue
		}
		count++
		if got := Op(byte(op)); got != 0 {
			t.Errorf("%02x has no name, and costs %d", op, got)
		}
	}
	if count != 256-58-32-16-16-3 {
		t.Errorf("%d bytes have no name", count)
	}
}

func TestPricesOfAShortRun(t *testing.T) { // M1: operations alone, and no memory
	lines := []string{"push1 0x02", "push1 0x03", "add", "push1 0x00", "store", "push1 0x20", "push1 0x00", "return"}
	ops, err := code.Assemble(lines)
	if err != api.OK {
		t.Fatalf("error %d", err)
	}
	var sum uint64
	for pc := 0; pc < len(ops); pc = code.Next(ops, pc) {
		sum += Op(ops[pc])
	}
	if sum != 5*3+3+3 {
		t.Errorf("it costs %d", sum)
	}
}

func TestWords(t *testing.T) { // M2
	for _, c := range []struct{ n, want uint64 }{
		{0, 0}, {1, 1}, {2, 1}, {31, 1}, {32, 1}, {33, 2}, {63, 2}, {64, 2}, {65, 3}, {4095, 128}, {4096, 128}, {4097, 129},
		{1 << 32, 1 << 27}, {1<<32 + 1, 1<<27 + 1}, {1 << 63, 1 << 58}, {1<<63 + 1, 1<<58 + 1},
		{full, 1 << 59}, {full - 1, 1 << 59}, {full - 30, 1 << 59}, {full - 31, 1<<59 - 1}, {full - 32, 1<<59 - 1}, {full - 62, 1<<59 - 1}, {full - 63, 1<<59 - 2},
	} {
		if got := Words(c.n); got != c.want {
			t.Errorf("%d bytes are %d words, not %d", c.n, got, c.want)
		}
	}
	for _, n := range slices.Concat(edges(), spread(5000)) {
		if got, want := Words(n), slowWords(n); got != want {
			t.Fatalf("%d bytes are %d words, not %d", n, got, want)
		}
	}
}

func TestWordsInTurn(t *testing.T) { // M2: one more with each 32 bytes
	var want uint64
	for n := range uint64(10000) {
		if n%32 == 1 {
			want++
		}
		if got := Words(n); got != want {
			t.Fatalf("%d bytes are %d words, not %d", n, got, want)
		}
	}
}

func TestRoom(t *testing.T) { // M2
	for _, c := range []struct{ left, asked, want uint64 }{
		{640, full, 630}, {640, 631, 630}, {640, 630, 630}, {640, 629, 629}, {640, 0, 0}, {640, 640, 630},
		{0, 0, 0}, {0, 1, 0}, {0, full, 0}, {1, 1, 1}, {1, 0, 0}, {1, full, 1},
		{63, 63, 63}, {63, 64, 63}, {64, 64, 63}, {64, 63, 63}, {64, 62, 62}, {65, 65, 64}, {127, 127, 126}, {128, 128, 126}, {128, 127, 126}, {128, 125, 125},
		{full, full, 63 << 58}, {full, 63<<58 + 1, 63 << 58}, {full, 63 << 58, 63 << 58}, {full, 63<<58 - 1, 63<<58 - 1}, {full, 7, 7},
		{1 << 63, full, 63 << 57}, {1 << 63, 1 << 63, 63 << 57}, {1 << 58, full, 63 << 52},
	} {
		if got := Room(c.left, c.asked); got != c.want {
			t.Errorf("of %d gas, and %d asked for, there are %d, not %d", c.left, c.asked, got, c.want)
		}
	}
}

func TestRoomOfMany(t *testing.T) { // M2
	lefts, some := slices.Concat(edges(), spread(1000)), spread(50)
	for i, left := range lefts {
		most := slowRoom(left, full)
		asks := []uint64{0, 1, left - 1, left, left + 1, most - 1, most, most + 1, full, some[i%len(some)]}
		for _, asked := range asks {
			got, want := Room(left, asked), slowRoom(left, asked)
			if got != want || got > left || got > asked {
				t.Fatalf("of %d gas, and %d asked for, there are %d, not %d", left, asked, got, want)
			}
		}
	}
}

func TestIntrinsic(t *testing.T) { // M3
	for _, c := range []struct {
		data []byte
		made bool
		want uint64
	}{
		{nil, false, 500}, {nil, true, 1200}, {[]byte{}, false, 500}, {[]byte{}, true, 1200},
		{[]byte{0}, false, 504}, {[]byte{0}, true, 1204}, {[]byte{1}, false, 516}, {[]byte{255}, false, 516}, {[]byte{128}, true, 1216}, {[]byte{'0'}, false, 516},
		{[]byte{0, 0, 1, 255}, false, 540}, {[]byte{1, 0, 255, 0}, true, 1240}, {make([]byte, 100), false, 900}, {bytes.Repeat([]byte{7}, 100), true, 2800},
		{append(make([]byte, 31), 1), false, 640},
	} {
		if got := Intrinsic(c.data, c.made); got != c.want {
			t.Errorf("%v, %v costs %d, not %d", c.data, c.made, got, c.want)
		}
	}
}

func TestIntrinsicOfEachByte(t *testing.T) { // M3
	for b := range 256 {
		for _, made := range []bool{false, true} {
			data := []byte{byte(b), 0, byte(b)}
			if got, want := Intrinsic(data, made), slowIntrinsic(data, made); got != want {
				t.Errorf("%v, %v costs %d, not %d", data, made, got, want)
			}
		}
	}
}

func TestIntrinsicOfMany(t *testing.T) { // M3
	long := make([]byte, 1<<24)
	for i, n := range spread(1 << 10) {
		long[i*7919] = byte(n)
	}
	for _, n := range []int{0, 1, 1000, 1 << 20, 1 << 24} {
		for _, made := range []bool{false, true} {
			if got, want := Intrinsic(long[:n], made), slowIntrinsic(long[:n], made); got != want {
				t.Errorf("%d bytes, %v cost %d, not %d", n, made, got, want)
			}
		}
	}
}

func TestDataIsOnlyRead(t *testing.T) { // Z2
	space := bytes.Repeat([]byte{0xee}, 20)
	if got := Intrinsic(space[5:8], false); got != 548 {
		t.Errorf("three bytes cost %d", got)
	}
	if got := Intrinsic(space[5:5], true); got != 1200 {
		t.Errorf("no bytes, with room behind them, cost %d", got)
	}
	if !bytes.Equal(space, bytes.Repeat([]byte{0xee}, 20)) {
		t.Error("what was handed in is changed")
	}
}

func TestNothingIsKept(t *testing.T) { // Z1
	for range 3 {
		if a, b := Intrinsic([]byte{3, 0}, true), Intrinsic(nil, false); a != 1220 || b != 500 {
			t.Errorf("%d and %d come", a, b)
		}
		if a, b, c := Op(api.OpLog+1), Words(33), Room(640, 700); a != 100 || b != 2 || c != 630 {
			t.Errorf("%d, %d and %d come", a, b, c)
		}
	}
}

func FuzzPrice(f *testing.F) { // M2, M3, Z1
	f.Add(uint64(640), uint64(full), []byte{0, 1, 2})
	f.Add(uint64(full), uint64(full-31), []byte{})
	f.Fuzz(func(t *testing.T, left, asked uint64, data []byte) {
		if got, want := Words(left), slowWords(left); got != want {
			t.Fatalf("%d bytes are %d words, not %d", left, got, want)
		}
		if got, want := Room(left, asked), slowRoom(left, asked); got != want {
			t.Fatalf("of %d gas, and %d asked for, there are %d, not %d", left, asked, got, want)
		}
		made := asked%2 == 1
		if got, want := Intrinsic(data, made), slowIntrinsic(data, made); got != want {
			t.Fatalf("%v, %v costs %d, not %d", data, made, got, want)
		}
	})
}
