package frame

import (
	"bytes"
	"fmt"
	"math"
	"slices"
	"strings"
	"testing"

	"lampbearer/api"
	"lampbearer/code"
	"lampbearer/price"
	"lampbearer/word"
)

const (
	plenty = 1 << 40
	full   = math.MaxUint64
)

var highest = api.Word{full, full, full, full}

func num(n uint64) api.Word { return api.Word{n} }

// pushed is code that pushes words, the first one on top.
func pushed(words ...api.Word) []byte {
	var c []byte
	for _, a := range slices.Backward(words) {
		h := word.Bytes(a)
		c = append(append(c, 0x7f), h[:]...)
	}
	return c
}

// told is code that returns the top word.
var told = []byte{0x60, 0, 0x52, 0x60, 32, 0x60, 0, 0xf2}

// edges are words at which something changes.
func edges() []api.Word {
	out := []api.Word{highest, {full, full, full, full >> 1}, {0, 0, 0, 1 << 63}, {1, 0, 0, 1 << 63}, {full - 1, full, full, full}, {full - 31, full, full, full}, {0, 1}, {5, 0, 1}, {0, 0, 0, 1}, {full}, {1 << 63}, {0x8182838485868788, 0x7172737475767778, 0x0102030405060708, 0xf1f2f3f4f5f6f7f8}}
	for _, n := range []uint64{0, 1, 2, 3, 7, 8, 16, 30, 31, 32, 33, 64, 127, 128, 255, 256, 257, 1000, 4063, 4064, 4065, 4095, 4096, 1 << 32} {
		out = append(out, num(n))
	}
	return out
}

// ends is whether the code of these lines ends so, and as the slow form does.
func ends(t *testing.T, text string, gas uint64, want api.Result) {
	t.Helper()
	endsWith(t, text, "input", gas, want)
}

func endsWith(t *testing.T, text, input string, gas uint64, want api.Result) {
	t.Helper()
	if got := isRun(t, assembled(t, text), []byte(input), gas); !same(got, want) {
		t.Errorf("%q with %d gas ends with %v, not %v", text, gas, got, want)
	}
}

// costs is whether the code of these lines ends well for so much gas, and not for less.
func costs(t *testing.T, text string, gas uint64, out ...byte) {
	t.Helper()
	ends(t, text, gas, api.Result{Out: out})
	ends(t, text, gas+7, api.Result{Gas: 7, Out: out})
	ends(t, text, full, api.Result{Gas: full - gas, Out: out})
	if gas > 0 {
		ends(t, text, gas-1, api.Result{Err: api.ErrGas})
	}
}

// fails is whether the code of these lines fails so, with a little more gas too, and with plenty.
func fails(t *testing.T, text string, gas uint64, err api.Errno) {
	t.Helper()
	for _, more := range []uint64{0, 1, plenty} {
		ends(t, text, gas+more, api.Result{Err: err})
	}
}

// gives is the word that the operation leaves on the stack, above so many other ones that stay as they are.
func gives(t *testing.T, op byte, words ...api.Word) api.Word {
	t.Helper()
	c := slices.Concat(pushed(words...), []byte{op}, told)
	r := isRun(t, c, []byte("input"), plenty)
	if r.Err != api.OK || len(r.Out) != 32 {
		t.Fatalf("%s of %v ends with %v", code.Name(op), words, r)
	}
	return word.Read(r.Out)
}

// named are the numbers of the operations that the chapter has, by their names.
func named() map[string]byte {
	all := map[string]byte{}
	for op := range 256 {
		if name := code.Name(byte(op)); shapeOf[name] != (shape{}) || name == "stop" {
			all[name] = byte(op)
		}
	}
	return all
}

func TestEndOfCode(t *testing.T) { // P1, P5, Z3: it ends well, with no Out
	for _, c := range [][]byte{nil, {}} {
		for _, gas := range []uint64{0, 1, full} {
			if got := Run(c, nil, gas); !same(got, api.Result{Gas: gas}) {
				t.Errorf("no code ends with %v", got)
			}
		}
	}
	costs(t, "push1 0x01", 3)
	costs(t, "push1 0x", 3)
	costs(t, "push32 0x01", 3)
	costs(t, "push1 0x07; push1 0x00; store", 12)
	costs(t, "land; land; land", 3)
}

func TestStoreAndReturn(t *testing.T) { // P1 to P5: of a sum of two numbers, and of a number
	costs(t, "push1 0x01; push1 0x02; add; push1 0x00; store; push1 0x20; push1 0x00; return", 24, word32(3)...)
	costs(t, "push1 0x02; push1 0x00; store; push1 0x20; push1 0x00; return", 18, word32(2)...)
}

func word32(n uint64) []byte {
	h := word.Bytes(num(n))
	return h[:]
}

func TestNoSuchOperation(t *testing.T) { // P1: all bytes without a name, and those that hang on a world; ahead of ErrStack and ErrGas
	count := 0
	for op := range 256 {
		name := code.Name(byte(op))
		if name != "" && !strings.Contains(beyond, " "+name+" ") {
			continue
		}
		count++
		for _, words := range []int{0, 1, 7, 63, 64} {
			c := append(bytes.Repeat([]byte{0x60, 1}, words), byte(op), 0x00)
			for _, gas := range []uint64{3 * uint64(words), 3*uint64(words) + 1, plenty, full} {
				if got := isRun(t, c, nil, gas); !same(got, api.Result{Err: api.ErrOp}) {
					t.Errorf("%02x on %d words ends with %v", op, words, got)
				}
			}
		}
	}
	if count != 256-58-32-16-16-3+18 {
		t.Errorf("%d operations are held against, and the chapter has others", count)
	}
}

func TestStackOfEachOperation(t *testing.T) { // P1: too few words, and too many, ahead of ErrGas
	for name, op := range named() {
		sh := shapeOf[name]
		for words := range 65 {
			c := slices.Concat(bytes.Repeat([]byte{0x60, 0x01}, words), []byte{op})
			for _, gas := range []uint64{0, 1, 2, sh.price, sh.price + 20, plenty} {
				got := isRun(t, c, []byte("input"), 3*uint64(words)+gas)
				stack := words < sh.takes || words-sh.takes+sh.gives > 64
				if stack != (got.Err == api.ErrStack) {
					t.Fatalf("%s on %d words with %d more gas ends with %v", name, words, gas, got)
				}
				if !stack && gas < sh.price && got.Err != api.ErrGas {
					t.Fatalf("%s on %d words with %d more gas ends with %v", name, words, gas, got)
				}
			}
		}
	}
}

func TestFullStack(t *testing.T) { // P1: MaxStack words, and not one more
	words := strings.Repeat("push1 0x01; ", 63)
	costs(t, words+"push1 0x02", 192)
	costs(t, words+"push1 0x02; add; dup16", 198)
	costs(t, words+"push1 0x02; swap16; pop; pc", 199)
	for _, more := range []string{"push1 0x02", "push32 0x02", "dup1", "dup16", "pc", "gas", "size", "insize", "codesize"} {
		fails(t, words+"push1 0x02; "+more, 192, api.ErrStack)
	}
	costs(t, words+"push1 0x02; not; zero", 198)
}

func TestGasAtEachStep(t *testing.T) { // P1, P5: for each amount of gas as the slow form
	for _, text := range []string{
		"push1 0x07; push1 0x00; store; push1 0x20; push1 0x00; return",
		"push1 0x02; push1 0x10; exp; push1 0x21; store8; size; gas; push1 0x05; push1 0x1f; revert",
		"push1 0x28; push1 0x03; sum; push1 0x00; inword; xor; push2 0x0200; store; land; stop",
		"push1 0x05; push1 0x01; push1 0x40; incopy; push1 0x00; push1 0x03; mul; push1 0x00; branch; pc; codesize; insize; lt",
		"push1 0x04; jump; 0xfe; land; push1 0x01; push1 0x0a; branch; land; push1 0x01; push1 0x02; push1 0x03; mulmod; not",
	} {
		for gas := range uint64(300) {
			isRun(t, assembled(t, text), []byte("input"), gas)
		}
	}
}

func TestPriceAheadOfMuch(t *testing.T) { // P1: the price, then ErrMuch, then what growing costs
	fails(t, "push1 0x00; push2 0x0fe1; store", 9, api.ErrMuch)
	ends(t, "push1 0x00; push2 0x0fe1; store", 8, api.Result{Err: api.ErrGas})
	ends(t, "push1 0x00; push2 0x0fe0; store", 9, api.Result{Err: api.ErrGas})
	costs(t, "push1 0x00; push2 0x0fe0; store", 9+640)
	fails(t, "push2 0x1001; push1 0x00; sum", 36, api.ErrMuch)
	ends(t, "push2 0x1000; push1 0x00; sum", 36+640+767, api.Result{Err: api.ErrGas})
	costs(t, "push2 0x1000; push1 0x00; sum", 36+640+768)
	fails(t, "push1 0x01; push1 0x00; push2 0x1000; incopy", 12, api.ErrMuch)
	ends(t, "push1 0x01; push1 0x00; push2 0x1000; incopy", 11, api.Result{Err: api.ErrGas})
	fails(t, "push2 0x1001; push1 0x00; return", 6, api.ErrMuch)
	fails(t, "push1 0x02; push2 0x0fff; revert", 6, api.ErrMuch)
	ends(t, "push1 0x01; push2 0x0fff; revert", 6, api.Result{Err: api.ErrGas})
	fails(t, "push2 0x0fe1; load", 6, api.ErrMuch)
	fails(t, "push1 0x00; push2 0x1000; store8", 9, api.ErrMuch)
	costs(t, "push1 0x00; push2 0x0fff; store8", 9+640)
}

func TestPlacesThatNoMemoryHas(t *testing.T) { // P1, P3: places, and how many bytes, of more than 64 bits
	for _, a := range edges() {
		for _, b := range edges() {
			for _, name := range []string{"sum", "store", "store8", "return", "revert"} {
				isRun(t, append(pushed(a, b), named()[name]), nil, plenty)
			}
			for _, c := range []api.Word{{}, num(1), num(5), num(4096), highest, {0, 1}} {
				isRun(t, slices.Concat(pushed(a, b, c), []byte{0x36}), []byte("input"), plenty)
				isRun(t, slices.Concat(pushed(a, c, b), []byte{0x36}), []byte("input"), plenty)
			}
		}
		isRun(t, append(pushed(a), 0x51), nil, plenty)
		isRun(t, append(pushed(a), 0x34), []byte("input"), plenty)
	}
}

func TestTouchNone(t *testing.T) { // K2, P3, P4: of no bytes nothing grows, wherever
	for _, at := range edges() {
		for _, c := range []struct {
			name string
			cost uint64
		}{{"sum", 30}, {"return", 0}, {"revert", 0}} {
			got := isRun(t, append(pushed(at, api.Word{}), named()[c.name]), nil, 6+c.cost)
			if got.Gas != 0 || len(got.Out) != 0 || got.Err == api.ErrGas || got.Err == api.ErrMuch {
				t.Errorf("%s of nothing at %v ends with %v", c.name, at, got)
			}
		}
		if got := isRun(t, append(pushed(at, at, api.Word{}), 0x36), nil, 12); !same(got, api.Result{}) {
			t.Errorf("incopy of nothing at %v ends with %v", at, got)
		}
	}
}

func TestOperationsOfOne(t *testing.T) { // P2
	for _, a := range edges() {
		for _, name := range []string{"zero", "not"} {
			gives(t, named()[name], a)
		}
	}
	for _, c := range []struct {
		op      byte
		a, want api.Word
	}{{api.OpZero, num(0), num(1)}, {api.OpZero, num(1), num(0)}, {api.OpZero, api.Word{0, 0, 0, 1}, num(0)}, {api.OpNot, num(0), highest}, {api.OpNot, highest, num(0)}} {
		if got := gives(t, c.op, c.a); got != c.want {
			t.Errorf("%s of %v gives %v", code.Name(c.op), c.a, got)
		}
	}
}

func TestOperationsOfTwo(t *testing.T) { // P2: the top one is the first
	for name, op := range named() {
		if sh := shapeOf[name]; sh.takes == 2 && sh.gives == 1 && name != "sum" && !strings.HasPrefix(name, "dup") {
			for _, a := range edges() {
				for _, b := range edges() {
					gives(t, op, a, b)
				}
			}
		}
	}
	minus := func(n uint64) api.Word { return word.Sub(api.Word{}, num(n)) }
	for _, c := range []struct {
		name       string
		a, b, want api.Word
	}{
		{"add", num(5), num(7), num(12)}, {"add", highest, num(2), num(1)}, {"mul", num(5), num(7), num(35)}, {"mul", highest, num(2), minus(2)},
		{"sub", num(7), num(5), num(2)}, {"sub", num(5), num(7), minus(2)}, {"div", num(17), num(5), num(3)}, {"div", num(5), num(17), num(0)}, {"div", num(5), num(0), num(0)},
		{"mod", num(17), num(5), num(2)}, {"mod", num(5), num(17), num(5)}, {"mod", num(5), num(0), num(0)}, {"sdiv", minus(7), num(2), minus(3)}, {"sdiv", num(2), minus(7), num(0)},
		{"smod", minus(7), num(2), minus(1)}, {"smod", num(7), minus(2), num(1)}, {"sdiv", num(3), num(0), num(0)}, {"smod", num(3), num(0), num(0)},
		{"exp", num(2), num(10), num(1024)}, {"exp", num(10), num(2), num(100)}, {"exp", num(0), num(0), num(1)}, {"extend", num(0), num(0x1ff), highest}, {"extend", num(1), num(0x1ff), num(0x1ff)},
		{"lt", num(1), num(2), num(1)}, {"lt", num(2), num(1), num(0)}, {"lt", num(2), num(2), num(0)}, {"gt", num(2), num(1), num(1)}, {"gt", num(1), num(2), num(0)}, {"gt", num(2), num(2), num(0)},
		{"slt", minus(1), num(1), num(1)}, {"lt", minus(1), num(1), num(0)}, {"sgt", num(1), minus(1), num(1)}, {"gt", num(1), minus(1), num(0)}, {"slt", num(2), num(2), num(0)}, {"sgt", num(2), num(2), num(0)},
		{"eq", num(2), num(2), num(1)}, {"eq", num(2), api.Word{2, 1}, num(0)}, {"and", num(6), num(3), num(2)}, {"or", num(6), num(3), num(7)}, {"xor", num(6), num(3), num(5)},
		{"byte", num(31), num(0x102), num(2)}, {"byte", num(30), num(0x102), num(1)}, {"byte", num(32), highest, num(0)}, {"shl", num(4), num(1), num(16)}, {"shl", num(1), num(4), num(8)},
		{"shr", num(2), num(17), num(4)}, {"shr", num(17), num(2), num(0)}, {"sar", num(1), minus(4), minus(2)}, {"sar", num(300), minus(4), highest}, {"shr", num(256), highest, num(0)},
	} {
		if got := gives(t, named()[c.name], c.a, c.b); got != c.want {
			t.Errorf("%s of %v and %v gives %v, not %v", c.name, c.a, c.b, got, c.want)
		}
	}
}

func TestOperationsOfThree(t *testing.T) { // P2
	few := edges()[:14]
	for _, name := range []string{"addmod", "mulmod"} {
		for _, a := range few {
			for _, b := range few {
				for _, m := range append(few[:6:6], num(0), num(1), num(7)) {
					gives(t, named()[name], a, b, m)
				}
			}
		}
	}
	if got := gives(t, api.OpAddmod, num(5), num(6), num(7)); got != num(4) {
		t.Errorf("addmod gives %v", got)
	}
	if got := gives(t, api.OpMulmod, num(7), num(6), num(5)); got != num(2) {
		t.Errorf("mulmod gives %v", got)
	}
}

func TestWordsBelowStay(t *testing.T) { // P2: an operation takes no more than it says
	for name, op := range named() {
		sh := shapeOf[name]
		if strings.Contains(" stop jump branch return revert ", " "+name+" ") {
			continue
		}
		words := []api.Word{num(0), num(0), num(0)}[:min(3, sh.takes)]
		for i := len(words); i < sh.takes; i++ {
			words = append(words, num(uint64(i)))
		}
		words = append(words, num(0xabc), num(0xdef))
		behind := 0
		if strings.HasPrefix(name, "push") {
			behind = int(op) - 0x5f
		}
		c := slices.Concat(pushed(words...), []byte{op}, make([]byte, behind), bytes.Repeat([]byte{0x50}, sh.gives), told)
		if r := isRun(t, c, nil, plenty); r.Err != api.OK || word.Read(r.Out) != num(0xabc) {
			t.Errorf("%s leaves %v", name, r)
		}
	}
}

func TestExpCosts(t *testing.T) { // P2: 10 more a byte of b, whatever a is
	for _, a := range []api.Word{{}, num(1), highest} {
		for n := range 33 {
			b := word.Sub(word.Exp(num(256), num(uint64(n))), num(1)) // of n bytes
			c := append(pushed(a, b), 0x0a)
			cost := 6 + 10 + 10*uint64(n)
			if got := isRun(t, c, nil, cost); !same(got, api.Result{}) {
				t.Errorf("exp with %d bytes ends with %v for %d", n, got, cost)
			}
			if got := isRun(t, c, nil, cost-1); !same(got, api.Result{Err: api.ErrGas}) {
				t.Errorf("exp with %d bytes ends with %v for %d", n, got, cost-1)
			}
		}
	}
	costs(t, "push2 0x0100; push1 0x00; exp", 36)
	costs(t, "push1 0x00; push2 0x0100; exp", 16)
	costs(t, "push2 0x0100; push1 0x01; exp", 36)
}

func TestPushes(t *testing.T) { // P2: all their bytes, and noughts where the code ends too early
	for n := 1; n <= 32; n++ {
		for have := range n + 1 {
			behind := make([]byte, have)
			for i := range behind {
				behind[i] = byte(i + 1)
			}
			isRun(t, append([]byte{byte(0x5f + n)}, behind...), nil, 3)
			if have == n {
				c := slices.Concat([]byte{byte(0x5f + n)}, behind, told)
				want := append(make([]byte, 32-n), behind...)
				if got := isRun(t, c, nil, plenty); !bytes.Equal(got.Out, want) {
					t.Errorf("push%d gives %x", n, got.Out)
				}
			}
		}
	}
}

func TestPushAtTheEnd(t *testing.T) { // P2: noughts stand behind what there is; no code can tell that any more, and so the stack is looked at
	for _, c := range []struct {
		code []byte
		want api.Word
	}{{[]byte{0x60}, num(0)}, {[]byte{0x61, 1}, num(0x100)}, {[]byte{0x63, 1, 2}, num(0x01020000)}, {[]byte{0x62, 1, 2, 3}, num(0x010203)}, {[]byte{0x7f}, num(0)}, {[]byte{0x7f, 0x80}, api.Word{0, 0, 0, 1 << 63}}} {
		f := New(c.code, nil, 3)
		if r := f.Run(alone{}); !same(r, api.Result{}) || len(f.stack) != 1 || f.stack[0] != c.want {
			t.Errorf("%x gives %v", c.code, f.stack)
		}
	}
}

func TestDupsAndSwaps(t *testing.T) { // P2: each depth
	for n := 1; n <= 16; n++ {
		var words []api.Word
		for i := range 20 {
			words = append(words, num(uint64(100+i)))
		}
		if got := gives(t, byte(0x7f+n), words...); got != words[n-1] {
			t.Errorf("dup%d gives %v", n, got)
		}
		if got := gives(t, byte(0x8f+n), words...); got != words[n] {
			t.Errorf("swap%d gives %v", n, got)
		}
		for depth := range 20 {
			c := slices.Concat(pushed(words...), []byte{byte(0x8f + n)}, bytes.Repeat([]byte{0x50}, depth), told)
			want := words[depth]
			switch depth {
			case 0:
				want = words[n]
			case n:
				want = words[0]
			}
			if r := isRun(t, c, nil, plenty); word.Read(r.Out) != want {
				t.Errorf("behind swap%d, %d deep is %x", n, depth, r.Out)
			}
			c = slices.Concat(pushed(words...), []byte{byte(0x7f + n)}, bytes.Repeat([]byte{0x50}, depth+1), told)
			if r := isRun(t, c, nil, plenty); word.Read(r.Out) != words[depth] {
				t.Errorf("behind dup%d, %d deep is %x", n, depth+1, r.Out)
			}
		}
	}
}

func TestSum(t *testing.T) { // P3: what the bytes come to, with noughts for those that were not there
	for _, at := range []uint64{0, 1, 31, 32, 100, 4000} {
		for _, n := range []uint64{0, 1, 5, 31, 32, 33, 64, 96, 97} {
			if at+n > 4096 {
				continue
			}
			text := fmt.Sprintf("push5 0x0102030405; push1 0x05; store; push2 0x%04x; push2 0x%04x; sum; size; push1 0x20; store; push1 0x00; store; push1 0x40; push1 0x00; return", n, at)
			if r := isRun(t, assembled(t, text), nil, plenty); r.Err != api.OK || len(r.Out) != 64 {
				t.Errorf("sum of %d bytes at %d ends with %v", n, at, r)
			}
		}
	}
	costs(t, "push1 0x00; push1 0x00; sum", 36)
	costs(t, "push1 0x01; push1 0x00; sum", 36+3+6)
	costs(t, "push1 0x20; push1 0x00; sum", 36+3+6)
	costs(t, "push1 0x21; push1 0x00; sum", 36+6+12)
	costs(t, "push1 0x01; push1 0x20; sum", 36+6+6)
	costs(t, "push1 0x02; push1 0x1f; sum", 36+6+6)
}

func TestInput(t *testing.T) { // P3: noughts beyond its end
	for n := range 70 {
		input := make([]byte, n)
		for i := range input {
			input[i] = byte(i + 1)
		}
		for _, at := range []uint64{0, 1, 5, 31, 32, 33, 38, 60, 69, 70, 71, 1 << 31, 1 << 63, full} {
			c := slices.Concat(pushed(num(at)), []byte{0x34}, told)
			isRun(t, c, input, plenty)
			for _, size := range []uint64{0, 1, 9, 32, 50} {
				c := slices.Concat(pushed(num(3), num(at), num(size)), []byte{0x36}, assembled(t, "push1 0x50; push1 0x00; return"))
				isRun(t, c, input, plenty)
			}
		}
		want := append([]byte{byte(n)}, make([]byte, 31)...)
		if r := isRun(t, assembled(t, "insize; push1 0x00; store8; push1 0x20; push1 0x00; return"), input, plenty); !bytes.Equal(r.Out, want) {
			t.Errorf("of %d bytes insize is %v", n, r.Out)
		}
	}
	for _, at := range []api.Word{highest, {0, 1}, {0, 0, 0, 1}, {2, 1}, {full - 30, full, full, full}} {
		if got := gives(t, api.OpInword, at); got != (api.Word{}) {
			t.Errorf("the input's word at %v is %v", at, got)
		}
	}
	endsWith(t, "push1 0x00; inword; push1 0x00; store; push1 0x20; push1 0x00; return", "\x01\x02", 21, api.Result{Out: append([]byte{1, 2}, make([]byte, 30)...)})
	endsWith(t, "push1 0x01; inword; push1 0x00; store; push1 0x20; push1 0x00; return", "\x01\x02", 21, api.Result{Out: append([]byte{2}, make([]byte, 31)...)})
}

func TestCopyOfInput(t *testing.T) { // P3: it becomes what the input has, noughts too
	costs(t, "push1 0x00; push1 0x00; push1 0x00; incopy", 12)
	costs(t, "push1 0x20; push1 0x00; push1 0x00; incopy", 12+3+3)
	costs(t, "push1 0x21; push1 0x00; push1 0x00; incopy", 12+6+6)
	costs(t, "push1 0x01; push1 0x00; push1 0x20; incopy", 12+6+3)
	endsWith(t, "push2 0xffff; not; push1 0x00; store; push1 0x04; push1 0x02; push1 0x01; incopy; push1 0x07; push1 0x00; return", "abcd", plenty,
		api.Result{Gas: plenty - 3*3 - 3 - 3 - 9 - 3 - 3 - 6, Out: []byte{255, 'c', 'd', 0, 0, 255, 255}})
}

func TestSizes(t *testing.T) { // P3, P4
	for n := range 40 {
		c := slices.Concat(assembled(t, "codesize; push1 0x00; store8; push1 0x01; push1 0x00; return"), make([]byte, n))
		if r := isRun(t, c, nil, plenty); len(r.Out) != 1 || int(r.Out[0]) != 9+n {
			t.Errorf("codesize of %d bytes is %v", 9+n, r.Out)
		}
	}
	for at, want := range map[uint64]uint64{0: 32, 31: 32, 32: 64, 63: 64, 64: 96, 4095: 4096} {
		text := fmt.Sprintf("push1 0x05; push2 0x%04x; store8; size; push1 0x00; store; push1 0x20; push1 0x00; return", at)
		if r := isRun(t, assembled(t, text), nil, plenty); word.Read(r.Out) != num(want) {
			t.Errorf("with a byte at %d size is %v", at, r.Out)
		}
	}
	if got := gives(t, api.OpSize); got != num(0) {
		t.Errorf("at first size is %v", got)
	}
}

func TestLoadAndStore(t *testing.T) { // P3
	many := edges()[11]
	for _, at := range []uint64{0, 1, 31, 32, 33, 100, 4063, 4064} {
		for _, from := range []uint64{0, 1, 16, 31, 32, 64, 99, 4050, 4064} {
			c := slices.Concat(pushed(num(at), many), []byte{0x52}, pushed(num(from)), []byte{0x51}, told)
			isRun(t, c, nil, plenty)
			c = slices.Concat(pushed(num(at), many), []byte{0x53}, pushed(num(from)), []byte{0x51}, told)
			isRun(t, c, nil, plenty)
		}
	}
	costs(t, "push1 0x00; load", 9)
	costs(t, "push1 0x01; load", 12)
	costs(t, "push1 0x00; load; load", 12)
	costs(t, "push1 0xab; push1 0x03; store; push1 0x00; load; pop", 23)
	ends(t, "push2 0x0102; push1 0x02; store8; push1 0x03; push1 0x00; return", 18, api.Result{Out: []byte{0, 0, 2}})
	ends(t, "push2 0x0102; push1 0x00; store; push1 0x04; push1 0x1d; return", 21, api.Result{Out: []byte{0, 1, 2, 0}})
}

func TestJumps(t *testing.T) { // P4: only to lands that no push has behind it
	for _, c := range [][]byte{
		{0x60, 3, 0x56, 0x5b, 0x58}, {0x60, 4, 0x56, 0x5b, 0x5b}, {0x60, 4, 0x56, 0x60, 0x5b, 0x5b}, {0x60, 5, 0x56, 0x60, 0x5b, 0x5b}, {0x60, 0, 0x56}, {0x60, 1, 0x56}, {0x5f, 0x60, 0, 0x56},
		{0x60, 3, 0x56}, {0x60, 4, 0x56, 0x5b}, {0x60, 255, 0x56, 0x5b}, {0x60, 5, 0x56, 0x7f, 0x5b, 0x5b}, {0x60, 4, 0x56, 0xfe, 0x5b}, {0x60, 4, 0x56, 0x0c, 0x5b, 0x01},
	} {
		for gas := range uint64(40) {
			isRun(t, c, nil, gas)
		}
	}
	for at := range 80 { // among lands, pushes and other bytes
		c := append([]byte{0x60, byte(at), 0x56}, bytes.Repeat([]byte{0x5b, 0x61, 0x5b, 0x5b, 0x5b, 0x5b, 0xfe, 0x7e}, 9)...)
		isRun(t, c, nil, 1000)
		c = append([]byte{0x60, 1, 0x60, byte(at), 0x57}, c[3:]...)
		isRun(t, c, nil, 1000)
	}
	for _, far := range []api.Word{highest, {0, 1}, {35, 1}, {35, 0, 0, 1}, {1 << 63}, {full}, {34}, {37}} { // 35 and 36 are lands
		c := slices.Concat(pushed(far), []byte{0x56, 0, 0x5b, 0x5b})
		if got := isRun(t, c, nil, plenty); !same(got, api.Result{Err: api.ErrJump}) {
			t.Errorf("a jump to %v ends with %v", far, got)
		}
		if got := isRun(t, slices.Concat(pushed(far, num(1)), []byte{0x57, 0x5b}), nil, plenty); !same(got, api.Result{Err: api.ErrJump}) {
			t.Errorf("a branch to %v ends with %v", far, got)
		}
		if got := isRun(t, slices.Concat(pushed(far, num(0)), []byte{0x57, 0x5b}), nil, 17); !same(got, api.Result{}) {
			t.Errorf("a branch that is none to %v ends with %v", far, got)
		}
	}
}

func TestJumpsCost(t *testing.T) { // P1, P4: what is paid ahead of landing
	costs(t, "push1 0x03; jump; land", 12)
	costs(t, "push1 0x01; push1 0x05; branch; land", 17)
	costs(t, "push1 0x00; push1 0x05; branch; land", 17)
	costs(t, "push1 0x00; push1 0x09; branch", 16)
	costs(t, "push1 0x04; jump; 0xfe; land", 12)
	fails(t, "push1 0x09; jump", 11, api.ErrJump)
	ends(t, "push1 0x09; jump", 10, api.Result{Err: api.ErrGas})
	fails(t, "push1 0x01; push1 0x09; branch", 16, api.ErrJump)
	ends(t, "push1 0x01; push1 0x09; branch", 15, api.Result{Err: api.ErrGas})
	for _, c := range []api.Word{num(1), num(2), highest, {0, 0, 0, 1}, {0, 1}} {
		if got := isRun(t, slices.Concat(pushed(num(68), c), []byte{0x57, 0xfe, 0x5b}), nil, 17); !same(got, api.Result{}) {
			t.Errorf("a branch by %v ends with %v", c, got)
		}
	}
}

func TestLoops(t *testing.T) { // P1, P4: until the gas is gone, or by counting down
	for gas := range uint64(40) {
		ends(t, "land; push1 0x00; jump", 100000+gas, api.Result{Err: api.ErrGas})
	}
	countdown := "push1 0x64; land; push1 0x01; swap1; sub; dup1; push1 0x02; branch; pc"
	costs(t, countdown, 3+100*(1+3+3+3+3+3+10)+2)
	fills := "land; push1 0xff; size; store8; push1 0x00; jump"
	fails(t, fills, 10000, api.ErrMuch)
	fails(t, "land; pc; push1 0x00; jump", 10000, api.ErrStack)
}

func TestPlaceAndGas(t *testing.T) { // P4
	for n := range 50 {
		c := slices.Concat(bytes.Repeat([]byte{0x5b}, n), []byte{0x58}, told)
		if r := isRun(t, c, nil, plenty); word.Read(r.Out) != num(uint64(n)) {
			t.Errorf("pc at %d is %x", n, r.Out)
		}
		c = slices.Concat(bytes.Repeat([]byte{0x5b}, n), []byte{0x5a}, told)
		for _, gas := range []uint64{100, 1000, 1 << 33, full} {
			if r := isRun(t, c, nil, gas); word.Read(r.Out) != num(gas-uint64(n)-2) {
				t.Errorf("gas behind %d of %d is %x", n, gas, r.Out)
			}
		}
	}
	c := slices.Concat([]byte{0x60, 4, 0x56, 0xfe, 0x5b, 0x62, 1, 2, 3, 0x58}, told)
	if r := isRun(t, c, nil, plenty); word.Read(r.Out) != num(9) {
		t.Errorf("behind a jump and a push pc is %x", r.Out)
	}
}

func TestStop(t *testing.T) { // P4: with no Out, whatever the memory has
	costs(t, "stop", 0)
	costs(t, "stop; 0xfe", 0)
	costs(t, "push1 0x07; push1 0x00; store; stop; add", 12)
}

func TestReturnAndRevert(t *testing.T) { // P4, P5
	for _, name := range []string{"return", "revert"} {
		err := map[string]api.Errno{"return": api.OK, "revert": api.ErrRevert}[name]
		ends(t, "push1 0x00; push1 0x00; "+name, 6, api.Result{Err: err})
		ends(t, "push1 0x00; push1 0x00; "+name+"; 0xfe", 10, api.Result{Err: err, Gas: 4})
		ends(t, "push1 0x03; push1 0x01; "+name, 9, api.Result{Err: err, Out: []byte{0, 0, 0}})
		ends(t, "push1 0x03; push1 0x1e; "+name, 12, api.Result{Err: err, Out: []byte{0, 0, 0}})
		ends(t, "push1 0x03; push1 0x1e; "+name, 11, api.Result{Err: api.ErrGas})
		ends(t, "push1 0x09; push1 0x01; store8; push1 0x02; push1 0x01; "+name, 18+7, api.Result{Err: err, Gas: 7, Out: []byte{9, 0}})
		ends(t, "push1 0x09; push1 0x00; store8; push1 0x20; push1 0x01; "+name, 21, api.Result{Err: err, Out: make([]byte, 32)})
		ends(t, "push2 0x1000; push1 0x00; "+name, 646, api.Result{Err: err, Out: make([]byte, 4096)})
		ends(t, name, 5, api.Result{Err: api.ErrStack})
		ends(t, "push1 0x00; "+name, 5, api.Result{Err: api.ErrStack})
	}
}

func TestNothingIsLeftOfWhatFails(t *testing.T) { // P5, Z4
	memory := "push1 0x07; push1 0x00; store; "
	for text, err := range map[string]api.Errno{"add": api.ErrStack, "0x0c": api.ErrOp, "self": api.ErrOp, "push1 0x00; jump": api.ErrJump, "push2 0x1001; push1 0x00; return": api.ErrMuch, "push2 0x0fff; load": api.ErrMuch} {
		fails(t, memory+text, 1000, err)
	}
	ends(t, memory+"push1 0x20; push1 0x20; return", 18, api.Result{Err: api.ErrGas})
}

func TestMoreGas(t *testing.T) { // P5: it changes nothing but what is left
	for _, c := range someCodes(600) {
		if slices.Contains(code.Disassemble(c), "gas") {
			continue
		}
		few := isRun(t, c, []byte("input"), 700)
		more := isRun(t, c, []byte("input"), 700+12345)
		if few.Err != api.ErrGas && (few.Err != more.Err || !bytes.Equal(few.Out, more.Out) || more.Gas != 0 && more.Gas-few.Gas != 12345) {
			t.Errorf("%s ends with %v, and with more gas with %v", lines(c), few, more)
		}
	}
}

// someCodes are the same ones each time: operations with words enough, mostly, and small numbers.
func someCodes(count int) [][]byte {
	seed := uint64(16)
	draw := func(n int) int {
		seed = seed*6364136223846793005 + 1442695040888963407
		return int(seed>>40) % n
	}
	var out [][]byte
	for range count {
		var c []byte
		for range 3 + draw(40) {
			switch draw(8) {
			case 0, 1, 2:
				c = append(c, 0x60, byte(draw(70)))
			case 3:
				c = append(c, 0x61, byte(draw(17)), byte(draw(256)))
			case 4:
				c = append(c, byte(0x80+draw(4)+draw(2)*16))
			case 5:
				c = append(c, 0x5b)
			case 6:
				c = append(c, byte(draw(0x60)))
			default:
				c = append(c, []byte{0x01, 0x03, 0x0a, 0x0b, 0x1a, 0x1b, 0x1d, 0x20, 0x34, 0x36, 0x51, 0x52, 0x53, 0x57, 0x56, 0x5a, 0xf2, 0xfd}[draw(18)])
			}
		}
		out = append(out, append(c, told...))
	}
	return out
}

func TestSpread(t *testing.T) { // P1 to P5
	seen := map[api.Errno]int{}
	for i, c := range someCodes(20000) {
		seen[isRun(t, c, []byte("some input of several bytes, more than a word has"), uint64(i%7*i%1500)).Err]++
		isRun(t, c, nil, 3000)
	}
	for _, err := range []api.Errno{api.OK, api.ErrOp, api.ErrStack, api.ErrGas, api.ErrMuch, api.ErrJump, api.ErrRevert} {
		if seen[err] < 20 {
			t.Errorf("of all only %d end with %d", seen[err], err)
		}
	}
}

func TestEachPairOfBytes(t *testing.T) { // P1: behind some words
	words := assembled(t, "push1 0x01; push1 0x02; push1 0x29; push1 0x03")
	for i := range 256 {
		for j := range 256 {
			isRun(t, append(slices.Clone(words), byte(i), byte(j)), []byte("input"), 100+uint64(i))
			isRun(t, []byte{byte(i), byte(j)}, nil, uint64(j))
		}
	}
}

func TestOnlyRead(t *testing.T) { // Z2: what is handed in, and the room behind it
	c := assembled(t, "push1 0x05; push1 0x00; push1 0x00; incopy; push1 0x01; inword; push1 0x05; store; push2 0x01")
	space := append(slices.Clone(c), bytes.Repeat([]byte{0x5b}, 50)...)
	text := []byte("input and more")
	r := isRun(t, space[:len(c)], text[:5], plenty)
	if !bytes.Equal(space, append(slices.Clone(c), bytes.Repeat([]byte{0x5b}, 50)...)) || string(text) != "input and more" {
		t.Error("what was handed in is changed")
	}
	// What stands behind the code and behind the input is not looked at.
	if other := Run(slices.Clip(slices.Clone(c)), []byte("input"), plenty); !same(r, other) {
		t.Errorf("with room behind it ends with %v, without with %v", r, other)
	}
	jump := append(assembled(t, "push1 0x03; jump"), 0x5b)
	if got := isRun(t, jump[:3], nil, plenty); got.Err != api.ErrJump {
		t.Errorf("a jump behind the code's end ends with %v", got)
	}
}

func TestAnswersAreNewMemory(t *testing.T) { // Z2
	c := assembled(t, "push1 0x05; push1 0x00; push1 0x00; incopy; push1 0x05; push1 0x00; return")
	input := []byte("input")
	r, again := Run(c, input, plenty), Run(c, input, plenty)
	if share(r.Out, again.Out) || share(r.Out, input) || share(r.Out, c) {
		t.Error("an Out shares memory with something else")
	}
	again.Out = append(again.Out, "more"...)
	clear(again.Out)
	if string(r.Out) != "input" {
		t.Errorf("what was answered has become %q", r.Out)
	}
}

func TestNothingIsKept(t *testing.T) { // Z1, Z2
	c, input := assembled(t, "push1 0x20; push1 0x00; return"), []byte("input")
	put := assembled(t, "push1 0x05; push1 0x00; push1 0x00; incopy; push1 0x05; push1 0x00; return")
	r := Run(put, input, plenty)
	clear(put)
	clear(input)
	if string(r.Out) != "input" {
		t.Errorf("what was answered has become %q", r.Out)
	}
	if got := Run(c, nil, 9); !same(got, api.Result{Out: make([]byte, 32)}) {
		t.Errorf("a frame has something of another one: %v", got)
	}
}

func TestLongCode(t *testing.T) { // Z1: gone through anew at each jump it would not end in time
	c := append(assembled(t, "push3 0x01869f; land; push1 0x01; swap1; sub; dup1; push1 0x04; branch; stop"), bytes.Repeat([]byte{0x5b, 0x60}, 1<<20)...)
	want := uint64(3 + 0x01869f*(1+3+3+3+3+3+10))
	if got := Run(c, nil, want+5); !same(got, api.Result{Gas: 5}) {
		t.Errorf("it ends with %v", got)
	}
	if got := Run(c, make([]byte, 1<<24), want-1); !same(got, api.Result{Err: api.ErrGas}) {
		t.Errorf("it ends with %v", got)
	}
	pushes := append(bytes.Repeat([]byte{0x61, 0x5b, 0x5b, 0x50}, 1<<18), 0x5a)
	if got := Run(pushes, nil, 5<<18+2); !same(got, api.Result{}) {
		t.Errorf("it ends with %v", got)
	}
}

// desk is a host with one operation of its own: it gives twice the word that it takes, for 4 gas more.
type desk struct {
	f *Frame
}

func (d desk) Operation(op byte) Operation {
	if op != api.OpSlot {
		return Operation{}
	}
	return Operation{1, 1, func() {
		a := d.f.Pop()
		d.f.Pay(4)
		if a == (api.Word{}) {
			Fail(api.ErrStill)
		}
		d.f.Push(word.Add(a, a))
	}}
}

func TestHost(t *testing.T) { // P1: what hangs on a world is asked of the host, in the same order
	run := func(gas uint64, text string) api.Result {
		f := New(assembled(t, text), nil, gas)
		return f.Run(desk{f})
	}
	cost := 3 + price.Op(api.OpSlot) + 4
	for _, c := range []struct {
		text string
		gas  uint64
		want api.Result
	}{
		{"push1 0x15; slot", cost, api.Result{}}, {"push1 0x15; slot", cost + 9, api.Result{Gas: 9}}, {"push1 0x15; slot", cost - 1, api.Result{Err: api.ErrGas}},
		{"push1 0x15; slot", cost - 5, api.Result{Err: api.ErrGas}}, {"slot", 0, api.Result{Err: api.ErrStack}}, {"push1 0x00; slot", cost + 9, api.Result{Err: api.ErrStill}},
		{"push1 0x15; slot; push1 0x00; store; push1 0x20; push1 0x00; return", cost + 15, api.Result{Out: word32(42)}}, {"keep", plenty, api.Result{Err: api.ErrOp}}, {"0x0c", plenty, api.Result{Err: api.ErrOp}},
	} {
		if got := run(c.gas, c.text); !same(got, c.want) {
			t.Errorf("%q with %d gas ends with %v, not %v", c.text, c.gas, got, c.want)
		}
	}
}

// broken is a host whose operations panic with what is no frame's end.
type broken struct{}

func (broken) Operation(byte) Operation { return Operation{Do: func() { panic("other") }} }

func TestOtherPanics(t *testing.T) { // a frame catches its own alone
	defer func() {
		if p := recover(); p != "other" {
			t.Errorf("what comes out is %v", p)
		}
	}()
	New([]byte{0x30}, nil, plenty).Run(broken{})
	t.Error("it ends")
}

func FuzzRun(f *testing.F) { // P1 to P5, Z1
	f.Add([]byte{0x60, 7, 0x60, 0, 0x52, 0x60, 32, 0x60, 0, 0xf2}, []byte("input"), uint64(100))
	f.Add([]byte{0x60, 1, 0x60, 6, 0x57, 0x00, 0x5b, 0x58}, []byte{}, uint64(1000))
	f.Fuzz(func(t *testing.T, c, input []byte, gas uint64) {
		isRun(t, c, input, gas%5000)
	})
}
