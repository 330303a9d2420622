package frame

import (
	"bytes"
	"math/big"
	"strconv"
	"strings"
	"testing"
	"unsafe"

	"lampbearer/api"
	"lampbearer/code"
	"lampbearer/sponge"
	"lampbearer/word"
)

// shapes are the operations by chapter 16's words: name, words taken, words given, and chapter 13's price.
const shapes = `stop 0 0 0, add 2 1 3, mul 2 1 5, sub 2 1 3, div 2 1 5, sdiv 2 1 5, mod 2 1 5, smod 2 1 5, addmod 3 1 8, mulmod 3 1 8, exp 2 1 10, extend 2 1 5,
lt 2 1 3, gt 2 1 3, slt 2 1 3, sgt 2 1 3, eq 2 1 3, zero 1 1 3, and 2 1 3, or 2 1 3, xor 2 1 3, not 1 1 3, byte 2 1 3, shl 2 1 3, shr 2 1 3, sar 2 1 3,
sum 2 1 30, inword 1 1 3, insize 0 1 2, incopy 3 0 3, codesize 0 1 2, pop 1 0 2, load 1 1 3, store 2 0 3, store8 2 0 3, jump 1 0 8, branch 2 0 10,
pc 0 1 2, size 0 1 2, gas 0 1 2, land 0 0 1, return 2 0 0, revert 2 0 0`

// beyond are the operations that hang on a world.
const beyond = " self money caller value backsize backcopy time number keeper slot keep log0 log1 log2 make call look lend "

type shape struct {
	takes, gives int
	price        uint64
}

func slowShapes() map[string]shape {
	all := map[string]shape{}
	for _, line := range strings.Split(strings.ReplaceAll(shapes, "\n", " "), ", ") {
		parts := strings.Fields(line)
		var n [3]int
		for i := range n {
			n[i], _ = strconv.Atoi(parts[i+1])
		}
		all[parts[0]] = shape{n[0], n[1], uint64(n[2])}
	}
	for n := 1; n <= 32; n++ {
		all["push"+strconv.Itoa(n)] = shape{0, 1, 3}
	}
	for n := 1; n <= 16; n++ {
		all["dup"+strconv.Itoa(n)] = shape{n, n + 1, 3}
		all["swap"+strconv.Itoa(n)] = shape{n + 1, n + 1, 3}
	}
	return all
}

var shapeOf = slowShapes()

// slow is a frame by the chapter's words: numbers without end, and bytes by their places.
type slow struct {
	code, input []byte
	at, next    int
	gas         *big.Int
	stack       []*big.Int // the top one last
	bytes       map[int]byte
	words       int
}

// over is how a slow frame ends ahead of its code's end.
type over struct {
	err api.Errno
	out []byte
}

var (
	whole = new(big.Int).Lsh(big.NewInt(1), 256)
	half  = new(big.Int).Lsh(big.NewInt(1), 255)
)

func big64(n uint64) *big.Int { return new(big.Int).SetUint64(n) }

// number is a as a whole number without end.
func number(a api.Word) *big.Int {
	h := word.Bytes(a)
	return new(big.Int).SetBytes(h[:])
}

// toWord is n, rest 2^256.
func toWord(n *big.Int) api.Word {
	return word.Read(new(big.Int).Mod(n, whole).FillBytes(make([]byte, 32)))
}

// signed is what n stands for with a sign.
func signed(n *big.Int) *big.Int {
	if n.Cmp(half) >= 0 {
		return new(big.Int).Sub(n, whole)
	}
	return n
}

func (s *slow) pay(n uint64) {
	if s.gas.Cmp(big64(n)) < 0 {
		panic(over{err: api.ErrGas})
	}
	s.gas.Sub(s.gas, big64(n))
}

func (s *slow) take() *big.Int {
	top := s.stack[len(s.stack)-1]
	s.stack = s.stack[:len(s.stack)-1]
	return top
}

func (s *slow) give(n *big.Int) { s.stack = append(s.stack, new(big.Int).Mod(n, whole)) }

func (s *slow) giveWhether(so bool) {
	if so {
		s.give(big.NewInt(1))
		return
	}
	s.give(new(big.Int))
}

// touch touches n bytes at, for so much more a word of these, and answers where they are.
func (s *slow) touch(at, n *big.Int, perWord uint64) (from, to int) {
	if n.Sign() == 0 {
		s.pay(0)
		return 0, 0
	}
	end := new(big.Int).Add(at, n)
	if end.Cmp(big.NewInt(4096)) > 0 {
		panic(over{err: api.ErrMuch})
	}
	was := uint64(s.words)
	for big.NewInt(int64(32*s.words)).Cmp(end) < 0 {
		s.words++
	}
	is := uint64(s.words)
	s.pay(3*is + is*is/64 - 3*was - was*was/64 + perWord*((n.Uint64()+31)/32))
	return int(at.Int64()), int(end.Int64())
}

func (s *slow) read(from, to int) []byte {
	var out []byte
	for ; from < to; from++ {
		out = append(out, s.bytes[from])
	}
	return out
}

// inputAt is byte at of the input, and 0 beyond its end.
func (s *slow) inputAt(at *big.Int) byte {
	if at.Cmp(big.NewInt(int64(len(s.input)))) >= 0 {
		return 0
	}
	return s.input[at.Int64()]
}

// slowLands is whether to is a place at which there is a land that no push has behind it.
func (s *slow) slowLands(to *big.Int) bool {
	for at := 0; at < len(s.code); at++ {
		switch op := s.code[at]; {
		case 0x60 <= op && op <= 0x7f:
			at += int(op) - 0x5f
		case op == 0x5b && to.Cmp(big.NewInt(int64(at))) == 0:
			return true
		}
	}
	return false
}

func (s *slow) jump(to *big.Int) {
	if !s.slowLands(to) {
		panic(over{err: api.ErrJump})
	}
	s.next = int(to.Int64())
}

func (s *slow) end(err api.Errno) {
	at, n := s.take(), s.take()
	from, to := s.touch(at, n, 0)
	panic(over{err, s.read(from, to)})
}

func (s *slow) step() {
	op := s.code[s.at]
	name := code.Name(op)
	if name == "" || strings.Contains(beyond, " "+name+" ") {
		panic(over{err: api.ErrOp})
	}
	sh := shapeOf[name]
	if len(s.stack) < sh.takes || len(s.stack)-sh.takes+sh.gives > 64 {
		panic(over{err: api.ErrStack})
	}
	s.pay(sh.price)
	s.next = s.at + 1
	switch {
	case strings.HasPrefix(name, "push"):
		s.push(int(op) - 0x5f)
	case strings.HasPrefix(name, "dup"):
		s.give(s.stack[len(s.stack)-int(op-0x7f)])
	case strings.HasPrefix(name, "swap"):
		top, other := len(s.stack)-1, len(s.stack)-1-int(op-0x8f)
		s.stack[top], s.stack[other] = s.stack[other], s.stack[top]
	case sh.takes == 3 && sh.gives == 1:
		s.mod3(name, s.take(), s.take(), s.take())
	case sh.takes == 2 && sh.gives == 1 && name != "sum":
		a, b := s.take(), s.take()
		if !s.reckon(name, a, b) {
			s.bit(name, a, b)
		}
	default:
		s.other(name)
	}
	s.at = s.next
}

func (s *slow) push(n int) {
	sum := new(big.Int)
	for i := range n {
		sum.Lsh(sum, 8)
		if s.at+1+i < len(s.code) {
			sum.Add(sum, big.NewInt(int64(s.code[s.at+1+i])))
		}
	}
	s.next = min(s.at+1+n, len(s.code))
	s.give(sum)
}

func (s *slow) mod3(name string, a, b, m *big.Int) {
	sum := new(big.Int)
	switch {
	case m.Sign() == 0:
	case name == "addmod":
		sum.Mod(new(big.Int).Add(a, b), m)
	case name == "mulmod":
		sum.Mod(new(big.Int).Mul(a, b), m)
	}
	s.give(sum)
}

// reckon does an operation of two words that are numbers; false, if it is none of these.
func (s *slow) reckon(name string, a, b *big.Int) bool {
	n := new(big.Int)
	divides := b.Sign() != 0
	switch name {
	case "add":
		n.Add(a, b)
	case "mul":
		n.Mul(a, b)
	case "sub":
		n.Sub(a, b)
	case "div":
		if divides {
			n.Div(a, b)
		}
	case "mod":
		if divides {
			n.Mod(a, b)
		}
	case "sdiv":
		if divides {
			n.Quo(signed(a), signed(b))
		}
	case "smod":
		if divides {
			n.Rem(signed(a), signed(b))
		}
	case "exp":
		s.pay(10 * uint64(len(b.Bytes())))
		n.Exp(a, b, whole)
	default:
		return false
	}
	s.give(n)
	return true
}

// bit does an operation of two words that holds them against each other, or works on their bits.
func (s *slow) bit(name string, a, b *big.Int) {
	n := new(big.Int)
	shift := uint(256)
	if a.Cmp(big.NewInt(256)) < 0 {
		shift = uint(a.Uint64())
	}
	switch name {
	case "lt":
		s.giveWhether(a.Cmp(b) < 0)
		return
	case "gt":
		s.giveWhether(a.Cmp(b) > 0)
		return
	case "slt":
		s.giveWhether(signed(a).Cmp(signed(b)) < 0)
		return
	case "sgt":
		s.giveWhether(signed(a).Cmp(signed(b)) > 0)
		return
	case "eq":
		s.giveWhether(a.Cmp(b) == 0)
		return
	case "and":
		n.And(a, b)
	case "or":
		n.Or(a, b)
	case "xor":
		n.Xor(a, b)
	case "byte":
		if shift < 32 {
			n.SetUint64(uint64(b.FillBytes(make([]byte, 32))[shift]))
		}
	case "shl":
		n.Lsh(b, shift)
	case "shr":
		n.Rsh(b, shift)
	case "sar":
		n.Rsh(signed(b), shift)
	case "extend":
		n.Set(b)
		if shift < 31 {
			size := new(big.Int).Lsh(big.NewInt(1), 8*(shift+1))
			n.Mod(b, size)
			if n.Bit(int(8*shift+7)) == 1 {
				n.Sub(n, size)
			}
		}
	}
	s.give(n)
}

func (s *slow) other(name string) {
	switch name {
	case "stop":
		panic(over{})
	case "zero":
		s.giveWhether(s.take().Sign() == 0)
	case "not":
		s.give(new(big.Int).Not(s.take()))
	case "insize":
		s.give(big64(uint64(len(s.input))))
	case "codesize":
		s.give(big64(uint64(len(s.code))))
	case "pop":
		s.take()
	case "jump":
		s.jump(s.take())
	case "branch":
		if to, c := s.take(), s.take(); c.Sign() != 0 {
			s.jump(to)
		}
	case "pc":
		s.give(big64(uint64(s.at)))
	case "size":
		s.give(big64(uint64(32 * s.words)))
	case "gas":
		s.give(s.gas)
	case "return":
		s.end(api.OK)
	case "revert":
		s.end(api.ErrRevert)
	default:
		s.touching(name)
	}
}

// touching does an operation on bytes, of the memory or of the input.
func (s *slow) touching(name string) {
	word32 := big.NewInt(32)
	switch name {
	case "sum":
		from, to := s.touch(s.take(), s.take(), 6)
		h := sponge.Sum(s.read(from, to))
		s.give(new(big.Int).SetBytes(h[:]))
	case "inword":
		at, n := s.take(), new(big.Int)
		for range 32 {
			n.Add(n.Lsh(n, 8), big.NewInt(int64(s.inputAt(at))))
			at = new(big.Int).Add(at, big.NewInt(1))
		}
		s.give(n)
	case "incopy":
		at, from, n := s.take(), s.take(), s.take()
		for to, end := s.touch(at, n, 3); to < end; to++ {
			s.bytes[to] = s.inputAt(from)
			from = new(big.Int).Add(from, big.NewInt(1))
		}
	case "load":
		from, to := s.touch(s.take(), word32, 0)
		s.give(new(big.Int).SetBytes(s.read(from, to)))
	case "store":
		at, a := s.take(), s.take()
		from, _ := s.touch(at, word32, 0)
		for i, x := range a.FillBytes(make([]byte, 32)) {
			s.bytes[from+i] = x
		}
	case "store8":
		at, a := s.take(), s.take()
		from, _ := s.touch(at, big.NewInt(1), 0)
		s.bytes[from] = a.FillBytes(make([]byte, 32))[31]
	}
}

func slowRun(code, input []byte, gas uint64) (r api.Result) {
	s := &slow{code: code, input: input, gas: big64(gas), bytes: map[int]byte{}}
	defer func() {
		p := recover()
		o, ok := p.(over)
		if !ok {
			panic(p)
		}
		r = api.Result{Err: o.err, Gas: s.gas.Uint64(), Out: o.out}
		if o.err != api.OK && o.err != api.ErrRevert {
			r = api.Result{Err: o.err}
		}
	}()
	for s.at < len(code) {
		s.step()
	}
	panic(over{})
}

func same(a, b api.Result) bool {
	return a.Err == b.Err && a.Gas == b.Gas && bytes.Equal(a.Out, b.Out)
}

// isRun holds Run against the slow form.
func isRun(t *testing.T, c, input []byte, gas uint64) api.Result {
	t.Helper()
	got, want := Run(c, input, gas), slowRun(c, input, gas)
	if !same(got, want) {
		t.Fatalf("%s with %x and %d gas ends with %v, not %v", lines(c), input, gas, got, want)
	}
	return got
}

func lines(c []byte) string { return strings.Join(code.Disassemble(c), "; ") }

// assembled is the code of lines between which semicolons stand.
func assembled(t *testing.T, text string) []byte {
	t.Helper()
	if text == "" {
		return nil
	}
	c, err := code.Assemble(strings.Split(text, "; "))
	if err != api.OK {
		t.Fatalf("%q is no code: %d", text, err)
	}
	return c
}

// room is where a list's memory begins and ends, the spare room behind it too.
func room(b []byte) (from, to uintptr) {
	from = uintptr(unsafe.Pointer(unsafe.SliceData(b)))
	return from, from + uintptr(cap(b))
}

func share(a, b []byte) bool {
	aFrom, aTo := room(a)
	bFrom, bTo := room(b)
	return aFrom < bTo && bFrom < aTo
}
