package memory

import (
	"bytes"
	"math/big"
	"slices"
	"testing"

	"lampbearer/api"
)

// slow is a memory by the chapter's words: bytes by their places, and how many words there are.
type slow struct {
	bytes map[int]byte
	words int
}

// number is a as a whole number without end.
func number(a api.Word) *big.Int {
	n := new(big.Int)
	for i := range a {
		n.Add(n, new(big.Int).Lsh(new(big.Int).SetUint64(a[i]), uint(64*i)))
	}
	return n
}

// slowCost is K1's number by rounding a whole fraction down.
func slowCost(words int) uint64 {
	if words < 0 || words > 128 {
		return 0
	}
	n := big.NewInt(int64(words))
	square := new(big.Int).Mul(n, n)
	square.Div(square, big.NewInt(64))
	return square.Add(square, n.Mul(n, big.NewInt(3))).Uint64()
}

// fits is whether n bytes at a place may be touched.
func fits(at, n *big.Int) bool {
	return n.Sign() == 0 || new(big.Int).Add(at, n).Cmp(big.NewInt(4096)) <= 0
}

// touch grows by one word at a time, until there is the last byte of n at a place.
func (s *slow) touch(at, n *big.Int) {
	if n.Sign() == 0 {
		return
	}
	end := new(big.Int).Add(at, n)
	for big.NewInt(int64(32*s.words)).Cmp(end) < 0 {
		s.words++
	}
}

// places are what op touches: pairs of a place and a length; nil for another Kind.
func places(op api.MemOp) [][2]*big.Int {
	at := number(op.At)
	switch op.Kind {
	case 1, 2:
		return [][2]*big.Int{{at, big.NewInt(32)}}
	case 3:
		return [][2]*big.Int{{at, big.NewInt(1)}}
	case 4:
		return [][2]*big.Int{{at, number(op.Len)}, {number(op.From), number(op.Len)}}
	case 5:
		return [][2]*big.Int{{at, big.NewInt(int64(len(op.Data)))}}
	}
	return nil
}

// digits are the 32 bytes of a, the greatest first.
func digits(a api.Word) []byte {
	return number(a).FillBytes(make([]byte, 32))
}

// read is n bytes at a place, as they are now.
func (s *slow) read(at, n int) []byte {
	var out []byte
	for i := range n {
		out = append(out, s.bytes[at+i])
	}
	return out
}

func (s *slow) write(at int, b []byte) {
	for i, x := range b {
		s.bytes[at+i] = x
	}
}

func (s *slow) do(op api.MemOp) api.MemAns {
	touched := places(op)
	if touched == nil {
		return api.MemAns{Err: api.ErrKind}
	}
	for _, p := range touched {
		if !fits(p[0], p[1]) {
			return api.MemAns{Err: api.ErrMuch}
		}
	}
	before := slowCost(s.words)
	for _, p := range touched {
		s.touch(p[0], p[1])
	}
	ans := api.MemAns{Cost: slowCost(s.words) - before}
	at := int(op.At[0])
	switch op.Kind {
	case 1:
		n := new(big.Int).SetBytes(s.read(at, 32))
		for i := range ans.Word {
			ans.Word[i] = new(big.Int).Rsh(n, uint(64*i)).Uint64() // rest 2^64
		}
	case 2:
		s.write(at, digits(op.Word))
	case 3:
		s.write(at, digits(op.Word)[31:])
	case 4:
		s.write(at, s.read(int(op.From[0]), int(op.Len[0])))
	case 5:
		s.write(at, op.Data)
	}
	return ans
}

func slowPlay(ops []api.MemOp) ([]api.MemAns, []byte) {
	s := &slow{bytes: map[int]byte{}}
	var answers []api.MemAns
	for _, op := range ops {
		answers = append(answers, s.do(op))
	}
	return answers, s.read(0, 32*s.words)
}

// isPlay holds Play against the slow form, and what it answers against what must hold of any memory.
func isPlay(t *testing.T, ops ...api.MemOp) ([]api.MemAns, []byte) {
	t.Helper()
	got, b := Play(ops)
	want, wantBytes := slowPlay(ops)
	if !slices.Equal(got, want) {
		t.Fatalf("%v answers\n%v, not\n%v", ops, got, want)
	}
	if !bytes.Equal(b, wantBytes) {
		t.Fatalf("%v leaves\n%v, not\n%v", ops, b, wantBytes)
	}
	var paid uint64
	for _, a := range got {
		paid += a.Cost
	}
	if len(b)%32 != 0 || len(b) > 4096 || paid != slowCost(len(b)/32) {
		t.Fatalf("%v leaves %d bytes, for %d in all", ops, len(b), paid)
	}
	return got, b
}
