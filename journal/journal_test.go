package journal

import (
	"bytes"
	"math"
	"slices"
	"testing"

	"lampbearer/api"
)

const full = 1<<64 - 1

func set(key, value uint64) api.JOp { return api.JOp{Kind: api.JSet, Key: key, Value: value} }

func get(key uint64) api.JOp { return api.JOp{Kind: api.JGet, Key: key} }

func mark() api.JOp { return api.JOp{Kind: api.JMark} }

func back() api.JOp { return api.JOp{Kind: api.JBack} }

func keep() api.JOp { return api.JOp{Kind: api.JKeep} }

// values are answers without an error.
func values(l ...uint64) []api.JAns {
	var out []api.JAns
	for _, n := range l {
		out = append(out, api.JAns{Value: n})
	}
	return out
}

// pairsOf are keys and values, one behind the other.
func pairsOf(l ...uint64) []api.JPair {
	var out []api.JPair
	for i := 0; i < len(l); i += 2 {
		out = append(out, api.JPair{Key: l[i], Value: l[i+1]})
	}
	return out
}

// leaves is whether ops leave those pairs, and answer nothing but what the slow form does.
func leaves(t *testing.T, want []api.JPair, ops ...api.JOp) {
	t.Helper()
	if _, pairs := isPlay(t, ops...); !slices.Equal(pairs, want) {
		t.Errorf("%v leaves %v, not %v", ops, pairs, want)
	}
}

// answersAre is whether ops answer that.
func answersAre(t *testing.T, want []api.JAns, ops ...api.JOp) {
	t.Helper()
	if answers, _ := isPlay(t, ops...); !slices.Equal(answers, want) {
		t.Errorf("%v answers %v, not %v", ops, answers, want)
	}
}

func TestNoOps(t *testing.T) { // N1, Z3
	for _, ops := range [][]api.JOp{nil, {}, make([]api.JOp, 0, 5)} {
		if a, p := Play(ops); len(a) != 0 || len(p) != 0 {
			t.Errorf("no ops answer %v and %v", a, p)
		}
	}
}

func TestExample(t *testing.T) { // N1, and example 14: it is what it was set to first
	a, p := isPlay(t, set(1, 7), mark(), set(1, 8), get(1), back(), get(1))
	if !slices.Equal(a, values(0, 1, 0, 8, 0, 7)) || !slices.Equal(p, pairsOf(1, 7)) {
		t.Errorf("%v comes, and %v", a, p)
	}
}

func TestSetAndGet(t *testing.T) { // N1
	answersAre(t, values(0, 0, 4, 0, 0, 5, 0), get(3), set(3, 4), get(3), get(4), set(3, 5), get(3), get(4))
	answersAre(t, values(0, 0, full, 0, full-1), set(0, full), set(full, full-1), get(0), get(1), get(full))
}

func TestSetToNone(t *testing.T) { // N1: 0 is none, and nothing of it is left at the end
	answersAre(t, values(0, 0, 0, 0, 0, 6), set(3, 4), set(3, 0), get(3), set(5, 0), set(3, 6), get(3))
	leaves(t, nil, set(3, 4), set(3, 0))
	leaves(t, nil, set(3, 0))
	leaves(t, pairsOf(2, 1), set(1, 1), set(2, 1), set(1, 0), set(3, 0))
	leaves(t, pairsOf(3, 6), set(3, 4), set(3, 0), set(3, 6))
}

func TestPairsInOrder(t *testing.T) { // N1: the lesser first, as numbers without a sign
	keys := []uint64{1 << 63, 0, full, 1<<63 - 1, 256, 255, 1, 1 << 32, 1<<32 - 1, 10, 9, 1<<63 + 1, full - 1}
	var ops []api.JOp
	for i, key := range keys {
		ops = append(ops, set(key, uint64(i+1)))
	}
	_, p := isPlay(t, ops...)
	if len(p) != len(keys) {
		t.Fatalf("%d pairs come, of %d keys", len(p), len(keys))
	}
	for i, x := range p {
		if i > 0 && p[i-1].Key >= x.Key || keys[x.Value-1] != x.Key {
			t.Errorf("pair %d is %v, in %v", i, x, p)
		}
	}
	slices.Reverse(ops)
	if _, other := isPlay(t, ops...); !slices.Equal(other, p) {
		t.Errorf("set the other way round, %v comes, not %v", other, p)
	}
}

func TestSameEachTime(t *testing.T) { // Z1: whatever the order in which the keys lie
	var ops []api.JOp
	for i := range uint64(500) {
		ops = append(ops, set(i*i*7919%1009, i+1))
	}
	a, p := isPlay(t, ops...)
	for range 20 {
		if b, q := Play(ops); !slices.Equal(a, b) || !slices.Equal(p, q) {
			t.Fatal("the same ops come to something else")
		}
	}
}

func TestMarksAreCounted(t *testing.T) { // N1
	answersAre(t, values(1, 2, 3, 2, 1, 2, 1, 0, 1, 0), mark(), mark(), mark(), back(), keep(), mark(), keep(), back(), mark(), keep())
}

func TestNoMark(t *testing.T) { // N1: ErrNone, and nothing is changed
	none := api.JAns{Err: api.ErrNone}
	for _, op := range []api.JOp{back(), keep()} {
		answersAre(t, []api.JAns{none}, op)
		answersAre(t, []api.JAns{none, none, {Value: 1}, {}, none, {Value: 1}}, op, op, mark(), op, op, mark())
		answersAre(t, []api.JAns{{}, none, {Value: 2}}, set(1, 2), op, get(1))
		leaves(t, pairsOf(1, 2, 3, 4), set(1, 2), op, set(3, 4), op)
		leaves(t, pairsOf(1, 3), mark(), set(1, 3), keep(), op, keep(), back())
		leaves(t, pairsOf(1, 2), set(1, 2), mark(), set(1, 3), back(), op)
	}
}

func TestBack(t *testing.T) { // N1: all keys have again what they had
	for _, c := range []struct{ first, last uint64 }{{0, 0}, {0, 5}, {5, 0}, {5, 5}, {5, 6}, {full, 1}} {
		want := pairsOf(1, c.first)
		if c.first == 0 {
			want = nil
		}
		leaves(t, want, set(1, c.first), mark(), set(1, c.last), back())
		leaves(t, want, set(1, c.first), mark(), back())
		leaves(t, want, set(1, c.first), mark(), set(1, c.last), set(1, 9), set(1, 0), set(1, c.last), back())
		answersAre(t, values(0, 1, 0, c.last, 0, c.first), set(1, c.first), mark(), set(1, c.last), get(1), back(), get(1))
	}
	leaves(t, pairsOf(1, 10, 3, 30), set(1, 10), set(3, 30), mark(), set(1, 11), set(2, 21), set(3, 0), set(2, 22), set(1, 0), set(1, 12), back())
}

func TestBackByTheLastMark(t *testing.T) { // N1: one after the other, the latest first
	ops := []api.JOp{set(1, 1), mark(), set(1, 2), set(2, 2), mark(), set(1, 3), set(2, 0), mark(), set(1, 4), set(3, 4)}
	for n, want := range [][]api.JPair{pairsOf(1, 4, 3, 4), pairsOf(1, 3), pairsOf(1, 2, 2, 2), pairsOf(1, 1), pairsOf(1, 1)} {
		leaves(t, want, slices.Concat(ops, slices.Repeat([]api.JOp{back()}, n))...)
	}
}

func TestBackAndOn(t *testing.T) { // N1: the mark is gone, and what comes behind it is the one's ahead
	leaves(t, pairsOf(1, 1, 2, 5), mark(), set(1, 1), mark(), set(1, 2), back(), set(2, 5))
	leaves(t, nil, mark(), set(1, 1), mark(), set(1, 2), back(), set(2, 5), back())
	leaves(t, pairsOf(2, 5), mark(), set(1, 1), back(), set(2, 5), back())
	leaves(t, pairsOf(1, 1), set(1, 1), mark(), set(1, 2), back(), mark(), set(1, 3), back(), mark(), set(1, 0), back())
}

func TestKeep(t *testing.T) { // N1: nothing is changed by it
	leaves(t, pairsOf(1, 3, 2, 2), set(1, 1), mark(), set(1, 2), set(2, 2), keep(), set(1, 3))
	leaves(t, pairsOf(2, 2), set(1, 1), mark(), set(1, 0), set(2, 2), keep())
	answersAre(t, values(0, 1, 0, 0, 2), set(1, 1), mark(), set(1, 2), keep(), get(1))
}

func TestKeepWithin(t *testing.T) { // N1: what was done since counts as done since the one ahead
	leaves(t, pairsOf(1, 1), set(1, 1), mark(), mark(), set(1, 2), set(2, 2), keep(), back())
	leaves(t, pairsOf(1, 1), set(1, 1), mark(), set(1, 2), mark(), set(1, 3), keep(), set(1, 4), back())
	leaves(t, pairsOf(1, 2), set(1, 1), mark(), set(1, 2), mark(), set(1, 3), mark(), set(1, 4), keep(), back())
	leaves(t, pairsOf(1, 1), set(1, 1), mark(), mark(), mark(), set(1, 2), keep(), keep(), back())
	leaves(t, pairsOf(1, 2), set(1, 1), mark(), mark(), mark(), set(1, 2), keep(), keep(), keep())
	leaves(t, pairsOf(1, 2), mark(), set(1, 2), mark(), set(1, 3), back(), keep())
	leaves(t, nil, mark(), set(1, 2), mark(), set(1, 3), back(), mark(), set(3, 3), keep(), back())
}

func TestKeepTheFirst(t *testing.T) { // N1: what is kept to the end no later mark takes back
	leaves(t, pairsOf(1, 2), set(1, 1), mark(), set(1, 2), keep(), mark(), set(1, 3), set(2, 2), back(), back())
	leaves(t, pairsOf(1, 2, 5, 5), set(1, 1), mark(), set(1, 2), keep(), set(5, 5), mark(), back())
}

func TestMarksAtTheEnd(t *testing.T) { // N1: what is there counts, though it might be taken back
	leaves(t, pairsOf(1, 3, 4, 4), set(1, 1), set(2, 2), mark(), set(1, 2), mark(), set(2, 0), set(1, 3), set(4, 4))
	leaves(t, pairsOf(1, 1), set(1, 1), mark(), mark())
}

func TestAnotherKind(t *testing.T) { // N1, Z5: whatever stands in its fields
	ahead := []api.JOp{set(1, 1), mark(), set(1, 2), set(2, 2), mark(), set(2, 3)}
	behind := []api.JOp{get(1), get(2), back(), get(2), keep(), get(1), back()}
	want, wantPairs := isPlay(t, slices.Concat(ahead, behind)...)
	for _, kind := range []int{0, -1, 6, 7, 256 + 1, 1<<16 + 4, 1<<32 + 1, -api.JSet, -api.JBack, math.MinInt, math.MinInt + 1, math.MaxInt} {
		for _, op := range []api.JOp{{Kind: kind}, {Kind: kind, Key: 1, Value: 9}, {Kind: kind, Key: full, Value: full}} {
			a, p := isPlay(t, slices.Concat(ahead, []api.JOp{op}, behind)...)
			if a[len(ahead)] != (api.JAns{Err: api.ErrKind}) {
				t.Fatalf("%v answers %v", op, a[len(ahead)])
			}
			if !slices.Equal(slices.Delete(a, len(ahead), len(ahead)+1), want) || !slices.Equal(p, wantPairs) {
				t.Fatalf("%v has changed something", op)
			}
		}
	}
}

func TestFieldsThatMeanNothing(t *testing.T) { // Z5
	plain := []api.JOp{set(1, 1), mark(), set(1, 2), mark(), set(1, 3), keep(), get(1), back(), get(1), mark(), keep()}
	stuffed := slices.Clone(plain)
	for i := range stuffed {
		if stuffed[i].Kind != api.JSet {
			stuffed[i].Value = 77
		}
		if stuffed[i].Kind > api.JGet {
			stuffed[i].Key = 1
		}
	}
	a, p := isPlay(t, plain...)
	if b, q := isPlay(t, stuffed...); !slices.Equal(a, b) || !slices.Equal(p, q) {
		t.Errorf("%v comes, and %v, for fields that mean nothing", b, q)
	}
}

func TestEachBeginning(t *testing.T) { // N1: in turn, so that what comes behind changes no answer
	ops := []api.JOp{set(1, 1), mark(), set(2, 2), get(2), mark(), set(1, 0), get(1), keep(), get(1), back(), get(1), back(), {}, get(2)}
	all, _ := isPlay(t, ops...)
	for n := range len(ops) + 1 {
		if a, _ := isPlay(t, ops[:n]...); !slices.Equal(a, all[:n]) {
			t.Errorf("the first %d ops answer %v by themselves", n, a)
		}
	}
}

func TestTakenBackLeavesNoTrace(t *testing.T) { // N1: whatever stood between the mark and its end
	ahead := []api.JOp{set(1, 1), mark(), set(2, 2)}
	behind := []api.JOp{get(1), get(2), get(3), back(), get(2)}
	want, wantPairs := isPlay(t, slices.Concat(ahead, behind)...)
	for _, seed := range seeds(200) {
		inner := nested(opsFrom(seed))
		a, p := isPlay(t, slices.Concat(ahead, []api.JOp{mark()}, inner, []api.JOp{back()}, behind)...)
		if !slices.Equal(a[len(a)-len(behind):], want[len(ahead):]) || !slices.Equal(p, wantPairs) {
			t.Fatalf("%v, taken back, leaves %v", inner, p)
		}
	}
}

// nested is ops without those that reach a mark that isn't theirs, and with all of their marks kept.
func nested(ops []api.JOp) []api.JOp {
	var out []api.JOp
	depth := 0
	for _, op := range ops {
		if op.Kind == api.JMark {
			depth++
		}
		if op.Kind == api.JBack || op.Kind == api.JKeep {
			if depth == 0 {
				continue
			}
			depth--
		}
		out = append(out, op)
	}
	return append(out, slices.Repeat([]api.JOp{keep()}, depth)...)
}

// opsFrom makes ops of bytes, with few keys, so that they meet.
func opsFrom(b []byte) []api.JOp {
	keys := []uint64{0, 1, 2, 3, full, 1 << 63}
	kinds := []int{api.JSet, api.JSet, api.JSet, api.JSet, api.JGet, api.JGet, api.JMark, api.JMark, api.JMark, api.JBack, api.JBack, api.JKeep, api.JKeep, 0, 6}
	var ops []api.JOp
	for i := 0; i+1 < len(b); i += 2 {
		ops = append(ops, api.JOp{
			Kind:  kinds[int(b[i])%len(kinds)],
			Key:   keys[int(b[i+1])%len(keys)],
			Value: uint64(b[i+1]/8) % 5,
		})
	}
	return ops
}

// seeds are texts of bytes, the same ones each time.
func seeds(count int) [][]byte {
	n := uint64(1)
	var out [][]byte
	for i := range count {
		var b []byte
		for range 2 * (i%97 + 1) {
			n = n*6364136223846793005 + 1442695040888963407
			b = append(b, byte(n>>40))
		}
		out = append(out, b)
	}
	return out
}

func TestSpread(t *testing.T) { // N1
	for _, b := range seeds(3000) {
		isPlay(t, opsFrom(b)...)
	}
}

func TestAllShort(t *testing.T) { // N1: all of up to six ops of nine
	each := []api.JOp{set(1, 1), set(1, 2), set(1, 0), set(2, 1), mark(), back(), keep(), get(1), {}}
	var all func(ops []api.JOp)
	all = func(ops []api.JOp) {
		isPlay(t, ops...)
		if len(ops) == 6 || testing.Short() && len(ops) == 4 {
			return
		}
		for _, op := range each {
			all(append(slices.Clip(ops), op))
		}
	}
	all(nil)
}

func TestOnlyRead(t *testing.T) { // Z2
	ops := make([]api.JOp, 4, 6)
	ops[0], ops[1], ops[2], ops[3] = set(2, 5), mark(), set(2, 6), set(1, 1)
	ops[:6][4], ops[:6][5] = back(), set(9, 9)
	want := slices.Clone(ops[:6])
	a, p := Play(ops)
	if !slices.Equal(ops[:6], want) || len(a) != 4 || !slices.Equal(p, pairsOf(1, 1, 2, 6)) {
		t.Error("what was handed in is changed, or what stands behind it is looked at")
	}
}

func TestNothingIsKept(t *testing.T) { // Z1, Z2
	ops := []api.JOp{set(1, 5), mark(), set(2, 6), get(1)}
	a, p := Play(ops)
	clear(ops)
	if !slices.Equal(a, values(0, 1, 0, 5)) || !slices.Equal(p, pairsOf(1, 5, 2, 6)) {
		t.Error("what was handed in is kept")
	}
	if b, q := Play([]api.JOp{get(1), back(), mark()}); !slices.Equal(b, []api.JAns{{}, {Err: api.ErrNone}, {Value: 1}}) || len(q) != 0 {
		t.Errorf("a journal has something of another one: %v and %v", b, q)
	}
	clear(a)
	clear(p)
	if b, q := Play([]api.JOp{set(1, 5)}); !slices.Equal(b, values(0)) || !slices.Equal(q, pairsOf(1, 5)) {
		t.Errorf("answers share something: %v and %v", b, q)
	}
}

func TestVeryDeep(t *testing.T) { // N1, Z1: as many marks as parts may be nested in one another, and more
	const depth = 1 << 18
	var ops []api.JOp
	for i := range uint64(depth) {
		ops = append(ops, set(i%1000, i+1), mark())
	}
	ops = append(ops, slices.Repeat([]api.JOp{back()}, depth/2)...)
	ops = append(ops, slices.Repeat([]api.JOp{keep()}, depth/2)...)
	a, p := Play(append(ops, back()))
	if len(a) != 3*depth+1 || a[2*depth-1].Value != depth || a[3*depth-1] != (api.JAns{}) || a[3*depth].Err != api.ErrNone || len(p) != 1000 {
		t.Fatalf("%d answers, and %d pairs", len(a), len(p))
	}
	for _, x := range p {
		// What was set last ahead of the mark in the middle.
		if want := (depth/2-x.Key)/1000*1000 + x.Key + 1; x.Value != want {
			t.Fatalf("%d has %d, not %d", x.Key, x.Value, want)
		}
	}
}

func TestVeryManyValues(t *testing.T) { // N1, Z1: a mark costs nothing of the values that are there
	const count = 1 << 16
	var ops []api.JOp
	for i := range uint64(count) {
		ops = append(ops, set(i, i+1))
	}
	for i := range uint64(count) {
		ops = append(ops, mark(), set(i, 0), []api.JOp{back(), keep()}[i%2])
	}
	a, p := Play(ops)
	if len(a) != 4*count || len(p) != count/2 {
		t.Fatalf("%d answers, and %d pairs", len(a), len(p))
	}
	for i, x := range p {
		if x != (api.JPair{Key: uint64(2 * i), Value: uint64(2*i + 1)}) {
			t.Fatalf("pair %d is %v", i, x)
		}
	}
}

func FuzzPlay(f *testing.F) { // N1, Z1
	f.Add([]byte{0, 1, 6, 0, 0, 9, 9, 0, 4, 1})
	f.Add(bytes.Repeat([]byte{6, 0, 0, 17, 11, 0, 9, 1, 1, 40}, 3))
	f.Fuzz(func(t *testing.T, b []byte) {
		isPlay(t, opsFrom(b)...)
	})
}
