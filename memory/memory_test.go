package memory

import (
	"bytes"
	"math"
	"reflect"
	"slices"
	"testing"

	"lampbearer/api"
)

const full = 1<<64 - 1

// mixed is a word no two bytes of which are the same.
var mixed = api.Word{0x191a1b1c1d1e1f20, 0x1112131415161718, 0x090a0b0c0d0e0f10, 0x0102030405060708}

func w(n uint64) api.Word { return api.Word{n} }

func load(at api.Word) api.MemOp { return api.MemOp{Kind: api.MemLoad, At: at} }

func store(at, a api.Word) api.MemOp { return api.MemOp{Kind: api.MemStore, At: at, Word: a} }

func storeByte(at, a api.Word) api.MemOp { return api.MemOp{Kind: api.MemByte, At: at, Word: a} }

func copyOf(at, from, n api.Word) api.MemOp {
	return api.MemOp{Kind: api.MemCopy, At: at, From: from, Len: n}
}

func put(at api.Word, data []byte) api.MemOp {
	return api.MemOp{Kind: api.MemPut, At: at, Data: data}
}

// someBytes are n bytes, of which those near each other differ, and none is 0.
func someBytes(n int) []byte {
	b := make([]byte, n)
	for i := range b {
		b[i] = byte(1 + i%251)
	}
	return b
}

// farPlaces are places at which nothing can be touched.
func farPlaces() []api.Word {
	out := []api.Word{
		w(4096), w(4097), w(1 << 31), w(1<<31 - 1), w(1 << 32), w(1<<32 + 5), w(1 << 63), w(1<<63 - 1),
		w(full), w(full - 31), w(full - 32),
		{full, full, full, full}, {full - 31, full, full, full}, {full - 32, full, full, full}, {full - 4094, full, full, full},
	}
	for part := 1; part < 4; part++ {
		for _, low := range []uint64{0, 1, 64, full} {
			a := w(low)
			a[part] = 1
			out = append(out, a)
			a[part] = 1 << 63
			out = append(out, a)
		}
	}
	return out
}

// failsBetween is whether op has that error, and changes nothing between others, nor what they tell.
func failsBetween(t *testing.T, op api.MemOp, err api.Errno) {
	t.Helper()
	ahead := []api.MemOp{put(w(7), someBytes(50)), store(w(70), mixed)}
	behind := []api.MemOp{load(w(60)), storeByte(w(200), w(9)), load(w(3))}
	got, b := isPlay(t, slices.Concat(ahead, []api.MemOp{op}, behind)...)
	want, wantBytes := isPlay(t, slices.Concat(ahead, behind)...)
	if got[len(ahead)] != (api.MemAns{Err: err}) {
		t.Fatalf("%v answers %v, not the error %d alone", op, got[len(ahead)], err)
	}
	if !slices.Equal(slices.Delete(got, len(ahead), len(ahead)+1), want) || !bytes.Equal(b, wantBytes) {
		t.Fatalf("%v has changed something", op)
	}
	if first, b := isPlay(t, op); len(b) != 0 || first[0] != (api.MemAns{Err: err}) {
		t.Fatalf("%v alone answers %v, and leaves %d bytes", op, first, len(b))
	}
}

func TestCostOfKnownWords(t *testing.T) { // K1
	for n, want := range map[int]uint64{0: 0, 1: 3, 2: 6, 7: 21, 8: 25, 9: 28, 11: 34, 12: 38, 64: 256, 127: 633, 128: 640} {
		if got := Cost(n); got != want {
			t.Errorf("Cost of %d is %d, not %d", n, got, want)
		}
	}
}

func TestCostBeyond(t *testing.T) { // K1: 0, where no memory has so many words
	for _, n := range []int{-1, -2, -8, -64, -128, math.MinInt, math.MinInt + 1, math.MinInt32, 129, 130, 256, 4096, 1 << 20, math.MaxInt32, math.MaxInt - 1, math.MaxInt} {
		if got := Cost(n); got != 0 {
			t.Errorf("Cost of %d is %d", n, got)
		}
	}
}

func TestCostOfAll(t *testing.T) { // K1
	for n := -300; n < 5000; n++ {
		if got, want := Cost(n), slowCost(n); got != want {
			t.Errorf("Cost of %d is %d, not %d", n, got, want)
		}
	}
}

func TestNoOps(t *testing.T) { // K3, Z3
	for _, ops := range [][]api.MemOp{nil, {}} {
		if a, b := Play(ops); len(a) != 0 || len(b) != 0 {
			t.Errorf("no ops answer %v and %v", a, b)
		}
	}
}

func TestTouchNone(t *testing.T) { // K2: wherever
	for _, at := range append(farPlaces(), w(0), w(1), w(31), w(32), w(4095)) {
		for _, op := range []api.MemOp{put(at, nil), put(at, []byte{}), copyOf(at, w(0), w(0)), copyOf(w(0), at, w(0)), copyOf(at, at, w(0))} {
			if a, b := isPlay(t, op); a[0] != (api.MemAns{}) || len(b) != 0 {
				t.Fatalf("%v answers %v, and leaves %d bytes", op, a, len(b))
			}
			data := someBytes(40)
			a, b := isPlay(t, put(w(10), data), op, load(w(10)))
			if a[1] != (api.MemAns{}) || a[2].Cost != 0 || len(b) != 64 || !bytes.Equal(b[10:50], data) {
				t.Fatalf("%v changes something, or tells %v", op, a)
			}
		}
	}
}

func TestTouchTheLast(t *testing.T) { // K2: the last bytes that MaxMemory allows, and one more
	for _, c := range []struct{ last, beyond api.MemOp }{
		{load(w(4064)), load(w(4065))},
		{store(w(4064), mixed), store(w(4065), mixed)},
		{storeByte(w(4095), mixed), storeByte(w(4096), mixed)},
		{copyOf(w(4000), w(0), w(96)), copyOf(w(4000), w(0), w(97))},
		{copyOf(w(0), w(4000), w(96)), copyOf(w(0), w(4000), w(97))},
		{copyOf(w(4000), w(0), w(96)), copyOf(w(4001), w(0), w(96))},
		{copyOf(w(0), w(4000), w(96)), copyOf(w(0), w(4001), w(96))},
		{copyOf(w(0), w(0), w(4096)), copyOf(w(0), w(0), w(4097))},
		{copyOf(w(4095), w(4095), w(1)), copyOf(w(4096), w(4096), w(1))},
		{put(w(0), someBytes(4096)), put(w(0), someBytes(4097))},
		{put(w(4086), someBytes(10)), put(w(4086), someBytes(11))},
		{put(w(4086), someBytes(10)), put(w(4087), someBytes(10))},
	} {
		if a, b := isPlay(t, c.last); a[0] != (api.MemAns{Cost: 640}) || len(b) != 4096 {
			t.Errorf("%v answers %v, and leaves %d bytes", c.last, a, len(b))
		}
		failsBetween(t, c.beyond, api.ErrMuch)
	}
}

func TestTouchFar(t *testing.T) { // K2: also where the sum is more than 64 bits, or a word, hold
	for _, far := range farPlaces() {
		for _, op := range []api.MemOp{
			load(far), store(far, mixed), storeByte(far, mixed), put(far, []byte{1}), put(far, someBytes(4095)),
			copyOf(far, w(0), w(1)), copyOf(w(0), far, w(1)), copyOf(far, far, w(1)), copyOf(far, w(3), w(4096)),
		} {
			failsBetween(t, op, api.ErrMuch)
		}
	}
}

func TestTouchMany(t *testing.T) { // K2: lengths that are no memory's, and whose sum with the place is small in 64 bits, or in 256
	longs := append(farPlaces()[1:], api.Word{full - 9, full, full, full}, api.Word{32, 0, 0, 1 << 63})
	for _, n := range longs {
		for _, at := range append([]api.Word{w(0), w(1), w(10), w(32), w(4096), {0, 0, 0, 1 << 63}}, longs...) {
			failsBetween(t, copyOf(at, w(0), n), api.ErrMuch)
			failsBetween(t, copyOf(w(0), at, n), api.ErrMuch)
			failsBetween(t, copyOf(at, at, n), api.ErrMuch)
		}
	}
	failsBetween(t, put(w(0), make([]byte, 1<<16)), api.ErrMuch)
	failsBetween(t, put(w(full), make([]byte, 1<<16)), api.ErrMuch)
}

func TestGrow(t *testing.T) { // K2: to the least multiple of 32
	for at := range uint64(4096) {
		a, b := isPlay(t, storeByte(w(at), w(7)))
		if len(b) != int(at/32+1)*32 || a[0].Cost != Cost(len(b)/32) || b[at] != 7 || bytes.Count(b, []byte{0}) != len(b)-1 {
			t.Fatalf("a byte at %d leaves %d bytes, for %d", at, len(b), a[0].Cost)
		}
	}
	for _, c := range []struct{ at, size, cost uint64 }{{0, 32, 3}, {1, 64, 6}, {3, 64, 6}, {32, 64, 6}, {33, 96, 9}, {4032, 4064, 633}, {4033, 4096, 640}, {4064, 4096, 640}} {
		if a, b := isPlay(t, load(w(c.at))); a[0] != (api.MemAns{Cost: c.cost}) || len(b) != int(c.size) {
			t.Errorf("the word at %d leaves %d bytes, and answers %v", c.at, len(b), a)
		}
	}
}

func TestGrowNotAtAll(t *testing.T) { // K2: what there is already costs nothing
	a, b := isPlay(t, load(w(31)), storeByte(w(63), w(1)), store(w(32), mixed), copyOf(w(0), w(32), w(32)), put(w(0), someBytes(64)), load(w(0)))
	for i, x := range a {
		if i > 0 && x.Cost != 0 || x.Err != api.OK {
			t.Errorf("op %d answers %v", i, x)
		}
	}
	if a[0].Cost != 6 || len(b) != 64 {
		t.Errorf("%d bytes for %d", len(b), a[0].Cost)
	}
}

func TestGrowInParts(t *testing.T) { // K2: what is paid in several parts is what is paid at once
	var ops []api.MemOp
	for i := range uint64(128) {
		ops = append(ops, storeByte(w(32*i+i%32), w(i+1)))
	}
	a, b := isPlay(t, ops...)
	var paid uint64
	for i, x := range a {
		if x.Cost != Cost(i+1)-Cost(i) {
			t.Errorf("word %d costs %d", i, x.Cost)
		}
		paid += x.Cost
	}
	if paid != 640 || len(b) != 4096 || a[6].Cost != 3 || a[7].Cost != 4 || a[127].Cost != 7 {
		t.Errorf("%d bytes for %d", len(b), paid)
	}
	for _, step := range []uint64{33, 64, 100, 257, 1000} {
		var ops []api.MemOp
		for at := uint64(0); at < 4096; at += step {
			ops = append(ops, storeByte(w(at), w(at)), load(w(at/2)))
		}
		isPlay(t, ops...)
	}
}

func TestLoad(t *testing.T) { // K3
	a, b := isPlay(t, load(w(3)), store(w(3), mixed), load(w(3)), load(w(4)), load(w(0)), load(w(32)))
	if a[0] != (api.MemAns{Cost: 6}) || a[2] != (api.MemAns{Word: mixed}) || len(b) != 64 {
		t.Errorf("across two words %v comes, of %d bytes", a, len(b))
	}
	if want := (api.Word{0x1a1b1c1d1e1f2000, 0x1213141516171819, 0x0a0b0c0d0e0f1011, 0x0203040506070809}); a[3].Word != want {
		t.Errorf("the word behind the first byte is %x", a[3].Word)
	}
	if want := (api.Word{0x161718191a1b1c1d, 0x0e0f101112131415, 0x060708090a0b0c0d, 0x0102030405}); a[4].Word != want {
		t.Errorf("the word at 0 is %x", a[4].Word)
	}
	if want := (api.Word{3: 0x1e1f200000000000}); a[5].Word != want {
		t.Errorf("the word at 32 is %x", a[5].Word)
	}
}

func TestLoadOfWhatWasNeverStored(t *testing.T) { // K3: it grows, too
	for _, at := range []uint64{0, 1, 31, 32, 500, 4064} {
		a, b := isPlay(t, load(w(at)), load(w(at)))
		if a[0] != (api.MemAns{Cost: Cost(len(b) / 32)}) || a[1] != (api.MemAns{}) || bytes.Count(b, []byte{0}) != len(b) || uint64(len(b)) < at+32 {
			t.Errorf("at %d %v comes, of %d bytes", at, a, len(b))
		}
	}
}

func TestStore(t *testing.T) { // K3: all 32 bytes, the greatest first, and no other ones
	for at := range uint64(70) {
		a, b := isPlay(t, put(w(0), bytes.Repeat([]byte{0xee}, 128)), store(w(at), mixed), load(w(at)))
		for i, x := range b {
			want := byte(0xee)
			if place := i - int(at); place >= 0 && place < 32 {
				want = byte(place + 1)
			}
			if x != want {
				t.Fatalf("stored at %d, byte %d is %d", at, i, x)
			}
		}
		if a[1] != (api.MemAns{}) || a[2].Word != mixed {
			t.Fatalf("at %d %v comes", at, a)
		}
	}
	isPlay(t, store(w(0), mixed), store(w(16), api.Word{full, full, full, full}), store(w(5), api.Word{}), load(w(1)))
}

func TestByte(t *testing.T) { // K3: the least byte alone
	_, b := isPlay(t, put(w(0), bytes.Repeat([]byte{0xee}, 32)), storeByte(w(5), mixed), storeByte(w(6), w(511)), storeByte(w(7), w(256)), storeByte(w(8), api.Word{0, full, full, full}), storeByte(w(6), w(0x1234)))
	if want := []byte{0xee, 0x20, 0x34, 0, 0, 0xee}; !bytes.Equal(b[4:10], want) || len(b) != 32 {
		t.Errorf("%v comes, not %v", b, want)
	}
	for n := range uint64(512) {
		if a, b := isPlay(t, storeByte(w(3), w(n)), load(w(0))); b[3] != byte(n) || a[0] != (api.MemAns{Cost: 3}) {
			t.Errorf("of %d the byte %d is stored, and %v told", n, b[3], a[0])
		}
	}
}

func TestStoresOverlap(t *testing.T) { // K3: the later one counts, either way round
	ones := api.Word{full, full, full, full}
	for first := range uint64(40) {
		for second := range uint64(40) {
			isPlay(t, store(w(first), mixed), store(w(second), ones), storeByte(w(first+3), w(5)), load(w(first)), load(w(second)))
			isPlay(t, storeByte(w(second), w(5)), store(w(first), mixed), put(w(second), []byte("hello")), load(w(first)))
		}
	}
}

func TestCopyOverlaps(t *testing.T) { // K3: what those From were ahead of it, either way round
	data := someBytes(100)
	for _, c := range []struct{ at, from, n uint64 }{{8, 5, 11}, {5, 8, 11}, {0, 1, 99}, {1, 0, 99}, {50, 50, 10}, {0, 50, 50}, {50, 0, 50}, {30, 0, 90}, {0, 30, 90}} {
		a, b := isPlay(t, put(w(0), data), copyOf(w(c.at), w(c.from), w(c.n)))
		want := append(bytes.Clone(data), make([]byte, 28)...)
		ahead := bytes.Clone(want)
		for i := range c.n {
			want[c.at+i] = ahead[c.from+i]
		}
		if !bytes.Equal(b, want) || a[1] != (api.MemAns{}) {
			t.Errorf("%d bytes at %d from %d leave %v", c.n, c.at, c.from, b)
		}
	}
	for at := range uint64(30) {
		for from := range uint64(30) {
			for _, n := range []uint64{0, 1, 2, 7, 40, 100} {
				isPlay(t, put(w(3), data), copyOf(w(at), w(from), w(n)))
			}
		}
	}
}

func TestCopyGrows(t *testing.T) { // K2, K3: once, for both places
	for _, c := range []struct {
		at, from, n uint64
		size        int
	}{{0, 90, 4, 96}, {90, 0, 4, 96}, {100, 200, 50, 256}, {200, 100, 50, 256}, {60, 60, 5, 96}, {0, 4095, 1, 4096}, {4095, 0, 1, 4096}, {31, 0, 1, 32}, {31, 0, 2, 64}, {0, 31, 2, 64}} {
		a, b := isPlay(t, copyOf(w(c.at), w(c.from), w(c.n)))
		if a[0] != (api.MemAns{Cost: Cost(c.size / 32)}) || len(b) != c.size {
			t.Errorf("%d bytes at %d from %d: %v, and %d bytes", c.n, c.at, c.from, a, len(b))
		}
		a, b = isPlay(t, put(w(0), someBytes(40)), copyOf(w(c.at), w(c.from), w(c.n)))
		if a[1].Cost != Cost(len(b)/32)-6 || len(b) != max(64, c.size) {
			t.Errorf("behind 40 bytes, %d bytes at %d from %d: %v, and %d bytes", c.n, c.at, c.from, a, len(b))
		}
	}
	// What lies beyond the memory is noughts, and is copied as such.
	if _, b := isPlay(t, put(w(0), someBytes(32)), copyOf(w(4), w(90), w(6))); !bytes.Equal(b[:12], []byte{1, 2, 3, 4, 0, 0, 0, 0, 0, 0, 11, 12}) || len(b) != 96 {
		t.Errorf("noughts from beyond leave %v", b)
	}
}

func TestCopyOfWhichOneFits(t *testing.T) { // K3: nothing changes, not even by what fits
	for _, far := range append(farPlaces(), w(4090), w(4095)) {
		for _, near := range []uint64{0, 8, 150, 4000, 4089} {
			failsBetween(t, copyOf(w(near), far, w(7)), api.ErrMuch)
			failsBetween(t, copyOf(far, w(near), w(7)), api.ErrMuch)
		}
	}
}

func TestPut(t *testing.T) { // K3
	a, b := isPlay(t, put(w(5), []byte("hello world")))
	if a[0] != (api.MemAns{Cost: 3}) || string(b) != "\x00\x00\x00\x00\x00hello world"+string(make([]byte, 16)) {
		t.Errorf("%v comes, and %q", a, b)
	}
	for _, n := range []int{0, 1, 31, 32, 33, 64, 1000, 4090, 4091, 4095, 4096, 4097} {
		for _, at := range []uint64{0, 1, 5, 6, 32} {
			isPlay(t, put(w(at), someBytes(n)), load(w(0)), put(w(at+2), someBytes(n/2)))
		}
	}
}

func TestTouchOfARoom(t *testing.T) { // K2: what a frame does to its memory
	var r Room
	for _, c := range []struct {
		at, n api.Word
		cost  uint64
		size  int
		err   api.Errno
	}{
		{w(full), w(0), 0, 0, api.OK}, {w(4096), w(1), 0, 0, api.ErrMuch}, {w(3), w(5), 3, 32, api.OK}, {w(0), w(32), 0, 32, api.OK}, {w(0), w(33), 3, 64, api.OK},
		{api.Word{1, 1}, w(full), 0, 64, api.ErrMuch}, {w(1), api.Word{full, full, full, full}, 0, 64, api.ErrMuch}, {w(4095), w(1), 634, 4096, api.OK}, {w(0), w(4096), 0, 4096, api.OK},
	} {
		part, cost, err := r.Touch(c.at, c.n)
		if err != c.err || cost != c.cost || r.Size() != c.size || err == api.OK && len(part) != int(c.n[0]) || err != api.OK && part != nil {
			t.Errorf("%v bytes at %v: %d bytes for %d, %d; the memory has %d", c.n, c.at, len(part), cost, err, r.Size())
		}
	}
	part, _, _ := r.Touch(w(7), w(3))
	copy(part, "abc")
	if again, _, _ := r.Touch(w(6), w(5)); string(again) != "\x00abc\x00" {
		t.Errorf("what was put there is %q", again)
	}
}

func TestAnotherKind(t *testing.T) { // K3, Z5: whatever stands in its fields
	for _, kind := range []int{0, -1, 6, 7, 256 + 1, 1<<32 + 1, -api.MemPut, math.MinInt, math.MaxInt} {
		for _, at := range append(farPlaces(), w(0), w(300)) {
			failsBetween(t, api.MemOp{Kind: kind, At: at, From: w(1), Len: w(2), Word: mixed, Data: someBytes(9)}, api.ErrKind)
			failsBetween(t, api.MemOp{Kind: kind, At: w(400), From: at, Len: at, Word: mixed, Data: make([]byte, 5000)}, api.ErrKind)
		}
	}
	failsBetween(t, api.MemOp{}, api.ErrKind)
}

func TestFieldsThatMeanNothing(t *testing.T) { // Z5
	far, long := api.Word{full, full, full, full}, make([]byte, 5000)
	for _, c := range []struct{ plain, stuffed api.MemOp }{
		{load(w(9)), api.MemOp{Kind: api.MemLoad, At: w(9), From: far, Len: far, Word: far, Data: long}},
		{store(w(9), mixed), api.MemOp{Kind: api.MemStore, At: w(9), From: far, Len: far, Word: mixed, Data: long}},
		{storeByte(w(9), mixed), api.MemOp{Kind: api.MemByte, At: w(9), From: far, Len: far, Word: mixed, Data: long}},
		{copyOf(w(9), w(4), w(8)), api.MemOp{Kind: api.MemCopy, At: w(9), From: w(4), Len: w(8), Word: far, Data: long}},
		{put(w(9), []byte("abc")), api.MemOp{Kind: api.MemPut, At: w(9), From: far, Len: far, Word: far, Data: []byte("abc")}},
	} {
		ahead := put(w(2), someBytes(20))
		a, b := isPlay(t, ahead, c.plain)
		if x, y := isPlay(t, ahead, c.stuffed); !slices.Equal(a, x) || !bytes.Equal(b, y) {
			t.Errorf("kind %d hangs on fields that mean nothing: %v", c.plain.Kind, x)
		}
	}
}

// opsFrom makes ops of bytes, most of whose places are near the edges of some memory.
func opsFrom(b []byte) []api.MemOp {
	edges := []uint64{0, 0, 1, 17, 31, 32, 33, 64, 95, 300, 2000, 4033, 4063, 4064, 4065, 4095, 4096, full, 1 << 63, full - 31}
	pick := func(x, y byte) api.Word {
		a := w(edges[int(x)%len(edges)] + uint64(y%16))
		if x > 250 {
			a[1+y%3] = uint64(y)
		}
		return a
	}
	var ops []api.MemOp
	for ; len(b) >= 8; b = b[8:] {
		op := api.MemOp{Kind: int(b[0])%7 - int(b[0])/252*9, At: pick(b[1], b[2]), From: pick(b[3], b[4]), Len: pick(b[5]%14, b[6]), Word: mixed}
		op.Word[0] += uint64(b[7])
		op.Data = someBytes(int(b[7]))[b[7]/2:]
		ops = append(ops, op)
	}
	return ops
}

func TestManyOps(t *testing.T) { // K2, K3: a fixed spread of ops
	seed := uint64(1)
	for range 3000 {
		b := make([]byte, 8*20)
		for i := range b {
			seed = seed*6364136223846793005 + 1442695040888963407
			b[i] = byte(seed >> 56)
		}
		isPlay(t, opsFrom(b)...)
	}
}

func TestBytesAtTheEnd(t *testing.T) { // K3: the same, however far the ops went
	ops := []api.MemOp{put(w(5), []byte("hello")), store(w(40), mixed), load(w(100)), copyOf(w(50), w(5), w(5)), storeByte(w(0), w(1))}
	for n := range len(ops) + 1 {
		all, _ := isPlay(t, ops...)
		if a, _ := isPlay(t, ops[:n]...); !slices.Equal(a, all[:n]) {
			t.Errorf("the first %d ops answer %v by themselves", n, a)
		}
	}
	if _, b := isPlay(t, ops...); len(b) != 160 || string(b[5:10]) != "hello" || string(b[50:55]) != "hello" || b[0] != 1 || b[40] != 1 || b[49] != 10 || b[71] != 32 {
		t.Errorf("%v is left", b)
	}
}

func TestOnlyRead(t *testing.T) { // Z2
	space := bytes.Repeat([]byte{0xee}, 100)
	ops := make([]api.MemOp, 3, 5)
	ops[0], ops[1], ops[2] = put(w(1), space[10:50]), copyOf(w(0), w(5), w(60)), store(w(3), mixed)
	ops[:5][3], ops[:5][4] = put(w(0), space), load(w(0))
	want := slices.Clone(ops[:5])
	a, b := Play(ops)
	if !bytes.Equal(space, bytes.Repeat([]byte{0xee}, 100)) || !reflect.DeepEqual(ops[:5], want) || len(a) != 3 || len(b) != 96 {
		t.Error("what was handed in is changed, or what stands behind it is looked at")
	}
}

func TestNothingIsKept(t *testing.T) { // Z1, Z2
	data := someBytes(32)
	ops := []api.MemOp{put(w(0), data), load(w(0))}
	a, b := Play(ops)
	word := a[1].Word
	clear(data)
	clear(ops)
	if !bytes.Equal(b, someBytes(32)) || a[1].Word != word || word == (api.Word{}) {
		t.Error("what was handed in is kept")
	}
	b[0], data[0] = 99, 7
	if x, y := Play([]api.MemOp{load(w(0))}); x[0] != (api.MemAns{Cost: 3}) || !bytes.Equal(y, make([]byte, 32)) || data[1] != 0 {
		t.Error("a memory has something of another one")
	}
}

func TestVeryManyOps(t *testing.T) { // Z1
	ops := make([]api.MemOp, 1<<16)
	for i := range ops {
		ops[i] = copyOf(w(uint64(i%9)), w(uint64(i%7)), w(uint64(i%4000)))
	}
	ops[0] = put(w(0), someBytes(4096))
	a, b := Play(ops)
	if len(a) != len(ops) || len(b) != 4096 || a[0].Cost != 640 || slices.ContainsFunc(a[1:], func(x api.MemAns) bool { return x != api.MemAns{} }) {
		t.Errorf("%d answers, and %d bytes", len(a), len(b))
	}
}

func FuzzPlay(f *testing.F) { // K2, K3, Z1
	f.Add([]byte{1, 2, 3, 4, 5, 6, 7, 8, 2, 3, 4, 5, 6, 7, 8, 9})
	f.Add(bytes.Repeat([]byte{4, 17, 255, 16, 3, 12, 15, 254}, 3))
	f.Fuzz(func(t *testing.T, b []byte) {
		isPlay(t, opsFrom(b)...)
	})
}
