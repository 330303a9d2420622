package pack

import (
	"bytes"
	"encoding/binary"
	"math/big"
	"slices"
	"strings"
	"testing"

	"lampbearer/api"
	"lampbearer/word"
)

const full = 1<<64 - 1

var highest = api.Word{full, full, full, full}

func text(b ...byte) api.Item { return api.Item{Text: b} }

func list(kids ...api.Item) api.Item { return api.Item{List: true, Kids: kids} }

// long is a text of n bytes, none of them like its neighbours, heads and noughts among them.
func long(n int) api.Item {
	b := make([]byte, n)
	for i := range b {
		b[i] = byte(i*167 + n)
	}
	return api.Item{Text: b}
}

// nested is a list of a list and so on, depth of them, the innermost one empty.
func nested(depth int) api.Item {
	it := list()
	for range depth - 1 {
		it = list(it)
	}
	return it
}

// same goes by the chapter's words: what a kind has not means nothing.
func same(a, b api.Item) bool {
	if a.List != b.List {
		return false
	}
	if !a.List {
		return bytes.Equal(a.Text, b.Text)
	}
	return slices.EqualFunc(a.Kids, b.Kids, same)
}

// bare is whether it has only what means something.
func bare(it api.Item) bool {
	if !it.List {
		return len(it.Kids) == 0
	}
	return len(it.Text) == 0 && !slices.ContainsFunc(it.Kids, func(kid api.Item) bool { return !bare(kid) })
}

// slowNum goes by whole numbers without end.
func slowNum(a api.Word) []byte {
	h := word.Bytes(a)
	return new(big.Int).SetBytes(h[:]).Bytes()
}

// slowEncode goes by the words of E2, from the first byte on.
func slowEncode(it api.Item) []byte {
	mark, behind := 128, it.Text
	if it.List {
		mark, behind = 192, nil
		for _, kid := range it.Kids {
			behind = append(behind, slowEncode(kid)...)
		}
	} else if len(it.Text) == 1 && it.Text[0] < 128 {
		return []byte{it.Text[0]}
	}
	n := len(behind)
	if n < 48 {
		return append([]byte{byte(mark + n)}, behind...)
	}
	size := big.NewInt(int64(n)).Bytes()
	return slices.Concat([]byte{byte(mark + 48 + len(size) - 1)}, size, behind)
}

// words are the named ones, each with one bit, and those beside it.
func words() []api.Word {
	out := []api.Word{{}, {1}, {127}, {128}, {255}, {256}, {full}, {0, 1}, {0, 0, 1}, {0, 0, 0, 1 << 63}, highest}
	for bit := range uint64(256) {
		var p api.Word
		p[bit/64] = 1 << (bit % 64)
		out = append(out, p, word.Sub(p, word.Int(1)), word.Add(p, word.Int(1)))
	}
	return out
}

// sizes are those at which a head changes, and those beside them.
func sizes() []int {
	return []int{0, 1, 2, 3, 46, 47, 48, 49, 55, 56, 127, 128, 254, 255, 256, 257, 300, 65534, 65535, 65536, 65537}
}

// ofSize is a list behind whose head n bytes stand.
func ofSize(n int) api.Item {
	if n == 0 {
		return list()
	}
	inner := n - 1
	for inner > 0 && len(slowEncode(long(inner))) > n {
		inner--
	}
	it := list(long(inner))
	for left := n - len(slowEncode(long(inner))); left > 0; left-- {
		it.Kids = append(it.Kids, text(7))
	}
	return it
}

// items are those that the chapter's edges name, and lists of them.
func items() []api.Item {
	var out []api.Item
	for c := range 256 {
		out = append(out, text(byte(c)), list(text(byte(c))), text(byte(c), byte(c)))
	}
	for _, n := range sizes() {
		out = append(out, long(n), ofSize(n), list(long(n), long(n)))
	}
	for n := range 300 {
		out = append(out, long(n), ofSize(n), nested(n+1), api.Item{List: true, Kids: make([]api.Item, n)})
	}
	out = append(out, api.Item{}, api.Item{Text: []byte{}}, list(), api.Item{List: true, Kids: []api.Item{}})
	out = append(out, list(text('a'), list(text(), text('b', 'c')), list(), text(200)), list(list(), list(list()), list(list(), list(list()))))
	return append(out, list(slices.Clone(out[:400])...))
}

func splits(t *testing.T, b []byte, want api.Item, n int) {
	t.Helper()
	got, used, err := Split(b)
	if err != api.OK || used != n || !same(got, want) || !bare(got) {
		t.Errorf("Split of %s is another item, %d used, %d; not %d", tell(b), used, err, n)
	}
}

func splitsNot(t *testing.T, b []byte) {
	t.Helper()
	got, used, err := Split(b)
	if err != api.ErrForm || used != 0 || got.List || got.Text != nil || got.Kids != nil {
		t.Errorf("Split of %s is %v, %d used, %d, not ErrForm", tell(b), got.List, used, err)
	}
}

func decodes(t *testing.T, b []byte, want api.Item) {
	t.Helper()
	if got, err := Decode(b); err != api.OK || !same(got, want) || !bare(got) {
		t.Errorf("Decode of %s is another item, %d", tell(b), err)
	}
}

func decodesNot(t *testing.T, b []byte) {
	t.Helper()
	if got, err := Decode(b); err != api.ErrForm || got.List || got.Text != nil || got.Kids != nil {
		t.Errorf("Decode of %s is %v, %d, not ErrForm", tell(b), got.List, err)
	}
}

func tell(b []byte) string {
	var s strings.Builder
	for _, c := range b[:min(len(b), 20)] {
		s.WriteString(big.NewInt(int64(c)).String() + " ")
	}
	return s.String() + "(" + big.NewInt(int64(len(b))).String() + " bytes)"
}

// oneForm holds the readers against what is written, and answers whether b is the form of an item.
func oneForm(t *testing.T, b []byte) bool {
	t.Helper()
	got, used, err := Split(b)
	if err != api.OK {
		splitsNot(t, b)
		decodesNot(t, b)
		return false
	}
	if used > len(b) || !bytes.Equal(slowEncode(got), b[:used]) || !bare(got) {
		t.Fatalf("Split of %s is an item of another form, %d used", tell(b), used)
	}
	if used < len(b) {
		decodesNot(t, b)
		return false
	}
	decodes(t, b, got)
	return true
}

func TestNumOfNamedWords(t *testing.T) { // E1
	for _, c := range []struct {
		a    api.Word
		want []byte
	}{
		{api.Word{}, nil}, {api.Word{1}, []byte{1}}, {api.Word{127}, []byte{127}}, {api.Word{128}, []byte{128}},
		{api.Word{255}, []byte{255}}, {api.Word{256}, []byte{1, 0}}, {api.Word{0x10203}, []byte{1, 2, 3}},
		{api.Word{0, 1}, []byte{1, 0, 0, 0, 0, 0, 0, 0, 0}}, {highest, bytes.Repeat([]byte{255}, 32)},
	} {
		if got := Num(c.a); !bytes.Equal(got, c.want) {
			t.Errorf("Num of %x is %v, not %v", c.a, got, c.want)
		}
		if got, err := ToNum(c.want); err != api.OK || got != c.a {
			t.Errorf("ToNum of %v is %x, %d, not %x", c.want, got, err, c.a)
		}
	}
}

func TestNumAndBack(t *testing.T) { // E1
	for _, a := range words() {
		b := Num(a)
		if !bytes.Equal(b, slowNum(a)) {
			t.Errorf("Num of %x is %v, not %v", a, b, slowNum(a))
		}
		if got, err := ToNum(b); err != api.OK || got != a {
			t.Errorf("ToNum of %v is %x, %d, not %x", b, got, err, a)
		}
		for _, noughts := range []int{1, 2, 32 - len(b), 33 - len(b), 40} {
			if noughts > 0 {
				numbersNot(t, append(make([]byte, noughts), b...))
			}
		}
	}
}

func numbersNot(t *testing.T, b []byte) {
	t.Helper()
	if got, err := ToNum(b); err != api.ErrForm || got != (api.Word{}) {
		t.Errorf("ToNum of %v is %x, %d, not ErrForm", b, got, err)
	}
}

func TestToNumByCounts(t *testing.T) { // E1: none, 32 bytes and 33, and far more
	for _, b := range [][]byte{nil, {}} {
		if got, err := ToNum(b); err != api.OK || got != (api.Word{}) {
			t.Errorf("ToNum of no bytes is %x, %d", got, err)
		}
	}
	for n := 1; n <= 32; n++ {
		for _, first := range []byte{1, 127, 128, 255} {
			b := append([]byte{first}, make([]byte, n-1)...)
			if got, err := ToNum(b); err != api.OK || !bytes.Equal(slowNum(got), b) {
				t.Errorf("ToNum of %v is %x, %d", b, got, err)
			}
		}
		numbersNot(t, make([]byte, n))
	}
	for _, n := range []int{33, 34, 64, 65, 1 << 20} {
		numbersNot(t, bytes.Repeat([]byte{1}, n))
		numbersNot(t, make([]byte, n))
	}
}

func TestEncodeOfNamedItems(t *testing.T) { // E2
	zeros := func(head []byte, n int) []byte { return append(head, make([]byte, n)...) }
	for _, c := range []struct {
		it   api.Item
		want []byte
	}{
		{api.Item{}, []byte{128}}, {text(0), []byte{0}}, {text(1), []byte{1}}, {text(127), []byte{127}},
		{text(128), []byte{129, 128}}, {text(255), []byte{129, 255}}, {text(0, 0), []byte{130, 0, 0}}, {text(1, 2), []byte{130, 1, 2}},
		{text([]byte("dog")...), []byte("\x83dog")},
		{text(make([]byte, 47)...), zeros([]byte{175}, 47)}, {text(make([]byte, 48)...), zeros([]byte{176, 48}, 48)},
		{text(make([]byte, 255)...), zeros([]byte{176, 255}, 255)}, {text(make([]byte, 256)...), zeros([]byte{177, 1, 0}, 256)},
		{text(make([]byte, 65536)...), zeros([]byte{178, 1, 0, 0}, 65536)}, {text(make([]byte, 1<<24)...), zeros([]byte{179, 1, 0, 0, 0}, 1<<24)},
		{list(), []byte{192}}, {list(list()), []byte{193, 192}}, {list(text()), []byte{193, 128}}, {list(text(1), text(2)), []byte{194, 1, 2}},
		{list(text(128)), []byte{194, 129, 128}}, {list(list(), list(list()), text('a')), []byte{196, 192, 193, 192, 'a'}},
		{list(make([]api.Item, 47)...), append([]byte{239}, bytes.Repeat([]byte{128}, 47)...)},
		{list(make([]api.Item, 48)...), append([]byte{240, 48}, bytes.Repeat([]byte{128}, 48)...)},
		{list(make([]api.Item, 255)...), append([]byte{240, 255}, bytes.Repeat([]byte{128}, 255)...)},
		{list(make([]api.Item, 256)...), append([]byte{241, 1, 0}, bytes.Repeat([]byte{128}, 256)...)},
		{list(make([]api.Item, 70000)...), append([]byte{242, 1, 17, 112}, bytes.Repeat([]byte{128}, 70000)...)},
	} {
		if got := Encode(c.it); !bytes.Equal(got, c.want) {
			t.Errorf("Encode is %s, not %s", tell(got), tell(c.want))
		}
		decodes(t, c.want, c.it)
		splits(t, c.want, c.it, len(c.want))
	}
}

func TestEncodeAndBack(t *testing.T) { // E2, E3
	for _, it := range items() {
		b := Encode(it)
		if !bytes.Equal(b, slowEncode(it)) {
			t.Fatalf("Encode is %s, not %s", tell(b), tell(slowEncode(it)))
		}
		decodes(t, b, it)
		splits(t, b, it, len(b))
		for _, behind := range [][]byte{{0}, {7}, {128}, {192}, {255}, b[:min(len(b), 100)]} {
			more := slices.Concat(b, behind)
			splits(t, more, it, len(b))
			decodesNot(t, more)
		}
		for _, fewer := range []int{0, 1, 2, 3, len(b) / 2, len(b) - 1} {
			if fewer < len(b) {
				splitsNot(t, b[:fewer])
				decodesNot(t, b[:fewer])
			}
		}
	}
}

func TestFieldsThatMeanNothing(t *testing.T) { // E2, Z5
	kid := text(9)
	for _, c := range []struct{ odd, plain api.Item }{
		{api.Item{Text: []byte{5}, Kids: []api.Item{kid}}, text(5)},
		{api.Item{Kids: []api.Item{kid, list()}}, text()},
		{api.Item{List: true, Text: []byte{5}}, list()},
		{api.Item{List: true, Text: make([]byte, 60), Kids: []api.Item{kid, {Text: []byte{200}, Kids: []api.Item{kid}}}}, list(kid, text(200))},
	} {
		if got := Encode(c.odd); !bytes.Equal(got, slowEncode(c.plain)) {
			t.Errorf("Encode is %s, not %s", tell(got), tell(slowEncode(c.plain)))
		}
	}
}

func TestNamedWrongForms(t *testing.T) { // E3, Z4
	behind := func(n int, head ...byte) []byte { return append(head, bytes.Repeat([]byte{200, 1}, n)[:n]...) }
	wrong := [][]byte{nil, {}, {129}, {129, 0}, {129, 5}, {129, 127}, {130}, {130, 1}, {193}, {194, 1}, {255}, {191}, {191, 1}, {184, 1}}
	for n := range 48 { // a size that is less than 48, behind its head
		wrong = append(wrong, behind(n, 176, byte(n)), behind(n, 240, byte(n)), behind(60, 176, byte(n)), behind(60, 240, byte(n)))
	}
	for k := 1; k <= 16; k++ { // sizes of k bytes: noughts alone, a nought ahead, more than there is
		noughts, ends, ones := make([]byte, k), make([]byte, k), bytes.Repeat([]byte{255}, k)
		ends[k-1] = 48
		for _, mark := range []byte{128, 192} {
			head := mark + 48 + byte(k) - 1
			wrong = append(wrong, []byte{head}, slices.Concat([]byte{head}, noughts), behind(100, slices.Concat([]byte{head}, noughts)...))
			wrong = append(wrong, behind(100, slices.Concat([]byte{head}, ones)...), behind(0, slices.Concat([]byte{head}, ones)...))
			wrong = append(wrong, slices.Concat([]byte{head}, ones[1:]), behind(47, slices.Concat([]byte{head}, ends)...))
			if k > 1 {
				wrong = append(wrong, behind(48, slices.Concat([]byte{head}, ends)...), behind(100, slices.Concat([]byte{head}, ends)...))
			}
		}
	}
	for _, b := range wrong {
		splitsNot(t, b)
		decodesNot(t, b)
		part := b[:min(len(b), 45)]
		oneForm(t, slices.Concat([]byte{192 + byte(len(part)+2), 1}, part, []byte{2}))
	}
}

func TestSizesBeyondInts(t *testing.T) { // E3: those that would seem small, if what is above were lost
	for k := 5; k <= 16; k++ {
		for _, least := range []uint64{0, 48, 60, 100} {
			size := make([]byte, 16)
			binary.BigEndian.PutUint64(size[8:], least)
			size = size[16-k:]
			for _, first := range []byte{1, 127, 128, 255} {
				size[0] = first
				for _, mark := range []byte{128, 192} {
					b := slices.Concat([]byte{mark + 47 + byte(k)}, size, bytes.Repeat([]byte{128}, 200))
					splitsNot(t, b)
					decodesNot(t, b)
				}
			}
		}
	}
}

func TestListsThatDoNotEndWhereItemsEnd(t *testing.T) { // E3: whatever stands behind them
	for _, it := range []api.Item{text(1, 2, 3), text(200), long(20), list(text(1), text(2)), list(list(text(1, 2)))} {
		inner := Encode(it)
		for less := 1; less < len(inner); less++ {
			b := slices.Concat([]byte{192 + byte(len(inner)-less)}, inner)
			splitsNot(t, b)
			splitsNot(t, slices.Concat([]byte{193 + byte(len(inner)-less), 7}, inner, make([]byte, 100)))
		}
		more := slices.Concat([]byte{192 + byte(len(inner)) + 1}, inner)
		splitsNot(t, more)
		splits(t, append(more, 7), list(it, text(7)), len(inner)+2)
		splitsNot(t, slices.Concat([]byte{192 + byte(len(inner)) + 1}, inner, []byte{129, 200}))
	}
	splitsNot(t, slices.Concat([]byte{240, 48}, make([]byte, 47), []byte{129, 200}))
	splitsNot(t, slices.Concat([]byte{240, 49}, make([]byte, 47), []byte{176, 48}, make([]byte, 48)))
}

func TestFaultsWithinLists(t *testing.T) { // E3, Z4: nothing of what was read ahead of a fault is answered
	for _, bad := range [][]byte{{129, 5}, {129}, {130, 1}, {176, 5}, {176}, {177, 0, 48}, {193}, {194, 129, 5}, {240, 5}, {255}} {
		for depth := range 20 {
			b := slices.Concat([]byte{1, 129, 200, 192}, bad)
			for range depth + 1 {
				b = slices.Concat([]byte{192 + byte(len(b))}, b)
			}
			splitsNot(t, b)
			decodesNot(t, b)
		}
	}
}

// TestAllShortForms counts: so many texts of bytes are forms as there are items with forms of that size, and each of them is that item's own.
func TestAllShortForms(t *testing.T) { // E2, E3
	item, row := []int{0, 130, 0, 0}, []int{1, 130, 0, 0} // items and rows of items, by size
	item[2] = 128 + row[1]                                // a byte from 128 on, and lists
	row[2] = item[2] + item[1]*row[1]
	item[3] = 1<<16 + row[2]
	for size, want := range item {
		b, count := make([]byte, size), 0
		for n := range 1 << (8 * size) {
			for i := range b {
				b[i] = byte(n >> (8 * i))
			}
			if size == 3 && b[0] < 128 { // a byte by itself, and two behind it: as with one behind it
				continue
			}
			if it, err := Decode(b); err == api.OK {
				count++
				if !bytes.Equal(slowEncode(it), b) {
					t.Fatalf("Decode of %v has another form", b)
				}
			}
		}
		if count != want {
			t.Errorf("%d texts of %d bytes are forms, not %d", count, size, want)
		}
	}
}

func TestOneByteChanged(t *testing.T) { // E3: nothing has two forms
	for _, it := range []api.Item{text(), text(200), long(5), long(48), long(60), list(), list(text(1), list(text(2), text(200))), ofSize(47), ofSize(48), list(long(60), list(long(50)))} {
		b := Encode(it)
		for at := range b {
			for c := range 256 {
				changed := slices.Clone(b)
				changed[at] = byte(c)
				oneForm(t, changed)
				oneForm(t, slices.Insert(slices.Clone(b), at, byte(c)))
			}
			oneForm(t, slices.Delete(slices.Clone(b), at, at+1))
			oneForm(t, b[at:])
		}
	}
}

func TestDeepItems(t *testing.T) { // E2, E3, Limits: level by level anew it would not end in time
	const depth = 1 << 16
	it := nested(depth)
	b := Encode(it)
	got, used, err := Split(append(b, 1))
	if err != api.OK || used != len(b) || !same(got, it) {
		t.Fatalf("Split of a deep list is another item, %d used, %d", used, err)
	}
	decodes(t, b, it)
	decodesNot(t, b[:len(b)-1])
	bad := slices.Clone(b)
	bad[len(bad)-1] = 193
	splitsNot(t, bad)
	wide := list(make([]api.Item, 1<<20)...)
	decodes(t, Encode(wide), wide)
}

func TestSplitOneBehindTheOther(t *testing.T) { // E3
	all := items()[:900]
	var b []byte
	for _, it := range all {
		b = append(b, Encode(it)...)
	}
	for _, it := range all {
		got, used, err := Split(b)
		if err != api.OK || used < 1 || used > len(b) || !same(got, it) {
			t.Fatalf("Split is another item, %d used, %d", used, err)
		}
		b = b[used:]
	}
	if len(b) != 0 {
		t.Errorf("%d bytes are left", len(b))
	}
}

func TestOnlyRead(t *testing.T) { // Z2: what is handed in, and the room behind it
	it := list(text(1, 2, 3), list(text(4)), long(60))
	form := slowEncode(it)
	room := slices.Concat(form, bytes.Repeat([]byte{0xee}, 50))
	before := slices.Clone(room)
	decodes(t, room[:len(form)], it)
	splitsNot(t, room[:len(form)-1])
	decodesNot(t, room[:len(form)-1])
	numbersNot(t, room[:len(form)])
	if got, err := ToNum(room[:3]); err != api.OK || got != word.Read(form[:3]) {
		t.Errorf("ToNum with room behind is %x, %d", got, err)
	}
	if !bytes.Equal(room, before) {
		t.Errorf("what was read is changed")
	}
	kids := []api.Item{text(1), {Text: room[:3]}, text(9)}
	if got := Encode(api.Item{List: true, Kids: kids[:2]}); !bytes.Equal(got, slowEncode(list(text(1), text(room[:3]...)))) {
		t.Errorf("Encode with room behind is %s", tell(got))
	}
	if !same(list(kids...), list(text(1), text(room[:3]...), text(9))) || !bytes.Equal(room, before) {
		t.Errorf("what was written is changed")
	}
}

func TestAnswersAreNewMemory(t *testing.T) { // Z2
	want := list(text(1), text(200, 201), list(text(3)), text(4, 5))
	b := slowEncode(want)
	got, _ := Decode(b)
	other, _, _ := Split(b)
	clear(b)
	if !same(got, want) || !same(other, want) {
		t.Errorf("what was answered changes with the bytes")
	}
	for i := range got.Kids {
		spoil(got.Kids[i])
	}
	got.Kids[2].Kids = append(got.Kids[2].Kids, text(7))
	if !same(got, list(text(255), text(255, 255), list(text(255), text(7)), text(255, 255))) || !same(other, want) {
		t.Errorf("lists of an answer share memory: %v, %v", got, other)
	}
	source := text(1, 2, 3)
	form := Encode(source)
	source.Text[0] = 9
	if !bytes.Equal(form, []byte{131, 1, 2, 3}) {
		t.Errorf("what Encode answered has become %v", form)
	}
	one, two := Num(word.Int(0x10203)), Num(word.Int(0x10203))
	one[0] = 9
	if !bytes.Equal(two, []byte{1, 2, 3}) || !bytes.Equal(Num(word.Int(0x10203)), two) {
		t.Errorf("what Num answered has become %v", two)
	}
}

// spoil fills the texts of it, and the room behind them, with a byte.
func spoil(it api.Item) {
	_ = append(it.Text, bytes.Repeat([]byte{255}, cap(it.Text)-len(it.Text))...)
	for i := range it.Text {
		it.Text[i] = 255
	}
	for _, kid := range it.Kids {
		spoil(kid)
	}
}

func FuzzOneForm(f *testing.F) { // E3, Z1
	for _, it := range []api.Item{text(), text(5), text(200), long(60), list(text(1), list(text(2), long(48))), ofSize(48)} {
		f.Add(Encode(it))
	}
	f.Add([]byte{129, 5})
	f.Add([]byte{177, 0, 48})
	f.Add([]byte{191, 255, 255, 255, 255, 255, 255, 255, 255, 255, 255, 255, 255, 255, 255, 255, 255})
	f.Fuzz(func(t *testing.T, b []byte) { oneForm(t, b) })
}
