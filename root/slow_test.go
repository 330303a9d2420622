package root

import (
	"bytes"
	"fmt"
	"maps"
	"slices"
	"testing"
	"unsafe"

	"lampbearer/api"
	"lampbearer/nib"
	"lampbearer/pack"
	"lampbearer/sponge"
	"lampbearer/tree"
)

func text(b []byte) api.Item { return api.Item{Text: b} }

func list(l ...api.Item) api.Item { return api.Item{List: true, Kids: l} }

// slowCode asks one thing of H1 behind the other, and lays the item down by its words.
func slowCode(s api.Shape) ([]byte, api.Errno) {
	notHalf := func(c byte) bool { return c > 15 }
	notSum := func(b []byte) bool { return len(b) != 32 }
	hasBytes := func(b []byte) bool { return len(b) != 0 }
	var it api.Item
	switch s.Kind {
	case 0:
	case 1:
		if slices.ContainsFunc(s.Path, notHalf) || len(s.Value) < 1 || len(s.Value) > 1024 {
			return nil, api.ErrForm
		}
		tag, _ := nib.Tag(s.Path, true)
		it = list(text(tag), text(s.Value))
	case 2:
		if slices.ContainsFunc(s.Path, notHalf) || len(s.Path) == 0 || len(s.Kids) != 1 || notSum(s.Kids[0]) {
			return nil, api.ErrForm
		}
		tag, _ := nib.Tag(s.Path, false)
		it = list(text(tag), text(s.Kids[0]))
	case 3:
		full := slices.DeleteFunc(slices.Clone(s.Kids), func(b []byte) bool { return !hasBytes(b) })
		if len(s.Kids) != 16 || slices.ContainsFunc(full, notSum) || len(s.Value) > 1024 || len(full)+min(len(s.Value), 1) < 2 {
			return nil, api.ErrForm
		}
		it = list()
		for _, sum := range s.Kids {
			it.Kids = append(it.Kids, text(sum))
		}
		it.Kids = append(it.Kids, text(s.Value))
	default:
		return nil, api.ErrForm
	}
	return pack.Encode(it), api.OK
}

// slowRead tries all shapes that code might be of.
func slowRead(code []byte) (api.Shape, api.Errno) {
	it, err := pack.Decode(code)
	if err != api.OK {
		return api.Shape{}, api.ErrForm
	}
	try := []api.Shape{{}}
	if len(it.Kids) >= 2 {
		halves := nib.Halves(it.Kids[0].Text)
		for from := 1; from <= 2 && from <= len(halves); from++ {
			try = append(try, api.Shape{Kind: 1, Path: halves[from:], Value: it.Kids[1].Text})
			try = append(try, api.Shape{Kind: 2, Path: halves[from:], Kids: [][]byte{it.Kids[1].Text}})
		}
	}
	if len(it.Kids) >= 17 {
		s := api.Shape{Kind: 3, Value: it.Kids[16].Text}
		for _, kid := range it.Kids[:16] {
			s.Kids = append(s.Kids, kid.Text)
		}
		try = append(try, s)
	}
	for _, s := range try {
		if again, err := slowCode(s); err == api.OK && bytes.Equal(again, code) {
			return s, api.OK
		}
	}
	return api.Shape{}, api.ErrForm
}

// slowCodes goes by the words of H2, of what is a tree and no none: kids are written anew for each node above them.
func slowCodes(t api.Node) [][]byte {
	s := api.Shape{Kind: t.Kind, Path: t.Path, Value: t.Value}
	var behind [][]byte
	if t.Kind == 2 || t.Kind == 3 {
		for _, kid := range t.Kids {
			if kid.Kind == 0 {
				s.Kids = append(s.Kids, nil)
				continue
			}
			l := slowCodes(kid)
			sum := sponge.Sum(l[0])
			s.Kids = append(s.Kids, sum[:])
			behind = append(behind, l...)
		}
	}
	code, err := slowCode(s)
	if err != api.OK {
		panic("a tree's node has no code")
	}
	return append([][]byte{code}, behind...)
}

// slowLoader goes by the words of H3, with whole paths, through all codes for each sum.
type slowLoader struct {
	codes [][]byte
	sums  []api.Hash
	come  int
}

func (l *slowLoader) node(sum api.Hash, path []byte) (api.Node, api.Errno) {
	at := slices.Index(l.sums, sum)
	switch {
	case len(path) > 64:
		return api.Node{}, api.ErrForm
	case at < 0:
		return api.Node{}, api.ErrMissing
	case l.come == 4096:
		return api.Node{}, api.ErrMuch
	}
	l.come++
	s, err := slowRead(l.codes[at])
	if err != api.OK || s.Kind == 0 && l.come != 1 {
		return api.Node{}, api.ErrForm
	}
	n := api.Node{Kind: s.Kind, Path: s.Path, Value: s.Value, Kids: make([]api.Node, len(s.Kids))}
	for i, kid := range s.Kids {
		own := slices.Concat(path, s.Path)
		if s.Kind == 3 {
			own = append(own, byte(i))
		}
		if len(kid) > 0 {
			if n.Kids[i], err = l.node(api.Hash(kid), own); err != api.OK {
				return api.Node{}, err
			}
		}
	}
	return n, api.OK
}

func slowLoad(root api.Hash, codes [][]byte) (api.Node, api.Errno) {
	l := slowLoader{codes: codes}
	for _, code := range codes {
		l.sums = append(l.sums, sponge.Sum(code))
	}
	t, err := l.node(root, nil)
	if err == api.OK && !tree.Right(t) {
		err = api.ErrForm
	}
	if err != api.OK {
		return api.Node{}, err
	}
	return t, api.OK
}

// store has codes, of shapes that may go with nothing else.
type store struct {
	codes [][]byte
}

func (s *store) add(x api.Shape) []byte {
	code, err := slowCode(x)
	if err != api.OK {
		panic("there is no such shape")
	}
	s.codes = append(s.codes, code)
	sum := sponge.Sum(code)
	return sum[:]
}

func (s *store) leaf(path []byte, value string) []byte {
	return s.add(api.Shape{Kind: 1, Path: path, Value: []byte(value)})
}

func (s *store) road(path, sum []byte) []byte {
	return s.add(api.Shape{Kind: 2, Path: path, Kids: [][]byte{sum}})
}

func (s *store) fork(value string, kids map[int][]byte) []byte {
	return s.add(forkShape(value, kids))
}

// all is a fork with one kid in all places.
func (s *store) all(sum []byte) []byte {
	return s.add(api.Shape{Kind: 3, Kids: slices.Repeat([][]byte{sum}, 16)})
}

// junk is no code, but has a sum all the same.
func (s *store) junk(words string) []byte {
	s.codes = append(s.codes, []byte(words))
	sum := sponge.Sum([]byte(words))
	return sum[:]
}

func forkShape(value string, kids map[int][]byte) api.Shape {
	x := api.Shape{Kind: 3, Value: []byte(value), Kids: make([][]byte, 16)}
	for half, sum := range kids {
		x.Kids[half] = sum
	}
	return x
}

// nowhere is a sum that no code has.
func nowhere() []byte { return bytes.Repeat([]byte{0xab}, 32) }

func treeOf(m map[string]string) api.Node {
	var pairs []api.Pair
	for _, key := range slices.Sorted(maps.Keys(m)) {
		pairs = append(pairs, api.Pair{Key: []byte(key), Value: []byte(m[key])})
	}
	t, err := tree.Of(pairs)
	if err != api.OK {
		panic("there is no such tree")
	}
	return t
}

// treeOfNodes has n nodes that are no nones, if n is 273 to 4369: leaves for each byte, and one more for each half behind one.
func treeOfNodes(n int) api.Node {
	m := map[string]string{}
	for c := range 256 {
		m[string([]byte{byte(c)})] = "v"
	}
	for i := range n - 273 {
		m[string([]byte{byte(i / 16), byte(i % 16 * 16)})] = "w"
	}
	return treeOf(m)
}

// sameShape and same hold all fields against each other, those too that mean nothing.
func sameShape(a, b api.Shape) bool {
	return a.Kind == b.Kind && bytes.Equal(a.Path, b.Path) && bytes.Equal(a.Value, b.Value) && slices.EqualFunc(a.Kids, b.Kids, bytes.Equal)
}

func same(a, b api.Node) bool {
	return a.Kind == b.Kind && bytes.Equal(a.Path, b.Path) && bytes.Equal(a.Value, b.Value) && slices.EqualFunc(a.Kids, b.Kids, same)
}

func sameCodes(a, b [][]byte) bool { return slices.EqualFunc(a, b, bytes.Equal) }

// short tells what may be long.
func short(x any) string {
	s := fmt.Sprint(x)
	return s[:min(len(s), 300)]
}

// codesAs asks Code of s, and Read of that, and holds both against the slow forms.
func codesAs(t *testing.T, s api.Shape) {
	t.Helper()
	got, err := Code(s)
	want, wantErr := slowCode(s)
	if err != wantErr || !bytes.Equal(got, want) {
		t.Fatalf("Code of %s is %s, %d, not %s, %d", short(s), short(got), err, short(want), wantErr)
	}
	if err == api.OK {
		readsAs(t, want)
	}
}

// readsAs asks Read of code, and Code of that, and holds both against the slow forms.
func readsAs(t *testing.T, code []byte) {
	t.Helper()
	got, err := Read(code)
	want, wantErr := slowRead(code)
	if err != wantErr || !sameShape(got, want) {
		t.Fatalf("Read of %s is %s, %d, not %s, %d", short(code), short(got), err, short(want), wantErr)
	}
	if err != api.OK {
		return
	}
	if again, err := Code(got); err != api.OK || !bytes.Equal(again, code) {
		t.Fatalf("Code of Read of %s is %s, %d", short(code), short(again), err)
	}
}

func readsNot(t *testing.T, code []byte) {
	t.Helper()
	if s, err := Read(code); err != api.ErrForm || !sameShape(s, api.Shape{}) {
		t.Errorf("Read of %s is %s, %d, not ErrForm alone", short(code), short(s), err)
	}
}

// loads is whether Load has that error and nothing else, or, where it is OK, the tree that the slow form has.
func loads(t *testing.T, root api.Hash, codes [][]byte, wantErr api.Errno) {
	t.Helper()
	got, err := Load(root, codes)
	if err != wantErr || err != api.OK && !same(got, api.Node{}) {
		t.Errorf("Load of %d codes is %s, %d, not %d", len(codes), short(got), err, wantErr)
	}
	want, slowErr := slowLoad(root, codes)
	if slowErr != wantErr || !same(got, want) {
		t.Errorf("Load of %d codes is %s, %d, and by the words %s, %d", len(codes), short(got), err, short(want), slowErr)
	}
}

// room is where a list lies, with the spare room behind it.
type room struct {
	from, to uintptr
}

func roomOf[T any](l []T) []room {
	if cap(l) == 0 {
		return nil
	}
	from := uintptr(unsafe.Pointer(unsafe.SliceData(l)))
	return []room{{from, from + uintptr(cap(l))*unsafe.Sizeof(l[:1][0])}}
}

func roomsOf(t api.Node) []room {
	out := slices.Concat(roomOf(t.Path), roomOf(t.Value), roomOf(t.Kids))
	for _, kid := range t.Kids {
		out = append(out, roomsOf(kid)...)
	}
	return out
}

func roomsOfCodes(l [][]byte) []room {
	out := roomOf(l)
	for _, code := range l {
		out = append(out, roomOf(code)...)
	}
	return out
}

func roomsOfShape(s api.Shape) []room {
	return slices.Concat(roomOf(s.Path), roomOf(s.Value), roomsOfCodes(s.Kids))
}

// shareNothing is whether no two of these lists share memory.
func shareNothing(l ...[]room) bool {
	all := slices.Concat(l...)
	slices.SortFunc(all, func(a, b room) int { return int(a.from) - int(b.from) })
	for i := 1; i < len(all); i++ {
		if all[i].from < all[i-1].to {
			return false
		}
	}
	return true
}

// spare is b anew, with room behind it that whoever changes it has changed for all to see.
func spare(b []byte) []byte {
	return append(slices.Clone(b), bytes.Repeat([]byte{0xee}, 70)...)[: len(b) : len(b)+70]
}

func spareIsLeft(b []byte) bool {
	return bytes.Equal(b[len(b):cap(b)], bytes.Repeat([]byte{0xee}, 70))
}

func spareCodes(l [][]byte) [][]byte {
	out := make([][]byte, len(l), len(l)+3)
	for i, b := range l {
		out[i] = spare(b)
	}
	for i := len(l); i < cap(out); i++ {
		out[:cap(out)][i] = []byte{0xee}
	}
	return out
}

func spareCodesAreLeft(l [][]byte) bool {
	left := true
	for _, b := range l {
		left = left && spareIsLeft(b)
	}
	for _, b := range l[len(l):cap(l)] {
		left = left && bytes.Equal(b, []byte{0xee})
	}
	return left
}

func spareNode(t api.Node) api.Node {
	kids := make([]api.Node, len(t.Kids), len(t.Kids)+3)
	for i, kid := range t.Kids {
		kids[i] = spareNode(kid)
	}
	for i := len(kids); i < cap(kids); i++ {
		kids[:cap(kids)][i] = api.Node{Kind: 77}
	}
	return api.Node{Kind: t.Kind, Path: spare(t.Path), Value: spare(t.Value), Kids: kids}
}

func spareNodeIsLeft(t api.Node) bool {
	left := spareIsLeft(t.Path) && spareIsLeft(t.Value)
	for _, kid := range t.Kids {
		left = left && spareNodeIsLeft(kid)
	}
	for _, kid := range t.Kids[len(t.Kids):cap(t.Kids)] {
		left = left && same(kid, api.Node{Kind: 77})
	}
	return left
}
