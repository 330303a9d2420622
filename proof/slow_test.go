package proof

import (
	"bytes"
	"fmt"
	"maps"
	"slices"
	"strings"
	"testing"
	"unsafe"

	"lampbearer/api"
	"lampbearer/nib"
	"lampbearer/root"
	"lampbearer/sponge"
	"lampbearer/tree"
)

// codeOf is the code of a tree's node, with the codes of all within it written anew.
func codeOf(n api.Node) []byte {
	s := api.Shape{Kind: n.Kind, Path: n.Path, Value: n.Value}
	if n.Kind == 2 || n.Kind == 3 {
		for _, kid := range n.Kids {
			var sum []byte
			if kid.Kind != 0 {
				sum = sumOf(codeOf(kid))
			}
			s.Kids = append(s.Kids, sum)
		}
	}
	code, err := root.Code(s)
	if err != api.OK {
		panic("a tree's node has no code")
	}
	return code
}

func sumOf(code []byte) []byte {
	sum := sponge.Sum(code)
	return sum[:]
}

// slowMake goes by the words of the chapter, on a tree, with the whole path of the key and how much of it is gone.
func slowMake(n api.Node, path []byte, gone int) [][]byte {
	codes := [][]byte{codeOf(n)}
	var kid api.Node
	switch {
	case n.Kind == 2 && strings.HasPrefix(string(path[gone:]), string(n.Path)):
		kid, gone = n.Kids[0], gone+len(n.Path)
	case n.Kind == 3 && gone < len(path):
		kid, gone = n.Kids[path[gone]], gone+1
	}
	if kid.Kind == 0 {
		return codes
	}
	return append(codes, slowMake(kid, path, gone)...)
}

// slowCheck asks one thing of I2 behind the other, node by node.
func slowCheck(sum, key []byte, codes [][]byte) ([]byte, api.Errno) {
	if len(key) > 32 {
		return nil, api.ErrKey
	}
	return slowCome(sum, string(nib.Halves(key)), codes, true)
}

func slowCome(sum []byte, left string, codes [][]byte, first bool) ([]byte, api.Errno) {
	if len(codes) == 0 {
		return nil, api.ErrMissing
	}
	if !bytes.Equal(sumOf(codes[0]), sum) {
		return nil, api.ErrSum
	}
	s, err := root.Read(codes[0])
	if err != api.OK {
		return nil, api.ErrForm
	}
	if s.Kind == 0 && !first {
		return nil, api.ErrForm
	}
	if s.Kind == 2 && strings.HasPrefix(left, string(s.Path)) {
		return slowCome(s.Kids[0], left[len(s.Path):], codes[1:], false)
	}
	if s.Kind == 3 && left != "" && len(s.Kids[left[0]]) > 0 {
		return slowCome(s.Kids[left[0]], left[1:], codes[1:], false)
	}
	if len(codes) > 1 {
		return nil, api.ErrMuch
	}
	if s.Kind == 1 && left == string(s.Path) || s.Kind == 3 && left == "" {
		return s.Value, api.OK
	}
	return nil, api.OK
}

// checks is whether Check answers that, and the slow form, too.
func checks(t *testing.T, sum, key []byte, codes [][]byte, want string, wantErr api.Errno) {
	t.Helper()
	got, err := Check(api.Hash(sum), key, codes)
	if err != wantErr || string(got) != want {
		t.Errorf("Check of %x by %s is %s, %d, not %q, %d", key, short(codes), short(got), err, want, wantErr)
	}
	checksAs(t, sum, key, codes)
}

// checksAs holds Check against the slow form, and answers its error.
func checksAs(t *testing.T, sum, key []byte, codes [][]byte) api.Errno {
	t.Helper()
	got, err := Check(api.Hash(sum), key, codes)
	want, wantErr := slowCheck(sum, key, codes)
	if err != wantErr || !bytes.Equal(got, want) {
		t.Fatalf("Check of %x by %s is %s, %d, not %s, %d", key, short(codes), short(got), err, short(want), wantErr)
	}
	return err
}

// makes is whether Make answers these codes, and the slow form, too.
func makes(t *testing.T, x api.Node, key []byte, want [][]byte) {
	t.Helper()
	got, err := Make(x, key)
	if err != api.OK || !sameCodes(got, want) {
		t.Errorf("Make of %s, %x is %s, %d, not %s", short(x), key, short(got), err, short(want))
	}
	if slow := slowMake(x, nib.Halves(key), 0); !sameCodes(slow, want) {
		t.Errorf("Make of %s, %x is by the words %s, not %s", short(x), key, short(slow), short(want))
	}
}

// The codes of shapes, one each.

func code(s api.Shape) []byte {
	out, err := root.Code(s)
	if err != api.OK {
		panic("there is no such shape")
	}
	return out
}

func leaf(path []byte, value string) []byte {
	return code(api.Shape{Kind: 1, Path: path, Value: []byte(value)})
}

// road leads to the node of that code.
func road(path, kid []byte) []byte {
	return code(api.Shape{Kind: 2, Path: path, Kids: [][]byte{sumOf(kid)}})
}

// fork has the nodes of those codes as kids.
func fork(value string, kids map[int][]byte) []byte {
	s := api.Shape{Kind: 3, Value: []byte(value), Kids: make([][]byte, 16)}
	for half, kid := range kids {
		s.Kids[half] = sumOf(kid)
	}
	return code(s)
}

func treeOf(m map[string]string) api.Node {
	var pairs []api.Pair
	for _, key := range slices.Sorted(maps.Keys(m)) {
		pairs = append(pairs, api.Pair{Key: []byte(key), Value: []byte(m[key])})
	}
	t, err := tree.Of(pairs)
	if err != api.OK {
		panic("there is no such tree")
	}
	return t
}

func same(a, b api.Node) bool {
	return a.Kind == b.Kind && bytes.Equal(a.Path, b.Path) && bytes.Equal(a.Value, b.Value) && slices.EqualFunc(a.Kids, b.Kids, same)
}

func sameCodes(a, b [][]byte) bool { return slices.EqualFunc(a, b, bytes.Equal) }

// short tells what may be long.
func short(x any) string {
	s := fmt.Sprint(x)
	return s[:min(len(s), 300)]
}

// room is where a list lies, with the spare room behind it.
type room struct {
	from, to uintptr
}

func roomOf[T any](l []T) []room {
	if cap(l) == 0 {
		return nil
	}
	from := uintptr(unsafe.Pointer(unsafe.SliceData(l)))
	return []room{{from, from + uintptr(cap(l))*unsafe.Sizeof(l[:1][0])}}
}

func roomsOf(t api.Node) []room {
	out := slices.Concat(roomOf(t.Path), roomOf(t.Value), roomOf(t.Kids))
	for _, kid := range t.Kids {
		out = append(out, roomsOf(kid)...)
	}
	return out
}

func roomsOfCodes(l [][]byte) []room {
	out := roomOf(l)
	for _, code := range l {
		out = append(out, roomOf(code)...)
	}
	return out
}

// shareNothing is whether no two of these lists share memory.
func shareNothing(l ...[]room) bool {
	all := slices.Concat(l...)
	slices.SortFunc(all, func(a, b room) int { return int(a.from) - int(b.from) })
	for i := 1; i < len(all); i++ {
		if all[i].from < all[i-1].to {
			return false
		}
	}
	return true
}

// spare is b anew, with room behind it that whoever changes it has changed for all to see.
func spare(b []byte) []byte {
	return append(slices.Clone(b), bytes.Repeat([]byte{0xee}, 70)...)[: len(b) : len(b)+70]
}

func spareIsLeft(b []byte) bool {
	return bytes.Equal(b[len(b):cap(b)], bytes.Repeat([]byte{0xee}, 70))
}

func spareCodes(l [][]byte) [][]byte {
	out := make([][]byte, len(l), len(l)+3)
	for i, b := range l {
		out[i] = spare(b)
	}
	for i := len(l); i < cap(out); i++ {
		out[:cap(out)][i] = []byte{0xee}
	}
	return out
}

func spareCodesAreLeft(l [][]byte) bool {
	left := true
	for _, b := range l {
		left = left && spareIsLeft(b)
	}
	for _, b := range l[len(l):cap(l)] {
		left = left && bytes.Equal(b, []byte{0xee})
	}
	return left
}

func spareNode(t api.Node) api.Node {
	kids := make([]api.Node, len(t.Kids), len(t.Kids)+3)
	for i, kid := range t.Kids {
		kids[i] = spareNode(kid)
	}
	for i := len(kids); i < cap(kids); i++ {
		kids[:cap(kids)][i] = api.Node{Kind: 77}
	}
	return api.Node{Kind: t.Kind, Path: spare(t.Path), Value: spare(t.Value), Kids: kids}
}

func spareNodeIsLeft(t api.Node) bool {
	left := spareIsLeft(t.Path) && spareIsLeft(t.Value)
	for _, kid := range t.Kids {
		left = left && spareNodeIsLeft(kid)
	}
	for _, kid := range t.Kids[len(t.Kids):cap(t.Kids)] {
		left = left && same(kid, api.Node{Kind: 77})
	}
	return left
}
