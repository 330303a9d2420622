package tree

import (
	"bytes"
	"maps"
	"slices"
	"strings"
	"testing"
	"unsafe"

	"lampbearer/api"
	"lampbearer/nib"
)

// pathValue is what a node has at a path.
type pathValue struct {
	path, value []byte
}

func leafAt(path []byte, value string) api.Node {
	return api.Node{Kind: api.NodeLeaf, Path: path, Value: []byte(value)}
}

func roadTo(path []byte, kids ...api.Node) api.Node {
	return api.Node{Kind: api.NodeRoad, Path: path, Kids: kids}
}

// forkOf has the kids that are named by their halves, and nones beside them.
func forkOf(value string, kids map[int]api.Node) api.Node {
	f := api.Node{Kind: api.NodeFork, Value: []byte(value), Kids: make([]api.Node, 16)}
	for half, kid := range kids {
		f.Kids[half] = kid
	}
	return f
}

func pairOf(key, value string) api.Pair {
	return api.Pair{Key: []byte(key), Value: []byte(value)}
}

// has is what t has, by the words of the chapter.
func has(t api.Node) []pathValue {
	var out []pathValue
	lay := func(ahead []byte, kid api.Node) {
		for _, x := range has(kid) {
			out = append(out, pathValue{slices.Concat(ahead, x.path), x.value})
		}
	}
	switch t.Kind {
	case api.NodeLeaf:
		return []pathValue{{t.Path, t.Value}}
	case api.NodeRoad:
		for _, kid := range t.Kids {
			lay(t.Path, kid)
		}
	case api.NodeFork:
		if len(t.Value) > 0 {
			out = append(out, pathValue{nil, t.Value})
		}
		for half, kid := range t.Kids {
			lay([]byte{byte(half)}, kid)
		}
	}
	return out
}

// nodes are t and all within it, as far as it means something.
func nodes(t api.Node) []api.Node {
	out := []api.Node{t}
	if t.Kind == api.NodeRoad || t.Kind == api.NodeFork {
		for _, kid := range t.Kids {
			out = append(out, nodes(kid)...)
		}
	}
	return out
}

// slowRight asks one thing of G1 behind the other, of all nodes each time.
func slowRight(t api.Node) bool {
	notHalf := func(c byte) bool { return c > 15 }
	for _, n := range nodes(t) {
		full := 0
		switch n.Kind {
		case api.NodeNone:
		case api.NodeLeaf:
			if slices.ContainsFunc(n.Path, notHalf) || len(n.Value) == 0 || len(n.Value) > 1024 {
				return false
			}
		case api.NodeRoad:
			if slices.ContainsFunc(n.Path, notHalf) || len(n.Path) == 0 || len(n.Kids) != 1 || n.Kids[0].Kind != api.NodeFork {
				return false
			}
		case api.NodeFork:
			for _, kid := range n.Kids {
				full += min(max(kid.Kind, -kid.Kind), 1)
			}
			if len(n.Kids) != 16 || full+min(len(n.Value), 1) < 2 || len(n.Value) > 1024 {
				return false
			}
		default:
			return false
		}
	}
	return !slices.ContainsFunc(has(t), func(x pathValue) bool {
		key, err := nib.Join(x.path)
		return err != api.OK || len(key) > 32
	})
}

// slowTree is the tree of what m has by keys: made of all at once, by what their paths have in common.
func slowTree(m map[string]string) api.Node {
	var l []pathValue
	for _, key := range slices.Sorted(maps.Keys(m)) {
		if m[key] != "" {
			l = append(l, pathValue{nib.Halves([]byte(key)), []byte(m[key])})
		}
	}
	return slowNode(l)
}

// slowNode is that of what is sorted by paths.
func slowNode(l []pathValue) api.Node {
	if len(l) == 0 {
		return api.Node{}
	}
	if len(l) == 1 {
		return leafAt(l[0].path, string(l[0].value))
	}
	if n := nib.Common(l[0].path, l[len(l)-1].path); n > 0 {
		return roadTo(l[0].path[:n], slowNode(cut(l, n)))
	}
	f := forkOf("", nil)
	if len(l[0].path) == 0 {
		f.Value, l = l[0].value, l[1:]
	}
	for half := range f.Kids {
		var own []pathValue
		for _, x := range l {
			if int(x.path[0]) == half {
				own = append(own, x)
			}
		}
		f.Kids[half] = slowNode(cut(own, 1))
	}
	return f
}

// cut takes the first n halves of all paths away.
func cut(l []pathValue, n int) []pathValue {
	out := slices.Clone(l)
	for i := range out {
		out[i].path = out[i].path[n:]
	}
	return out
}

// same is whether two nodes are the same in all fields, those too that mean nothing.
func same(a, b api.Node) bool {
	return a.Kind == b.Kind && bytes.Equal(a.Path, b.Path) && bytes.Equal(a.Value, b.Value) && slices.EqualFunc(a.Kids, b.Kids, same)
}

// samePairs is whether l is what m has, by the order of keys.
func samePairs(l []api.Pair, m map[string]string) bool {
	keys := slices.DeleteFunc(slices.Sorted(maps.Keys(m)), func(key string) bool { return m[key] == "" })
	return slices.EqualFunc(l, keys, func(p api.Pair, key string) bool {
		return string(p.Key) == key && string(p.Value) == m[key]
	})
}

// isTree holds all faces against what t, a tree, has by the words: at the keys and with the values that are named.
func isTree(t *testing.T, x api.Node, keys, values []string) {
	t.Helper()
	m := map[string]string{}
	for _, v := range has(x) {
		key, _ := nib.Join(v.path)
		m[string(key)] = string(v.value)
	}
	if !Right(x) {
		t.Fatalf("a tree is not right: %s", tell(x))
	}
	pairs, err := Pairs(x)
	if err != api.OK || !samePairs(pairs, m) {
		t.Fatalf("Pairs of %s are %v, %d", tell(x), pairs, err)
	}
	if again, err := Of(pairs); err != api.OK || !same(again, slowTree(m)) {
		t.Fatalf("Of the Pairs of %s is %s, %d", tell(x), tell(again), err)
	}
	for _, key := range slices.Concat(keys, slices.Collect(maps.Keys(m))) {
		if got, err := Get(x, []byte(key)); err != api.OK || string(got) != m[key] {
			t.Fatalf("Get of %s at %q is %q, %d, not %q", tell(x), key, got, err, m[key])
		}
		for _, value := range values {
			changed := maps.Clone(m)
			changed[key] = value
			if got, err := Put(x, []byte(key), []byte(value)); err != api.OK || !same(got, slowTree(changed)) {
				t.Fatalf("Put of %q at %q to %s is %s, %d, not %s", value, key, tell(x), tell(got), err, tell(slowTree(changed)))
			}
		}
	}
}

// isNoTree asks all faces, of which each has to tell ErrForm and nothing beside it, whatever key and value are.
func isNoTree(t *testing.T, x api.Node) {
	t.Helper()
	if Right(x) {
		t.Fatalf("what is no tree is right: %s", tell(x))
	}
	if l, err := Pairs(x); err != api.ErrForm || len(l) != 0 {
		t.Fatalf("Pairs of %s are %v, %d", tell(x), l, err)
	}
	for _, key := range []string{"", "a", strings.Repeat("k", 32), strings.Repeat("k", 33)} {
		if got, err := Get(x, []byte(key)); err != api.ErrForm || len(got) != 0 {
			t.Fatalf("Get of %s at %q is %q, %d", tell(x), key, got, err)
		}
		for _, size := range []int{0, 1, 1024, 1025} {
			if got, err := Put(x, []byte(key), make([]byte, size)); err != api.ErrForm || !same(got, api.Node{}) {
				t.Fatalf("Put of %d bytes at %q to %s is %s, %d", size, key, tell(x), tell(got), err)
			}
		}
	}
}

// tell writes a node down, as deep as anyone may want to read.
func tell(t api.Node) string {
	var b strings.Builder
	tellTo(&b, t, 6)
	return b.String()
}

func tellTo(b *strings.Builder, t api.Node, deep int) {
	kinds := []string{"none", "leaf", "road", "fork"}
	if t.Kind < 0 || t.Kind >= len(kinds) {
		b.WriteString("?")
		return
	}
	b.WriteString(kinds[t.Kind])
	if t.Kind == api.NodeNone {
		return
	}
	b.WriteString(" ")
	for _, c := range t.Path[:min(len(t.Path), 70)] {
		b.WriteString(string("0123456789abcdef!"[min(c, 16)]))
	}
	b.WriteString(" '" + string(t.Value[:min(len(t.Value), 20)]) + "' (")
	for half, kid := range t.Kids {
		if kid.Kind != api.NodeNone && deep > 0 {
			b.WriteString(string("0123456789abcdef!"[min(half, 16)]) + ": ")
			tellTo(b, kid, deep-1)
			b.WriteString(" ")
		}
	}
	b.WriteString(")")
}

// room is where a list lies, with the spare room behind it.
type room struct {
	from, to uintptr
}

func roomOf[T any](l []T) []room {
	if cap(l) == 0 {
		return nil
	}
	from := uintptr(unsafe.Pointer(unsafe.SliceData(l)))
	return []room{{from, from + uintptr(cap(l))*unsafe.Sizeof(l[:1][0])}}
}

func roomsOf(t api.Node) []room {
	out := slices.Concat(roomOf(t.Path), roomOf(t.Value), roomOf(t.Kids))
	for _, kid := range t.Kids {
		out = append(out, roomsOf(kid)...)
	}
	return out
}

func roomsOfPairs(l []api.Pair) []room {
	out := roomOf(l)
	for _, pair := range l {
		out = slices.Concat(out, roomOf(pair.Key), roomOf(pair.Value))
	}
	return out
}

// apart is whether no two of these lists share memory.
func apart(l ...[]room) bool {
	all := slices.Concat(l...)
	slices.SortFunc(all, func(a, b room) int { return int(a.from) - int(b.from) })
	for i := 1; i < len(all); i++ {
		if all[i].from < all[i-1].to {
			return false
		}
	}
	return true
}
