package root

import (
	"bytes"
	"encoding/hex"
	"slices"
	"strings"
	"testing"

	"lampbearer/api"
	"lampbearer/nib"
	"lampbearer/pack"
	"lampbearer/sponge"
	"lampbearer/tree"
)

const most = 1024 // bytes of a value

func zeros(n int) []byte { return make([]byte, n) }

func long(c string) string { return strings.Repeat(c, 32) }

// someTrees are of every kind, with the edges of keys and values.
func someTrees() []api.Node {
	var out []api.Node
	for _, keys := range [][]string{
		{}, {""}, {"a"}, {"ab"}, {long("k")}, {"a", "b"}, {"", "a"}, {"a", "ab"}, {"", "a", "ab", "abc"}, {"do", "dog", "doge", "horse"},
		{"\x00", "\x10", "\x11"}, {long("k"), long("k")[1:]}, {long("k"), long("k")[1:] + "l", long("k")[1:] + "\x00"}, {"", long("\xff"), long("\x00")},
	} {
		for _, size := range []int{1, 31, 32, 33, 47, 48, most} {
			m := map[string]string{}
			for i, key := range keys {
				m[key] = strings.Repeat("v", max(1, size-i))
			}
			out = append(out, treeOf(m))
		}
	}
	twins := map[string]string{} // the same behind each half: one code in many places
	for c := range 256 {
		twins["w"+string([]byte{byte(c)})] = "x"
	}
	return append(out, treeOf(twins), treeOfNodes(400))
}

// noTrees are wrong in one thing each.
func noTrees() []api.Node {
	leaf := func(path []byte, value string) api.Node {
		return api.Node{Kind: api.NodeLeaf, Path: path, Value: []byte(value)}
	}
	fork := func(value string, kids ...api.Node) api.Node {
		return api.Node{Kind: api.NodeFork, Value: []byte(value), Kids: append(kids, make([]api.Node, 16-len(kids))...)}
	}
	road := func(path []byte, kids ...api.Node) api.Node {
		return api.Node{Kind: api.NodeRoad, Path: path, Kids: kids}
	}
	two := fork("", leaf([]byte{2}, "a"), leaf([]byte{0}, "b"))
	return []api.Node{
		{Kind: 4}, {Kind: -1}, {Kind: 1 << 40}, leaf(nil, ""), leaf(nil, strings.Repeat("v", most+1)), leaf([]byte{16, 0}, "v"), leaf([]byte{1}, "v"), leaf(zeros(66), "v"),
		road(nil, two), road([]byte{16, 1}, two), road([]byte{1}, two), road([]byte{1, 2}), road([]byte{1, 2}, two, two), road([]byte{1, 2}, leaf(nil, "v")),
		road([]byte{1, 2}, road([]byte{1, 2}, two)), road([]byte{1, 2}, api.Node{}), road(zeros(64), two), fork(""), fork("v"), fork("", leaf([]byte{0}, "v")),
		fork(strings.Repeat("v", most+1), leaf([]byte{0}, "v")), fork("v", leaf(nil, "v")), fork("v", api.Node{Kind: 4}),
		{Kind: api.NodeFork, Kids: two.Kids[:15]}, {Kind: api.NodeFork, Kids: append(slices.Clone(two.Kids), api.Node{})}, {Kind: api.NodeFork, Value: []byte("v")},
	}
}

// someShapes are of every kind, right and wrong, at all edges that H1 names.
func someShapes() []api.Shape {
	var out []api.Shape
	sums := [][][]byte{nil, {nil}, {{}}, {zeros(31)}, {zeros(32)}, {zeros(33)}, {nowhere()}, {nowhere(), nowhere()}, {nowhere(), nil}, {nil, nowhere()}}
	for _, full := range []int{0, 1, 2, 3, 15, 16} {
		for _, size := range []int{0, 1, 31, 32, 33} {
			kids := slices.Repeat([][]byte{nil}, 16-full)
			for i := range full {
				kids = slices.Insert(kids, i*len(kids)/16, nowhere())
			}
			sums = append(sums, kids, kids[:15], append(slices.Clone(kids), nil))
			for _, at := range []int{0, 7, 15} {
				other := slices.Clone(kids)
				other[at] = zeros(size)
				sums = append(sums, other)
			}
		}
	}
	paths := [][]byte{nil, {}, {0}, {15}, {16}, {255}, {1, 2}, {1, 16}, {16, 1}, {1, 2, 3}, zeros(64), zeros(65), zeros(1001), append(zeros(1000), 16)}
	for kind := -1; kind <= 4; kind++ {
		for _, path := range paths {
			for _, size := range []int{0, 1, 2, 32, most, most + 1} {
				for _, kids := range sums {
					out = append(out, api.Shape{Kind: kind, Path: path, Value: bytes.Repeat([]byte("v"), size), Kids: kids})
				}
			}
		}
	}
	return out
}

func TestCodeOfNamedShapes(t *testing.T) { // H1
	ones := bytes.Repeat([]byte{1}, 32)
	nones := func(n int) []byte { return bytes.Repeat([]byte{128}, n) }
	for _, c := range []struct {
		shape api.Shape
		want  []byte
	}{
		{api.Shape{}, []byte{128}},
		{api.Shape{Kind: 1, Value: []byte("a")}, []byte{194, 0x20, 'a'}},
		{api.Shape{Kind: 1, Path: []byte{}, Value: []byte{0}}, []byte{194, 0x20, 0}},
		{api.Shape{Kind: 1, Path: []byte{1, 2, 3}, Value: []byte{200}}, []byte{197, 130, 0x31, 0x23, 129, 200}},
		{api.Shape{Kind: 1, Path: []byte{15}, Value: []byte("ab")}, []byte{196, 0x3f, 130, 'a', 'b'}},
		{api.Shape{Kind: 1, Path: []byte{6, 1}, Value: []byte("1")}, []byte{196, 130, 0x20, 0x61, '1'}},
		{api.Shape{Kind: 1, Value: zeros(most)}, slices.Concat([]byte{241, 4, 4, 0x20, 177, 4, 0}, zeros(most))},
		{api.Shape{Kind: 1, Path: zeros(65), Value: []byte("v")}, slices.Concat([]byte{227, 161, 0x30}, zeros(32), []byte("v"))},
		{api.Shape{Kind: 2, Path: []byte{1}, Kids: [][]byte{ones}}, slices.Concat([]byte{226, 0x11, 160}, ones)},
		{api.Shape{Kind: 2, Path: []byte{1, 2}, Kids: [][]byte{ones}}, slices.Concat([]byte{228, 130, 0, 0x12, 160}, ones)},
		{api.Shape{Kind: 2, Path: zeros(100), Kids: [][]byte{ones}}, slices.Concat([]byte{240, 86, 176, 51}, zeros(51), []byte{160}, ones)},
		{forkShape("v", map[int][]byte{0: ones}), slices.Concat([]byte{240, 49, 160}, ones, nones(15), []byte("v"))},
		{forkShape("", map[int][]byte{0: ones, 15: ones}), slices.Concat([]byte{240, 81, 160}, ones, nones(14), []byte{160}, ones, []byte{128})},
		{forkShape(string(zeros(most)), map[int][]byte{3: ones}), slices.Concat([]byte{241, 4, 51}, nones(3), []byte{160}, ones, nones(12), []byte{177, 4, 0}, zeros(most))},
	} {
		if got, err := Code(c.shape); err != api.OK || !bytes.Equal(got, c.want) {
			t.Errorf("Code of %s is %s, %d, not %s", short(c.shape), short(got), err, short(c.want))
		}
		if got, err := Read(c.want); err != api.OK || !sameShape(got, c.shape) {
			t.Errorf("Read of %s is %s, %d, not %s", short(c.want), short(got), err, short(c.shape))
		}
	}
}

func TestCodeOfWrongShapes(t *testing.T) { // H1, Z4
	one := map[int][]byte{0: nowhere()}
	two := map[int][]byte{0: nowhere(), 1: nowhere()}
	kids := forkShape("", two).Kids
	for _, s := range []api.Shape{
		{Kind: 4}, {Kind: -1}, {Kind: 1 << 40}, {Kind: -1 << 63}, {Kind: 4, Path: []byte{1}, Value: []byte("v"), Kids: kids},
		{Kind: 1}, {Kind: 1, Path: []byte{1, 2}}, {Kind: 1, Value: []byte{}}, {Kind: 1, Value: zeros(most + 1)}, {Kind: 1, Path: []byte{16}, Value: []byte("a")}, {Kind: 1, Path: []byte{1, 255}, Value: []byte("a")},
		{Kind: 2}, {Kind: 2, Kids: kids[:1]}, {Kind: 2, Path: []byte{}, Kids: kids[:1]}, {Kind: 2, Path: []byte{16}, Kids: kids[:1]}, {Kind: 2, Path: []byte{1, 16}, Kids: kids[:1]},
		{Kind: 2, Path: []byte{1}}, {Kind: 2, Path: []byte{1}, Kids: kids[:2]}, {Kind: 2, Path: []byte{1}, Kids: kids[2:3]}, {Kind: 2, Path: []byte{1}, Kids: [][]byte{zeros(31)}}, {Kind: 2, Path: []byte{1}, Kids: [][]byte{zeros(33)}},
		{Kind: 2, Path: []byte{1}, Value: nowhere()}, {Kind: 2, Path: []byte{1}, Kids: kids},
		{Kind: 3}, {Kind: 3, Value: []byte("v")}, {Kind: 3, Kids: kids[:15]}, {Kind: 3, Kids: append(slices.Clone(kids), nil)}, {Kind: 3, Kids: append(slices.Clone(kids), nowhere())},
		forkShape("", nil), forkShape("v", nil), forkShape("", one), forkShape(string(zeros(most+1)), one), forkShape(string(zeros(most+1)), two),
		forkShape("v", map[int][]byte{0: zeros(31)}), forkShape("v", map[int][]byte{0: zeros(33)}), forkShape("v", map[int][]byte{0: nowhere(), 15: zeros(1)}), forkShape("v", map[int][]byte{0: nowhere(), 7: zeros(64)}),
	} {
		if got, err := Code(s); err != api.ErrForm || len(got) != 0 {
			t.Errorf("Code of %s is %s, %d, not ErrForm alone", short(s), short(got), err)
		}
	}
}

func TestCodeOfAllEdges(t *testing.T) { // H1, Z5: each with all others, fields that mean nothing among them
	right := 0
	for _, s := range someShapes() {
		codesAs(t, s)
		if _, err := Code(s); err == api.OK {
			right++
		}
	}
	if right < 1000 {
		t.Errorf("%d shapes were right: too few", right)
	}
}

func TestReadOfWrongCodes(t *testing.T) { // H1, Z4
	sum, none := text(nowhere()), text(nil)
	tag := func(p []byte, leaf bool) api.Item {
		b, _ := nib.Tag(p, leaf)
		return text(b)
	}
	value := text([]byte("v"))
	row := func(n int, last api.Item) api.Item {
		return list(append(slices.Repeat([]api.Item{sum}, n), last)...)
	}
	with := func(at int, x api.Item) api.Item {
		it := row(16, value)
		it.Kids[at] = x
		return it
	}
	wrong := []api.Item{
		list(), list(none), list(list()), list(tag(nil, true)), list(sum), value, sum, text(zeros(1)), text(zeros(1000)), list(none, none), list(none, value), list(none, sum),
		list(tag(nil, true), value, value), list(tag([]byte{1}, false), sum, sum), list(tag(nil, true), none), list(tag(nil, true), text(zeros(most+1))),
		list(tag(nil, true), list()), list(tag(nil, true), list(value)), list(list(), value), list(list(tag(nil, true)), value), list(list(tag([]byte{1}, false)), sum),
		list(tag(nil, false), sum), list(tag([]byte{1}, false), none), list(tag([]byte{1}, false), text(zeros(31))), list(tag([]byte{1}, false), text(zeros(33))), list(tag([]byte{1}, false), list()), list(tag([]byte{1}, false), list(sum)),
		list(text([]byte{0x40}), value), list(text([]byte{0xf0}), sum), list(text([]byte{0x21}), value), list(text([]byte{0x01, 0x23}), sum), list(text([]byte{0x2f, 0x23}), value),
		list(value, tag(nil, true)), list(sum, tag([]byte{1}, false)),
		row(0, value), row(14, value), row(15, value), row(17, value), row(16, list()), row(16, list(value)), row(16, text(zeros(most+1))),
		with(0, text(zeros(31))), with(7, text(zeros(33))), with(15, text(zeros(1))), with(0, list()), with(15, list(sum)), with(3, list(list())),
		list(slices.Repeat([]api.Item{none}, 17)...), list(append(slices.Repeat([]api.Item{none}, 16), value)...), list(append(slices.Repeat([]api.Item{none}, 16), sum)...), list(append([]api.Item{sum}, slices.Repeat([]api.Item{none}, 16)...)...),
		list(slices.Repeat([]api.Item{none}, 1<<16)...),
	}
	for _, it := range wrong {
		readsNot(t, pack.Encode(it))
		readsAs(t, pack.Encode(it))
	}
	for _, code := range [][]byte{nil, {}, {129}, {255}, {194, 0x20}, {129, 5}, {195, 129, 0x20, 'v'}, {195, 0x20, 129, 'v'}, {240, 2, 0x20, 'v'}, {128, 128}, {194, 0x20, 'v', 'v'}, {192, 0x20, 'v'}, bytes.Repeat([]byte{193}, 1<<10)} {
		readsNot(t, code)
		readsAs(t, code)
	}
}

// someCodes are of shapes of all kinds, with heads of all sizes.
func someCodes() [][]byte {
	var s store
	s.add(api.Shape{})
	s.leaf(nil, "v")
	s.leaf([]byte{1}, "\xff")
	s.leaf([]byte{1, 2, 3}, "verb")
	s.leaf([]byte{1, 2}, strings.Repeat("x", 60))
	s.road([]byte{1}, nowhere())
	s.road([]byte{1, 2}, zeros(32))
	s.fork("v", map[int][]byte{4: nowhere()})
	s.fork("", map[int][]byte{0: nowhere(), 15: zeros(32)})
	return s.codes
}

func TestOneByteChanged(t *testing.T) { // H1: nothing has two forms
	for _, code := range someCodes() {
		for at := range code {
			for c := range 256 {
				changed := slices.Clone(code)
				changed[at] = byte(c)
				readsAs(t, changed)
				readsAs(t, slices.Insert(slices.Clone(code), at, byte(c)))
			}
			readsAs(t, slices.Delete(slices.Clone(code), at, at+1))
			readsNot(t, code[:at])
		}
		for c := range 256 {
			readsNot(t, append(slices.Clone(code), byte(c)))
		}
	}
}

func TestLongPaths(t *testing.T) { // H1: a shape's path has no end but that of the Limits
	for _, n := range []int{1 << 20, 1<<20 + 1} {
		codesAs(t, api.Shape{Kind: 1, Path: bytes.Repeat([]byte{9}, n), Value: []byte("v")})
		codesAs(t, api.Shape{Kind: 2, Path: bytes.Repeat([]byte{9}, n), Kids: [][]byte{nowhere()}})
		codesAs(t, api.Shape{Kind: 1, Path: append(bytes.Repeat([]byte{9}, n), 16), Value: []byte("v")})
	}
}

func TestCodesOfNamedTrees(t *testing.T) { // H2
	leaf1, leaf2 := []byte{194, 0x20, '1'}, []byte{194, 0x20, '2'}
	sum1, sum2 := sponge.Sum(leaf1), sponge.Sum(leaf2)
	kids := bytes.Repeat([]byte{128}, 17)
	fork := slices.Concat([]byte{240, 81, 128, 160}, sum1[:], []byte{160}, sum2[:], kids[3:])
	sumFork := sponge.Sum(fork)
	road := slices.Concat([]byte{226, 0x16, 160}, sumFork[:])
	for _, c := range []struct {
		tree api.Node
		want [][]byte
		root string
	}{
		{api.Node{}, [][]byte{{128}}, "758dfbf0b0b61dddf38d15b72c2d75dbd880cda17864ad42988b02cfe5ceeab4"},
		{treeOf(map[string]string{"": "v"}), [][]byte{{194, 0x20, 'v'}}, "95ba20a3fcbe6150fa1b82e8dcbc0c612f4ccc4f7e70ae86b373fe58fc592ba1"},
		{treeOf(map[string]string{"a": "1"}), [][]byte{{196, 130, 0x20, 'a', '1'}}, "18093a9c3af758d1a37a2bbac4751b89f6bd7d8068355cbe7fce10489b78bbdb"},
		{treeOf(map[string]string{"a": "1", "b": "2"}), [][]byte{road, fork, leaf1, leaf2}, "e7fb6cbc5f110536b87c9a641d7c8435ede440e965fedcf242119f0e697530a4"},
	} {
		got, err := Codes(c.tree)
		if err != api.OK || !sameCodes(got, c.want) {
			t.Errorf("Codes of %s are %v, %d, not %v", short(c.tree), got, err, c.want)
		}
		root, err := Root(c.tree)
		if err != api.OK || hex.EncodeToString(root[:]) != c.root {
			t.Errorf("Root of %s is %x, %d, not %s", short(c.tree), root, err, c.root)
		}
	}
}

func TestCodesOfTrees(t *testing.T) { // H2
	seen := map[api.Hash]api.Node{}
	for _, x := range someTrees() {
		want := [][]byte{{128}}
		if x.Kind != api.NodeNone {
			want = slowCodes(x)
		}
		got, err := Codes(x)
		if err != api.OK || !sameCodes(got, want) {
			t.Fatalf("Codes of %s are %s, %d, not %s", short(x), short(got), err, short(want))
		}
		root, err := Root(x)
		if err != api.OK || root != sponge.Sum(want[0]) {
			t.Fatalf("Root of %s is %x, %d", short(x), root, err)
		}
		if other, ok := seen[root]; ok && !same(other, x) { // what they have settles the root, and the other way round
			t.Fatalf("%s and %s have one root", short(x), short(other))
		}
		seen[root] = x
		for _, code := range got {
			readsAs(t, code)
		}
	}
}

func TestOrderIsNoMatter(t *testing.T) { // H2: the root hangs on what a tree has alone
	pairs, _ := tree.Pairs(treeOfNodes(400))
	want, _ := Root(treeOfNodes(400))
	for from := range 20 {
		turned := slices.Concat(pairs[from*10:], pairs[:from*10])
		slices.Reverse(turned[:from*5])
		x, _ := tree.Of(turned)
		x, _ = tree.Put(x, []byte("gone"), []byte("v"))
		x, _ = tree.Put(x, []byte("gone"), nil)
		if got, err := Root(x); err != api.OK || got != want {
			t.Errorf("in another order the root is %x, %d, not %x", got, err, want)
		}
	}
}

func TestCodesOfNoTrees(t *testing.T) { // H2, Z4
	for _, x := range noTrees() {
		if l, err := Codes(x); err != api.ErrForm || len(l) != 0 {
			t.Errorf("Codes of %s are %v, %d, not ErrForm alone", short(x), l, err)
		}
		if h, err := Root(x); err != api.ErrForm || h != (api.Hash{}) {
			t.Errorf("Root of %s is %x, %d, not ErrForm alone", short(x), h, err)
		}
	}
}

// clutter is x with something in all fields that mean nothing.
func clutter(x api.Node) api.Node {
	junk := []api.Node{{Kind: 9}, {Kind: 1, Value: []byte("v")}, {Kind: 3}}
	kids := make([]api.Node, len(x.Kids))
	for i, kid := range x.Kids {
		kids[i] = clutter(kid)
	}
	switch x.Kind {
	case api.NodeNone:
		return api.Node{Path: []byte{77}, Value: zeros(2000), Kids: junk}
	case api.NodeLeaf:
		x.Kids = junk
	case api.NodeRoad:
		x.Value, x.Kids = zeros(2000), kids
	case api.NodeFork:
		x.Path, x.Kids = []byte{77, 1}, kids
	}
	return x
}

func TestFieldsThatMeanNothing(t *testing.T) { // H2, Z5
	for _, x := range someTrees() {
		want, _ := Codes(x)
		root, _ := Root(x)
		if got, err := Codes(clutter(x)); err != api.OK || !sameCodes(got, want) {
			t.Errorf("with clutter the Codes of %s are %s, %d", short(x), short(got), err)
		}
		if got, err := Root(clutter(x)); err != api.OK || got != root {
			t.Errorf("with clutter the Root of %s is %x, %d", short(x), got, err)
		}
	}
}

func TestLoadOfTrees(t *testing.T) { // H3
	var junk store
	junk.leaf([]byte{1, 2}, "other")
	junk.fork("v", map[int][]byte{3: nowhere()})
	junk.add(api.Shape{})
	junk.codes = append(junk.codes, nil, []byte("no code"), []byte{129, 5})
	for _, x := range someTrees() {
		root, _ := Root(x)
		codes, _ := Codes(x)
		backward := slices.Clone(codes)
		slices.Reverse(backward)
		for _, l := range [][][]byte{codes, backward, slices.Concat(codes, codes), slices.Concat(junk.codes, backward, junk.codes)} {
			if got, err := Load(root, l); err != api.OK || !same(got, x) {
				t.Fatalf("Load of %s is %s, %d", short(x), short(got), err)
			}
		}
		for i, code := range codes[:min(len(codes), 50)] {
			fewer := slices.DeleteFunc(slices.Clone(codes), func(b []byte) bool { return bytes.Equal(b, code) })
			if got, err := Load(root, slices.Concat(fewer, junk.codes[:2])); err != api.ErrMissing || !same(got, api.Node{}) {
				t.Fatalf("without code %d of %s there is %s, %d", i, short(x), short(got), err)
			}
		}
	}
}

func TestLoadOfNothing(t *testing.T) { // H3, Z3
	none, _ := Root(api.Node{})
	for _, l := range [][][]byte{nil, {}, {nil}, {{}}} {
		loads(t, none, l, api.ErrMissing)
		loads(t, api.Hash{}, l, api.ErrMissing)
	}
	loads(t, none, [][]byte{{128}}, api.OK)
	loads(t, none, [][]byte{{128}, {128}, {194, 0x20, 'v'}}, api.OK)
	loads(t, sponge.Sum(nil), [][]byte{nil}, api.ErrForm)
	loads(t, sponge.Sum([]byte{129, 5}), [][]byte{{129, 5}}, api.ErrForm)
}

// within lays a fork that has, behind two halves, what sum tells.
func within(s *store, sum []byte) []byte {
	inner := s.fork("", map[int][]byte{2: s.leaf(nil, "a"), 9: sum})
	return s.fork("v", map[int][]byte{0: s.leaf([]byte{1}, "b"), 15: inner})
}

func TestLoadOfNoTrees(t *testing.T) { // H3: all is come to, and yet there is no tree
	for name, lay := range map[string]func(s *store) []byte{
		"odd leaf":     func(s *store) []byte { return s.leaf([]byte{1}, "v") },
		"far leaf":     func(s *store) []byte { return s.leaf(zeros(66), "v") },
		"road to leaf": func(s *store) []byte { return s.road([]byte{1}, s.leaf([]byte{1}, "v")) },
		"road to road": func(s *store) []byte { return s.road([]byte{1}, s.road([]byte{2}, within(s, s.leaf(nil, "v")))) },
		"odd fork":     func(s *store) []byte { return s.road([]byte{1}, within(s, s.leaf(nil, "v"))) },
		"odd value":    func(s *store) []byte { return s.road([]byte{1}, s.fork("v", map[int][]byte{1: s.leaf(nil, "v")})) },
		"odd beside": func(s *store) []byte {
			return s.fork("", map[int][]byte{1: s.leaf([]byte{1}, "v"), 2: s.leaf(nil, "v")})
		},
		"road to none": func(s *store) []byte { return s.road([]byte{1, 2}, s.add(api.Shape{})) },
		"none beside":  func(s *store) []byte { return s.fork("v", map[int][]byte{1: s.add(api.Shape{})}) },
		"none at last": func(s *store) []byte {
			return s.fork("v", map[int][]byte{1: s.leaf([]byte{1}, "v"), 15: s.add(api.Shape{})})
		},
		"leaf too deep": func(s *store) []byte {
			return s.road(zeros(62), s.fork("", map[int][]byte{1: s.leaf([]byte{1}, "v"), 2: s.leaf([]byte{1, 2, 3}, "v")}))
		},
	} {
		var s store
		loads(t, api.Hash(lay(&s)), s.codes, api.ErrForm)
		loads(t, api.Hash(within(&s, lay(&s))), s.codes, api.ErrForm)
		if name == "road to none" || name == "none beside" || name == "none at last" {
			continue
		}
		// That it is no tree is told when all has been come to, and not ahead of that.
		loads(t, api.Hash(s.fork("v", map[int][]byte{1: lay(&s), 2: nowhere()})), s.codes, api.ErrMissing)
		loads(t, api.Hash(s.fork("v", map[int][]byte{1: lay(&s), 2: s.all(s.all(s.all(s.leaf(nil, "v"))))})), s.codes, api.ErrMuch)
	}
}

func TestLoadOfFarNodes(t *testing.T) { // H3: 64 halves, and more
	for _, halves := range []int{1, 2, 63, 64} {
		var s store
		loads(t, api.Hash(s.road(zeros(halves), nowhere())), s.codes, api.ErrMissing)
	}
	for _, halves := range []int{65, 66, 1000, 1 << 20} {
		var s store
		loads(t, api.Hash(s.road(zeros(halves), nowhere())), s.codes, api.ErrForm)
		loads(t, api.Hash(s.road(zeros(halves), s.leaf(nil, "v"))), s.codes, api.ErrForm)
	}
	two := func(s *store) map[int][]byte { return map[int][]byte{3: s.leaf(nil, "a"), 4: s.leaf(nil, "b")} }
	var s store
	loads(t, api.Hash(s.road(zeros(63), s.fork("", two(&s)))), s.codes, api.OK)
	loads(t, api.Hash(s.road(zeros(63), s.fork("v", two(&s)))), s.codes, api.ErrForm)
	loads(t, api.Hash(s.road(zeros(64), s.fork("v", two(&s)))), s.codes, api.ErrForm)
	loads(t, api.Hash(s.road(zeros(63), s.fork("", map[int][]byte{0: nowhere(), 1: nowhere()}))), s.codes, api.ErrMissing)
	loads(t, api.Hash(s.road(zeros(64), s.fork("", map[int][]byte{0: nowhere(), 1: nowhere()}))), s.codes, api.ErrForm) // too far, ahead of missing
	loads(t, api.Hash(s.road(zeros(32), s.road(zeros(32), nowhere()))), s.codes, api.ErrMissing)
	loads(t, api.Hash(s.road(zeros(32), s.road(zeros(33), nowhere()))), s.codes, api.ErrForm)
	line := nowhere() // forks alone: kid 15 of each is the next one
	for range 64 {
		line = s.fork("v", map[int][]byte{15: line})
	}
	loads(t, api.Hash(line), s.codes, api.ErrMissing)
	loads(t, api.Hash(s.fork("v", map[int][]byte{15: line})), s.codes, api.ErrForm)
}

func TestLoadOfManyNodes(t *testing.T) { // H3: MaxNodes, and one more
	for _, n := range []int{4095, 4096} {
		x := treeOfNodes(n)
		root, _ := Root(x)
		codes, err := Codes(x)
		if err != api.OK || len(codes) != n {
			t.Fatalf("there are %d nodes, %d", len(codes), err)
		}
		if got, err := Load(root, codes); err != api.OK || !same(got, x) {
			t.Errorf("Load of %d nodes is another tree, %d", n, err)
		}
	}
	for _, n := range []int{4097, 4098, 4369} {
		x := treeOfNodes(n)
		root, _ := Root(x)
		codes, err := Codes(x)
		if err != api.OK || len(codes) != n {
			t.Fatalf("there are %d nodes, %d", len(codes), err)
		}
		if got, err := Load(root, codes); err != api.ErrMuch || !same(got, api.Node{}) {
			t.Errorf("Load of %d nodes tells %d, not ErrMuch alone", n, err)
		}
	}
}

// withLast lays a tree whose nth node, behind all others and two halves, is that of sum.
func withLast(s *store, n int, sum []byte) []byte {
	x, _ := tree.Put(treeOfNodes(n), []byte{0xff}, nil)
	codes, _ := Codes(x)
	s.codes = append(s.codes, codes...)
	root, _ := slowRead(codes[0])
	at := slices.IndexFunc(codes, func(code []byte) bool {
		own := sponge.Sum(code)
		return bytes.Equal(own[:], root.Kids[15])
	})
	last, _ := slowRead(codes[at])
	last.Kids[15] = sum
	root.Kids[15] = s.add(last)
	return s.add(root)
}

func TestLoadOfTheLastNode(t *testing.T) { // H3: which error counts, behind 4095 nodes and behind 4096
	for _, c := range []struct {
		lay         func(s *store) []byte
		last, above api.Errno
	}{
		{func(s *store) []byte { return s.leaf(nil, "v") }, api.OK, api.ErrMuch},
		{func(s *store) []byte { return nowhere() }, api.ErrMissing, api.ErrMissing},
		{func(s *store) []byte { return s.add(api.Shape{}) }, api.ErrForm, api.ErrMuch},
		{func(s *store) []byte { return s.leaf([]byte{1}, "v") }, api.ErrForm, api.ErrMuch},
		{func(s *store) []byte { return s.junk("no code") }, api.ErrForm, api.ErrMuch},
		{func(s *store) []byte { return s.road(zeros(62), nowhere()) }, api.ErrMissing, api.ErrMuch},
		{func(s *store) []byte { return s.road(zeros(63), nowhere()) }, api.ErrForm, api.ErrMuch},
		{func(s *store) []byte { return s.road(zeros(62), s.leaf(nil, "v")) }, api.ErrMuch, api.ErrMuch},
		{func(s *store) []byte { return s.road(zeros(63), s.leaf(nil, "v")) }, api.ErrForm, api.ErrMuch},
	} {
		var s store
		loads(t, api.Hash(withLast(&s, 4096, c.lay(&s))), s.codes, c.last)
		loads(t, api.Hash(withLast(&s, 4097, c.lay(&s))), s.codes, c.above)
	}
}

func TestLoadTellsTheFirstError(t *testing.T) { // H3: node by node, each ahead of its kids, which follow kid by kid
	lays := map[api.Errno]func(s *store) []byte{
		api.ErrMissing: func(s *store) []byte { return nowhere() },
		api.ErrForm:    func(s *store) []byte { return s.junk("no code") },
		api.ErrMuch:    func(s *store) []byte { return s.all(s.all(s.all(s.all(s.leaf(nil, "v"))))) },
	}
	for first, lay := range lays {
		for _, other := range lays {
			var s store
			deep := s.fork("v", map[int][]byte{7: s.road([]byte{1, 2}, lay(&s))})
			for _, x := range []api.Shape{
				forkShape("", map[int][]byte{0: lay(&s), 1: other(&s)}),
				forkShape("", map[int][]byte{14: lay(&s), 15: other(&s)}),
				forkShape("v", map[int][]byte{3: deep, 4: other(&s)}),
				forkShape("v", map[int][]byte{3: s.road([]byte{5}, deep), 4: other(&s), 5: other(&s)}),
				forkShape("v", map[int][]byte{2: s.leaf([]byte{1}, "v"), 3: deep, 4: other(&s)}),
			} {
				loads(t, api.Hash(s.add(x)), s.codes, first)
			}
		}
	}
}

func TestLoadOfOneCodeInManyPlaces(t *testing.T) { // H3, Z2: each place counts, and has lists of its own
	var s store
	inner := s.all(s.leaf(nil, "same"))
	root := api.Hash(s.all(inner)) // 273 nodes by three codes
	loads(t, root, s.codes, api.OK)
	x, err := Load(root, s.codes)
	if err != api.OK || !shareNothing(roomsOf(x), roomsOfCodes(s.codes)) {
		t.Errorf("what stands in many places shares memory, %d", err)
	}
	if codes, _ := Codes(x); len(codes) != 273 {
		t.Errorf("there are %d nodes", len(codes))
	}
	for range 60 { // without end, nearly
		inner = s.all(inner)
	}
	loads(t, api.Hash(inner), s.codes, api.ErrMuch)
}

func TestLoadOfLongCodesInManyPlaces(t *testing.T) { // H3: read and laid anew for each place it would not end in time
	var s store
	far := s.leaf(make([]byte, 1<<22), "v")
	root := s.all(s.all(s.all(far)))
	if x, err := Load(api.Hash(root), s.codes); err != api.ErrMuch || !same(x, api.Node{}) {
		t.Errorf("Load tells %d, not ErrMuch alone", err)
	}
	root = s.all(s.all(far))
	if x, err := Load(api.Hash(root), s.codes); err != api.ErrForm || !same(x, api.Node{}) {
		t.Errorf("Load tells %d, not ErrForm alone", err)
	}
}

func TestLoadAmongManyCodes(t *testing.T) { // H3, Limits: with all looked through for each node it would not end in time
	x := treeOfNodes(4096)
	root, _ := Root(x)
	codes, _ := Codes(x)
	var s store
	for i := range 200000 {
		s.codes = append(s.codes, []byte{byte(i >> 16), byte(i >> 8), byte(i)})
	}
	if got, err := Load(root, slices.Concat(s.codes, codes)); err != api.OK || !same(got, x) {
		t.Errorf("Load among many codes is another tree, %d", err)
	}
}

func TestLoadOfChangedCodes(t *testing.T) { // H3: one sum of a tree is another one, and all sums above it go with that
	count := map[api.Errno]int{}
	for i, x := range someTrees()[:len(someTrees())-2] {
		if i%7 != 0 { // of each set of keys, one size of values
			continue
		}
		codes, _ := Codes(x)
		for node := range codes {
			for _, at := range []int{0, 1, 6, 15} {
				for other := range 10 {
					var s store
					sums := otherSums(&s)
					here := 0
					root := relay(&s, x, func(y *api.Shape) {
						if here == node && at < len(y.Kids) {
							y.Kids[at] = sums[other]
						}
						here++
					})
					_, want := slowLoad(api.Hash(root), s.codes)
					loads(t, api.Hash(root), s.codes, want)
					count[want]++
				}
			}
		}
	}
	for _, err := range []api.Errno{api.OK, api.ErrForm, api.ErrMissing, api.ErrMuch} {
		if count[err] < 20 {
			t.Errorf("%d changes led to %d: too few", count[err], err)
		}
	}
}

// otherSums are ten that a node may be told by.
func otherSums(s *store) [][]byte {
	even, odd := s.leaf(nil, "v"), s.leaf([]byte{1}, "v")
	return [][]byte{
		even, odd, s.leaf(zeros(70), "v"), s.add(api.Shape{}), nowhere(), s.junk("no code"), s.road([]byte{1}, nowhere()),
		s.fork("v", map[int][]byte{1: odd}), s.fork("", map[int][]byte{1: even, 2: even}), s.all(s.all(s.all(s.all(even)))),
	}
}

// relay lays x, kids first, with each shape as change leaves it, if it has a code then.
func relay(s *store, x api.Node, change func(y *api.Shape)) []byte {
	y := api.Shape{Kind: x.Kind, Path: x.Path, Value: x.Value}
	for _, kid := range x.Kids {
		var sum []byte
		if kid.Kind != api.NodeNone {
			sum = relay(s, kid, change)
		}
		y.Kids = append(y.Kids, sum)
	}
	changed := y
	changed.Kids = slices.Clone(y.Kids)
	change(&changed)
	if _, err := slowCode(changed); err == api.OK {
		return s.add(changed)
	}
	return s.add(y)
}

func TestOnlyRead(t *testing.T) { // Z2: what is handed in, and the room behind it
	for _, x := range someTrees() {
		y := spareNode(x)
		Codes(y)
		Root(y)
		if !same(x, y) || !spareNodeIsLeft(y) {
			t.Fatalf("%s is changed", short(x))
		}
		codes, _ := Codes(x)
		root, _ := Root(x)
		l := spareCodes(codes)
		Load(root, l)
		Load(root, l[1:])
		for i, code := range l {
			s, _ := Read(code)
			handed := api.Shape{Kind: s.Kind, Path: spare(s.Path), Value: spare(s.Value), Kids: spareCodes(s.Kids)}
			if got, err := Code(handed); err != api.OK || !bytes.Equal(got, codes[i]) {
				t.Fatalf("with room behind it, Code of %s is %s, %d", short(s), short(got), err)
			}
			if !sameShape(handed, s) || !spareIsLeft(handed.Path) || !spareIsLeft(handed.Value) || !spareCodesAreLeft(handed.Kids) {
				t.Fatalf("%s is changed", short(s))
			}
		}
		if !sameCodes(codes, l) || !spareCodesAreLeft(l) {
			t.Fatalf("codes are changed: %s", short(l))
		}
	}
}

func TestAnswersAreNewMemory(t *testing.T) { // Z2
	for _, x := range someTrees() {
		x = spareNode(x) // no two of its lists share memory
		codes, _ := Codes(x)
		root, _ := Root(x)
		again, err := Load(root, codes)
		if err != api.OK || !shareNothing(roomsOf(x), roomsOfCodes(codes), roomsOf(again)) {
			t.Fatalf("Codes or Load of %s shares memory, %d", short(x), err)
		}
		for _, code := range codes {
			s, _ := Read(code)
			other, _ := Code(s)
			if !shareNothing(roomOf(code), roomsOfShape(s), roomOf(other)) {
				t.Fatalf("Read or Code of %s shares memory", short(code))
			}
		}
	}
}

func TestNothingIsKept(t *testing.T) { // Z1
	x := treeOf(map[string]string{"a": "1", "b": "2"})
	codes, _ := Codes(x)
	root, _ := Root(x)
	Load(root, codes)
	Codes(treeOfNodes(300))
	if _, err := Load(root, codes[1:]); err != api.ErrMissing {
		t.Errorf("a code is kept from another call: %d", err)
	}
	if again, _ := Codes(x); !sameCodes(again, codes) {
		t.Errorf("the second time the codes are %v, not %v", again, codes)
	}
}

func FuzzRead(f *testing.F) { // H1, Z1
	for _, code := range someCodes() {
		f.Add(code)
	}
	f.Fuzz(func(t *testing.T, code []byte) { readsAs(t, code) })
}

func FuzzLoad(f *testing.F) { // H3, Z1: each step lays a shape over those that are there
	f.Add([]byte{1, 0, 1, 1, 3, 0, 1})
	f.Add([]byte{1, 1, 0, 3, 0, 0, 2, 1, 1, 3, 2, 2})
	f.Fuzz(func(t *testing.T, steps []byte) {
		var s store
		sums := [][]byte{nowhere(), s.junk("no code"), s.add(api.Shape{})}
		for len(steps) >= 3 && len(sums) < 60 {
			a, b := int(steps[1]), int(steps[2])
			first, second := sums[a%len(sums)], sums[b%len(sums)]
			switch steps[0] % 4 {
			case 0:
				sums = append(sums, s.all(first))
			case 1:
				sums = append(sums, s.leaf(zeros(a%70), strings.Repeat("v", b+1)))
			case 2:
				sums = append(sums, s.road(zeros(1+b%70), first))
			case 3:
				sums = append(sums, s.fork(strings.Repeat("v", int(steps[0])/128), map[int][]byte{a % 16: first, (a + 1) % 16: second}))
			}
			steps = steps[3:]
		}
		root := api.Hash(sums[len(sums)-1])
		_, want := slowLoad(root, s.codes)
		loads(t, root, s.codes, want)
	})
}
