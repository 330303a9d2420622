package proof

import (
	"bytes"
	"slices"
	"strings"
	"testing"

	"lampbearer/api"
	"lampbearer/nib"
	"lampbearer/root"
	"lampbearer/sponge"
	"lampbearer/tree"
)

const most = 1024 // bytes of a value

func zeros(n int) []byte { return make([]byte, n) }

func long(c string) string { return strings.Repeat(c, 32) }

// stairs has a fork at each half of the longest key, that of zeros, and at each whole byte a value.
func stairs() api.Node {
	m := map[string]string{}
	for at := range 32 {
		m[string(zeros(at))] = "fork"
		for _, other := range []byte{0x10, 0x01} {
			key := zeros(32)
			key[at] = other
			m[string(key)] = "beside"
		}
	}
	m[string(zeros(32))] = "last"
	return treeOf(m)
}

// someTrees are of every kind, with the edges of keys and values.
func someTrees() []api.Node {
	var out []api.Node
	for _, keys := range [][]string{
		{}, {""}, {"a"}, {"ab"}, {long("k")}, {"a", "b"}, {"", "a"}, {"a", "ab"}, {"", "a", "ab", "abc"}, {"do", "dog", "doge", "horse"}, {"dog", "dot", "horse", "hose"},
		{"\x00", "\x10", "\x11"}, {"\x00", "\x01", "\xf0", "\xff"}, {long("k"), long("k")[1:]}, {long("k"), long("k")[1:] + "l", long("k")[1:] + "\x00"}, {"", long("\xff"), long("\x00")},
	} {
		for _, size := range []int{1, 33, most} {
			m := map[string]string{}
			for i, key := range keys {
				m[key] = strings.Repeat("v", max(1, size-i))
			}
			out = append(out, treeOf(m))
		}
	}
	twins, many := map[string]string{}, map[string]string{} // the same behind each half: one code in many places; and all but that
	for c := range 256 {
		twins["w"+string([]byte{byte(c)})] = "x"
		many[string([]byte{byte(c), byte(c * c)})] = string([]byte{byte(c)})
		many[string([]byte{byte(c), byte(c * c), byte(c / 2)})] = "v"
	}
	return append(out, treeOf(twins), treeOf(many), stairs())
}

// someKeys are those of x and others near them, and some that are near none.
func someKeys(x api.Node) [][]byte {
	pairs, _ := tree.Pairs(x)
	out := [][]byte{nil, {0}, {0xff}, []byte("a"), []byte("w"), []byte("dog"), zeros(31), zeros(32), bytes.Repeat([]byte{0xff}, 32)}
	for i, pair := range pairs {
		if i%max(1, len(pairs)/8) != 0 {
			continue
		}
		out = append(out, pair.Key, pair.Key[:len(pair.Key)/2], pair.Key[:max(0, len(pair.Key)-1)])
		if len(pair.Key) < 32 {
			out = append(out, append(slices.Clone(pair.Key), 0), append(slices.Clone(pair.Key), 0x77), append(slices.Clone(pair.Key), bytes.Repeat([]byte{1}, 32-len(pair.Key))...))
		}
		for at := 0; at < len(pair.Key); at += 1 + len(pair.Key)/4 {
			for _, bit := range []byte{1, 16, 128} {
				other := slices.Clone(pair.Key)
				other[at] ^= bit
				out = append(out, other)
			}
		}
	}
	return out
}

// noTrees are wrong in one thing each.
func noTrees() []api.Node {
	two := treeOf(map[string]string{"\x12": "a", "\x20": "b"})
	return []api.Node{
		{Kind: 4}, {Kind: -1}, {Kind: 1}, {Kind: 1, Path: []byte{1}, Value: []byte("v")}, {Kind: 1, Path: []byte{16, 0}, Value: []byte("v")}, {Kind: 1, Value: zeros(most + 1)},
		{Kind: 1, Path: zeros(66), Value: []byte("v")}, {Kind: 2, Path: []byte{1, 2}}, {Kind: 2, Kids: []api.Node{two}}, {Kind: 2, Path: []byte{1}, Kids: []api.Node{two}},
		{Kind: 2, Path: []byte{1, 2}, Kids: []api.Node{two, two}}, {Kind: 2, Path: []byte{1, 2}, Kids: []api.Node{{}}}, {Kind: 2, Path: zeros(64), Kids: []api.Node{two}},
		{Kind: 3}, {Kind: 3, Kids: two.Kids[:15]}, {Kind: 3, Kids: make([]api.Node, 16), Value: []byte("v")}, {Kind: 3, Kids: append(slices.Clone(two.Kids), api.Node{})},
	}
}

func TestMakeOfNamedTrees(t *testing.T) { // I1
	none := []byte{128}
	makes(t, api.Node{}, nil, [][]byte{none})
	makes(t, api.Node{}, []byte("a"), [][]byte{none})
	makes(t, api.Node{}, zeros(32), [][]byte{none})

	one := [][]byte{{196, 130, 0x20, 'a', '1'}}
	for _, key := range []string{"", "a", "b", "ab", "q", long("a")} { // at a leaf the way ends, whichever the key is
		makes(t, treeOf(map[string]string{"a": "1"}), []byte(key), one)
	}

	leaf1, leaf2 := []byte{194, 0x20, '1'}, []byte{194, 0x20, '2'}
	kids := fork("", map[int][]byte{1: leaf1, 2: leaf2})
	first := road([]byte{6}, kids)
	x := treeOf(map[string]string{"a": "1", "b": "2"})
	makes(t, x, []byte("a"), [][]byte{first, kids, leaf1})
	makes(t, x, []byte("b"), [][]byte{first, kids, leaf2})
	makes(t, x, []byte("bb"), [][]byte{first, kids, leaf2})
	makes(t, x, []byte("c"), [][]byte{first, kids}) // a none
	makes(t, x, []byte("cab"), [][]byte{first, kids})
	makes(t, x, []byte("q"), [][]byte{first}) // the path leaves the road
	makes(t, x, nil, [][]byte{first})         // it ends within the road
}

func TestMakeAtForks(t *testing.T) { // I1: with a value and without one, by a road and without one
	x := treeOf(map[string]string{"": "0", "\x12\x34": "1", "\x12\x34\x56": "2", "\x12\x35\x56": "3", "\x12\x35\x57": "4"})
	leaf2, leaf3, leaf4 := leaf([]byte{6}, "2"), leaf(nil, "3"), leaf(nil, "4")
	fork1 := fork("1", map[int][]byte{5: leaf2})
	fork2 := fork("", map[int][]byte{6: leaf3, 7: leaf4})
	road2 := road([]byte{5}, fork2)
	fork3 := fork("", map[int][]byte{4: fork1, 5: road2})
	road3 := road([]byte{2, 3}, fork3)
	first := fork("0", map[int][]byte{1: road3})
	for _, c := range []struct {
		key  string
		want [][]byte
	}{
		{"", [][]byte{first}},
		{"\x12\x34", [][]byte{first, road3, fork3, fork1}},
		{"\x12\x34\x56", [][]byte{first, road3, fork3, fork1, leaf2}},
		{"\x12\x34\x5f", [][]byte{first, road3, fork3, fork1, leaf2}},
		{"\x12\x34\x65", [][]byte{first, road3, fork3, fork1}},
		{"\x12\x35", [][]byte{first, road3, fork3, road2}},
		{"\x12\x35\x56", [][]byte{first, road3, fork3, road2, fork2, leaf3}},
		{"\x12\x35\x57", [][]byte{first, road3, fork3, road2, fork2, leaf4}},
		{"\x12\x35\x57\x00", [][]byte{first, road3, fork3, road2, fork2, leaf4}},
		{"\x12\x35\x58", [][]byte{first, road3, fork3, road2, fork2}},
		{"\x12\x35\x66", [][]byte{first, road3, fork3, road2}},
		{"\x12\x36", [][]byte{first, road3, fork3}},
		{"\x12", [][]byte{first, road3}},
		{"\x13\x34", [][]byte{first, road3}},
		{"\x12\x44", [][]byte{first, road3}},
		{"\x21", [][]byte{first}},
	} {
		makes(t, x, []byte(c.key), c.want)
	}
}

func TestFarthestWay(t *testing.T) { // I1, I2: keys of MaxKey bytes, with a node at each half
	x := stairs()
	h, _ := root.Root(x)
	codes, err := Make(x, zeros(32))
	if err != api.OK || len(codes) != 65 {
		t.Fatalf("there are %d codes, %d, not 65", len(codes), err)
	}
	makes(t, x, zeros(32), slowMake(x, zeros(64), 0))
	checks(t, h[:], zeros(32), codes, "last", api.OK)
	for at := range 32 {
		checks(t, h[:], zeros(at), codes[:2*at+1], "fork", api.OK)
		checks(t, h[:], zeros(at), codes[:2*at+2], "", api.ErrMuch)
		checks(t, h[:], zeros(at), codes[:2*at], "", api.ErrMissing)
		key := zeros(32)
		key[at] = 0x10
		proof, _ := Make(x, key)
		checks(t, h[:], key, proof, "beside", api.OK)
	}
	checks(t, h[:], zeros(33), codes, "", api.ErrKey)
}

func TestMakeOfWrongThings(t *testing.T) { // I1, Z4: no tree is told ahead of no key
	for _, x := range noTrees() {
		for _, size := range []int{0, 1, 32, 33, 1000} {
			if l, err := Make(x, zeros(size)); err != api.ErrForm || len(l) != 0 {
				t.Errorf("Make of %s, %d bytes, is %v, %d, not ErrForm alone", short(x), size, l, err)
			}
		}
	}
	for _, x := range someTrees() {
		for _, size := range []int{33, 34, 64, 1000} {
			if l, err := Make(x, zeros(size)); err != api.ErrKey || len(l) != 0 {
				t.Errorf("Make of %s, %d bytes, is %s, %d, not ErrKey alone", short(x), size, short(l), err)
			}
		}
		if l, err := Make(x, zeros(32)); err != api.OK || len(l) == 0 {
			t.Errorf("Make of %s at the longest key is %s, %d", short(x), short(l), err)
		}
	}
}

func TestWhatIsThereIsProved(t *testing.T) { // I1, I2: and so is what is not
	there, not := 0, 0
	for _, x := range someTrees() {
		h, _ := root.Root(x)
		for _, key := range someKeys(x) {
			codes, err := Make(x, key)
			if err != api.OK || !sameCodes(codes, slowMake(x, nib.Halves(key), 0)) {
				t.Fatalf("Make of %s, %x is %s, %d", short(x), key, short(codes), err)
			}
			want, _ := tree.Get(x, key)
			got, err := Check(h, key, codes)
			if err != api.OK || !bytes.Equal(got, want) {
				t.Fatalf("Check of %x, of %s, is %s, %d, not %s", key, short(x), short(got), err, short(want))
			}
			if len(want) > 0 {
				there++
			} else {
				not++
			}
		}
	}
	if there < 100 || not < 100 {
		t.Errorf("%d were there, and %d not: too few", there, not)
	}
}

func TestOnlyTheCodesOfTheWay(t *testing.T) { // I2: one lacks, one is more, one stands for another one, and two are turned
	for _, x := range someTrees() {
		h, _ := root.Root(x)
		for i, key := range someKeys(x) {
			if i%5 != 0 {
				continue
			}
			codes, _ := Make(x, key)
			step := 1 + len(codes)/6
			for n := 0; n < len(codes); n += step {
				checks(t, h[:], key, codes[:n], "", api.ErrMissing)
				checks(t, h[:], key, slices.Replace(slices.Clone(codes), n, n+1, []byte("other")), "", api.ErrSum)
				checks(t, h[:], key, slices.Replace(slices.Clone(codes), n, n+1, nil), "", api.ErrSum)
				checks(t, h[:], key, slices.Insert(slices.Clone(codes), n, []byte{128, 128}), "", api.ErrSum)
				if n > 0 {
					checks(t, h[:], key, slices.Delete(slices.Clone(codes), n-1, n), "", api.ErrSum)
				}
			}
			for _, more := range [][]byte{nil, {128}, {194, 0x20, 'v'}, codes[0], codes[len(codes)-1]} {
				checks(t, h[:], key, append(slices.Clone(codes), more), "", api.ErrMuch)
			}
			checks(t, h[:], key, append(slices.Clone(codes), codes...), "", api.ErrMuch)
			checks(t, zeros(32), key, codes, "", api.ErrSum)
		}
	}
}

func TestProofsOfOtherKeys(t *testing.T) { // I2: what is shown of one key says of another one what is so, or nothing
	count := map[api.Errno]int{}
	for _, x := range someTrees() {
		h, _ := root.Root(x)
		keys := someKeys(x)
		for i, key := range keys {
			codes, _ := Make(x, key)
			for j := i % 3; j < len(keys); j += 3 {
				err := checksAs(t, h[:], keys[j], codes)
				count[err]++
				if got, _ := Check(h, keys[j], codes); err == api.OK {
					if want, _ := tree.Get(x, keys[j]); !bytes.Equal(got, want) {
						t.Fatalf("%x is proved to be %s, not %s", keys[j], short(got), short(want))
					}
				}
			}
		}
	}
	for _, err := range []api.Errno{api.OK, api.ErrMissing, api.ErrMuch} {
		if count[err] < 20 {
			t.Errorf("%d proofs led to %d: too few", count[err], err)
		}
	}
}

func TestOneByteChanged(t *testing.T) { // I2: nothing false is proved
	x := treeOf(map[string]string{"": "0", "a": "1", "ab": "2", "b": "3"})
	h, _ := root.Root(x)
	for _, key := range []string{"", "a", "ab", "abc", "c", "q"} {
		codes, _ := Make(x, []byte(key))
		for n := range codes {
			for at := range codes[n] {
				for _, bit := range []byte{1, 2, 4, 8, 16, 32, 64, 128} {
					changed := slices.Clone(codes)
					changed[n] = slices.Clone(codes[n])
					changed[n][at] ^= bit
					checks(t, h[:], []byte(key), changed, "", api.ErrSum)
				}
			}
			shorter, longer := slices.Clone(codes), slices.Clone(codes)
			shorter[n], longer[n] = codes[n][:len(codes[n])-1], append(slices.Clone(codes[n]), 0)
			checks(t, h[:], []byte(key), shorter, "", api.ErrSum)
			checks(t, h[:], []byte(key), longer, "", api.ErrSum)
		}
		for at := range h {
			other := h
			other[at] ^= 1
			checks(t, other[:], []byte(key), codes, "", api.ErrSum)
		}
	}
}

func TestCheckOfNones(t *testing.T) { // I2: a none's code is first, or it is wrong
	none := []byte{128}
	for _, key := range [][]byte{nil, {0}, []byte("a"), zeros(32)} {
		checks(t, sumOf(none), key, [][]byte{none}, "", api.OK)
		checks(t, sumOf(none), key, [][]byte{none, none}, "", api.ErrMuch)
		checks(t, sumOf(none), key, [][]byte{none, nil}, "", api.ErrMuch)
		checks(t, sumOf(none), key, nil, "", api.ErrMissing)
	}
	byRoad, byFork := road([]byte{1}, none), fork("v", map[int][]byte{1: none})
	for _, first := range [][]byte{byRoad, byFork} {
		checks(t, sumOf(first), []byte{0x10}, [][]byte{first, none}, "", api.ErrForm)
		checks(t, sumOf(first), []byte{0x10}, [][]byte{first, none, none}, "", api.ErrForm)
		checks(t, sumOf(first), []byte{0x10}, [][]byte{first}, "", api.ErrMissing)
		checks(t, sumOf(first), []byte{0x10}, [][]byte{first, nil}, "", api.ErrSum)
		checks(t, sumOf(first), []byte{0x20}, [][]byte{first}, "", api.OK)
		checks(t, sumOf(first), []byte{0x20}, [][]byte{first, none}, "", api.ErrMuch)
	}
	checks(t, sumOf(byFork), nil, [][]byte{byFork}, "v", api.OK)
	deep := road([]byte{2}, byFork)
	checks(t, sumOf(deep), []byte{0x21}, [][]byte{deep, byFork, none}, "", api.ErrForm)
}

func TestCheckOfNoCodes(t *testing.T) { // I2: what no shape has, first and further on
	for _, junk := range [][]byte{nil, {}, {0}, {129}, {129, 5}, {192}, []byte("no code"), {194, 0x20}, {194, 0x40, 'v'}, {194, 0, 'v'}, {195, 0x20, 129, 'v'}, {128, 128}, bytes.Repeat([]byte{193}, 1000), zeros(100000)} {
		checks(t, sumOf(junk), []byte("a"), [][]byte{junk}, "", api.ErrForm)
		checks(t, sumOf(junk), nil, [][]byte{junk, junk}, "", api.ErrForm) // ahead of what is left
		checks(t, zeros(32), nil, [][]byte{junk}, "", api.ErrSum)          // another sum is told ahead of the form
		for _, first := range [][]byte{road([]byte{6}, junk), fork("v", map[int][]byte{6: junk})} {
			checks(t, sumOf(first), []byte("a"), [][]byte{first, junk}, "", api.ErrForm)
			checks(t, sumOf(first), []byte("a"), [][]byte{first, junk, first}, "", api.ErrForm)
			checks(t, sumOf(first), []byte("a"), [][]byte{first, {128}}, "", api.ErrSum)
			checks(t, sumOf(first), []byte("q"), [][]byte{first}, "", api.OK) // it is not come to
			checks(t, sumOf(first), []byte("q"), [][]byte{first, junk}, "", api.ErrMuch)
		}
	}
}

func TestCheckOfWrongKeys(t *testing.T) { // I2, Z4: told ahead of all else
	x := treeOf(map[string]string{"a": "1", "b": "2"})
	h, _ := root.Root(x)
	codes, _ := Make(x, []byte("a"))
	for _, size := range []int{33, 34, 64, 1000} {
		key := bytes.Repeat([]byte("a"), size)
		for _, l := range [][][]byte{nil, {}, {nil}, {{128}}, codes, codes[:1], append(slices.Clone(codes), nil), {[]byte("no code")}} {
			checks(t, h[:], key, l, "", api.ErrKey)
			checks(t, zeros(32), key, l, "", api.ErrKey)
		}
	}
	checks(t, h[:], []byte(long("a")), codes, "", api.OK)
}

func TestCheckBeyondTrees(t *testing.T) { // I2: it is gone by shapes; whether they are of a tree is not asked
	one, odd := leaf(nil, "v"), leaf([]byte{3}, "w")
	half := road([]byte{6}, one)
	checks(t, sumOf(half), nil, [][]byte{half}, "", api.OK)
	checks(t, sumOf(half), []byte("a"), [][]byte{half, one}, "", api.OK) // a half is left
	both := road([]byte{6}, road([]byte{1}, one))
	checks(t, sumOf(both), []byte("a"), [][]byte{both, road([]byte{1}, one), one}, "v", api.OK)
	checks(t, sumOf(both), []byte("b"), [][]byte{both, road([]byte{1}, one)}, "", api.OK)
	checks(t, sumOf(odd), nil, [][]byte{odd}, "", api.OK)
	checks(t, sumOf(odd), []byte{0x33}, [][]byte{odd}, "", api.OK)
	to := road([]byte{3}, odd)
	checks(t, sumOf(to), []byte{0x33}, [][]byte{to, odd}, "w", api.OK)
	top := fork("odd", map[int][]byte{3: odd})
	in := fork("", map[int][]byte{0: top, 5: top})
	checks(t, sumOf(in), []byte{0x03, 0x30}, [][]byte{in, top, odd}, "", api.OK)
	checks(t, sumOf(in), []byte{0x53}, [][]byte{in, top, odd}, "", api.OK)
	whole := road([]byte{1, 2}, top)
	checks(t, sumOf(whole), []byte{0x12}, [][]byte{whole, top}, "odd", api.OK)
	checks(t, sumOf(whole), []byte{0x12}, [][]byte{whole}, "", api.ErrMissing)
	checks(t, sumOf(whole), []byte{0x12}, [][]byte{whole, whole}, "", api.ErrSum)
	for _, halves := range []int{63, 64, 65, 66, 1 << 20} { // paths have no end but that of the Limits
		far := road(zeros(halves), top)
		farLeaf := leaf(zeros(halves), "v")
		if halves > 64 {
			checks(t, sumOf(far), zeros(32), [][]byte{far}, "", api.OK)
			checks(t, sumOf(farLeaf), zeros(32), [][]byte{farLeaf}, "", api.OK)
			continue
		}
		checks(t, sumOf(far), zeros(32), [][]byte{far}, "", api.ErrMissing)
		want := map[int]string{64: "v"}[halves]
		checks(t, sumOf(farLeaf), zeros(32), [][]byte{farLeaf}, want, api.OK)
		checks(t, sumOf(farLeaf), zeros(31), [][]byte{farLeaf}, "", api.OK)
	}
}

func TestRoadsThatAreLeft(t *testing.T) { // I1, I2: at each half, and where the key ends within one
	x := treeOf(map[string]string{"\x12\x34\x56\x78\x90": "a", "\x12\x34\x56\x78\xa0": "b"})
	h, _ := root.Root(x)
	whole, _ := Make(x, []byte("\x12\x34\x56\x78\xb0"))
	first := whole[:1]
	for at := range 8 {
		key := []byte("\x12\x34\x56\x78\x90")
		key[at/2] ^= 1 << (4 - 4*(at%2))
		makes(t, x, key, first)
		checks(t, h[:], key, first, "", api.OK)
		checks(t, h[:], key, whole, "", api.ErrMuch)
		makes(t, x, key[:at/2], first)
		checks(t, h[:], key[:at/2], first, "", api.OK)
	}
	fork := []byte("\x12\x34\x56\x78") // the road's whole path, and a fork without a value
	makes(t, x, fork, whole)
	checks(t, h[:], fork, whole, "", api.OK)
	checks(t, h[:], fork, first, "", api.ErrMissing)
}

func TestNothingHandedIn(t *testing.T) { // Z3
	h, _ := root.Root(treeOf(map[string]string{"": "v"}))
	one := leaf(nil, "v")
	for _, key := range [][]byte{nil, {}} {
		makes(t, treeOf(map[string]string{"": "v"}), key, [][]byte{one})
		checks(t, h[:], key, [][]byte{one}, "v", api.OK)
		for _, codes := range [][][]byte{nil, {}} {
			checks(t, h[:], key, codes, "", api.ErrMissing)
		}
		for _, codes := range [][][]byte{{nil}, {{}}} {
			checks(t, h[:], key, codes, "", api.ErrSum)
			checks(t, sumOf(nil), key, codes, "", api.ErrForm)
		}
	}
}

// clutter is x with something in all fields that mean nothing.
func clutter(x api.Node) api.Node {
	junk := []api.Node{{Kind: 9}, {Kind: 1, Value: []byte("v")}, {Kind: 3}}
	kids := make([]api.Node, len(x.Kids))
	for i, kid := range x.Kids {
		kids[i] = clutter(kid)
	}
	switch x.Kind {
	case api.NodeNone:
		return api.Node{Path: []byte{77}, Value: zeros(2000), Kids: junk}
	case api.NodeLeaf:
		x.Kids = junk
	case api.NodeRoad:
		x.Value, x.Kids = zeros(2000), kids
	case api.NodeFork:
		x.Path, x.Kids = []byte{77, 1}, kids
	}
	return x
}

func TestFieldsThatMeanNothing(t *testing.T) { // I1, Z5
	for _, x := range someTrees() {
		for _, key := range someKeys(x) {
			want, _ := Make(x, key)
			if got, err := Make(clutter(x), key); err != api.OK || !sameCodes(got, want) {
				t.Fatalf("with clutter Make of %s, %x is %s, %d", short(x), key, short(got), err)
			}
		}
	}
}

func TestOnlyRead(t *testing.T) { // Z2: what is handed in, and the room behind it
	for _, x := range someTrees() {
		h, _ := root.Root(x)
		y := spareNode(x)
		for i, key := range someKeys(x) {
			if i%4 != 0 {
				continue
			}
			k := spare(key)
			codes, _ := Make(y, k)
			if !same(x, y) || !spareNodeIsLeft(y) || !bytes.Equal(k, key) || !spareIsLeft(k) {
				t.Fatalf("%s or %x is changed", short(x), key)
			}
			l := spareCodes(codes)
			want, _ := Check(h, key, codes)
			if got, err := Check(h, k, l); err != api.OK || !bytes.Equal(got, want) {
				t.Fatalf("with room behind it, Check of %x is %s, %d", key, short(got), err)
			}
			Check(h, k, l[:len(l)-1])
			if !sameCodes(l, codes) || !spareCodesAreLeft(l) || !bytes.Equal(k, key) || !spareIsLeft(k) {
				t.Fatalf("codes or %x are changed", key)
			}
		}
	}
}

func TestAnswersAreNewMemory(t *testing.T) { // Z2
	for _, x := range someTrees() {
		x = spareNode(x) // no two of its lists share memory
		rooms := roomsOf(x)
		h, _ := root.Root(x)
		for i, key := range someKeys(x) {
			if i%4 != 0 {
				continue
			}
			key = spare(key)
			codes, _ := Make(x, key)
			again, _ := Make(x, key)
			value, err := Check(h, key, codes)
			if err != api.OK || !shareNothing(rooms, roomOf(key), roomsOfCodes(codes), roomsOfCodes(again), roomOf(value)) {
				t.Fatalf("Make or Check of %s, %x shares memory, %d", short(x), key, err)
			}
		}
	}
}

func TestNothingIsKept(t *testing.T) { // Z1
	x := treeOf(map[string]string{"a": "1", "b": "2"})
	h, _ := root.Root(x)
	codes, _ := Make(x, []byte("a"))
	Check(h, []byte("a"), codes)
	Make(stairs(), zeros(32))
	checks(t, h[:], []byte("a"), codes[:2], "", api.ErrMissing)
	checks(t, h[:], []byte("a"), nil, "", api.ErrMissing)
	checks(t, h[:], []byte("a"), codes, "1", api.OK)
	makes(t, x, []byte("a"), codes)
}

func FuzzCheck(f *testing.F) { // I2, Z1: each step lays a code over those that are there; the way is what was laid, from the last one on
	f.Add([]byte{1, 1, 1, 3, 0, 6, 2, 1, 1}, []byte("a"), uint8(0))
	f.Add([]byte{0, 0, 0, 3, 0, 6, 2, 1, 1}, []byte("a"), uint8(1))
	f.Add([]byte{4, 0, 0, 2, 1, 6, 3, 1, 1}, []byte(""), uint8(2))
	f.Fuzz(func(t *testing.T, steps, key []byte, other uint8) {
		codes := [][]byte{leaf(nil, "v")}
		for len(steps) >= 3 && len(codes) < 70 {
			a, b := int(steps[1]), int(steps[2])
			top := codes[0]
			switch steps[0] % 5 {
			case 0:
				top = []byte{128}
			case 1:
				top = leaf(nib.Halves(key[:min(len(key), a%40)]), strings.Repeat("v", b+1))
			case 2:
				top = road(slices.Repeat([]byte{byte(b % 16)}, 1+a%3), top)
			case 3:
				top = fork(strings.Repeat("v", a/128), map[int][]byte{b % 16: top, (b + 1 + a%15) % 16: codes[len(codes)-1]})
			case 4:
				top = []byte(steps[:3])
			}
			codes = slices.Insert(codes, 0, top)
			steps = steps[3:]
		}
		sum := sumOf(codes[0])
		for n := range codes {
			checksAs(t, sum, key, codes[:n+1])
		}
		at := int(other) % len(codes)
		checksAs(t, sum, key, slices.Delete(slices.Clone(codes), at, at+1))
	})
}

func FuzzMake(f *testing.F) { // I1, I2
	f.Add([]byte("a\x01b\x02ab\x01"), []byte("a"))
	f.Fuzz(func(t *testing.T, made, key []byte) {
		var pairs []api.Pair
		for len(made) > 2 && len(pairs) < 100 {
			size := min(int(made[0])%34, len(made)-1)
			pairs = append(pairs, api.Pair{Key: made[1 : 1+size], Value: []byte{made[0]}})
			made = made[1+size:]
		}
		x, err := tree.Of(pairs)
		if err != api.OK || len(key) > 32 {
			return
		}
		codes, err := Make(x, key)
		if err != api.OK || !sameCodes(codes, slowMake(x, nib.Halves(key), 0)) {
			t.Fatalf("Make of %s, %x is %s, %d", short(x), key, short(codes), err)
		}
		want, _ := tree.Get(x, key)
		checks(t, sumOf(codes[0]), key, codes, string(want), api.OK)
		if h, _ := root.Root(x); h != sponge.Sum(codes[0]) {
			t.Fatalf("the way to %x begins elsewhere than at the root", key)
		}
	})
}
