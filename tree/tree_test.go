package tree

import (
	"bytes"
	"encoding/binary"
	"maps"
	"slices"
	"strings"
	"testing"

	"lampbearer/api"
	"lampbearer/nib"
)

func long(c string) string { return strings.Repeat(c, api.MaxKey) }

func halves(key string) []byte { return nib.Halves([]byte(key)) }

// fewKeys begin one another, part within a byte and behind one, and go to the limit.
func fewKeys() []string {
	return []string{"", "\x00", "\x00\x00", "\x00\x01", "\x01", "\x10", "\x10\x00", "\xff", long("\x00")}
}

// someTrees are of every kind, with the edges of keys and values.
func someTrees() []api.Node {
	var out []api.Node
	for _, keys := range [][]string{
		{}, {""}, {"a"}, {long("k")}, {"a", "b"}, {"", "a"}, {"a", "ab"}, {"", "a", "ab", "abc"}, {"do", "dog", "doge", "horse"},
		{"\x00", "\x10", "\x11"}, {long("k"), long("k")[1:]}, {long("k"), long("k")[1:] + "l", long("k")[1:] + "\x00"}, {"", long("\xff"), long("\x00")}, fewKeys(),
	} {
		m := map[string]string{}
		for i, key := range keys {
			m[key] = strings.Repeat("v", i+1)
		}
		out = append(out, slowTree(m))
		if len(keys) > 0 {
			m[keys[0]] = strings.Repeat("v", api.MaxValue)
			out = append(out, slowTree(m))
		}
	}
	wide := map[string]string{}
	for c := range 256 {
		wide["w"+string([]byte{byte(c)})] = "x"
	}
	return append(out, slowTree(wide))
}

func TestRightOfNamedTrees(t *testing.T) { // G1
	two := forkOf("", map[int]api.Node{1: leafAt([]byte{2}, "a"), 15: leafAt([]byte{0}, "b")})
	odd := forkOf("", map[int]api.Node{1: leafAt(nil, "a"), 15: leafAt(nil, "b")})
	valued := forkOf("v", map[int]api.Node{0: leafAt([]byte{0}, "a")})
	for _, x := range []api.Node{
		{}, leafAt(nil, "v"), leafAt([]byte{0, 15}, "v"), two, valued, roadTo([]byte{3}, odd), roadTo([]byte{3, 4}, two), roadTo([]byte{3, 4}, valued),
		leafAt(nil, strings.Repeat("v", 1024)), forkOf(strings.Repeat("v", 1024), map[int]api.Node{0: leafAt([]byte{0}, "a")}),
		leafAt(halves(long("k")), "v"), roadTo(halves(long("k"))[1:], odd), roadTo(halves(long("k"))[2:], two),
		forkOf("", map[int]api.Node{7: two.Kids[1], 8: roadTo([]byte{9}, two)}),
		forkOf("", map[int]api.Node{7: odd, 8: odd}),
	} {
		isTree(t, x, fewKeys(), []string{"", "n"})
	}
}

func TestNamedThatAreNoTrees(t *testing.T) { // G1 to G3, Z4
	two := forkOf("", map[int]api.Node{1: leafAt([]byte{2}, "a"), 15: leafAt([]byte{0}, "b")})
	odd := forkOf("", map[int]api.Node{1: leafAt(nil, "a"), 15: leafAt(nil, "b")})
	much := strings.Repeat("v", 1025)
	kids := func(n int) api.Node { return api.Node{Kind: api.NodeFork, Kids: slices.Repeat(two.Kids, 2)[:n]} }
	one := map[int]api.Node{4: leafAt([]byte{0}, "a")}
	wrong := []api.Node{
		{Kind: 4}, {Kind: -1}, {Kind: 1 << 40}, {Kind: -1 << 63}, {Kind: 7, Path: []byte{1}, Value: []byte("v"), Kids: two.Kids},
		leafAt(nil, ""), leafAt([]byte{1, 2}, ""), leafAt(nil, much), leafAt([]byte{1, 2}, much),
		leafAt([]byte{16, 0}, "v"), leafAt([]byte{0, 16}, "v"), leafAt([]byte{255, 1}, "v"), leafAt([]byte{1}, "v"), leafAt([]byte{1, 2, 3}, "v"),
		leafAt(halves(long("k")+"k"), "v"), leafAt(halves(long("k") + "k")[1:], "v"), leafAt(make([]byte, 1<<20), "v"),
		roadTo(nil, two), roadTo([]byte{}, two), roadTo([]byte{1, 16}, two), roadTo([]byte{16}, odd), roadTo([]byte{1}, two), roadTo([]byte{1, 2}, odd),
		roadTo([]byte{1, 2}), roadTo([]byte{1, 2}, two, two), roadTo([]byte{1, 2}, two, api.Node{}), roadTo([]byte{1, 2}, api.Node{}),
		roadTo([]byte{1, 2}, leafAt(nil, "v")), roadTo([]byte{1}, roadTo([]byte{2}, two)), roadTo([]byte{1, 2}, api.Node{Kind: 4}), roadTo([]byte{1, 2}, api.Node{Kind: 4, Kids: two.Kids}),
		roadTo(halves(long("k")), odd), roadTo(halves(long("k")), two), roadTo(make([]byte, 1<<20), two),
		kids(0), kids(1), kids(15), kids(17), kids(32),
		forkOf("", nil), forkOf("v", nil), forkOf("", one), forkOf("", map[int]api.Node{4: odd}), forkOf(much, one),
		forkOf("", map[int]api.Node{1: leafAt([]byte{2}, "a"), 2: leafAt(nil, "b")}), forkOf("", map[int]api.Node{1: leafAt([]byte{2}, "a"), 2: leafAt([]byte{2, 2}, "b")}),
		forkOf("", map[int]api.Node{1: leafAt([]byte{2}, "a"), 2: {Kind: 4}}), forkOf("v", map[int]api.Node{3: {Kind: 4}}), forkOf("v", map[int]api.Node{3: {Kind: -1}}),
		roadTo([]byte{1}, forkOf("v", map[int]api.Node{4: leafAt(nil, "a")})), // a value at one half
		forkOf("", map[int]api.Node{1: forkOf("v", map[int]api.Node{4: leafAt(nil, "a")}), 2: leafAt([]byte{0}, "b")}),
		roadTo(halves(long("k")), forkOf("v", map[int]api.Node{4: leafAt([]byte{0}, "a")})),
	}
	for _, x := range wrong {
		isNoTree(t, x)
		// Behind an even number of halves, it is as wrong as it is at the root.
		isNoTree(t, forkOf("v", map[int]api.Node{3: leafAt([]byte{1}, "a"), 15: forkOf("", map[int]api.Node{3: leafAt(nil, "b"), 4: x})}))
		isNoTree(t, roadTo([]byte{1}, forkOf("", map[int]api.Node{3: leafAt(nil, "a"), 4: roadTo([]byte{1, 2, 3}, forkOf("", map[int]api.Node{3: leafAt(nil, "b"), 15: x}))})))
	}
}

func TestFieldsThatMeanNothing(t *testing.T) { // G1, G3, Z5
	junk := []api.Node{{Kind: 9}, {Kind: 2}}
	clutter := func(x api.Node) api.Node { return x }
	clutter = func(x api.Node) api.Node {
		kids := make([]api.Node, len(x.Kids))
		for i, kid := range x.Kids {
			kids[i] = clutter(kid)
		}
		switch x.Kind {
		case api.NodeNone:
			return api.Node{Path: []byte{77}, Value: make([]byte, 2000), Kids: junk}
		case api.NodeLeaf:
			x.Kids = junk
		case api.NodeRoad:
			x.Value, x.Kids = make([]byte, 2000), kids
		case api.NodeFork:
			x.Path, x.Kids = []byte{77, 16, 255}, kids
		}
		return x
	}
	for _, x := range someTrees() {
		isTree(t, clutter(x), fewKeys()[:4], []string{"", "n"})
		key := []byte("\x00\x07")
		if got, err := Put(clutter(x), key, nil); err != api.OK || !same(got, x) {
			t.Errorf("with nothing changed, of %s there is left %s, %d", tell(x), tell(got), err)
		}
	}
}

// altered are what one change somewhere makes of x.
func altered(x api.Node) []api.Node {
	var out []api.Node
	change := func(f func(y *api.Node)) {
		y := x
		y.Path, y.Value, y.Kids = slices.Clone(x.Path), slices.Clone(x.Value), slices.Clone(x.Kids)
		f(&y)
		out = append(out, y)
	}
	for kind := -1; kind <= 5; kind++ {
		change(func(y *api.Node) { y.Kind = kind })
	}
	for _, size := range []int{0, 1, 1024, 1025} {
		change(func(y *api.Node) { y.Value = bytes.Repeat([]byte("z"), size) })
	}
	for _, c := range []byte{0, 15, 16, 255} {
		change(func(y *api.Node) { y.Path = append(y.Path, c) })
		change(func(y *api.Node) { y.Path = append([]byte{c, 1}, y.Path...) })
	}
	change(func(y *api.Node) { y.Path = y.Path[min(1, len(y.Path)):] })
	change(func(y *api.Node) { y.Path = nil })
	change(func(y *api.Node) { y.Kids = append(y.Kids, api.Node{}) })
	change(func(y *api.Node) { y.Kids = y.Kids[:max(1, len(y.Kids))-1] })
	change(func(y *api.Node) { y.Kids = make([]api.Node, 16) })
	for i, kid := range x.Kids {
		if kid.Kind == api.NodeNone && i > 1 && i < 15 {
			continue
		}
		for _, other := range altered(kid) {
			change(func(y *api.Node) { y.Kids[i] = other })
		}
		for _, other := range []api.Node{leafAt(nil, "o"), leafAt([]byte{5}, "o"), leafAt([]byte{16}, "o"), roadTo([]byte{6}, kid), forkOf("f", map[int]api.Node{2: leafAt([]byte{2}, "g")})} {
			change(func(y *api.Node) { y.Kids[i] = other })
		}
	}
	return out
}

func TestOneChangeAnywhere(t *testing.T) { // G1 to G4
	right, wrong := 0, 0
	for _, x := range someTrees()[:len(someTrees())-1] {
		isTree(t, x, fewKeys(), []string{"", "n", strings.Repeat("l", 1024)})
		for _, y := range altered(x) {
			if slowRight(y) {
				right++
				isTree(t, y, nil, nil)
			} else {
				wrong++
				isNoTree(t, y)
			}
		}
	}
	if right < 500 || wrong < 500 {
		t.Errorf("%d changes were right, %d wrong: too few", right, wrong)
	}
}

func TestKidsWithinThemselves(t *testing.T) { // Z1: no end of forks
	kids := make([]api.Node, 16)
	for i := range kids {
		kids[i] = api.Node{Kind: api.NodeFork, Value: []byte("v"), Kids: kids}
	}
	isNoTreeWithoutEnd(t, kids[0])
	for i := range kids {
		kids[i].Value = nil
	}
	isNoTreeWithoutEnd(t, kids[0])
	road := roadTo([]byte{1, 2}, kids[0])
	for i := range kids {
		kids[i] = road
	}
	isNoTreeWithoutEnd(t, road)
	line := make([]api.Node, 1)
	line[0] = roadTo([]byte{1}, line...)
	isNoTreeWithoutEnd(t, line[0])
}

// isNoTreeWithoutEnd asks as isNoTree does of what can't be written down.
func isNoTreeWithoutEnd(t *testing.T, x api.Node) {
	t.Helper()
	_, get := Get(x, nil)
	_, put := Put(x, nil, []byte("v"))
	_, pairs := Pairs(x)
	if Right(x) || get != api.ErrForm || put != api.ErrForm || pairs != api.ErrForm {
		t.Errorf("of what has no end: %v, %d, %d, %d", Right(x), get, put, pairs)
	}
}

func TestGetOfNamedKeys(t *testing.T) { // G2
	x := slowTree(map[string]string{"": "0", "a": "1", "ab": "2", "abd": "3", "b": "4", long("k"): "5"})
	for _, c := range []struct {
		key, want string
		err       api.Errno
	}{
		{"", "0", api.OK}, {"a", "1", api.OK}, {"ab", "2", api.OK}, {"abd", "3", api.OK}, {"b", "4", api.OK}, {long("k"), "5", api.OK},
		{"abc", "", api.OK}, {"abde", "", api.OK}, {"ba", "", api.OK}, {"c", "", api.OK}, {"\x00", "", api.OK}, {"\x61\x60", "", api.OK}, {"k", "", api.OK},
		{long("k")[1:], "", api.OK}, {long("k")[1:] + "l", "", api.OK}, {long("a"), "", api.OK},
		{long("k") + "k", "", api.ErrKey}, {long("z") + "z", "", api.ErrKey}, {strings.Repeat("a", 1<<20), "", api.ErrKey},
	} {
		if got, err := Get(x, []byte(c.key)); err != c.err || string(got) != c.want {
			t.Errorf("Get at %q is %q, %d, not %q, %d", c.key, got, err, c.want, c.err)
		}
	}
	if got, err := Get(x, nil); err != api.OK || string(got) != "0" {
		t.Errorf("Get at nil is %q, %d", got, err)
	}
	for _, key := range []string{"", "a", long("k")} {
		if got, err := Get(api.Node{}, []byte(key)); err != api.OK || len(got) != 0 {
			t.Errorf("Get of a none at %q is %q, %d", key, got, err)
		}
	}
}

func TestPutOfNamedValues(t *testing.T) { // G3
	most := strings.Repeat("v", 1024)
	for _, x := range []api.Node{{}, slowTree(map[string]string{"a": "1"}), slowTree(map[string]string{"a": "1", "b": "2", "": "3"})} {
		for _, c := range []struct {
			key, value string
			err        api.Errno
		}{
			{long("k"), most, api.OK}, {"", most, api.OK}, {long("k"), "", api.OK}, {"a", most, api.OK},
			{long("k"), most + "v", api.ErrLong}, {"", most + "v", api.ErrLong}, {"a", most + "v", api.ErrLong}, {"a", strings.Repeat("v", 1<<20), api.ErrLong},
			{long("k") + "k", "", api.ErrKey}, {long("k") + "k", "v", api.ErrKey}, {long("k") + "k", most + "v", api.ErrKey}, {strings.Repeat("a", 1<<20), most + "v", api.ErrKey},
		} {
			got, err := Put(x, []byte(c.key), []byte(c.value))
			if err != c.err || err != api.OK && !same(got, api.Node{}) {
				t.Errorf("Put of %d bytes at %q is %s, %d, not %d", len(c.value), c.key, tell(got), err, c.err)
			}
			if value, again := Get(got, []byte(c.key)); err == api.OK && (string(value) != c.value || again != api.OK) {
				t.Errorf("Put of %d bytes at %q, and Get is %d bytes, %d", len(c.value), c.key, len(value), again)
			}
		}
	}
}

func TestPutOfNoBytes(t *testing.T) { // G3: what is left of a fork, and of a road behind it
	for _, c := range []struct {
		from map[string]string
		drop string
		want api.Node
	}{
		{map[string]string{}, "a", api.Node{}},
		{map[string]string{"": "v"}, "", api.Node{}},
		{map[string]string{"a": "v"}, "a", api.Node{}},
		{map[string]string{"a": "v"}, "b", leafAt([]byte{6, 1}, "v")},
		{map[string]string{"a": "v"}, "ab", leafAt([]byte{6, 1}, "v")},
		{map[string]string{"ab": "v"}, "a", leafAt([]byte{6, 1, 6, 2}, "v")},
		{map[string]string{"a": "v", "b": "w"}, "a", leafAt([]byte{6, 2}, "w")}, // a road, a fork, a leaf: one leaf
		{map[string]string{"a": "v", "b": "w"}, "c", roadTo([]byte{6}, forkOf("", map[int]api.Node{1: leafAt(nil, "v"), 2: leafAt(nil, "w")}))},
		{map[string]string{"a": "v", "b": "w"}, "", roadTo([]byte{6}, forkOf("", map[int]api.Node{1: leafAt(nil, "v"), 2: leafAt(nil, "w")}))},
		{map[string]string{"a": "v", "b": "w"}, "q", roadTo([]byte{6}, forkOf("", map[int]api.Node{1: leafAt(nil, "v"), 2: leafAt(nil, "w")}))},
		{map[string]string{"": "v", "a": "w"}, "", leafAt([]byte{6, 1}, "w")},
		{map[string]string{"": "v", "a": "w"}, "a", leafAt(nil, "v")},
		{map[string]string{"a": "v", "ab": "w"}, "ab", leafAt([]byte{6, 1}, "v")}, // what has a value alone
		{map[string]string{"a": "v", "ab": "w"}, "a", leafAt([]byte{6, 1, 6, 2}, "w")},
		{map[string]string{"a": "u", "b": "v", "q": "w"}, "q", roadTo([]byte{6}, forkOf("", map[int]api.Node{1: leafAt(nil, "u"), 2: leafAt(nil, "v")}))}, // a fork ahead of a fork: a road
		{map[string]string{"a": "t", "ab": "u", "ac": "v", "q": "w"}, "q", roadTo([]byte{6, 1}, forkOf("t", map[int]api.Node{6: forkOf("", map[int]api.Node{2: leafAt(nil, "u"), 3: leafAt(nil, "v")})}))}, // a fork ahead of a road: one road
		{map[string]string{"xa": "t", "xb": "u", "xq": "v"}, "xq", roadTo([]byte{7, 8, 6}, forkOf("", map[int]api.Node{1: leafAt(nil, "t"), 2: leafAt(nil, "u")}))},                                        // a road, a fork, a fork: one road
		{map[string]string{"xaaa": "t", "xaab": "u", "xq": "v"}, "xq", roadTo([]byte{7, 8, 6, 1, 6, 1, 6}, forkOf("", map[int]api.Node{1: leafAt(nil, "t"), 2: leafAt(nil, "u")}))},                        // a road, a fork, a road: one road
		{map[string]string{"a": "u", "b": "v", "c": "w"}, "b", roadTo([]byte{6}, forkOf("", map[int]api.Node{1: leafAt(nil, "u"), 3: leafAt(nil, "w")}))},
	} {
		from := slowTree(c.from)
		for _, nothing := range [][]byte{nil, {}} {
			if got, err := Put(from, []byte(c.drop), nothing); err != api.OK || !same(got, c.want) {
				t.Errorf("without %q of %s there is left %s, %d, not %s", c.drop, tell(from), tell(got), err, tell(c.want))
			}
		}
	}
}

func TestPutParts(t *testing.T) { // G3: where a leaf and a road are parted
	for _, c := range []struct {
		key, value string
		want       api.Node
	}{
		{"b", "n", roadTo([]byte{6}, forkOf("", map[int]api.Node{1: roadTo([]byte{6, 2, 6}, pq()), 2: leafAt(nil, "n")}))},
		{"q", "n", forkOf("", map[int]api.Node{6: roadTo([]byte{1, 6, 2, 6}, pq()), 7: leafAt([]byte{1}, "n")})},
		{"", "n", forkOf("n", map[int]api.Node{6: roadTo([]byte{1, 6, 2, 6}, pq())})},
		{"a", "n", roadTo([]byte{6, 1}, forkOf("n", map[int]api.Node{6: roadTo([]byte{2, 6}, pq())}))},
		{"ab", "n", roadTo([]byte{6, 1, 6, 2}, forkOf("n", map[int]api.Node{6: pq()}))},
		{"abq", "n", roadTo([]byte{6, 1, 6, 2}, forkOf("", map[int]api.Node{6: pq(), 7: leafAt([]byte{1}, "n")}))},
		{"abc", "n", roadTo([]byte{6, 1, 6, 2, 6}, forkOf("", map[int]api.Node{1: leafAt(nil, "p"), 2: leafAt([]byte{7, 8}, "q"), 3: leafAt(nil, "n")}))},
		{"abb", "n", roadTo([]byte{6, 1, 6, 2, 6}, forkOf("", map[int]api.Node{1: leafAt(nil, "p"), 2: forkOf("n", map[int]api.Node{7: leafAt([]byte{8}, "q")})}))},
		{"abby", "n", roadTo([]byte{6, 1, 6, 2, 6}, forkOf("", map[int]api.Node{1: leafAt(nil, "p"), 2: roadTo([]byte{7}, forkOf("", map[int]api.Node{8: leafAt(nil, "q"), 9: leafAt(nil, "n")}))}))},
		{"abbxx", "n", roadTo([]byte{6, 1, 6, 2, 6}, forkOf("", map[int]api.Node{1: leafAt(nil, "p"), 2: roadTo([]byte{7, 8}, forkOf("q", map[int]api.Node{7: leafAt([]byte{8}, "n")}))}))},
		{"aba", "n", roadTo([]byte{6, 1, 6, 2, 6}, forkOf("", map[int]api.Node{1: leafAt(nil, "n"), 2: leafAt([]byte{7, 8}, "q")}))},
	} {
		from := roadTo([]byte{6, 1, 6, 2, 6}, pq())
		if got, err := Put(from, []byte(c.key), []byte(c.value)); err != api.OK || !same(got, c.want) {
			t.Errorf("with %q at %q, %s is %s, %d, not %s", c.value, c.key, tell(from), tell(got), err, tell(c.want))
		}
	}
}

// pq is the fork of "aba" and "abbx" behind "ab" and a half.
func pq() api.Node {
	return forkOf("", map[int]api.Node{1: leafAt(nil, "p"), 2: leafAt([]byte{7, 8}, "q")})
}

func TestAllOfFewKeys(t *testing.T) { // G1 to G4: each set of them, and one key more or fewer
	keys := fewKeys()
	for set := range 1 << len(keys) {
		m := map[string]string{}
		for i, key := range keys {
			if set>>i&1 == 1 {
				m[key] = string(rune('a' + i))
			}
		}
		x := slowTree(m)
		if !slowRight(x) {
			t.Fatalf("the slow form makes %s", tell(x))
		}
		isTree(t, x, keys, []string{"", "n"})
	}
}

func TestOrderIsNoMatter(t *testing.T) { // G3, G4: one tree for what it has
	keys := fewKeys()[:6]
	var pairs []api.Pair
	m := map[string]string{}
	for _, key := range keys {
		m[key] = "v" + key
		pairs = append(pairs, pairOf(key, m[key]))
	}
	count := 0
	permute(pairs, len(pairs), func(l []api.Pair) {
		count++
		x, err := Of(l)
		if err != api.OK || !same(x, slowTree(m)) {
			t.Fatalf("Of %v is %s, %d", l, tell(x), err)
		}
		for i, pair := range l { // and away again, in that order
			if x, err = Put(x, pair.Key, nil); err != api.OK {
				t.Fatalf("Put of none at %q tells %d", pair.Key, err)
			}
			left := map[string]string{}
			for _, pair := range l[i+1:] {
				left[string(pair.Key)] = string(pair.Value)
			}
			if !same(x, slowTree(left)) {
				t.Fatalf("of %v there is left %s", l[i+1:], tell(x))
			}
		}
	})
	if count != 720 {
		t.Errorf("there were %d orders", count)
	}
}

// permute hands f each order of the first n of l.
func permute(l []api.Pair, n int, f func(l []api.Pair)) {
	if n == 0 {
		f(l)
		return
	}
	for i := range n {
		l[i], l[n-1] = l[n-1], l[i]
		permute(l, n-1, f)
		l[i], l[n-1] = l[n-1], l[i]
	}
}

func TestPairsByOrder(t *testing.T) { // G4
	if l, err := Pairs(api.Node{}); err != api.OK || len(l) != 0 {
		t.Errorf("Pairs of a none are %v, %d", l, err)
	}
	keys := []string{"", "\x00", "\x00\x00", "\x00\x01", "\x00\xff", "\x01", "\x0f", "\x10", "\x10\x00", "\x7f", "\x80", "\x80" + long("\xff")[1:], "\xff", "\xff\x00", "\xff\xff", long("\xff")}
	var pairs []api.Pair
	for i, key := range keys {
		pairs = append(pairs, pairOf(key, strings.Repeat("v", i+1)))
	}
	backward := slices.Clone(pairs)
	slices.Reverse(backward)
	x, err := Of(backward)
	l, err2 := Pairs(x)
	if err != api.OK || err2 != api.OK || !slices.EqualFunc(l, pairs, samePair) {
		t.Errorf("Pairs are %v, %d, %d", l, err, err2)
	}
}

func samePair(a, b api.Pair) bool {
	return bytes.Equal(a.Key, b.Key) && bytes.Equal(a.Value, b.Value)
}

func TestOfNamedPairs(t *testing.T) { // G4
	most := strings.Repeat("v", 1024)
	for _, c := range []struct {
		pairs []api.Pair
		want  map[string]string
		err   api.Errno
	}{
		{nil, nil, api.OK}, {[]api.Pair{}, nil, api.OK}, {[]api.Pair{{}}, nil, api.OK}, {[]api.Pair{{}, {}}, nil, api.OK},
		{[]api.Pair{pairOf("", "v")}, map[string]string{"": "v"}, api.OK},
		{[]api.Pair{pairOf("a", "v"), pairOf("a", "w")}, map[string]string{"a": "w"}, api.OK},
		{[]api.Pair{pairOf("a", "v"), pairOf("b", "x"), pairOf("a", "w")}, map[string]string{"a": "w", "b": "x"}, api.OK},
		{[]api.Pair{pairOf("a", "v"), pairOf("a", "")}, nil, api.OK},
		{[]api.Pair{pairOf("a", ""), pairOf("a", "v")}, map[string]string{"a": "v"}, api.OK},
		{[]api.Pair{pairOf("a", "v"), pairOf("b", "x"), pairOf("a", ""), pairOf("c", "")}, map[string]string{"b": "x"}, api.OK},
		{[]api.Pair{pairOf(long("k"), most), pairOf(long("k")[1:], most)}, map[string]string{long("k"): most, long("k")[1:]: most}, api.OK},
		{[]api.Pair{pairOf(long("k")+"k", "v")}, nil, api.ErrKey}, {[]api.Pair{pairOf(long("k")+"k", "")}, nil, api.ErrKey},
		{[]api.Pair{pairOf("a", most+"v")}, nil, api.ErrLong}, {[]api.Pair{pairOf(long("k")+"k", most+"v")}, nil, api.ErrKey},
		{[]api.Pair{pairOf("a", "v"), pairOf("b", most+"v"), pairOf(long("k")+"k", "v")}, nil, api.ErrLong},
		{[]api.Pair{pairOf("a", "v"), pairOf(long("k")+"k", "v"), pairOf("b", most+"v")}, nil, api.ErrKey},
		{[]api.Pair{pairOf("a", "v"), pairOf("b", "v"), pairOf("b", most+"v"), pairOf("b", "w")}, nil, api.ErrLong},
		{[]api.Pair{pairOf(long("k")+"k", "v"), pairOf("a", "v")}, nil, api.ErrKey},
	} {
		if got, err := Of(c.pairs); err != c.err || !same(got, slowTree(c.want)) {
			t.Errorf("Of %v is %s, %d, not %s, %d", c.pairs, tell(got), err, tell(slowTree(c.want)), c.err)
		}
	}
}

// numbers are the same ones each time, without an order that is to be seen.
func numbers(seed uint64) func(n int) int {
	return func(n int) int {
		seed = seed*6364136223846793005 + 1442695040888963407
		return int(seed >> 33 % uint64(n))
	}
}

func TestManySteps(t *testing.T) { // G3, G4: put and taken away, one behind the other
	for seed := range uint64(40) {
		next := numbers(seed)
		bytesOf := []byte{0, 1, 16, 17, 255}[:2+seed%4]
		m, x := map[string]string{}, api.Node{}
		var pairs []api.Pair
		for range 150 {
			key := make([]byte, next(5))
			for i := range key {
				key[i] = bytesOf[next(len(bytesOf))]
			}
			value := strings.Repeat("v", next(3)*next(3))
			pairs = append(pairs, pairOf(string(key), value))
			m[string(key)] = value
			var err api.Errno
			if x, err = Put(x, key, []byte(value)); err != api.OK || !same(x, slowTree(m)) {
				t.Fatalf("after %v there is %s, %d", pairs, tell(x), err)
			}
			if got, err := Get(x, key); err != api.OK || string(got) != value {
				t.Fatalf("after %v there is %q at %q, %d", pairs, got, key, err)
			}
		}
		if got, err := Of(pairs); err != api.OK || !same(got, x) {
			t.Fatalf("Of %v is %s, %d", pairs, tell(got), err)
		}
	}
}

func TestMany(t *testing.T) { // G4, Limits: with all looked through for each pair it would not end in time
	const count = 200000
	pairs := make([]api.Pair, count)
	m := map[string]string{}
	for i := range pairs {
		key := make([]byte, api.MaxKey)
		binary.BigEndian.PutUint64(key[8:], uint64(i)*0x9e3779b97f4a7c15)
		pairs[i] = api.Pair{Key: key, Value: key[8:12]}
		m[string(key)] = string(key[8:12])
	}
	x, err := Of(pairs)
	if err != api.OK || !Right(x) {
		t.Fatalf("Of many pairs tells %d", err)
	}
	if l, err := Pairs(x); err != api.OK || !samePairs(l, m) {
		t.Fatalf("Pairs of many are %d, %d", len(l), err)
	}
	if got, err := Get(x, pairs[count/2].Key); err != api.OK || !bytes.Equal(got, pairs[count/2].Value) {
		t.Errorf("Get of many is %v, %d", got, err)
	}
}

func TestWalkEndsWhereItIsAskedTo(t *testing.T) {
	for _, x := range someTrees() {
		n, _ := read(x, 0)
		whole := has(x)
		for stop := range whole {
			count := 0
			for path, value := range all(n) {
				if !bytes.Equal(path, whole[count].path) || !bytes.Equal(value, whole[count].value) {
					t.Fatalf("at %d of %s comes %v, %q", count, tell(x), path, value)
				}
				if count == stop {
					break
				}
				count++
			}
			if count != stop {
				t.Errorf("of %s %d came ahead of %d", tell(x), count, stop)
			}
		}
	}
}

// roomy is x anew, with room behind each list that has something in it.
func roomy(x api.Node) api.Node {
	spare := func(b []byte) []byte { return append(slices.Clone(b), bytes.Repeat([]byte{0xee}, 70)...)[:len(b)] }
	kids := make([]api.Node, len(x.Kids), len(x.Kids)+3)
	for i, kid := range x.Kids {
		kids[i] = roomy(kid)
	}
	for i := range kids[len(kids):cap(kids)] {
		kids[:cap(kids)][len(kids)+i] = api.Node{Kind: 77, Path: []byte{0xee}}
	}
	return api.Node{Kind: x.Kind, Path: spare(x.Path), Value: spare(x.Value), Kids: kids}
}

// untouched is whether x has yet the room that roomy gave it.
func untouched(x api.Node) bool {
	for _, b := range [][]byte{x.Path, x.Value} {
		if !bytes.HasPrefix(b[len(b):cap(b)], bytes.Repeat([]byte{0xee}, 70)) {
			return false
		}
	}
	for _, kid := range x.Kids[len(x.Kids):cap(x.Kids)] {
		if !same(kid, api.Node{Kind: 77, Path: []byte{0xee}}) {
			return false
		}
	}
	return !slices.ContainsFunc(x.Kids, func(kid api.Node) bool { return !untouched(kid) })
}

func TestOnlyRead(t *testing.T) { // Z2: what is handed in, and the room behind it
	for _, x := range someTrees() {
		y := roomy(x)
		Right(y)
		Pairs(y)
		for _, key := range append(fewKeys(), "a", "ab", "do", "dog", "dot", "w", long("k"), long("k")[1:]+"l") {
			for _, value := range []string{"", "n"} {
				handed := roomy(api.Node{Path: []byte(key), Value: []byte(value)})
				Get(y, handed.Path)
				Put(y, handed.Path, handed.Value)
				if !untouched(handed) || string(handed.Path) != key || string(handed.Value) != value {
					t.Fatalf("a key or a value is changed: %q, %q", handed.Path, handed.Value)
				}
			}
		}
		if !same(x, y) || !untouched(y) {
			t.Fatalf("%s is changed", tell(x))
		}
		pairs, _ := Pairs(x)
		again := append(slices.Clone(pairs), pairOf("room", "r"))
		Of(again[:len(pairs)])
		if !slices.EqualFunc(again, append(slices.Clone(pairs), pairOf("room", "r")), samePair) {
			t.Fatalf("pairs are changed: %v", again)
		}
	}
}

func TestAnswersAreNewMemory(t *testing.T) { // Z2
	for _, x := range someTrees() {
		x = roomy(x) // no two of its lists share memory
		pairs, _ := Pairs(x)
		if !apart(roomsOf(x), roomsOfPairs(pairs)) {
			t.Fatalf("Pairs of %s share memory", tell(x))
		}
		if got, _ := Of(pairs); !apart(roomsOfPairs(pairs), roomsOf(got)) {
			t.Fatalf("Of the pairs of %s shares memory", tell(x))
		}
		for _, key := range append(fewKeys(), "a", "ab", "do", "dog", "dot", "w", long("k"), long("k")[1:]+"l") {
			handed := []byte(key)
			if got, _ := Get(x, handed); !apart(roomsOf(x), roomOf(handed), roomOf(got)) {
				t.Fatalf("Get of %s at %q shares memory", tell(x), key)
			}
			for _, value := range [][]byte{nil, []byte("n")} {
				if got, _ := Put(x, handed, value); !apart(roomsOf(x), roomOf(handed), roomOf(value), roomsOf(got)) {
					t.Fatalf("Put of %s at %q shares memory", tell(x), key)
				}
			}
		}
	}
}

func TestOneListInManyPlaces(t *testing.T) { // Z2, G3: what is put at one of them is put there alone
	kids := forkOf("", map[int]api.Node{1: leafAt([]byte{2}, "a"), 15: leafAt([]byte{0}, "b")}).Kids
	inner := roadTo([]byte{0}, api.Node{Kind: api.NodeFork, Kids: kids})
	x := forkOf("", map[int]api.Node{2: inner, 3: inner, 4: inner})
	isTree(t, x, []string{"\x20", "\x20\x12", "\x30\xf0", "\x40\x00", ""}, []string{"", "n"})
}

func TestNothingIsKept(t *testing.T) { // Z1
	m := map[string]string{"a": "1", "b": "2"}
	x := slowTree(m)
	first, _ := Put(x, []byte("c"), []byte("3"))
	Put(first, []byte("a"), nil)
	Of([]api.Pair{pairOf("z", "z")})
	if again, err := Put(x, []byte("c"), []byte("3")); err != api.OK || !same(again, first) || !same(x, slowTree(m)) {
		t.Errorf("the second time there is %s, %d, not %s", tell(again), err, tell(first))
	}
}

func FuzzSteps(f *testing.F) { // G1 to G4, Z1: each step is a size, a key of that size, and the size of a value
	f.Add([]byte{1, 'a', 1, 1, 'b', 1, 1, 'a', 0})
	f.Add([]byte{0, 1, 2, 'a', 'b', 3, 1, 'a', 2, 2, 'a', 'b', 0})
	f.Fuzz(func(t *testing.T, steps []byte) {
		var pairs []api.Pair
		m := map[string]string{}
		for len(steps) >= 2 && len(pairs) < 50 {
			size := min(int(steps[0]%33), len(steps)-2)
			key, value := steps[1:1+size], bytes.Repeat([]byte("v"), int(steps[1+size]%4))
			pairs = append(pairs, api.Pair{Key: key, Value: value})
			m[string(key)] = string(value)
			steps = steps[2+size:]
		}
		x, err := Of(pairs)
		if err != api.OK || !same(x, slowTree(m)) || !slowRight(x) {
			t.Fatalf("Of %v is %s, %d", pairs, tell(x), err)
		}
		isTree(t, x, slices.Collect(maps.Keys(m)), []string{"", "n"})
	})
}
