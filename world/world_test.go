package world

import (
	"bytes"
	"math"
	"slices"
	"strings"
	"testing"

	"lampbearer/api"
	"lampbearer/root"
	"lampbearer/sponge"
	"lampbearer/tree"
)

const full = 1<<64 - 1

var (
	highest = api.Word{full, full, full, full}
	none    = api.Account{}
)

func num(n uint64) api.Word { return api.Word{n} }

func slot(key, value uint64) api.Slot { return api.Slot{Key: num(key), Value: num(value)} }

func slotsOf(l ...uint64) []api.Slot {
	var out []api.Slot
	for i := 0; i < len(l); i += 2 {
		out = append(out, slot(l[i], l[i+1]))
	}
	return out
}

// manySlots are n slots whose keys go up in all four parts of words.
func manySlots(n int) []api.Slot {
	out := make([]api.Slot, n)
	for i := range out {
		u := uint64(i)
		out[i] = api.Slot{Key: api.Word{full - u, u * u, full / 3, u}, Value: api.Word{u + 1, 0, u}}
	}
	return out
}

func code(n int) []byte { return bytes.Repeat([]byte{0x5b, 0x60, 0}, n)[:n] }

// accounts are right, and have something, the least and the most of each part among them.
func accounts() []api.Account {
	return []api.Account{
		{Nonce: 1}, {Nonce: 127}, {Nonce: 128}, {Nonce: full}, {Money: num(1)}, {Money: num(300)}, {Money: api.Word{0, 0, 0, 1 << 63}}, {Money: highest},
		{Code: []byte{0}}, {Code: []byte{0, 0}}, {Code: code(31)}, {Code: code(32)}, {Code: code(1023)}, {Code: code(1024)},
		{Slots: slotsOf(0, 1)}, {Slots: slotsOf(1, 9, 4, 1)}, {Slots: []api.Slot{{Key: highest, Value: highest}}}, {Slots: manySlots(40)},
		{Slots: []api.Slot{slot(0, 1), slot(full, full), {Key: api.Word{0, 1}, Value: num(127)}, {Key: api.Word{1, 1}, Value: num(128)}, {Key: api.Word{0, 0, 1}, Value: num(1)}, {Key: api.Word{full, full, 0, 1}, Value: highest}}},
		{Nonce: 7, Money: num(500), Code: code(80), Slots: slotsOf(1, 9, 4, 1, 5, 1)}, {Nonce: full, Money: highest, Code: code(1024), Slots: manySlots(3)},
	}
}

// wrongAccounts are each told with the error that comes of it.
func wrongAccounts() map[api.Errno][]api.Account {
	bad := [][]api.Slot{
		slotsOf(0, 0), slotsOf(1, 0), slotsOf(1, 1, 1, 1), slotsOf(1, 1, 1, 2), slotsOf(2, 1, 1, 1), slotsOf(1, 1, 2, 0), slotsOf(1, 0, 2, 1), slotsOf(1, 1, 2, 1, 2, 1), slotsOf(1, 1, 3, 1, 2, 1), slotsOf(2, 1, 3, 1, 1, 1),
		{{Key: api.Word{0, 1}, Value: num(1)}, {Key: num(5), Value: num(1)}}, {{Key: api.Word{0, 0, 0, 2}, Value: num(1)}, {Key: api.Word{full, full, full, 1}, Value: num(1)}},
		{{Key: highest, Value: num(1)}, {Key: highest, Value: num(1)}}, append(manySlots(40), slot(1, 1)), append(manySlots(40), api.Slot{Key: highest}),
	}
	out := map[api.Errno][]api.Account{api.ErrLong: {{Code: code(1025)}, {Code: code(100000)}, {Nonce: 1, Money: num(1), Code: code(1025), Slots: slotsOf(1, 1)}}}
	for _, slots := range bad {
		out[api.ErrForm] = append(out[api.ErrForm], api.Account{Slots: slots}, api.Account{Nonce: 1, Money: num(5), Code: code(9), Slots: slots}, api.Account{Slots: slots, Code: code(1025)})
	}
	return out
}

// risingAddrs go up, and differ in bytes anywhere.
func risingAddrs() []api.Address {
	return []api.Address{{}, {7: 1}, {7: 255}, {6: 1}, {0, 255, 255, 255, 255, 255, 255, 255}, {1}, {1, 0, 0, 1}, {2}, {2, 1}, {127}, {128}, {128, 0, 0, 0, 0, 0, 0, 128}, {255}, {255, 255, 255, 255, 255, 255, 255, 254}, {255, 255, 255, 255, 255, 255, 255, 255}}
}

// someWorlds have from no accounts to many.
func someWorlds() [][]api.Holder {
	out := [][]api.Holder{nil, {}}
	for _, a := range accounts() {
		out = append(out, []api.Holder{{Addr: api.Address{1}, Account: a}})
	}
	addrs := risingAddrs()
	for _, step := range []int{1, 2, 5} {
		var w []api.Holder
		for i := 0; i < len(addrs); i += step {
			w = append(w, api.Holder{Addr: addrs[i], Account: accounts()[i]})
		}
		out = append(out, w)
	}
	return append(out, manyAccounts(300))
}

func manyAccounts(n int) []api.Holder {
	w := make([]api.Holder, n)
	for i := range w {
		u := uint64(i)
		w[i] = api.Holder{Addr: api.Address{byte(i >> 16), byte(i >> 8), 3: byte(i), 7: byte(3 * i)}, Account: api.Account{Nonce: u % 3, Money: num(u + 1), Code: code(i % 40), Slots: manySlots(i % 4)}}
	}
	return w
}

// noWorlds are wrong in one thing each.
func noWorlds() [][]api.Holder {
	one := api.Account{Nonce: 1}
	var out [][]api.Holder
	for i, addr := range risingAddrs() {
		for _, other := range risingAddrs()[:i+1] {
			out = append(out, []api.Holder{{Addr: addr, Account: one}, {Addr: other, Account: one}})
		}
	}
	wrong := []api.Account{none, {Code: []byte{}, Slots: []api.Slot{}}}
	for _, l := range wrongAccounts() {
		wrong = append(wrong, l...)
	}
	for _, a := range wrong {
		for at := range 3 {
			w := []api.Holder{{Addr: api.Address{1}, Account: one}, {Addr: api.Address{2}, Account: one}, {Addr: api.Address{3}, Account: one}}
			w[at].Account = a
			out = append(out, w, w[at:at+1])
		}
	}
	last := manyAccounts(100)
	return append(out, append(last, last[0]), append(slices.Clip(last), last[99]), append(slices.Clip(last), api.Holder{Addr: api.Address{99}}))
}

func someKeys() []api.Word {
	return []api.Word{{}, num(1), num(4), num(full), {0, 1}, {1, 0, 0, 0}, {0, 0, 0, 1}, {full, full, 0, 1}, highest, manySlots(4)[3].Key}
}

func TestRightWorlds(t *testing.T) { // O1
	for _, w := range someWorlds() {
		if !Right(w) || !slowRight(w) {
			t.Errorf("%s is no world", short(w))
		}
	}
}

func TestNoWorlds(t *testing.T) { // O1, O3, Z4
	for _, w := range noWorlds() {
		if Right(w) || slowRight(w) {
			t.Errorf("%s is a world", short(w))
		}
		for _, addr := range []api.Address{{}, {1}, {2}, {200}} {
			if a, err := Get(w, addr); err != api.ErrForm || !sameAccount(a, none) {
				t.Errorf("Get of %s is %s, %d", short(w), short(a), err)
			}
			for _, a := range []api.Account{none, {Nonce: 1}, {Slots: slotsOf(1, 0)}, {Code: code(1025)}} { // told ahead of the account's error
				if l, err := Set(w, addr, a); err != api.ErrForm || len(l) != 0 {
					t.Errorf("Set in %s is %s, %d", short(w), short(l), err)
				}
			}
			if l, err := Prove(w, addr); err != api.ErrForm || len(l) != 0 {
				t.Errorf("Prove of %s is %s, %d", short(w), short(l), err)
			}
			if l, err := ProveSlot(w, addr, num(1)); err != api.ErrForm || len(l) != 0 {
				t.Errorf("ProveSlot of %s is %s, %d", short(w), short(l), err)
			}
		}
		if h, err := State(w); err != api.ErrForm || h != (api.Hash{}) {
			t.Errorf("State of %s is %x, %d", short(w), h, err)
		}
	}
}

func TestGet(t *testing.T) { // O1: what is there, and the account that has nothing, where there is none
	for _, w := range someWorlds() {
		for _, addr := range risingAddrs() {
			if a, err := Get(w, addr); err != api.OK || !sameAccount(a, slowGet(w, addr)) {
				t.Errorf("Get of %x, of %s, is %s, %d", addr, short(w), short(a), err)
			}
		}
		for _, h := range w {
			if a, err := Get(w, h.Addr); err != api.OK || !sameAccount(a, h.Account) || slowNothing(a) {
				t.Errorf("Get of %x, of %s, is %s, %d", h.Addr, short(w), short(a), err)
			}
		}
	}
}

func TestSet(t *testing.T) { // O1: at each place of a world, whether somebody is there or not
	for _, w := range someWorlds() {
		for i, addr := range risingAddrs() {
			for _, a := range []api.Account{none, {Code: []byte{}, Slots: []api.Slot{}}, accounts()[i], {Money: highest}} {
				x := sets(t, w, addr, a)
				if !Right(x) {
					t.Fatalf("%s is no world", short(x))
				}
				if got, err := Get(x, addr); err != api.OK || !sameAccount(got, a) {
					t.Fatalf("%x has %s, not %s, %d", addr, short(got), short(a), err)
				}
				old, _ := Get(w, addr)
				if back := sets(t, x, addr, old); !sameWorld(back, w) {
					t.Fatalf("with what it had, it is %s, not %s", short(back), short(w))
				}
			}
		}
	}
}

func TestSetOfNothing(t *testing.T) { // O1, example 15: it is not in a world
	one := api.Account{Money: num(1)}
	w := []api.Holder{{Addr: api.Address{1}, Account: one}, {Addr: api.Address{2}, Account: one}, {Addr: api.Address{3}, Account: one}}
	for at := range w {
		if got := sets(t, w, w[at].Addr, none); len(got) != 2 {
			t.Errorf("%s is left", short(got))
		}
	}
	for _, addr := range []api.Address{{}, {1, 1}, {2, 1}, {4}} {
		if got := sets(t, w, addr, none); !sameWorld(got, w) {
			t.Errorf("%s is left", short(got))
		}
	}
	if got := sets(t, w[:1], api.Address{1}, none); len(got) != 0 || !Right(got) {
		t.Errorf("%s is left", short(got))
	}
}

func TestWrongAccounts(t *testing.T) { // O1, O2: ErrForm ahead of ErrLong
	for want, l := range wrongAccounts() {
		for _, a := range l {
			if slowWrong(a) != want {
				t.Fatalf("by the words %s is wrong by %d", short(a), slowWrong(a))
			}
			if l, err := Leaf(a); err != want || l != (api.Leaf{}) {
				t.Errorf("Leaf of %s is %v, %d, not %d", short(a), l, err, want)
			}
			for _, w := range someWorlds()[:5] {
				for _, addr := range []api.Address{{}, {1}, {9}} {
					if got, err := Set(w, addr, a); err != want || len(got) != 0 {
						t.Errorf("Set of %s is %s, %d, not %d", short(a), short(got), err, want)
					}
				}
			}
		}
	}
}

func TestOrderOfSets(t *testing.T) { // O1: the order is no matter
	w := manyAccounts(200)
	var x, y []api.Holder
	for i := range w {
		x = sets(t, x, w[i].Addr, w[i].Account)
		h := w[(i*77+5)%200]
		y = sets(t, y, h.Addr, api.Account{Nonce: 9, Code: code(5), Slots: slotsOf(1, 1)})
		y = sets(t, y, h.Addr, h.Account)
	}
	if !sameWorld(x, w) || !sameWorld(y, w) {
		t.Error("in another order it is another world")
	}
}

func TestLeaf(t *testing.T) { // O2
	for _, a := range append(accounts(), none) {
		if l, err := Leaf(a); err != api.OK || l != slowLeaf(a) {
			t.Errorf("Leaf of %s is %v, %d", short(a), l, err)
		}
	}
	empty := sponge.Sum([]byte{128})
	for _, a := range []api.Account{none, {Code: []byte{}, Slots: []api.Slot{}}} { // Z3
		if l, err := Leaf(a); err != api.OK || l != (api.Leaf{Slots: empty, Code: sponge.Sum(nil)}) {
			t.Errorf("the leaf of what has nothing is %v, %d", l, err)
		}
	}
	l, err := Leaf(api.Account{Nonce: 3, Money: num(4), Code: []byte{1, 2}, Slots: slotsOf(6, 300)})
	key := sponge.Sum([]byte{31: 6})
	one := api.Node{Kind: api.NodeLeaf, Path: halves(key[:]), Value: []byte{1, 44}}
	h, _ := root.Root(one)
	if err != api.OK || l != (api.Leaf{Nonce: 3, Money: num(4), Slots: h, Code: sponge.Sum([]byte{1, 2})}) {
		t.Errorf("%v comes, %d", l, err)
	}
}

func halves(b []byte) []byte {
	var out []byte
	for _, c := range b {
		out = append(out, c/16, c%16)
	}
	return out
}

func TestLeavesDiffer(t *testing.T) { // O2: each part of an account tells
	seen := map[api.Leaf]int{}
	l := append(accounts(), none, api.Account{Code: []byte{128}}, api.Account{Slots: slotsOf(1, 2)}, api.Account{Slots: slotsOf(2, 1)}, api.Account{Slots: slotsOf(1, 9, 4, 2)}, api.Account{Slots: manySlots(41)})
	for _, a := range l {
		x, _ := Leaf(a)
		seen[x]++
	}
	if len(seen) != len(l) {
		t.Errorf("%d accounts have %d leaves", len(l), len(seen))
	}
}

// leaves are of any numbers and sums.
func leaves() []api.Leaf {
	var out []api.Leaf
	for i, nonce := range []uint64{0, 1, 127, 128, 255, 256, 1<<56 - 1, 1 << 56, 1 << 63, full} {
		for j, money := range []api.Word{{}, num(1), num(127), num(128), num(full), {0, 1}, {0, 0, 0, 1 << 56}, {0, 0, 0, 1<<56 - 1}, {1: 5, 3: 1 << 63}, highest} {
			out = append(out, api.Leaf{Nonce: nonce, Money: money, Slots: api.Hash{byte(i), 31: byte(j)}, Code: api.Hash{byte(j), 5: 128, 31: byte(i)}})
		}
	}
	return append(out, api.Leaf{Slots: api.Hash(bytes.Repeat([]byte{255}, 32)), Code: api.Hash(bytes.Repeat([]byte{255}, 32))})
}

func TestWriteAndReadLeaves(t *testing.T) { // O2
	for _, l := range leaves() {
		b := WriteLeaf(l)
		if !bytes.Equal(b, slowWriteLeaf(l)) {
			t.Fatalf("%v is written %v", l, b)
		}
		if got, err := ReadLeaf(b); err != api.OK || got != l {
			t.Fatalf("%v is read again as %v, %d", l, got, err)
		}
		reads(t, b)
	}
}

func TestWriteNamedLeaves(t *testing.T) { // O2
	zeros := strings.Repeat("\x00", 32)
	for _, c := range []struct {
		nonce uint64
		money api.Word
		want  string
	}{
		{0, num(0), "\xf0\x44\x80\x80"}, {1, num(0), "\xf0\x44\x01\x80"}, {127, num(128), "\xf0\x45\x7f\x81\x80"}, {300, num(5), "\xf0\x46\x82\x01\x2c\x05"},
		{full, highest, "\xf0\x6c\x88" + strings.Repeat("\xff", 8) + "\xa0" + strings.Repeat("\xff", 32)},
	} {
		want := c.want + "\xa0" + zeros + "\xa0" + zeros
		if got := WriteLeaf(api.Leaf{Nonce: c.nonce, Money: c.money}); string(got) != want {
			t.Errorf("%d and %v are written %x, not %x", c.nonce, c.money, got, want)
		}
	}
}

func TestReadNoLeaves(t *testing.T) { // O2
	zeros, ones := make([]byte, 32), bytes.Repeat([]byte{1}, 32)
	good := []api.Item{{Text: []byte{5}}, {Text: []byte{1, 44}}, {Text: zeros}, {Text: ones}}
	with := func(at int, it api.Item) []api.Item { return slices.Replace(slices.Clone(good), at, at+1, it) }
	bad := [][]api.Item{nil, good[:1], good[:3], good[1:], append(slices.Clone(good), api.Item{}), append(slices.Clone(good), good...), {{List: true, Kids: good}}}
	for at := range good {
		bad = append(bad, with(at, api.Item{List: true}), with(at, api.Item{List: true, Kids: good[at : at+1]}), slices.Delete(slices.Clone(good), at, at+1))
	}
	for _, text := range [][]byte{{0}, {0, 1}, {0, 0}, make([]byte, 33), append([]byte{1}, zeros...), append([]byte{0}, ones...), bytes.Repeat([]byte{255}, 100)} {
		bad = append(bad, with(0, api.Item{Text: text}), with(1, api.Item{Text: text}))
	}
	bad = append(bad, with(0, api.Item{Text: ones[:9]}), with(0, api.Item{Text: append([]byte{0}, ones[:8]...)}), with(0, api.Item{Text: ones}), with(0, api.Item{Text: append([]byte{1}, zeros[:8]...)}))
	for _, n := range []int{0, 1, 8, 31, 33, 64, 1000} {
		bad = append(bad, with(2, api.Item{Text: make([]byte, n)}), with(3, api.Item{Text: bytes.Repeat([]byte{1}, n)}))
	}
	if reads(t, encode(good)) != api.OK || reads(t, encode(with(0, api.Item{Text: ones[:8]}))) != api.OK || reads(t, encode(with(1, api.Item{Text: ones}))) != api.OK {
		t.Error("a leaf is refused")
	}
	for _, kids := range bad {
		if reads(t, encode(kids)) != api.ErrForm {
			t.Errorf("%s is a leaf", short(kids))
		}
	}
	for _, b := range [][]byte{nil, {}, {128}, {192}, {240}, {240, 68}, []byte("no leaf"), zeros, bytes.Repeat([]byte{193}, 2000), bytes.Repeat([]byte{255}, 100), {0}} {
		if reads(t, b) != api.ErrForm {
			t.Errorf("%s is a leaf", short(b))
		}
	}
}

// encode is the form of a list.
func encode(kids []api.Item) []byte {
	var b []byte
	for _, kid := range kids {
		switch {
		case kid.List:
			b = append(b, encode(kid.Kids)...)
		case len(kid.Text) < 48:
			b = append(b, slowText(kid.Text)...)
		default:
			b = append(append(b, head(128, len(kid.Text))...), kid.Text...)
		}
	}
	return append(head(192, len(b)), b...)
}

func head(mark, n int) []byte {
	switch {
	case n < 48:
		return []byte{byte(mark + n)}
	case n < 256:
		return []byte{byte(mark + 48), byte(n)}
	}
	return []byte{byte(mark + 49), byte(n >> 8), byte(n)}
}

func TestOneByteChanged(t *testing.T) { // O2: nothing has two forms
	for _, l := range leaves() {
		b := WriteLeaf(l)
		for at := range b {
			for _, bit := range []byte{1, 2, 16, 64, 128} {
				other := slices.Clone(b)
				other[at] ^= bit
				reads(t, other)
				if got, err := ReadLeaf(other); err == api.OK && got == l {
					t.Fatalf("%v has two forms", l)
				}
			}
			reads(t, slices.Delete(slices.Clone(b), at, at+1))
			reads(t, slices.Insert(slices.Clone(b), at, 0))
			if reads(t, b[:at]) != api.ErrForm {
				t.Fatalf("%v has a form that another one begins", l)
			}
		}
		if reads(t, append(b, 0)) != api.ErrForm || reads(t, append(b, b...)) != api.ErrForm {
			t.Fatalf("%v has more behind it", l)
		}
	}
}

func TestStateAndProofs(t *testing.T) { // O3, O4
	for _, w := range someWorlds() {
		addrs := risingAddrs()
		for i := 0; i < len(w); i += 1 + len(w)/10 {
			addrs = append(addrs, w[i].Addr)
		}
		keys := someKeys()
		if len(w) > 1 {
			keys = keys[:3]
		}
		holds(t, w, addrs, keys)
	}
}

func TestStateOfNone(t *testing.T) { // O3: that of a none
	for _, w := range [][]api.Holder{nil, {}} {
		if h, err := State(w); err != api.OK || h != sponge.Sum([]byte{128}) {
			t.Errorf("no accounts come to %x, %d", h, err)
		}
		for _, addr := range risingAddrs() {
			if l, err := Prove(w, addr); err != api.OK || !sameCodes(l, [][]byte{{128}}) {
				t.Errorf("Prove is %v, %d", l, err)
			}
			if l, err := ProveSlot(w, addr, num(1)); err != api.OK || !sameCodes(l, [][]byte{{128}}) {
				t.Errorf("ProveSlot is %v, %d", l, err)
			}
		}
	}
}

func TestStateOfOne(t *testing.T) { // O3: one leaf, at the sum of the address
	a := api.Account{Nonce: 1, Money: num(2), Code: []byte{3}, Slots: slotsOf(4, 5)}
	addr := api.Address{9, 7: 1}
	key := sponge.Sum(addr[:])
	one := api.Node{Kind: api.NodeLeaf, Path: halves(key[:]), Value: slowWriteLeaf(slowLeaf(a))}
	want, _ := root.Codes(one)
	w := []api.Holder{{Addr: addr, Account: a}}
	if h, err := State(w); err != api.OK || h != sponge.Sum(want[0]) {
		t.Errorf("one account comes to %x, %d", h, err)
	}
	for _, other := range []api.Address{addr, {}, {9}} {
		if l, err := Prove(w, other); err != api.OK || !sameCodes(l, want) {
			t.Errorf("Prove is %v, %d", l, err)
		}
	}
}

func TestStatesDiffer(t *testing.T) { // O3: whatever is changed tells
	w := manyAccounts(20)
	w[5].Account.Slots = slotsOf(1, 1, 2, 2)
	seen := map[api.Hash]bool{}
	worlds := [][]api.Holder{w}
	for _, at := range []int{0, 5, 19} {
		a := w[at].Account
		b, c, d, e := a, a, a, a
		b.Nonce++
		c.Money[3]++
		d.Code = append(slices.Clone(a.Code), 0)
		e.Slots = append(slices.Clone(a.Slots), api.Slot{Key: highest, Value: num(1)})
		for _, x := range []api.Account{b, c, d, e, none} {
			worlds = append(worlds, sets(t, w, w[at].Addr, x))
		}
		worlds = append(worlds, sets(t, sets(t, w, w[at].Addr, none), api.Address{200, byte(at)}, a))
	}
	worlds = append(worlds, sets(t, w, w[5].Addr, api.Account{Nonce: w[5].Account.Nonce, Money: w[5].Account.Money, Code: w[5].Account.Code, Slots: slotsOf(1, 2, 2, 1)}))
	for _, x := range worlds {
		h, err := State(x)
		if err != api.OK || seen[h] {
			t.Errorf("%s comes to %x, %d, like another one", short(x), h, err)
		}
		seen[h] = true
	}
}

func TestOnlyTheCodesOfTheWay(t *testing.T) { // O4: proof.Check's errors
	w := manyAccounts(300)
	state, _ := State(w)
	for _, addr := range []api.Address{{}, w[7].Addr, w[299].Addr, {9}} {
		codes, _ := Prove(w, addr)
		for n := range codes {
			checksLeaf(t, state, addr, codes[:n], api.ErrMissing)
			checksLeaf(t, state, addr, slices.Replace(slices.Clone(codes), n, n+1, []byte("other")), api.ErrSum)
			checksLeaf(t, state, addr, slices.Insert(slices.Clone(codes), n, nil), api.ErrSum)
		}
		checksLeaf(t, state, addr, append(slices.Clone(codes), nil), api.ErrMuch)
		checksLeaf(t, state, addr, append(slices.Clone(codes), codes...), api.ErrMuch)
		checksLeaf(t, api.Hash{}, addr, codes, api.ErrSum)
		checksLeaf(t, state, addr, codes, api.OK)
	}
	holder := api.Holder{Addr: api.Address{1}, Account: api.Account{Slots: manySlots(300)}}
	slots := slowRoot(slowSlotTree(holder.Account.Slots))
	for _, key := range []api.Word{{}, holder.Account.Slots[7].Key, holder.Account.Slots[299].Key} {
		codes, _ := ProveSlot([]api.Holder{holder}, holder.Addr, key)
		for n := range codes {
			checksSlot(t, slots, key, codes[:n], api.ErrMissing)
			checksSlot(t, slots, key, slices.Replace(slices.Clone(codes), n, n+1, []byte("other")), api.ErrSum)
			checksSlot(t, slots, key, slices.Insert(slices.Clone(codes), n, nil), api.ErrSum)
		}
		checksSlot(t, slots, key, append(slices.Clone(codes), nil), api.ErrMuch)
		checksSlot(t, slots, key, append(slices.Clone(codes), codes...), api.ErrMuch)
		checksSlot(t, api.Hash{}, key, codes, api.ErrSum)
		checksSlot(t, slots, key, codes, api.OK)
	}
}

// checksLeaf is whether CheckLeaf answers that error, and what the slow form does.
func checksLeaf(t *testing.T, state api.Hash, addr api.Address, codes [][]byte, want api.Errno) {
	t.Helper()
	got, err := CheckLeaf(state, addr, codes)
	slow, slowErr := slowCheckLeaf(state, addr, codes)
	if err != want || got != slow || err != slowErr {
		t.Errorf("CheckLeaf of %x by %s is %v, %d, not %v, %d", addr, short(codes), got, err, slow, want)
	}
	if err != api.OK && got != (api.Leaf{}) {
		t.Errorf("beside %d CheckLeaf tells %v", err, got)
	}
}

func checksSlot(t *testing.T, slots api.Hash, key api.Word, codes [][]byte, want api.Errno) {
	t.Helper()
	got, err := CheckSlot(slots, key, codes)
	slow, slowErr := slowCheckSlot(slots, key, codes)
	if err != want || got != slow || err != slowErr {
		t.Errorf("CheckSlot of %v by %s is %v, %d, not %v, %d", key, short(codes), got, err, slow, want)
	}
	if err != api.OK && got != (api.Word{}) {
		t.Errorf("beside %d CheckSlot tells %v", err, got)
	}
}

func TestCodesOfNoShape(t *testing.T) { // O4: proof.Check's ErrForm
	for _, junk := range [][]byte{nil, {0}, []byte("no code"), {194, 0x20}} {
		checksLeaf(t, sponge.Sum(junk), api.Address{1}, [][]byte{junk}, api.ErrForm)
		checksSlot(t, sponge.Sum(junk), num(1), [][]byte{junk}, api.ErrForm)
	}
	checksLeaf(t, sponge.Sum([]byte{128}), api.Address{1}, [][]byte{{128}}, api.OK)
	checksSlot(t, sponge.Sum([]byte{128}), num(1), [][]byte{{128}}, api.OK)
	checksLeaf(t, api.Hash{}, api.Address{1}, nil, api.ErrMissing)
	checksSlot(t, api.Hash{}, num(1), nil, api.ErrMissing)
}

// treeWith has value at key, and something else elsewhere.
func treeWith(t *testing.T, key, value []byte) api.Node {
	t.Helper()
	other := slices.Clone(key)
	other[3] ^= 16
	x, err := tree.Of([]api.Pair{{Key: other, Value: []byte{1}}, {Key: key, Value: value}})
	if err != api.OK {
		t.Fatalf("there is no such tree: %d", err)
	}
	return x
}

func TestValuesOfOtherTrees(t *testing.T) { // O4: what is proved need not be a leaf, or a number
	addr, key := api.Address{1, 2}, num(4)
	leaf := WriteLeaf(slowLeaf(accounts()[19]))
	for _, value := range [][]byte{leaf, leaf[1:], leaf[:len(leaf)-1], append(slices.Clone(leaf), 0), {128}, {192}, {1}, {0}, {0, 1}, make([]byte, 32), make([]byte, 33), bytes.Repeat([]byte{255}, 32), bytes.Repeat([]byte{255}, 33), bytes.Repeat([]byte{1}, 1024)} {
		want := api.ErrForm
		if bytes.Equal(value, leaf) {
			want = api.OK
		}
		x := treeWith(t, slowKey(addr[:]), value)
		checksLeaf(t, slowRoot(x), addr, slowProof(x, slowKey(addr[:])), want)
		want = api.ErrForm
		if len(value) <= 32 && value[0] != 0 {
			want = api.OK
		}
		x = treeWith(t, slowSlotKey(key), value)
		checksSlot(t, slowRoot(x), key, slowProof(x, slowSlotKey(key)), want)
	}
	nothing := WriteLeaf(slowLeaf(none)) // written out, it is a leaf like others
	x := treeWith(t, slowKey(addr[:]), nothing)
	checksLeaf(t, slowRoot(x), addr, slowProof(x, slowKey(addr[:])), api.OK)
}

func TestProofsOfOthers(t *testing.T) { // O4: what is shown of one says of another one what is so, or nothing
	w := manyAccounts(100)
	state, _ := State(w)
	for i := range 100 {
		codes, _ := Prove(w, w[i].Addr)
		for j := range 100 {
			l, err := CheckLeaf(state, w[j].Addr, codes)
			if err == api.OK && l != slowLeaf(w[j].Account) || err != api.OK && l != (api.Leaf{}) || i == j && err != api.OK {
				t.Fatalf("%x is shown to have %v, %d", w[j].Addr, l, err)
			}
		}
	}
	a := api.Account{Slots: manySlots(60)}
	slots := slowRoot(slowSlotTree(a.Slots))
	for i, s := range a.Slots {
		codes, _ := ProveSlot([]api.Holder{{Account: a}}, api.Address{}, s.Key)
		for j, other := range a.Slots {
			v, err := CheckSlot(slots, other.Key, codes)
			if err == api.OK && v != other.Value || err != api.OK && v != (api.Word{}) || i == j && err != api.OK {
				t.Fatalf("%v is shown to have %v, %d", other.Key, v, err)
			}
		}
	}
}

func TestOnlyRead(t *testing.T) { // Z2: what is handed in, and the room behind it
	for _, w := range someWorlds() {
		v := spareWorld(w)
		holds(t, v, []api.Address{{1}, {2}, {3}}, []api.Word{num(1)})
		for _, a := range []api.Account{none, accounts()[19]} {
			b := spareAccount(a)
			for _, addr := range []api.Address{{}, {1}, {2}, {255}} {
				sets(t, v, addr, b)
			}
			Leaf(b)
			if !accountIsLeft(b, a) {
				t.Fatalf("%s is changed", short(a))
			}
		}
		Set(v, api.Address{1}, spareAccount(api.Account{Slots: slotsOf(1, 0)}))
		if !worldIsLeft(v, w) {
			t.Fatalf("%s is changed", short(w))
		}
	}
	for _, w := range noWorlds() {
		v := spareWorld(w)
		Right(v)
		Get(v, api.Address{1})
		Set(v, api.Address{1}, none)
		State(v)
		if !worldIsLeft(v, w) {
			t.Fatalf("%s is changed", short(w))
		}
	}
	b := spare(WriteLeaf(slowLeaf(none)), junkByte)
	if reads(t, b) != api.OK || !bytes.Equal(b, slowWriteLeaf(slowLeaf(none))) || !bytes.Equal(b[:len(b)+3][len(b):], []byte{junkByte, junkByte, junkByte}) {
		t.Error("a leaf's form is changed")
	}
}

func TestAnswersAreNewMemory(t *testing.T) { // Z2
	shared := api.Account{Code: code(9), Slots: slotsOf(1, 1, 2, 2)} // one account's lists, in many places
	worlds := append(someWorlds(), []api.Holder{{Addr: api.Address{1}, Account: shared}, {Addr: api.Address{2}, Account: shared}, {Addr: api.Address{3}, Account: shared}})
	for _, w := range worlds {
		for _, addr := range []api.Address{{}, {1}, {2}, {255}} {
			a, _ := Get(w, addr)
			x, _ := Set(w, addr, shared)
			y, _ := Set(w, addr, none)
			p, _ := Prove(w, addr)
			q, _ := Prove(w, addr)
			r, _ := ProveSlot(w, addr, num(1))
			if !shareNothing(roomsOfAccount(a), roomsOfWorld(x), roomsOfWorld(y), roomsOfCodes(p), roomsOfCodes(q), roomsOfCodes(r), roomsOfAccount(shared)) {
				t.Fatalf("answers for %x, of %s, share memory", addr, short(w))
			}
			for _, h := range w {
				if !shareNothing(roomsOfAccount(h.Account), roomOf(w), roomsOfAccount(a), roomsOfWorld(x), roomsOfWorld(y)) {
					t.Fatalf("an answer for %x shares memory with %s", addr, short(w))
				}
			}
		}
	}
	l := api.Leaf{Nonce: 5}
	b, c := WriteLeaf(l), WriteLeaf(l)
	if !shareNothing(roomOf(b), roomOf(c)) {
		t.Error("forms of leaves share memory")
	}
}

func TestNothingIsKept(t *testing.T) { // Z1, Z2
	a := api.Account{Nonce: 1, Code: code(9), Slots: slotsOf(1, 1, 2, 2)}
	want := api.Account{Nonce: 1, Code: code(9), Slots: slotsOf(1, 1, 2, 2)}
	w := sets(t, manyAccounts(5), api.Address{9}, a)
	got, _ := Get(w, api.Address{9})
	state, _ := State(w)
	clear(a.Code)
	clear(a.Slots)
	if again, _ := State(w); again != state || !sameAccount(got, want) {
		t.Error("what was handed in is kept")
	}
	clear(got.Code)
	clear(got.Slots)
	if again, _ := Get(w, api.Address{9}); !sameAccount(again, want) {
		t.Error("what was answered is kept")
	}
	if none, err := Get(nil, api.Address{9}); err != api.OK || !slowNothing(none) {
		t.Error("a world has something of another one")
	}
	if again, _ := State(w); again != state {
		t.Error("the same world comes to something else")
	}
}

func TestMany(t *testing.T) { // O1, O3, Z1: as many as a world may have without taking long
	w := make([]api.Holder, 20000)
	for i := range w {
		w[i] = api.Holder{Addr: api.Address{byte(i >> 8), byte(i)}, Account: api.Account{Money: num(uint64(i) + 1)}}
	}
	state, err := State(w)
	if err != api.OK {
		t.Fatalf("it is no world: %d", err)
	}
	for _, at := range []int{0, 777, 19999} {
		codes, _ := Prove(w, w[at].Addr)
		if l, err := CheckLeaf(state, w[at].Addr, codes); err != api.OK || l != slowLeaf(w[at].Account) {
			t.Fatalf("%x is shown to have %v, %d", w[at].Addr, l, err)
		}
		if a, err := Get(w, w[at].Addr); err != api.OK || !sameAccount(a, w[at].Account) {
			t.Fatalf("%x has %s, %d", w[at].Addr, short(a), err)
		}
	}
	one := api.Holder{Account: api.Account{Slots: manySlots(20000)}}
	l, err := Leaf(one.Account)
	key := one.Account.Slots[777].Key
	codes, _ := ProveSlot([]api.Holder{one}, one.Addr, key)
	if v, checkErr := CheckSlot(l.Slots, key, codes); err != api.OK || checkErr != api.OK || v != one.Account.Slots[777].Value {
		t.Fatalf("%v is shown to have %v, %d, %d", key, v, err, checkErr)
	}
}

// worldFrom makes accounts of bytes, mostly of a world.
func worldFrom(b []byte) []api.Holder {
	var w []api.Holder
	var last api.Address
	for len(b) >= 6 && len(w) < 50 {
		last[int(b[0]>>2)%8] += b[0]&3 + b[1]%3
		h := api.Holder{Addr: last, Account: api.Account{Nonce: uint64(b[2] % 4), Money: api.Word{uint64(b[3] % 8), 0, uint64(b[3] / 250)}, Code: b[:b[4]%7]}}
		for i := range uint64(b[5] % 4) {
			h.Account.Slots = append(h.Account.Slots, api.Slot{Key: api.Word{i + uint64(b[5]), i * uint64(b[4]&1)}, Value: num(uint64(b[3]) + i)})
		}
		w = append(w, h)
		b = b[6:]
	}
	return w
}

func isWorld(t *testing.T, b []byte) {
	t.Helper()
	w := worldFrom(b)
	if got := Right(w); got != slowRight(w) {
		t.Fatalf("whether %s is a world: %t", short(w), got)
	}
	if !Right(w) {
		return
	}
	addrs := []api.Address{{}, {1}, {7: 1}}
	for _, h := range w {
		addrs = append(addrs, h.Addr)
	}
	holds(t, w, addrs[:min(8, len(addrs))], []api.Word{num(1), num(2)})
	for i, addr := range addrs {
		a, _ := Get(w, addrs[(i*7+1)%len(addrs)])
		sets(t, w, addr, a)
	}
}

func TestSpread(t *testing.T) { // O1 to O4
	n, rights := uint64(1), 0
	for i := range 1000 {
		var b []byte
		for range 6 * (i%9 + 1) {
			n = n*6364136223846793005 + 1442695040888963407
			b = append(b, byte(n>>40))
		}
		isWorld(t, b)
		if Right(worldFrom(b)) {
			rights++
		}
	}
	if rights < 100 || rights > 900 {
		t.Errorf("of 1000 lists %d are worlds", rights)
	}
}

func FuzzWorld(f *testing.F) { // O1 to O4, Z1
	f.Add([]byte{1, 1, 1, 1, 1, 1, 2, 2, 2, 2, 2, 2})
	f.Add([]byte{29, 0, 0, 0, 0, 3, 1, 2, 3, 255, 1, 7})
	f.Fuzz(isWorld)
}

func FuzzReadLeaf(f *testing.F) { // O2, Z1
	f.Add(WriteLeaf(api.Leaf{}))
	f.Add(WriteLeaf(api.Leaf{Nonce: math.MaxUint64, Money: highest}))
	f.Fuzz(func(t *testing.T, b []byte) { reads(t, b) })
}
