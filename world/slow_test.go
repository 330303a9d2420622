package world

import (
	"bytes"
	"fmt"
	"math/big"
	"slices"
	"testing"
	"unsafe"

	"lampbearer/api"
	"lampbearer/pack"
	"lampbearer/proof"
	"lampbearer/root"
	"lampbearer/sponge"
	"lampbearer/tree"
)

// number is a as a whole number without end.
func number(a api.Word) *big.Int {
	n := new(big.Int)
	for i := range 4 {
		n.Or(n, new(big.Int).Lsh(new(big.Int).SetUint64(a[i]), uint(64*i)))
	}
	return n
}

// slowWrong asks one thing of an account behind the other, each key against all behind it.
func slowWrong(a api.Account) api.Errno {
	for i, s := range a.Slots {
		for _, other := range a.Slots[i+1:] {
			if number(s.Key).Cmp(number(other.Key)) >= 0 {
				return api.ErrForm
			}
		}
		if number(s.Value).Sign() == 0 {
			return api.ErrForm
		}
	}
	if len(a.Code) > 1024 {
		return api.ErrLong
	}
	return api.OK
}

func slowNothing(a api.Account) bool {
	return a.Nonce == 0 && number(a.Money).Sign() == 0 && len(a.Code) == 0 && len(a.Slots) == 0
}

// slowRight holds each address against all behind it.
func slowRight(w []api.Holder) bool {
	for i, h := range w {
		for _, other := range w[i+1:] {
			if string(h.Addr[:]) >= string(other.Addr[:]) {
				return false
			}
		}
		if slowWrong(h.Account) != api.OK || slowNothing(h.Account) {
			return false
		}
	}
	return true
}

// slowGet looks at each account of a world.
func slowGet(w []api.Holder, addr api.Address) api.Account {
	var a api.Account
	for _, h := range w {
		if h.Addr == addr {
			a = h.Account
		}
	}
	return a
}

// slowSet lays all accounts anew, and sorts them.
func slowSet(w []api.Holder, addr api.Address, a api.Account) []api.Holder {
	out := []api.Holder{{Addr: addr, Account: a}}
	if slowNothing(a) {
		out = nil
	}
	for _, h := range w {
		if h.Addr != addr {
			out = append(out, h)
		}
	}
	slices.SortFunc(out, func(a, b api.Holder) int { return bytes.Compare(a.Addr[:], b.Addr[:]) })
	return out
}

// slowKey is the sum of bytes.
func slowKey(b []byte) []byte {
	sum := sponge.Sum(b)
	return sum[:]
}

func slowSlotKey(key api.Word) []byte { return slowKey(number(key).FillBytes(make([]byte, 32))) }

// slowPut puts one value to a tree that has what was put up to it.
func slowPut(t api.Node, key, value []byte) api.Node {
	t, err := tree.Put(t, key, value)
	if err != api.OK {
		panic("a tree refuses a value")
	}
	return t
}

func slowSlotTree(slots []api.Slot) api.Node {
	var t api.Node
	for _, s := range slots {
		t = slowPut(t, slowSlotKey(s.Key), number(s.Value).Bytes())
	}
	return t
}

func slowRoot(t api.Node) api.Hash {
	h, err := root.Root(t)
	if err != api.OK {
		panic("a tree has no root")
	}
	return h
}

func slowLeaf(a api.Account) api.Leaf {
	return api.Leaf{Nonce: a.Nonce, Money: a.Money, Slots: slowRoot(slowSlotTree(a.Slots)), Code: sponge.Sum(a.Code)}
}

// slowText is the form of a text of less than 48 bytes.
func slowText(b []byte) []byte {
	if len(b) == 1 && b[0] < 128 {
		return b
	}
	return append([]byte{byte(128 + len(b))}, b...)
}

// slowWriteLeaf lays the bytes of a leaf: as it has two sums, it has 68 at least, and never as many as 256.
func slowWriteLeaf(l api.Leaf) []byte {
	nonce := new(big.Int).SetUint64(l.Nonce).Bytes()
	b := slices.Concat(slowText(nonce), slowText(number(l.Money).Bytes()), slowText(l.Slots[:]), slowText(l.Code[:]))
	return append([]byte{240, byte(len(b))}, b...)
}

// slowReadLeaf asks one thing of what stands for a leaf behind the other.
func slowReadLeaf(b []byte) (api.Leaf, api.Errno) {
	it, err := pack.Decode(b)
	if err != api.OK || !it.List || len(it.Kids) != 4 {
		return api.Leaf{}, api.ErrForm
	}
	for i, most := range []int{8, 32, 32, 32} {
		kid := it.Kids[i]
		if kid.List || len(kid.Text) > most || i > 1 && len(kid.Text) < most || i < 2 && len(kid.Text) > 0 && kid.Text[0] == 0 {
			return api.Leaf{}, api.ErrForm
		}
	}
	l := api.Leaf{Nonce: new(big.Int).SetBytes(it.Kids[0].Text).Uint64()}
	money := new(big.Int).SetBytes(it.Kids[1].Text).FillBytes(make([]byte, 32))
	for i, c := range money {
		l.Money[3-i/8] |= uint64(c) << (56 - i%8*8)
	}
	l.Slots, l.Code = api.Hash(it.Kids[2].Text), api.Hash(it.Kids[3].Text)
	return l, api.OK
}

func slowTree(w []api.Holder) api.Node {
	var t api.Node
	for _, h := range w {
		t = slowPut(t, slowKey(h.Addr[:]), slowWriteLeaf(slowLeaf(h.Account)))
	}
	return t
}

func slowProof(t api.Node, key []byte) [][]byte {
	codes, err := proof.Make(t, key)
	if err != api.OK {
		panic("a tree proves nothing")
	}
	return codes
}

// slowCheckLeaf and slowCheckSlot go by the words of O4.
func slowCheckLeaf(state api.Hash, addr api.Address, codes [][]byte) (api.Leaf, api.Errno) {
	value, err := proof.Check(state, slowKey(addr[:]), codes)
	switch {
	case err != api.OK:
		return api.Leaf{}, err
	case len(value) == 0:
		return slowLeaf(api.Account{}), api.OK
	}
	return slowReadLeaf(value)
}

func slowCheckSlot(slots api.Hash, key api.Word, codes [][]byte) (api.Word, api.Errno) {
	value, err := proof.Check(slots, slowSlotKey(key), codes)
	switch {
	case err != api.OK:
		return api.Word{}, err
	case len(value) == 0:
		return api.Word{}, api.OK
	}
	return pack.ToNum(value)
}

func sameAccount(a, b api.Account) bool {
	return a.Nonce == b.Nonce && a.Money == b.Money && bytes.Equal(a.Code, b.Code) && slices.Equal(a.Slots, b.Slots)
}

func sameWorld(v, w []api.Holder) bool {
	return slices.EqualFunc(v, w, func(a, b api.Holder) bool { return a.Addr == b.Addr && sameAccount(a.Account, b.Account) })
}

func sameCodes(a, b [][]byte) bool { return slices.EqualFunc(a, b, bytes.Equal) }

// short tells what may be long.
func short(x any) string {
	s := fmt.Sprint(x)
	return s[:min(len(s), 300)]
}

// holds holds all that is said of w against the slow forms, at each of addrs and keys.
func holds(t *testing.T, w []api.Holder, addrs []api.Address, keys []api.Word) {
	t.Helper()
	if !Right(w) || !slowRight(w) {
		t.Fatalf("%s is no world", short(w))
	}
	whole := slowTree(w)
	state, err := State(w)
	if err != api.OK || state != slowRoot(whole) {
		t.Fatalf("State of %s is %x, %d", short(w), state, err)
	}
	for _, addr := range addrs {
		a, err := Get(w, addr)
		if err != api.OK || !sameAccount(a, slowGet(w, addr)) {
			t.Fatalf("Get of %x, of %s, is %s, %d", addr, short(w), short(a), err)
		}
		l, err := Leaf(a)
		if err != api.OK || l != slowLeaf(a) {
			t.Fatalf("Leaf of %s is %v, %d", short(a), l, err)
		}
		codes, err := Prove(w, addr)
		if err != api.OK || !sameCodes(codes, slowProof(whole, slowKey(addr[:]))) {
			t.Fatalf("Prove of %x, of %s, is %s, %d", addr, short(w), short(codes), err)
		}
		if got, err := CheckLeaf(state, addr, codes); err != api.OK || got != l {
			t.Fatalf("CheckLeaf of %x, of %s, is %v, %d, not %v", addr, short(w), got, err, l)
		}
		for _, key := range keys {
			holdsSlot(t, w, addr, key)
		}
	}
}

func holdsSlot(t *testing.T, w []api.Holder, addr api.Address, key api.Word) {
	t.Helper()
	a := slowGet(w, addr)
	var want api.Word
	for _, s := range a.Slots {
		if s.Key == key {
			want = s.Value
		}
	}
	slots := slowSlotTree(a.Slots)
	codes, err := ProveSlot(w, addr, key)
	if err != api.OK || !sameCodes(codes, slowProof(slots, slowSlotKey(key))) {
		t.Fatalf("ProveSlot of %x, %v, of %s, is %s, %d", addr, key, short(w), short(codes), err)
	}
	if got, err := CheckSlot(slowRoot(slots), key, codes); err != api.OK || got != want {
		t.Fatalf("CheckSlot of %x, %v, is %v, %d, not %v", addr, key, got, err, want)
	}
}

// sets holds Set against the slow form, and answers what it answers.
func sets(t *testing.T, w []api.Holder, addr api.Address, a api.Account) []api.Holder {
	t.Helper()
	got, err := Set(w, addr, a)
	if want := slowSet(w, addr, a); err != api.OK || !sameWorld(got, want) {
		t.Fatalf("Set of %x, %s, in %s, is %s, %d, not %s", addr, short(a), short(w), short(got), err, short(want))
	}
	return got
}

// reads holds ReadLeaf against the slow form, and answers its error.
func reads(t *testing.T, b []byte) api.Errno {
	t.Helper()
	got, err := ReadLeaf(b)
	if want, wantErr := slowReadLeaf(b); got != want || err != wantErr {
		t.Fatalf("ReadLeaf of %s is %v, %d, not %v, %d", short(b), got, err, want, wantErr)
	}
	if err == api.OK && !bytes.Equal(WriteLeaf(got), b) {
		t.Fatalf("%s is read as %v, which has another form", short(b), got)
	}
	return err
}

// room is where a list lies, with the spare room behind it.
type room struct {
	from, to uintptr
}

func roomOf[T any](l []T) []room {
	if cap(l) == 0 {
		return nil
	}
	from := uintptr(unsafe.Pointer(unsafe.SliceData(l)))
	return []room{{from, from + uintptr(cap(l))*unsafe.Sizeof(l[:1][0])}}
}

func roomsOfAccount(a api.Account) []room { return append(roomOf(a.Code), roomOf(a.Slots)...) }

func roomsOfWorld(w []api.Holder) []room {
	out := roomOf(w)
	for _, h := range w {
		out = append(out, roomsOfAccount(h.Account)...)
	}
	return out
}

func roomsOfCodes(l [][]byte) []room {
	out := roomOf(l)
	for _, code := range l {
		out = append(out, roomOf(code)...)
	}
	return out
}

// shareNothing is whether no two of these lists share memory.
func shareNothing(l ...[]room) bool {
	all := slices.Concat(l...)
	slices.SortFunc(all, func(a, b room) int { return int(a.from) - int(b.from) })
	for i := 1; i < len(all); i++ {
		if all[i].from < all[i-1].to {
			return false
		}
	}
	return true
}

// spare is l anew, with room behind it, in which stands what is in none of the tests' lists.
func spare[T any](l []T, junk T) []T {
	return append(slices.Clone(l), slices.Repeat([]T{junk}, 3)...)[:len(l)]
}

const junkByte = 0xee

func junkSlot() api.Slot { return api.Slot{Key: api.Word{77}} }

func spareAccount(a api.Account) api.Account {
	a.Code, a.Slots = spare(a.Code, junkByte), spare(a.Slots, junkSlot())
	return a
}

func spareWorld(w []api.Holder) []api.Holder {
	out := spare(w, api.Holder{Addr: api.Address{77}})
	for i := range out {
		out[i].Account = spareAccount(out[i].Account)
	}
	return out
}

func accountIsLeft(a, was api.Account) bool {
	return sameAccount(a, was) && bytes.Equal(a.Code[:len(a.Code)+3][len(a.Code):], []byte{junkByte, junkByte, junkByte}) &&
		slices.Equal(a.Slots[:len(a.Slots)+3][len(a.Slots):], []api.Slot{junkSlot(), junkSlot(), junkSlot()})
}

func worldIsLeft(w, was []api.Holder) bool {
	left := sameWorld(w, was)
	for i, h := range w {
		left = left && accountIsLeft(h.Account, was[i].Account)
	}
	for _, h := range w[:len(w)+3][len(w):] {
		left = left && h.Addr == api.Address{77} && slowNothing(h.Account)
	}
	return left
}
