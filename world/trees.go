package world

import (
	"lampbearer/api"
	"lampbearer/pack"
	"lampbearer/root"
	"lampbearer/sponge"
	"lampbearer/tree"
	"lampbearer/word"
)

// leafOf is the leaf of a, which is right.
func leafOf(a api.Account) api.Leaf {
	slots, _ := root.Root(slotTree(a.Slots)) // what treeOf answers is a tree
	return api.Leaf{Nonce: a.Nonce, Money: a.Money, Slots: slots, Code: sponge.Sum(a.Code)}
}

// addressKey is where a world's tree has the account of addr.
func addressKey(addr api.Address) []byte { return keyOf(addr[:]) }

// slotKey is where an account's tree has the slot of that key.
func slotKey(key api.Word) []byte {
	b := word.Bytes(key)
	return keyOf(b[:])
}

func keyOf(b []byte) []byte {
	sum := sponge.Sum(b)
	return sum[:]
}

// accountTree is the tree of all accounts of w, which is a world.
func accountTree(w []api.Holder) api.Node {
	pairs := make([]api.Pair, len(w))
	for i, h := range w {
		pairs[i] = api.Pair{Key: addressKey(h.Addr), Value: WriteLeaf(leafOf(h.Account))}
	}
	return treeOf(pairs)
}

// slotTree is the tree of slots, which are an account's.
func slotTree(slots []api.Slot) api.Node {
	pairs := make([]api.Pair, len(slots))
	for i, s := range slots {
		pairs[i] = api.Pair{Key: slotKey(s.Key), Value: pack.Num(s.Value)}
	}
	return treeOf(pairs)
}

// treeOf is the tree of pairs whose keys are sums, and whose values are leaves or numbers: no tree refuses these.
func treeOf(pairs []api.Pair) api.Node {
	t, _ := tree.Of(pairs)
	return t
}
