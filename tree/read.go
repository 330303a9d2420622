package tree

import (
	"lampbearer/api"
	"lampbearer/nib"
)

// read is t as a node, behind a path of so many halves; false, if a tree can't have it there.
func read(t api.Node, halves int) (node, bool) {
	switch t.Kind {
	case api.NodeNone:
		return none{}, true
	case api.NodeLeaf:
		return leaf{t.Path, t.Value}, nib.IsPath(t.Path) && mayHave(t.Value, halves+len(t.Path))
	case api.NodeRoad:
		return readRoad(t, halves)
	case api.NodeFork:
		return readFork(t, halves)
	}
	return none{}, false
}

func readRoad(t api.Node, halves int) (node, bool) {
	if len(t.Path) == 0 || !nib.IsPath(t.Path) {
		return none{}, false
	}
	if len(t.Kids) != 1 || t.Kids[0].Kind != api.NodeFork {
		return none{}, false
	}
	kid, ok := readFork(t.Kids[0], halves+len(t.Path))
	return road{t.Path, kid}, ok
}

func readFork(t api.Node, halves int) (*fork, bool) {
	// A fork has values at its place or behind it, so that none stands where no key reaches. By this
	// alone it ends with a list of kids that comes again within itself.
	if halves > maxPath || len(t.Kids) != width {
		return nil, false
	}
	if len(t.Value) > 0 && !mayHave(t.Value, halves) {
		return nil, false
	}
	f := &fork{value: t.Value}
	for half, plain := range t.Kids {
		kid, ok := read(plain, halves+1)
		if !ok {
			return nil, false
		}
		f.kids[half] = kid
	}
	return f, f.parts() >= 2
}

// mayHave is whether value may stand at a path of so many halves.
func mayHave(value []byte, halves int) bool {
	return len(value) >= 1 && len(value) <= api.MaxValue && halves <= maxPath && halves%2 == 0
}
