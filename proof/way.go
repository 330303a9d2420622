package proof

import (
	"bytes"

	"lampbearer/api"
	"lampbearer/root"
	"lampbearer/sponge"
)

// onward is to which kid the way leads behind a node of that kind and path, and what is left there of what was left; false, if
// it leads to none. Nodes and shapes have their kids in the same places.
func onward(kind int, path, left []byte) (kid int, rest []byte, ok bool) {
	switch kind {
	case api.NodeRoad:
		rest, ok = bytes.CutPrefix(left, path)
		return 0, rest, ok
	case api.NodeFork:
		if len(left) > 0 {
			return int(left[0]), left[1:], true
		}
	}
	return 0, nil, false
}

// places is where among the codes of t, which is a tree, those stand that are on the way to what is left.
func places(t api.Node, left []byte) []int {
	out := []int{0}
	for at := 0; ; {
		kid, rest, ok := onward(t.Kind, t.Path, left)
		if !ok || t.Kids[kid].Kind == api.NodeNone {
			return out
		}
		at += 1 + count(t.Kids[:kid]) // a node's code is ahead of its kids', which follow kid by kid
		out = append(out, at)
		t, left = t.Kids[kid], rest
	}
}

// count is how many codes these nodes have, with all within them.
func count(nodes []api.Node) int {
	n := 0
	for _, node := range nodes {
		switch node.Kind {
		case api.NodeLeaf: // whose kids mean nothing
			n++
		case api.NodeRoad, api.NodeFork:
			n += 1 + count(node.Kids)
		}
	}
	return n
}

// walker comes from sum to sum, by one code for each.
type walker struct {
	codes [][]byte
	come  int // codes by which it has come
}

// walk goes from the node of a sum to where the way to what is left ends, and answers the shape there, and what is left then.
func (w *walker) walk(sum api.Hash, left []byte) (api.Shape, []byte, api.Errno) {
	for {
		s, err := w.shape(sum)
		if err != api.OK {
			return api.Shape{}, nil, err
		}
		kid, rest, ok := onward(s.Kind, s.Path, left)
		if !ok || len(s.Kids[kid]) == 0 {
			return s, left, api.OK
		}
		copy(sum[:], s.Kids[kid])
		left = rest
	}
}

// shape is that of the node of a sum, by the next code.
func (w *walker) shape(sum api.Hash) (api.Shape, api.Errno) {
	if w.come == len(w.codes) {
		return api.Shape{}, api.ErrMissing
	}
	code := w.codes[w.come]
	if sponge.Sum(code) != sum {
		return api.Shape{}, api.ErrSum
	}
	s, err := root.Read(code)
	if err != api.OK || s.Kind == api.NodeNone && w.come > 0 {
		return api.Shape{}, api.ErrForm
	}
	w.come++
	return s, api.OK
}

// valueAt is what is at the end of the way, of which so much is left; no bytes, if there is nothing.
func valueAt(end api.Shape, left []byte) []byte {
	atLeaf := end.Kind == api.NodeLeaf && bytes.Equal(end.Path, left)
	atFork := end.Kind == api.NodeFork && len(left) == 0
	if atLeaf || atFork {
		return end.Value
	}
	return nil
}
