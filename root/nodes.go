package root

import (
	"bytes"

	"lampbearer/api"
	"lampbearer/sponge"
)

// maxPath is how many halves the longest key has.
const maxPath = 2 * api.MaxKey

// writer has the codes of a tree's nodes, one behind the other.
type writer struct {
	codes [][]byte
}

// node writes the codes of n and of all within it, and answers the sum that tells n; of a none, nothing.
func (w *writer) node(n api.Node) []byte {
	if n.Kind == api.NodeNone {
		return nil
	}
	at := len(w.codes)
	w.codes = append(w.codes, nil) // its place is ahead of its kids, but it is known behind them
	s := api.Shape{Kind: n.Kind, Path: n.Path, Value: n.Value}
	if n.Kind != api.NodeLeaf { // whose kids mean nothing
		for _, kid := range n.Kids {
			s.Kids = append(s.Kids, w.node(kid))
		}
	}
	w.codes[at] = write(s)
	sum := sponge.Sum(w.codes[at])
	return sum[:]
}

// reading is what Read says of a code.
type reading struct {
	shape api.Shape
	err   api.Errno
}

// readAll reads each code once, however many ways lead to it; of those with one sum the first one counts.
func readAll(codes [][]byte) map[api.Hash]reading {
	known := make(map[api.Hash]reading, len(codes))
	for _, code := range codes {
		sum := sponge.Sum(code)
		if _, ok := known[sum]; ok {
			continue
		}
		shape, err := Read(code)
		known[sum] = reading{shape, err}
	}
	return known
}

// loader comes from sum to sum.
type loader struct {
	known map[api.Hash]reading
	count int // nodes that it has come to
}

// node comes to the node of a sum, behind a path of so many halves, and to all within it. Nodes that
// come of one code share its lists.
func (l *loader) node(sum api.Hash, halves int) (api.Node, api.Errno) {
	if halves > maxPath {
		return api.Node{}, api.ErrForm
	}
	r, ok := l.known[sum]
	if !ok {
		return api.Node{}, api.ErrMissing
	}
	if l.count >= api.MaxNodes {
		return api.Node{}, api.ErrMuch
	}
	first := l.count == 0
	if r.err != api.OK || r.shape.Kind == api.NodeNone && !first {
		return api.Node{}, api.ErrForm
	}
	l.count++
	kids, err := l.kids(r.shape, halves+step(r.shape))
	if err != api.OK {
		return api.Node{}, err
	}
	return api.Node{Kind: r.shape.Kind, Path: r.shape.Path, Value: r.shape.Value, Kids: kids}, api.OK
}

// kids comes to the kids of s in their order, each behind a path of so many halves.
func (l *loader) kids(s api.Shape, halves int) ([]api.Node, api.Errno) {
	var kids []api.Node
	for _, sum := range s.Kids {
		kid, err := l.kid(sum, halves)
		if err != api.OK {
			return nil, err
		}
		kids = append(kids, kid)
	}
	return kids, api.OK
}

// kid comes to the kid that sum tells; where there are no bytes it is a none, and none is come to.
func (l *loader) kid(sum []byte, halves int) (api.Node, api.Errno) {
	if len(sum) == 0 {
		return api.Node{Kind: api.NodeNone}, api.OK
	}
	var whole api.Hash
	copy(whole[:], sum)
	return l.node(whole, halves)
}

// step is how many halves the paths of the kids of s are longer than its own.
func step(s api.Shape) int {
	if s.Kind == api.NodeFork {
		return 1
	}
	return len(s.Path)
}

// apart is t in memory of its own for each node. It is done to trees alone: what is none may have a
// path of any length in thousands of places.
func apart(t api.Node) api.Node {
	t.Path, t.Value = bytes.Clone(t.Path), bytes.Clone(t.Value)
	for i := range t.Kids {
		t.Kids[i] = apart(t.Kids[i])
	}
	return t
}
