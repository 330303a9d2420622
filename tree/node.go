package tree

import (
	"bytes"
	"iter"

	"lampbearer/api"
)

const (
	width   = 16             // kids of a fork
	maxPath = 2 * api.MaxKey // halves of the longest key
)

// node is a none, a leaf, a road or a *fork. Within a call a node may have lists of what was handed
// in, which it only reads; what plain makes of it has none of them.
type node interface {
	// get is the value at the path p; no bytes, if there is none.
	get(p []byte) []byte
	// walk yields each path at which the node has a value, behind ahead, by the order of paths,
	// until yield says no. A path that it yields lasts until the next one.
	walk(ahead []byte, yield func(path, value []byte) bool) bool
	// plain is the node as callers have it, in memory of its own, with nothing in fields that mean nothing.
	plain() api.Node
}

type none struct{}

type leaf struct {
	path, value []byte
}

// road leads to a fork alone, and so there are no two in a line.
type road struct {
	path []byte
	kid  *fork
}

// fork is changed where it stands: it belongs to the call that made it.
type fork struct {
	value []byte
	kids  [width]node
}

func newFork() *fork {
	f := &fork{}
	for half := range f.kids {
		f.kids[half] = none{}
	}
	return f
}

func (none) get(p []byte) []byte { return nil }

func (l leaf) get(p []byte) []byte {
	if !bytes.Equal(l.path, p) {
		return nil
	}
	return l.value
}

func (r road) get(p []byte) []byte {
	rest, ok := bytes.CutPrefix(p, r.path)
	if !ok {
		return nil
	}
	return r.kid.get(rest)
}

func (f *fork) get(p []byte) []byte {
	if len(p) == 0 {
		return f.value
	}
	return f.kids[p[0]].get(p[1:])
}

// all is each path at which n has a value, with that value, by the order of paths.
func all(n node) iter.Seq2[[]byte, []byte] {
	return func(yield func(path, value []byte) bool) {
		n.walk(make([]byte, 0, maxPath), yield)
	}
}

func (none) walk(ahead []byte, yield func(path, value []byte) bool) bool { return true }

func (l leaf) walk(ahead []byte, yield func(path, value []byte) bool) bool {
	return yield(append(ahead, l.path...), l.value)
}

func (r road) walk(ahead []byte, yield func(path, value []byte) bool) bool {
	return r.kid.walk(append(ahead, r.path...), yield)
}

func (f *fork) walk(ahead []byte, yield func(path, value []byte) bool) bool {
	if len(f.value) > 0 && !yield(ahead, f.value) {
		return false
	}
	for half, kid := range f.kids {
		if !kid.walk(append(ahead, byte(half)), yield) {
			return false
		}
	}
	return true
}

func (none) plain() api.Node { return api.Node{Kind: api.NodeNone} }

func (l leaf) plain() api.Node {
	return api.Node{Kind: api.NodeLeaf, Path: bytes.Clone(l.path), Value: bytes.Clone(l.value)}
}

func (r road) plain() api.Node {
	return api.Node{Kind: api.NodeRoad, Path: bytes.Clone(r.path), Kids: []api.Node{r.kid.plain()}}
}

func (f *fork) plain() api.Node {
	kids := make([]api.Node, width)
	for half, kid := range f.kids {
		kids[half] = kid.plain()
	}
	return api.Node{Kind: api.NodeFork, Value: bytes.Clone(f.value), Kids: kids}
}

// parts is how many kids of f are no nones, with one more for a value.
func (f *fork) parts() int {
	n := 0
	if len(f.value) > 0 {
		n++
	}
	for _, kid := range f.kids {
		if !isNone(kid) {
			n++
		}
	}
	return n
}

func isNone(n node) bool {
	_, ok := n.(none)
	return ok
}
