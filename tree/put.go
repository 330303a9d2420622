package tree

import (
	"bytes"
	"slices"

	"lampbearer/nib"
)

// put is what n has, but at the path p value (if it has no bytes: none). Forks of n are changed.
func put(n node, p, value []byte) node {
	switch n := n.(type) {
	case leaf:
		if !bytes.Equal(n.path, p) {
			return branch(n, n.path, p, value)
		}
	case road:
		rest, ok := bytes.CutPrefix(p, n.path)
		if !ok {
			return branch(n, n.path, p, value)
		}
		return behind(n.path, put(n.kid, rest, value))
	case *fork:
		n.put(p, value)
		return n.settle()
	}
	return single(p, value)
}

func (f *fork) put(p, value []byte) {
	if len(p) == 0 {
		f.value = value
		return
	}
	f.kids[p[0]] = put(f.kids[p[0]], p[1:], value)
}

// single is the node that has value at p alone.
func single(p, value []byte) node {
	if len(value) == 0 {
		return none{}
	}
	return leaf{p, value}
}

// branch is put where the way to p leaves the path of n, which is a leaf or a road.
func branch(n node, path, p, value []byte) node {
	if len(value) == 0 {
		return n
	}
	common := nib.Common(path, p)
	f := newFork()
	f.hang(n, common)
	f.put(p[common:], value)
	return behind(p[:common], f)
}

// hang gives an empty fork what n has, which is a leaf or a road, without the first halves of its path.
func (f *fork) hang(n node, halves int) {
	switch n := n.(type) {
	case leaf:
		f.put(n.path[halves:], n.value)
	case road:
		f.kids[n.path[halves]] = behind(n.path[halves+1:], n.kid)
	}
}

// settle is the one node a tree may have in the place of f, for what f has.
func (f *fork) settle() node {
	if f.parts() >= 2 {
		return f
	}
	for half, kid := range f.kids {
		if !isNone(kid) {
			return behind([]byte{byte(half)}, kid)
		}
	}
	return single(nil, f.value)
}

// behind is the node that has what n has, each behind path.
func behind(path []byte, n node) node {
	switch n := n.(type) {
	case leaf:
		return leaf{slices.Concat(path, n.path), n.value}
	case road:
		return road{slices.Concat(path, n.path), n.kid}
	case *fork:
		if len(path) > 0 {
			return road{path, n}
		}
	}
	return n
}
