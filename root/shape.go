package root

import (
	"bytes"
	"slices"

	"lampbearer/api"
	"lampbearer/nib"
	"lampbearer/pack"
)

const (
	width    = 16 // kids of a fork
	sumBytes = 32
)

// isShape is whether s may be a shape, by what means something in it.
func isShape(s api.Shape) bool {
	switch s.Kind {
	case api.NodeNone:
		return true
	case api.NodeLeaf:
		return nib.IsPath(s.Path) && len(s.Value) > 0 && len(s.Value) <= api.MaxValue
	case api.NodeRoad:
		return len(s.Path) > 0 && nib.IsPath(s.Path) && len(s.Kids) == 1 && len(s.Kids[0]) == sumBytes
	case api.NodeFork:
		return len(s.Kids) == width && len(s.Value) <= api.MaxValue && areSums(s.Kids) && parts(s) >= 2
	}
	return false
}

// areSums is whether each of a fork's kids is told by a sum, or by no bytes.
func areSums(kids [][]byte) bool {
	for _, sum := range kids {
		if len(sum) != 0 && len(sum) != sumBytes {
			return false
		}
	}
	return true
}

// parts is how many of a fork's sums and its value are not empty.
func parts(s api.Shape) int {
	n := 0
	for _, part := range forkTexts(s) {
		if len(part) > 0 {
			n++
		}
	}
	return n
}

// write is the form of s, which is a shape.
func write(s api.Shape) []byte {
	switch s.Kind {
	case api.NodeLeaf:
		return pack.EncodeTexts(tagged(s.Path, true), s.Value)
	case api.NodeRoad:
		return pack.EncodeTexts(tagged(s.Path, false), s.Kids[0])
	case api.NodeFork:
		return pack.EncodeTexts(forkTexts(s)...)
	}
	return pack.Encode(api.Item{})
}

// tagged is the tag of a shape's path, which has halves alone.
func tagged(path []byte, leaf bool) []byte {
	tag, _ := nib.Tag(path, leaf)
	return tag
}

// forkTexts is what the form of a fork tells, in its order.
func forkTexts(s api.Shape) [][]byte {
	return slices.Concat(s.Kids, [][]byte{s.Value})
}

// shapeOf is the shape for which code would stand, if that is one; false, if it can't stand for any.
func shapeOf(code []byte) (api.Shape, bool) {
	none := api.Shape{Kind: api.NodeNone}
	if bytes.Equal(code, write(none)) {
		return none, true
	}
	texts, err := pack.DecodeTexts(code)
	switch {
	case err == api.OK && len(texts) == 2:
		return taggedShape(texts[0], texts[1])
	case err == api.OK && len(texts) == width+1:
		return api.Shape{Kind: api.NodeFork, Kids: slices.Clone(texts[:width]), Value: texts[width]}, true
	}
	return api.Shape{}, false
}

// taggedShape is a leaf or a road, as the tag of its path says; false, if it is no tag.
func taggedShape(tag, behind []byte) (api.Shape, bool) {
	path, leaf, err := nib.Untag(tag)
	if err != api.OK {
		return api.Shape{}, false
	}
	if leaf {
		return api.Shape{Kind: api.NodeLeaf, Path: path, Value: behind}, true
	}
	return api.Shape{Kind: api.NodeRoad, Path: path, Kids: [][]byte{behind}}, true
}
