package pack

import (
	"bytes"

	"lampbearer/api"
	"lampbearer/word"
)

// fault is what a reader panics with where its bytes are the form of nothing.
type fault struct {
	err api.Errno
}

// read is the item whose form b begins with, and how many bytes that is; or what a reader found wrong.
func read(b []byte) (it api.Item, used int, err api.Errno) {
	defer func() {
		switch p := recover().(type) {
		case nil:
		case fault:
			it, used, err = api.Item{}, 0, p.err
		default:
			panic(p)
		}
	}()
	r := reader{rest: b}
	it = r.item()
	return it, len(b) - len(r.rest), api.OK
}

// reader goes through bytes; rest is what it has not read.
type reader struct {
	rest []byte
}

// need panics with a fault, where something that a form has is missing.
func need(ok bool) {
	if !ok {
		panic(fault{api.ErrForm})
	}
}

// item reads the item whose form comes next.
func (r *reader) item() api.Item {
	switch first := r.take(1)[0]; {
	case first < textMark:
		return api.Item{Text: []byte{first}}
	case first < listMark:
		return api.Item{Text: r.text(first - textMark)}
	default:
		return api.Item{List: true, Kids: r.list(first - listMark)}
	}
}

// text reads what stands behind the head of a text.
func (r *reader) text(short byte) []byte {
	text := r.take(r.size(short))
	need(len(text) != 1 || text[0] >= textMark)
	return bytes.Clone(text)
}

// list reads what stands behind the head of a list: items that end where it ends.
func (r *reader) list(short byte) []api.Item {
	inner := reader{rest: r.take(r.size(short))}
	var kids []api.Item
	for len(inner.rest) > 0 {
		kids = append(kids, inner.item())
	}
	return kids
}

// size is how many bytes a head says that stand behind it; short is what the head has beside its mark.
func (r *reader) size(short byte) int {
	if short < shortEnd {
		return int(short)
	}
	n, err := ToNum(r.take(int(short-shortEnd) + 1))
	need(err == api.OK)
	// A size may have sixteen bytes: held as a word, it is no int until it is known to be small enough.
	need(word.Cmp(n, word.Int(shortEnd)) >= 0)
	need(word.Cmp(n, word.Int(uint64(len(r.rest)))) <= 0)
	return int(n[0])
}

// take reads the next n bytes.
func (r *reader) take(n int) []byte {
	need(n <= len(r.rest))
	next := r.rest[:n]
	r.rest = r.rest[n:]
	return next
}
