package pack

import (
	"slices"

	"lampbearer/api"
	"lampbearer/word"
)

// writer has bytes from the end on, the last one first: a head says how much stands behind it, and
// that is known when it stands there already. So each byte is written once, however deep lists are nested.
type writer struct {
	back []byte
}

// item lays the form of it ahead of what is there.
func (w *writer) item(it api.Item) {
	if !it.List {
		w.text(it.Text)
		return
	}
	behind := len(w.back)
	for _, kid := range slices.Backward(it.Kids) {
		w.item(kid)
	}
	w.head(listMark, len(w.back)-behind)
}

func (w *writer) text(text []byte) {
	w.lay(text)
	if len(text) != 1 || text[0] >= textMark {
		w.head(textMark, len(text))
	}
}

// head says that n bytes stand behind it, of the kind of mark.
func (w *writer) head(mark byte, n int) {
	if n < shortEnd {
		w.back = append(w.back, mark+byte(n))
		return
	}
	size := Num(word.Int(uint64(n)))
	w.lay(size)
	w.back = append(w.back, mark+shortEnd+byte(len(size)-1))
}

func (w *writer) lay(b []byte) {
	for _, c := range slices.Backward(b) {
		w.back = append(w.back, c)
	}
}
