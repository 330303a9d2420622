package pack

import (
	"bytes"
	"slices"
	"testing"

	"lampbearer/api"
)

// textLists are lists of texts, those of no bytes, of one and of many among them.
func textLists() [][][]byte {
	out := [][][]byte{nil, {}, {nil}, {{}}, {{0}}, {{127}}, {{128}}, {{1}, {2}}, {nil, nil, nil}}
	for _, n := range sizes() {
		out = append(out, [][]byte{long(n).Text}, [][]byte{{7}, long(n).Text, nil, {200}})
	}
	return append(out, slices.Repeat([][]byte{{9}, nil}, 500))
}

func TestTextsAndBack(t *testing.T) { // E2, E3
	for _, texts := range textLists() {
		it := list()
		for _, b := range texts {
			it.Kids = append(it.Kids, text(b...))
		}
		b := EncodeTexts(texts...)
		if !bytes.Equal(b, Encode(it)) {
			t.Fatalf("%d texts are written %s", len(texts), tell(b))
		}
		got, err := DecodeTexts(b)
		if err != api.OK || !slices.EqualFunc(got, texts, bytes.Equal) {
			t.Fatalf("%s is read as %d texts, %d", tell(b), len(got), err)
		}
	}
}

func TestTextsNot(t *testing.T) { // E3: what is no form, no list, or has a list in it
	for _, it := range []api.Item{text(), text(1), text(200), text(1, 2), list(list()), list(list(), text(1)), list(text(1), list(text(2))), nested(100)} {
		textsNot(t, Encode(it))
	}
	for _, b := range [][]byte{nil, {}, {193}, {194, 1}, {193, 1, 1}, {192, 192}, {194, 129, 5}, {240, 1, 1}, {255}} {
		textsNot(t, b)
	}
	form := EncodeTexts([]byte{1}, []byte{200, 201})
	for n := range form {
		textsNot(t, form[:n])
	}
	textsNot(t, append(form, 0))
}

// textsNot is whether b is refused, and nothing told of it.
func textsNot(t *testing.T, b []byte) {
	t.Helper()
	if got, err := DecodeTexts(b); err != api.ErrForm || len(got) != 0 {
		t.Errorf("%s is read as %v, %d", tell(b), got, err)
	}
}

func TestTextsInNewMemory(t *testing.T) { // Z2
	texts := make([][]byte, 2, 4)
	texts[0], texts[1] = append(make([]byte, 0, 9), 200, 1), append(make([]byte, 0, 9), 201)
	texts[:3][2] = []byte{5}
	b := EncodeTexts(texts...)
	want := slices.Clone(b)
	if !bytes.Equal(texts[0][:4], []byte{200, 1, 0, 0}) || !bytes.Equal(texts[:3][2], []byte{5}) || len(b) != 6 {
		t.Error("what was handed in is changed, or what stands behind it is looked at")
	}
	got, _ := DecodeTexts(b)
	clear(b)
	if !bytes.Equal(EncodeTexts(got...), want) {
		t.Error("what was read changes with what was handed in")
	}
	clear(got[0][:cap(got[0])])
	if !bytes.Equal(got[1], []byte{201}) || !bytes.Equal(texts[0], []byte{200, 1}) {
		t.Error("texts share memory")
	}
}
