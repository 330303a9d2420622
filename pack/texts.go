package pack

import "lampbearer/api"

// EncodeTexts is the one form of the list of these texts.
func EncodeTexts(texts ...[]byte) []byte {
	list := api.Item{List: true}
	for _, text := range texts {
		list.Kids = append(list.Kids, api.Item{Text: text})
	}
	return Encode(list)
}

// DecodeTexts is the texts of the list whose form b is; ErrForm, if it is the form of nothing, or of no list of texts alone.
func DecodeTexts(b []byte) ([][]byte, api.Errno) {
	it, err := Decode(b)
	if err != api.OK || !it.List {
		return nil, api.ErrForm
	}
	var texts [][]byte
	for _, kid := range it.Kids {
		if kid.List {
			return nil, api.ErrForm
		}
		texts = append(texts, kid.Text)
	}
	return texts, api.OK
}
