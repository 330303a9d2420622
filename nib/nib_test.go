package nib

import (
	"bytes"
	"slices"
	"testing"

	"lampbearer/api"
)

// slowHalves goes by quotients and rests.
func slowHalves(b []byte) []byte {
	var p []byte
	for _, c := range b {
		p = append(p, c/16, c%16)
	}
	return p
}

// slowJoin looks for each byte by its halves.
func slowJoin(p []byte) ([]byte, api.Errno) {
	var b []byte
	for len(p) > 0 {
		at := slices.IndexFunc(everyByte(), func(c byte) bool {
			return bytes.HasPrefix(p, slowHalves([]byte{c}))
		})
		if at < 0 {
			return nil, api.ErrForm
		}
		b, p = append(b, byte(at)), p[2:]
	}
	return b, api.OK
}

// slowTag goes by the words of F2.
func slowTag(p []byte, leaf bool) ([]byte, api.Errno) {
	if slices.ContainsFunc(p, func(c byte) bool { return c > 15 }) {
		return nil, api.ErrForm
	}
	says, behind := byte(0), []byte(nil)
	if len(p)%2 == 1 {
		says++
	} else {
		behind = []byte{0}
	}
	if leaf {
		says += 2
	}
	return slowJoin(slices.Concat([]byte{says}, behind, p))
}

// slowUntag tries all that Tag might have been given.
func slowUntag(b []byte) (p []byte, leaf bool, err api.Errno) {
	all := slowHalves(b)
	for from := 1; from <= 2 && from <= len(all); from++ {
		for _, leaf := range []bool{false, true} {
			if tagged, err := slowTag(all[from:], leaf); err == api.OK && bytes.Equal(tagged, b) {
				return all[from:], leaf, api.OK
			}
		}
	}
	return nil, false, api.ErrForm
}

func everyByte() []byte {
	b := make([]byte, 256)
	for i := range b {
		b[i] = byte(i)
	}
	return b
}

// paths are those of up to three halves out of all that are near an edge, no halves among them, and longer ones.
func paths() [][]byte {
	out := [][]byte{nil, {}}
	last := [][]byte{nil}
	for range 3 {
		var next [][]byte
		for _, p := range last {
			for _, c := range []byte{0, 1, 2, 3, 7, 8, 15, 16, 17, 240, 255} {
				next = append(next, append(bytes.Clone(p), c))
			}
		}
		out = append(out, next...)
		last = next
	}
	for _, n := range []int{4, 5, 31, 32, 33, 63, 64, 65, 255, 256, 1001} {
		p := make([]byte, n)
		for i := range p {
			p[i] = byte(i*7+n) % 16
		}
		out = append(out, p)
	}
	return out
}

func joins(t *testing.T, p []byte) {
	t.Helper()
	got, err := Join(p)
	if want, wantErr := slowJoin(p); err != wantErr || !bytes.Equal(got, want) {
		t.Errorf("Join of %v is %v, %d, not %v, %d", p, got, err, want, wantErr)
	}
}

func tags(t *testing.T, p []byte) {
	t.Helper()
	for _, leaf := range []bool{false, true} {
		got, err := Tag(p, leaf)
		if want, wantErr := slowTag(p, leaf); err != wantErr || !bytes.Equal(got, want) {
			t.Errorf("Tag of %v, %v is %v, %d, not %v, %d", p, leaf, got, err, want, wantErr)
		}
	}
}

func untags(t *testing.T, b []byte) {
	t.Helper()
	got, leaf, err := Untag(b)
	if want, wantLeaf, wantErr := slowUntag(b); err != wantErr || leaf != wantLeaf || !bytes.Equal(got, want) {
		t.Errorf("Untag of %v is %v, %v, %d, not %v, %v, %d", b, got, leaf, err, want, wantLeaf, wantErr)
	}
}

func untagsNot(t *testing.T, b []byte) {
	t.Helper()
	if p, leaf, err := Untag(b); err != api.ErrForm || leaf || len(p) != 0 {
		t.Errorf("Untag of %v is %v, %v, %d, not ErrForm alone", b, p, leaf, err)
	}
}

func TestHalvesOfNamedBytes(t *testing.T) { // F1
	for _, c := range []struct{ b, want []byte }{
		{nil, nil}, {[]byte{}, nil},
		{[]byte{0}, []byte{0, 0}}, {[]byte{15}, []byte{0, 15}}, {[]byte{16}, []byte{1, 0}},
		{[]byte{240}, []byte{15, 0}}, {[]byte{255}, []byte{15, 15}},
		{[]byte{0x12, 0x3a, 0}, []byte{1, 2, 3, 10, 0, 0}},
	} {
		if got := Halves(c.b); !bytes.Equal(got, c.want) {
			t.Errorf("Halves of %v are %v, not %v", c.b, got, c.want)
		}
	}
}

func TestHalvesAndBack(t *testing.T) { // F1
	for n := range 257 {
		b := everyByte()[256-n:]
		p := Halves(b)
		if !bytes.Equal(p, slowHalves(b)) {
			t.Errorf("Halves of %v are %v", b, p)
		}
		if got, err := Join(p); err != api.OK || !bytes.Equal(got, b) {
			t.Errorf("Join of the Halves of %v is %v, %d", b, got, err)
		}
	}
}

func TestJoinOfNamedPaths(t *testing.T) { // F1
	for _, c := range []struct {
		p, want []byte
		err     api.Errno
	}{
		{nil, nil, api.OK}, {[]byte{}, nil, api.OK},
		{[]byte{15, 0}, []byte{240}, api.OK}, {[]byte{0, 15}, []byte{15}, api.OK}, {[]byte{1, 2, 3, 4}, []byte{0x12, 0x34}, api.OK},
		{[]byte{0}, nil, api.ErrForm}, {[]byte{1, 2, 3}, nil, api.ErrForm},
		{[]byte{16, 0}, nil, api.ErrForm}, {[]byte{0, 16}, nil, api.ErrForm}, {[]byte{255, 0}, nil, api.ErrForm}, {[]byte{0, 255}, nil, api.ErrForm},
		{[]byte{1, 2, 3, 16}, nil, api.ErrForm}, {[]byte{1, 2, 16, 3}, nil, api.ErrForm}, {[]byte{1, 2, 16}, nil, api.ErrForm},
	} {
		if got, err := Join(c.p); err != c.err || !bytes.Equal(got, c.want) {
			t.Errorf("Join of %v is %v, %d, not %v, %d", c.p, got, err, c.want, c.err)
		}
	}
}

func TestJoinOfEachTwoBytes(t *testing.T) { // F1: no half at either place
	for up := range 256 {
		for low := range 256 {
			got, err := Join([]byte{byte(up), byte(low)})
			switch {
			case up < 16 && low < 16:
				if err != api.OK || !bytes.Equal(got, []byte{byte(16*up + low)}) {
					t.Errorf("Join of %d, %d is %v, %d", up, low, got, err)
				}
			case err != api.ErrForm || len(got) != 0:
				t.Errorf("Join of %d, %d is %v, %d, not ErrForm alone", up, low, got, err)
			}
		}
	}
}

func TestJoinOfPaths(t *testing.T) { // F1
	for _, p := range paths() {
		joins(t, p)
	}
}

func TestIsPath(t *testing.T) { // F1: what a half is
	for _, p := range paths() {
		if got, want := IsPath(p), !slices.ContainsFunc(p, func(c byte) bool { return c > 15 }); got != want {
			t.Errorf("whether %v is a path is %v, not %v", p, got, want)
		}
	}
}

func TestTagOfNamedPaths(t *testing.T) { // F2
	for _, c := range []struct {
		p    []byte
		leaf bool
		want []byte
		err  api.Errno
	}{
		{nil, false, []byte{0}, api.OK}, {nil, true, []byte{0x20}, api.OK},
		{[]byte{0}, false, []byte{0x10}, api.OK}, {[]byte{15}, true, []byte{0x3f}, api.OK},
		{[]byte{1, 2}, false, []byte{0, 0x12}, api.OK}, {[]byte{1, 2}, true, []byte{0x20, 0x12}, api.OK},
		{[]byte{1, 2, 3}, false, []byte{0x11, 0x23}, api.OK}, {[]byte{1, 2, 3}, true, []byte{0x31, 0x23}, api.OK},
		{[]byte{16}, false, nil, api.ErrForm}, {[]byte{16}, true, nil, api.ErrForm},
		{[]byte{0, 16}, false, nil, api.ErrForm}, {[]byte{255, 0}, true, nil, api.ErrForm}, {[]byte{1, 2, 3, 255}, false, nil, api.ErrForm},
	} {
		if got, err := Tag(c.p, c.leaf); err != c.err || !bytes.Equal(got, c.want) {
			t.Errorf("Tag of %v, %v is %v, %d, not %v, %d", c.p, c.leaf, got, err, c.want, c.err)
		}
	}
}

func TestTagAndBack(t *testing.T) { // F2
	for _, p := range paths() {
		tags(t, p)
		for _, leaf := range []bool{false, true} {
			b, err := Tag(p, leaf)
			if err != api.OK {
				continue
			}
			if got, gotLeaf, err := Untag(b); err != api.OK || gotLeaf != leaf || !bytes.Equal(got, p) {
				t.Errorf("Untag of the Tag of %v, %v is %v, %v, %d", p, leaf, got, gotLeaf, err)
			}
		}
	}
}

func TestOneThatIsNoHalf(t *testing.T) { // F1, F2: wherever it stands
	for n := 1; n < 10; n++ {
		for at := range n {
			for c := range 256 {
				p := bytes.Repeat([]byte{5}, n)
				p[at] = byte(c)
				joins(t, p)
				tags(t, p)
			}
		}
	}
}

func TestUntagOfNamedBytes(t *testing.T) { // F2
	untagsNot(t, nil)
	untagsNot(t, []byte{})
	for first := range 256 {
		for _, rest := range [][]byte{nil, {0}, {0x12}, {255, 0}} {
			b := append([]byte{byte(first)}, rest...)
			untags(t, b)
			if first >= 0x40 || first&0x10 == 0 && first&0x0f != 0 {
				untagsNot(t, b)
			}
		}
	}
}

func TestUntagOfEachTwoBytes(t *testing.T) { // F2: nothing has two forms
	for first := range 256 {
		for second := range 256 {
			b := []byte{byte(first), byte(second)}
			untags(t, b)
			if p, leaf, err := Untag(b); err == api.OK {
				if again, err := Tag(p, leaf); err != api.OK || !bytes.Equal(again, b) {
					t.Errorf("%v is read as %v, %v, which is tagged %v, %d", b, p, leaf, again, err)
				}
			}
		}
	}
}

func TestCommonOfNamedPaths(t *testing.T) { // F3
	for _, c := range []struct {
		p, q []byte
		want int
	}{
		{nil, nil, 0}, {nil, []byte{}, 0}, {nil, []byte{1}, 0},
		{[]byte{1, 2, 3}, []byte{1, 2, 3}, 3}, {[]byte{1, 2}, []byte{1, 2, 3}, 2}, {[]byte{0}, []byte{0, 0}, 1},
		{[]byte{1}, []byte{2}, 0}, {[]byte{1, 2, 3}, []byte{1, 9, 3}, 1}, {[]byte{9, 2, 3}, []byte{1, 2, 3}, 0},
		{[]byte{16, 255, 200}, []byte{16, 255, 201}, 2}, {[]byte{255}, []byte{255}, 1}, {[]byte{16}, []byte{0}, 0}, {[]byte{17}, []byte{1}, 0},
	} {
		if got := Common(c.p, c.q); got != c.want {
			t.Errorf("Common of %v and %v is %d, not %d", c.p, c.q, got, c.want)
		}
		if got := Common(c.q, c.p); got != c.want {
			t.Errorf("Common of %v and %v is %d, not %d", c.q, c.p, got, c.want)
		}
	}
}

func TestCommonByCounts(t *testing.T) { // F3
	for n := range 70 {
		for m := range 70 {
			p, q := everyByte()[:n], everyByte()[:m]
			if got := Common(p, q); got != min(n, m) {
				t.Errorf("Common of the first %d and %d bytes is %d", n, m, got)
			}
			if at := m / 2; at < n && m > 0 {
				q[at] ^= 128
				if got := Common(p, q); got != at {
					t.Errorf("Common is %d where place %d is another", got, at)
				}
			}
		}
	}
}

func TestOnlyRead(t *testing.T) { // Z2
	for n := range 40 {
		for _, fill := range []byte{0x0e, 0x30, 0xee} {
			room := bytes.Repeat([]byte{fill}, 100)
			p := room[:n]
			Halves(p)
			Join(p)
			Tag(p, true)
			Tag(p, false)
			Untag(p)
			if got := Common(p, room[:n/2]); got != n/2 {
				t.Errorf("Common of %d bytes with room behind is %d", n, got)
			}
			if !bytes.Equal(room, bytes.Repeat([]byte{fill}, 100)) {
				t.Fatalf("what %d bytes were handed in with is changed", n)
			}
		}
	}
}

func TestAnswersAreNewMemory(t *testing.T) { // Z2
	b := []byte{0x31, 0x23}
	for _, answer := range []func() []byte{
		func() []byte { return Halves(b) },
		func() []byte { q, _ := Join(b[:0]); return append(q, 7) },
		func() []byte { q, _ := Tag(b[:0], false); return append(q, 7) },
		func() []byte { q, _, _ := Untag(b); return q },
	} {
		first := answer()
		for i := range first {
			first[i] = 99
		}
		if bytes.Contains(answer(), []byte{99}) || !bytes.Equal(b, []byte{0x31, 0x23}) {
			t.Errorf("an answer is kept, or shared: %v, %v", answer(), b)
		}
	}
	p := []byte{1, 2, 3}
	tagged, _ := Tag(p, true)
	path, _, _ := Untag(tagged)
	p[0], tagged[1] = 9, 9
	if !bytes.Equal(path, []byte{1, 2, 3}) {
		t.Errorf("what Untag answered has become %v", path)
	}
}

func TestMany(t *testing.T) { // F1, F2, F3: far more than a key has
	b := bytes.Repeat([]byte{0x1e, 0xf0}, 1<<20)
	p := Halves(b)
	if got, err := Join(p); err != api.OK || !bytes.Equal(got, b) {
		t.Errorf("Join of many is %d bytes, %d", len(got), err)
	}
	if got := Common(p, slices.Clone(p)); got != len(p) {
		t.Errorf("Common of many is %d", got)
	}
	for _, q := range [][]byte{p, p[1:]} {
		tagged, err := Tag(q, true)
		if got, leaf, err2 := Untag(tagged); err != api.OK || err2 != api.OK || !leaf || !bytes.Equal(got, q) {
			t.Errorf("Tag and Untag of many are %d, %v, %d, %d", len(got), leaf, err, err2)
		}
	}
}

func FuzzOneForm(f *testing.F) { // F1, F2, F3, Z1
	for _, p := range paths()[:200] {
		f.Add(p, p)
	}
	f.Fuzz(func(t *testing.T, p, q []byte) {
		joins(t, p)
		tags(t, p)
		untags(t, p)
		if !bytes.Equal(Halves(p), slowHalves(p)) {
			t.Errorf("Halves of %v are %v", p, Halves(p))
		}
		n := Common(p, q)
		if !bytes.Equal(p[:n], q[:n]) || n < len(p) && n < len(q) && p[n] == q[n] {
			t.Errorf("Common of %v and %v is %d", p, q, n)
		}
	})
}
