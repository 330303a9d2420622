package code

import (
	"bytes"
	"fmt"
	"math"
	"slices"
	"strings"
	"testing"

	"lampbearer/api"
)

// someCodes are the same ones each time: most of their bytes are pushes, lands and bytes without a name.
func someCodes(count int) [][]byte {
	seed := uint64(1)
	draw := func() int {
		seed = seed*6364136223846793005 + 1442695040888963407
		return int(seed >> 40)
	}
	near := []byte{0x5b, 0x5b, 0x5b, 0x60, 0x61, 0x62, 0x67, 0x7f, 0x5f, 0x80, 0x00, 0x01, 0xfe, 0xff}
	var out [][]byte
	for i := range count {
		code := make([]byte, i%90)
		for at := range code {
			if code[at] = byte(draw()); draw()%3 > 0 {
				code[at] = near[draw()%len(near)]
			}
		}
		out = append(out, code)
	}
	return out
}

func TestNameOfEachByte(t *testing.T) { // L1
	count := 0
	for op, want := range byList {
		if got := Name(byte(op)); got != want {
			t.Errorf("Name of %02x is %q, not %q", op, got, want)
		}
		if want != "" {
			count++
		}
	}
	if count != 58+32+16+16+3 {
		t.Errorf("%d names are held against, and the chapter has others", count)
	}
}

func TestNamesAtTheEdges(t *testing.T) { // L1: of each row the first and the last, and the bytes beside them
	for _, c := range []struct {
		op   byte
		want string
	}{
		{0x00, "stop"}, {0x0b, "extend"}, {0x0c, ""}, {0x0f, ""}, {0x10, "lt"}, {0x1d, "sar"}, {0x1e, ""}, {0x1f, ""}, {0x20, "sum"}, {0x21, ""},
		{0x2f, ""}, {0x30, "self"}, {0x39, "backcopy"}, {0x3a, ""}, {0x3f, ""}, {0x40, "time"}, {0x42, "keeper"}, {0x43, ""}, {0x4f, ""},
		{0x50, "pop"}, {0x5b, "land"}, {0x5c, ""}, {0x5f, ""}, {0x60, "push1"}, {0x61, "push2"}, {0x69, "push10"}, {0x7e, "push31"}, {0x7f, "push32"},
		{0x80, "dup1"}, {0x8f, "dup16"}, {0x90, "swap1"}, {0x9f, "swap16"}, {0xa0, "log0"}, {0xa1, "log1"}, {0xa2, "log2"}, {0xa3, ""},
		{0xef, ""}, {0xf0, "make"}, {0xf4, "lend"}, {0xf5, ""}, {0xfc, ""}, {0xfd, "revert"}, {0xfe, ""}, {0xff, ""},
	} {
		if got := Name(c.op); got != c.want {
			t.Errorf("Name of %02x is %q, not %q", c.op, got, c.want)
		}
	}
}

func TestNamesAreDifferent(t *testing.T) { // L1
	seen := map[string]int{}
	for op := range 256 {
		name := Name(byte(op))
		if other, ok := seen[name]; ok && name != "" {
			t.Errorf("%02x and %02x are both %q", other, op, name)
		}
		seen[name] = op
	}
}

func TestNextOfOneOperation(t *testing.T) { // L2: whatever the byte, and however many there are behind it
	for op := range 256 {
		for n := range 70 {
			code := append([]byte{byte(op)}, bytes.Repeat([]byte{0x7f}, n)...)
			want := 1
			if 0x60 <= op && op <= 0x7f {
				want = min(op-0x5f, n) + 1
			}
			if got := Next(code, 0); got != want {
				t.Fatalf("Next of %02x with %d bytes behind it is %d, not %d", op, n, got, want)
			}
		}
	}
}

func TestNextAtNamedPlaces(t *testing.T) { // L2
	code := []byte{0x01, 0x62, 1, 2, 3, 0xfe, 0x5b, 0x61, 0x60, 0x60, 0x63, 1, 2}
	for _, c := range []struct{ pc, want int }{
		{0, 1}, {1, 5}, {2, 3}, {5, 6}, {6, 7}, {7, 10}, {8, 10}, {9, 11}, {10, 13}, {11, 12}, {12, 13},
		{13, 13}, {14, 13}, {99, 13}, {math.MaxInt, 13}, {math.MaxInt - 32, 13}, {-1, 13}, {-33, 13}, {math.MinInt, 13}, {math.MinInt + 1, 13},
	} {
		if got := Next(code, c.pc); got != c.want {
			t.Errorf("Next at %d is %d, not %d", c.pc, got, c.want)
		}
	}
	for n := 1; n <= 32; n++ { // with all its bytes, with one too few, with none, and at the end of some code
		push := byte(0x5f + n)
		for _, c := range []struct{ room, want int }{{n + 1, n + 3}, {n, n + 3}, {n - 1, n + 2}, {0, 3}} {
			code := append([]byte{0x00, 0x01, push}, make([]byte, c.room)...)
			if got := Next(code, 2); got != c.want {
				t.Errorf("Next of push%d with %d bytes behind it is %d, not %d", n, c.room, got, c.want)
			}
		}
	}
}

func TestNextOfNoCode(t *testing.T) { // L2, Z3
	for _, pc := range []int{0, 1, -1, 33, math.MaxInt, math.MinInt} {
		if got, other := Next(nil, pc), Next([]byte{}, pc); got != 0 || other != 0 {
			t.Errorf("Next of no code at %d is %d, and %d", pc, got, other)
		}
	}
}

func TestNextAtEachPlace(t *testing.T) { // L2: in the midst of a push too, since any place may be asked for
	for _, code := range someCodes(300) {
		for pc := -3; pc < len(code)+40; pc++ {
			if got, want := Next(code, pc), slowNext(code, pc); got != want {
				t.Fatalf("Next of %x at %d is %d, not %d", code, pc, got, want)
			}
		}
	}
}

func TestLandings(t *testing.T) { // L2
	for _, c := range []struct {
		code []byte
		want []int
	}{
		{nil, nil}, {[]byte{}, nil}, {[]byte{0x01}, nil}, {[]byte{0x5a, 0x5c}, nil},
		{[]byte{0x5b}, []int{0}}, {[]byte{0x5b, 0x5b, 0x5b}, []int{0, 1, 2}},
		{[]byte{0x60, 0x5b}, nil}, {[]byte{0x60, 0x5b, 0x5b}, []int{2}}, {[]byte{0x61, 0x5b, 0x01}, nil}, {[]byte{0x61, 0x5b}, nil},
		{[]byte{0x60, 0x60, 0x5b}, []int{2}}, {[]byte{0x60, 0x60, 0x60, 0x5b}, nil},
		{[]byte{0x5b, 0x60}, []int{0}}, {[]byte{0x00, 0x5b}, []int{1}}, {[]byte{0xfe, 0x5b, 0xff, 0x5b}, []int{1, 3}},
		{[]byte{0x5f, 0x5b, 0x80, 0x5b, 0x61, 0x5b, 0x5b, 0x5b, 0x01, 0x5b}, []int{1, 3, 7, 9}},
		{append([]byte{0x7f}, bytes.Repeat([]byte{0x5b}, 31)...), nil},
		{append([]byte{0x7f}, bytes.Repeat([]byte{0x5b}, 34)...), []int{33, 34}},
	} {
		if got := Landings(c.code); !slices.Equal(got, c.want) {
			t.Errorf("Landings of %x are %v, not %v", c.code, got, c.want)
		}
	}
}

func TestLandingsBehindEachOperation(t *testing.T) { // L2
	for op := range 256 {
		code := append([]byte{byte(op)}, bytes.Repeat([]byte{0x5b}, 40)...)
		first := 1
		if op == 0x5b {
			first = 0
		} else if 0x60 <= op && op <= 0x7f {
			first = op - 0x5f + 1
		}
		got := Landings(code)
		if len(got) != 41-first || got[0] != first || got[len(got)-1] != 40 {
			t.Errorf("Landings behind %02x are %v", op, got)
		}
	}
}

func TestDisassemble(t *testing.T) { // L3
	for _, c := range []struct {
		code []byte
		want []string
	}{
		{nil, nil}, {[]byte{}, nil},
		{[]byte{0x00}, []string{"stop"}}, {[]byte{0x01, 0x02}, []string{"add", "mul"}},
		{[]byte{0x61, 0x5b, 0x01}, []string{"push2 0x5b01"}},
		{[]byte{0x61, 0x5b}, []string{"push2 0x5b"}}, {[]byte{0x61}, []string{"push2 0x"}}, {[]byte{0x60}, []string{"push1 0x"}},
		{[]byte{0x60, 0x00, 0x60}, []string{"push1 0x00", "push1 0x"}},
		{[]byte{0x62, 0x60, 0x61, 0x62, 0x62, 0xab}, []string{"push3 0x606162", "push3 0xab"}},
		{[]byte{0xfe}, []string{"0xfe"}}, {[]byte{0x0c, 0xff, 0xa3}, []string{"0x0c", "0xff", "0xa3"}},
		{[]byte{0x5f, 0x01, 0x80}, []string{"0x5f", "add", "dup1"}},
		{[]byte{0xa2, 0x9f, 0x53, 0xfd}, []string{"log2", "swap16", "store8", "revert"}},
		{append([]byte{0x7f}, bytes.Repeat([]byte{0x0f}, 33)...), []string{"push32 0x" + strings.Repeat("0f", 32), "0x0f"}},
	} {
		if got := Disassemble(c.code); !slices.Equal(got, c.want) {
			t.Errorf("Disassemble of %x is %q, not %q", c.code, got, c.want)
		}
		assembles(t, c.code, c.want...)
	}
}

func TestEachOperationAndBack(t *testing.T) { // L2, L3: by itself, with fewer and with more bytes behind it, and behind others
	for op := range 256 {
		for n := range 36 {
			code := []byte{byte(op)}
			for i := range n {
				code = append(code, byte(i*37+op))
			}
			isCode(t, code)
			isCode(t, append([]byte{0x60, 0x60, 0x5b, 0xee}, code...))
		}
	}
}

func TestEachPairOfBytes(t *testing.T) { // L2, L3
	for i := range 256 {
		for j := range 256 {
			isCode(t, []byte{byte(i), byte(j)})
		}
	}
}

func TestManyCodes(t *testing.T) { // L2, L3
	for _, code := range someCodes(3000) {
		isCode(t, code)
	}
}

func TestAssemble(t *testing.T) { // L3
	assembles(t, nil)
	assembles(t, []byte{0x01, 0x02}, "add", "mul")
	assembles(t, []byte{0x60, 0x01}, "push1 0x01")
	assembles(t, []byte{0x60}, "push1 0x")
	assembles(t, []byte{0x01, 0x61, 0xff}, "add", "push2 0xff")
	assembles(t, []byte{0xa2, 0x9f, 0x80}, "log2", "swap16", "dup1")
	assembles(t, []byte{0xfe, 0x0c}, "0xfe", "0x0c")
	assembles(t, []byte{0x53, 0x52}, "store8", "store")
	if code, err := Assemble([]string{}); err != api.OK || len(code) != 0 {
		t.Errorf("Assemble of no lines is %x, %d", code, err)
	}
}

func TestAssembleOfEachName(t *testing.T) { // L3: ahead of others, behind others, and nearly so
	for op, name := range byList {
		if name == "" {
			continue
		}
		if 0x60 <= op && op <= 0x7f {
			assemblesNot(t, name)
			written := "0x" + strings.Repeat("5b", op-0x5f)
			assemblesNot(t, name+written)
			assemblesNot(t, name+"  "+written)
			assemblesNot(t, written+" "+name)
			name += " " + written
			code := append([]byte{byte(op)}, bytes.Repeat([]byte{0x5b}, op-0x5f)...)
			assembles(t, code, name)
			assembles(t, append(slices.Clone(code), 0x01), name, "add")
		} else {
			assembles(t, []byte{byte(op)}, name)
			assembles(t, []byte{0x01, byte(op), 0xee}, "add", name, "0xee")
			assemblesNot(t, name+" 0x")
			assemblesNot(t, name+" 0x01")
		}
		for _, wrong := range []string{
			strings.ToUpper(name), strings.ToUpper(name[:1]) + name[1:], name + " ", " " + name, name + "\n", "\t" + name, name + "\x00",
			"_" + name, name[:len(name)-1] + "_", name + name, name + " " + name, name + "x",
		} {
			assemblesNot(t, wrong)
			assemblesNot(t, "add", wrong)
			assemblesNot(t, wrong, "add")
		}
	}
}

func TestAssembleOfNoName(t *testing.T) { // L3
	for _, line := range []string{
		"", " ", "  ", "\n", "0", "x", "nop", "push", "push0", "push33", "push01", "push1", "push-1", "push+1", "push 1", "dup", "dup0", "dup17", "dup01",
		"swap0", "swap17", "swap", "log", "log3", "log00", "store16", "jumpdest", "invalid", "ad", "addm", "add,mul", "add\nmul", "add mul",
		"push0 0x", "push33 0x01", "push33 0x", "push01 0x01", "push1x 0x01", "push 0x01", "pu 0x01", "dup1 0x01", "log0 0x", "land 0x5b", "stop 0x",
		"push1\t0x01", "push1\u00a00x01", "push1,0x01", "push10x01", "\xff", "ádd", "push１ 0x01",
	} {
		assemblesNot(t, line)
		assemblesNot(t, line, "add")
		assemblesNot(t, "add", line)
		assemblesNot(t, "push1 0x01", line, "stop")
	}
}

func TestAssembleOfPushes(t *testing.T) { // L3: all counts of bytes, as the last line and ahead of others
	for n := 1; n <= 32; n++ {
		for count := range 40 {
			behind := bytes.Repeat([]byte{0xa5}, count)
			line := fmt.Sprintf("push%d 0x%x", n, behind)
			code := append([]byte{byte(0x5f + n)}, behind...)
			switch {
			case count > n:
				assemblesNot(t, line)
				assemblesNot(t, "add", line)
				assemblesNot(t, line, "add")
			case count == n:
				assembles(t, code, line)
				assembles(t, append(append([]byte{0x01}, code...), 0x01), "add", line, "add")
			default:
				assembles(t, code, line)
				assembles(t, append([]byte{0x01}, code...), "add", line)
				assemblesNot(t, line, "add")
				assemblesNot(t, line, "0xa5")
				assemblesNot(t, line, line)
				assemblesNot(t, "add", line, "push1 0x")
			}
		}
	}
}

func TestAssembleOfWrongBytes(t *testing.T) { // L3: nothing but what hex.Print writes
	for _, written := range []string{
		"", "0", "1", "01", "x01", "0x0", "0x1", "0x001", "0X01", "0xG0", "0xg0", "0xAB", "0xaB", "0xAb", "1x01", "0x0x01", "-0x01", "+0x01", "0x-1",
		" 0x01", "0x01 ", "0x 01", "0x0 1", "0x01\n", "\t0x01", "0x01\x00", "0x01 0x02", "0x0_1", "0xé", "0xİ1", "0x01,", "add",
	} {
		for _, push := range []string{"push1 ", "push2 ", "push32 "} {
			assemblesNot(t, push+written)
			assemblesNot(t, "stop", push+written)
			assemblesNot(t, push+written, "stop")
		}
	}
}

func TestAssembleOfBytesBySixteens(t *testing.T) { // L3: one byte, and only one without a name
	for op, name := range byList {
		line := fmt.Sprintf("0x%02x", op)
		if name != "" {
			assemblesNot(t, line)
			assemblesNot(t, "add", line, "add")
		} else {
			assembles(t, []byte{byte(op)}, line)
			assembles(t, []byte{0x01, byte(op), 0x01}, "add", line, "add")
		}
		assemblesNot(t, line+"fe")
		assemblesNot(t, "0xfe"+line[2:])
		assemblesNot(t, line+" ")
		assemblesNot(t, " "+line)
		assemblesNot(t, line+" 0x")
		assemblesNot(t, line+" 0x01")
	}
	for _, line := range []string{"0x", "0xf", "0xFE", "0Xfe", "fe", "0xfE", "0xfefe", "0xfefefe", "0x0", "0xc", "0x00c", "0x0C"} {
		assemblesNot(t, line)
		assemblesNot(t, "add", line)
	}
}

func TestAssembleWithOneSignChanged(t *testing.T) { // L3: nothing has two forms
	for _, lines := range [][]string{{"add", "push2 0x5b01", "0xfe"}, {"push11 0x0102", "mul"}, {"dup16", "push1 0x"}, {"log2"}, {"push3 0x0a0b0c"}} {
		isAssembled(t, lines)
		for i, line := range lines {
			changed := slices.Clone(lines)
			for at := range len(line) + 1 {
				for c := range 256 {
					sign := string([]byte{byte(c)})
					changed[i] = line[:at] + sign + line[at:]
					isAssembled(t, changed)
					if at < len(line) {
						changed[i] = line[:at] + sign + line[at+1:]
						isAssembled(t, changed)
					}
				}
				changed[i] = line[:at]
				isAssembled(t, changed)
				changed[i] = line[at:]
				isAssembled(t, changed)
			}
		}
	}
}

func TestErrorBehindGoodLines(t *testing.T) { // L3, Z4: nothing of the lines ahead of it is answered
	lines := []string{"add", "push2 0x0102", "0xfe", "land"}
	for at := range len(lines) + 1 {
		for _, wrong := range []string{"", "nop", "push1", "0x01", "push1 0x0102", "push1 0xG0"} {
			assemblesNot(t, slices.Insert(slices.Clone(lines), at, wrong)...)
		}
	}
	assembles(t, []byte{0x01, 0x61, 1, 2, 0xfe, 0x5b}, lines...)
}

func TestOnlyRead(t *testing.T) { // Z2
	room := bytes.Repeat([]byte{0x62, 0x5b, 0x01}, 20)
	before := bytes.Clone(room)
	for n := range len(room) {
		isCode(t, room[:n])
		if got := Next(room[:n:n+1], n); got != n {
			t.Errorf("Next at the end of %d bytes is %d", n, got)
		}
	}
	if !bytes.Equal(room, before) {
		t.Error("code that was handed in is changed")
	}
	lines := []string{"add", "push2 0x01", "mul", "nop"}
	ahead := slices.Clone(lines)
	assembles(t, []byte{0x01, 0x61, 0x01}, lines[:2]...)
	assemblesNot(t, lines[:3]...)
	if !slices.Equal(lines, ahead) {
		t.Error("lines that were handed in are changed")
	}
}

func TestNothingIsKept(t *testing.T) { // Z1, Z2
	code := []byte{0x61, 0x5b, 0x01, 0x5b, 0xfe}
	lines, lands := Disassemble(code), Landings(code)
	first, _ := Assemble(lines)
	clear(code)
	want := []string{"push2 0x5b01", "land", "0xfe"}
	if !slices.Equal(lines, want) || !slices.Equal(lands, []int{3}) {
		t.Errorf("what was answered has become %q, %v", lines, lands)
	}
	clear(lines)
	clear(lands)
	if !bytes.Equal(first, []byte{0x61, 0x5b, 0x01, 0x5b, 0xfe}) {
		t.Errorf("what was assembled has become %x", first)
	}
	clear(first)
	assembles(t, []byte{0x61, 0x5b, 0x01, 0x5b, 0xfe}, want...)
	isCode(t, []byte{0x61, 0x5b, 0x01, 0x5b, 0xfe})
}

func TestVeryLongCode(t *testing.T) { // Z1: line by line anew it would not end in time
	part := []byte{0x5b, 0x62, 0x5b, 0x5b, 0x5b, 0xfe, 0x9f}
	code := bytes.Repeat(part, 1<<17)
	lines, lands := Disassemble(code), Landings(code)
	if len(lines) != 4<<17 || len(lands) != 1<<17 || lands[1] != 7 || lands[len(lands)-1] != len(code)-7 {
		t.Fatalf("%d lines, and %d lands", len(lines), len(lands))
	}
	if got, err := Assemble(lines); err != api.OK || !bytes.Equal(got, code) {
		t.Errorf("%d bytes come back, %d", len(got), err)
	}
	lines[len(lines)-1] = "swap17"
	if got, err := Assemble(lines); err != api.ErrForm || len(got) != 0 {
		t.Errorf("with a wrong line at their end %d bytes come back, %d", len(got), err)
	}
}

func FuzzCode(f *testing.F) { // L2, L3, Z1
	f.Add([]byte{0x61, 0x5b, 0x01, 0x5b, 0xfe, 0x7f})
	f.Fuzz(isCode)
}

func FuzzLines(f *testing.F) { // L3, Z1
	f.Add("add\npush2 0x5b01\n0xfe\npush1 0x")
	f.Fuzz(func(t *testing.T, text string) {
		isAssembled(t, strings.Split(text, "\n"))
	})
}
