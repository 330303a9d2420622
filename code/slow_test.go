package code

import (
	"bytes"
	"fmt"
	"slices"
	"strings"
	"testing"

	"lampbearer/api"
)

// list is L1's, word by word.
const list = "00 stop, 01 add, 02 mul, 03 sub, 04 div, 05 sdiv, 06 mod, 07 smod, 08 addmod, 09 mulmod, 0a exp, 0b extend, " +
	"10 lt, 11 gt, 12 slt, 13 sgt, 14 eq, 15 zero, 16 and, 17 or, 18 xor, 19 not, 1a byte, 1b shl, 1c shr, 1d sar, 20 sum, " +
	"30 self, 31 money, 32 caller, 33 value, 34 inword, 35 insize, 36 incopy, 37 codesize, 38 backsize, 39 backcopy, " +
	"40 time, 41 number, 42 keeper, 50 pop, 51 load, 52 store, 53 store8, 54 slot, 55 keep, 56 jump, 57 branch, 58 pc, 59 size, 5a gas, 5b land, " +
	"f0 make, f1 call, f2 return, f3 look, f4 lend, fd revert"

// byList is what names tells, once for all tests.
var byList = names()

// names are those of all 256 bytes, by the list and the four rows with a number.
func names() [256]string {
	var out [256]string
	for entry := range strings.SplitSeq(list, ", ") {
		var op int
		var name string
		fmt.Sscanf(entry, "%x %s", &op, &name)
		out[op] = name
	}
	for _, row := range []struct {
		name              string
		from, first, last int
	}{{"push", 0x60, 1, 32}, {"dup", 0x80, 1, 16}, {"swap", 0x90, 1, 16}, {"log", 0xa0, 0, 2}} {
		for n := row.first; n <= row.last; n++ {
			out[row.from+n-row.first] = fmt.Sprint(row.name, n)
		}
	}
	return out
}

// slowNext counts the bytes that the name says, one by one, while there are some.
func slowNext(code []byte, pc int) int {
	if pc < 0 || pc > len(code)-1 {
		return len(code)
	}
	var behind int
	fmt.Sscanf(byList[code[pc]], "push%d", &behind)
	pc++
	for behind > 0 && pc < len(code) {
		behind--
		pc++
	}
	return pc
}

// slowWalk is code by its operations, each with what it has behind it, where each stands, and how it is written.
func slowWalk(code []byte) (places []int, lines []string) {
	behind, at := 0, -1
	for i, c := range code {
		if behind > 0 {
			behind--
			lines[at] += fmt.Sprintf("%02x", c)
			continue
		}
		places = append(places, i)
		at++
		switch name := byList[c]; {
		case name == "":
			lines = append(lines, fmt.Sprintf("0x%02x", c))
		case 0x60 <= c && c <= 0x7f:
			behind = int(c) - 0x5f
			lines = append(lines, name+" 0x")
		default:
			lines = append(lines, name)
		}
	}
	return places, lines
}

// isCode holds all that is asked of code against the slow forms, and what is written of it against code.
func isCode(t *testing.T, code []byte) {
	t.Helper()
	places, lines := slowWalk(code)
	var lands []int
	for _, at := range places {
		if code[at] == 0x5b {
			lands = append(lands, at)
		}
	}
	if got := Landings(code); !slices.Equal(got, lands) {
		t.Fatalf("Landings of %x are %v, not %v", code, got, lands)
	}
	if got := Disassemble(code); !slices.Equal(got, lines) {
		t.Fatalf("Disassemble of %x is %q, not %q", code, got, lines)
	}
	if got, err := Assemble(lines); err != api.OK || !bytes.Equal(got, code) {
		t.Fatalf("Assemble of %q is %x, %d, not %x", lines, got, err, code)
	}
	for i, at := range places {
		want := len(code)
		if i+1 < len(places) {
			want = places[i+1]
		}
		if got := Next(code, at); got != want {
			t.Fatalf("Next of %x at %d is %d, not %d", code, at, got, want)
		}
	}
}

// isAssembled holds Assemble against L3: what it answers is written as lines again, or it is ErrForm and nothing.
func isAssembled(t *testing.T, lines []string) {
	t.Helper()
	got, err := Assemble(lines)
	switch {
	case err == api.OK:
		if _, again := slowWalk(got); !slices.Equal(again, lines) {
			t.Fatalf("Assemble of %q is %x, which is %q", lines, got, again)
		}
	case err != api.ErrForm || len(got) != 0:
		t.Fatalf("Assemble of %q is %x, %d", lines, got, err)
	}
}

func assembles(t *testing.T, want []byte, lines ...string) {
	t.Helper()
	if got, err := Assemble(lines); err != api.OK || !bytes.Equal(got, want) {
		t.Errorf("Assemble of %q is %x, %d, not %x", lines, got, err, want)
	}
}

func assemblesNot(t *testing.T, lines ...string) {
	t.Helper()
	if got, err := Assemble(lines); err != api.ErrForm || len(got) != 0 {
		t.Errorf("Assemble of %q is %x, %d, not ErrForm", lines, got, err)
	}
}
