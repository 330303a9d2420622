package code

import (
	"strings"

	"lampbearer/api"
	"lampbearer/hex"
)

const blank = " "

// operation is one with the bytes that it has behind it.
type operation struct {
	op     byte
	behind []byte
}

// line is how o is written.
func (o operation) line() string {
	name := Name(o.op)
	switch {
	case name == "":
		return hex.Print([]byte{o.op})
	case pushed(o.op) > 0:
		return name + blank + hex.Print(o.behind)
	}
	return name
}

// isShort is whether o has fewer bytes behind it than its name says.
func (o operation) isShort() bool { return len(o.behind) < pushed(o.op) }

// opsByName has each operation that has a name, by that.
func opsByName() map[string]byte {
	ops := map[string]byte{}
	for op := range 256 {
		if name := Name(byte(op)); name != "" {
			ops[name] = byte(op)
		}
	}
	return ops
}

// readLine is the operation that is written as line, and whether there is one. A push may have fewer bytes behind it than its name says.
func readLine(line string, ops map[string]byte) (operation, bool) {
	name, written, parted := strings.Cut(line, blank)
	op, named := ops[name]
	switch {
	case !named:
		return readNameless(line)
	case parted:
		return readPush(op, written)
	}
	return operation{op: op}, pushed(op) == 0
}

// readNameless is the byte without a name that is written as line, and whether there is one.
func readNameless(line string) (operation, bool) {
	b, err := hex.Parse(line)
	if err != api.OK || len(b) != 1 || Name(b[0]) != "" {
		return operation{}, false
	}
	return operation{op: b[0]}, true
}

// readPush is op with the bytes behind it that are written so, and whether it may have them.
func readPush(op byte, written string) (operation, bool) {
	behind, err := hex.Parse(written)
	if err != api.OK || pushed(op) == 0 || len(behind) > pushed(op) {
		return operation{}, false
	}
	return operation{op, behind}, true
}
