package journal

import (
	"bytes"
	"slices"
	"testing"

	"lampbearer/api"
)

// place is a key of two parts.
type place struct {
	addr api.Address
	key  api.Word
}

func TestJournalOfOtherTypes(t *testing.T) { // N1, for keys and values that aren't numbers
	j := New[place, []byte]()
	one, two := place{api.Address{1}, api.Word{7}}, place{api.Address{1}, api.Word{8}}
	j.Set(one, []byte("a"))
	j.Mark()
	j.Set(one, nil)
	j.Set(two, []byte("b"))
	if v, ok := j.Get(one); !ok || len(v) != 0 {
		t.Errorf("what was set to a value without bytes has %q, %v", v, ok)
	}
	if !j.Back() || j.Back() || j.Keep() || j.Marks() != 0 {
		t.Error("one mark is not gone through once")
	}
	if v, ok := j.Get(one); !ok || string(v) != "a" {
		t.Errorf("what was taken back is %q, %v", v, ok)
	}
	if v, ok := j.Get(two); ok || v != nil {
		t.Errorf("what had no value has %q", v)
	}
}

func TestJournalDrop(t *testing.T) { // N1: no value is not the same as the value 0
	j := New[string, int]()
	j.Set("a", 0)
	j.Set("b", 1)
	j.Mark()
	j.Drop("a")
	j.Drop("b")
	j.Drop("c")
	if _, ok := j.Get("a"); ok || len(j.Keys(less)) != 0 {
		t.Errorf("%v is left", j.Keys(less))
	}
	j.Back()
	if v, ok := j.Get("a"); v != 0 || !ok {
		t.Error("the value 0 is not there again")
	}
	if !slices.Equal(j.Keys(less), []string{"a", "b"}) {
		t.Errorf("%v are there again", j.Keys(less))
	}
}

func less(a, b string) int { return bytes.Compare([]byte(a), []byte(b)) }

func TestJournalRemembersNoMoreThanItNeeds(t *testing.T) { // N1: without a mark nothing can be taken back
	j := New[uint64, uint64]()
	for i := range uint64(100) {
		j.Set(i, i)
		j.Mark()
		j.Set(i, i+1)
		j.Drop(i + 1)
		if i%2 == 0 {
			j.Keep()
		} else {
			j.Back()
		}
		if len(j.past) != 0 || len(j.marks) != 0 {
			t.Fatalf("%d changes are remembered for nobody", len(j.past))
		}
	}
}
