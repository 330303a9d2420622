package journal

import "slices"

// Journal is values by keys, and marks, one within the other, back to which they may be taken.
type Journal[K comparable, V any] struct {
	values map[K]V
	past   []change[K, V] // what was done since the first mark, in its order
	marks  []int          // how long past was when each mark was set
}

// change is what a key had ahead of something that was done to it.
type change[K comparable, V any] struct {
	key   K
	value V
	had   bool
}

// New is a journal with neither values nor marks.
func New[K comparable, V any]() *Journal[K, V] {
	return &Journal[K, V]{values: map[K]V{}}
}

// Get is what key has, and whether it has anything.
func (j *Journal[K, V]) Get(key K) (V, bool) {
	value, ok := j.values[key]
	return value, ok
}

// Set gives key that value.
func (j *Journal[K, V]) Set(key K, value V) {
	j.remember(key)
	j.values[key] = value
}

// Drop leaves key without a value.
func (j *Journal[K, V]) Drop(key K) {
	j.remember(key)
	delete(j.values, key)
}

// Marks is how many marks there are.
func (j *Journal[K, V]) Marks() int { return len(j.marks) }

// Mark sets a mark within those there are.
func (j *Journal[K, V]) Mark() { j.marks = append(j.marks, len(j.past)) }

// Back takes back what was done since the last mark, and the mark; false, if there is none.
func (j *Journal[K, V]) Back() bool {
	if len(j.marks) == 0 {
		return false
	}
	start := j.marks[len(j.marks)-1]
	// The latest first: of a key that was changed twice, what it had first is what stays.
	for _, c := range slices.Backward(j.past[start:]) {
		j.undo(c)
	}
	j.past = j.past[:start]
	j.marks = j.marks[:len(j.marks)-1]
	return true
}

// Keep takes the last mark away, and leaves what was done since to the one ahead of it; false, if there is none.
func (j *Journal[K, V]) Keep() bool {
	if len(j.marks) == 0 {
		return false
	}
	j.marks = j.marks[:len(j.marks)-1]
	if len(j.marks) == 0 {
		j.past = nil // nobody can take it back any more
	}
	return true
}

// Keys are the keys that have a value, by order, which holds no two of them for the same.
func (j *Journal[K, V]) Keys(order func(a, b K) int) []K {
	keys := make([]K, 0, len(j.values))
	for key := range j.values {
		keys = append(keys, key)
	}
	slices.SortFunc(keys, order)
	return keys
}

// remember keeps what key has, if there is a mark to come back to.
func (j *Journal[K, V]) remember(key K) {
	if len(j.marks) == 0 {
		return
	}
	value, had := j.values[key]
	j.past = append(j.past, change[K, V]{key, value, had})
}

// undo gives a key again what it had ahead of c.
func (j *Journal[K, V]) undo(c change[K, V]) {
	if c.had {
		j.values[c.key] = c.value
		return
	}
	delete(j.values, c.key)
}
