package journal

import (
	"maps"
	"slices"
	"testing"

	"lampbearer/api"
)

// slow is a journal by the chapter's words: of each mark, all that keys had when it was set.
type slow struct {
	values map[uint64]uint64
	marks  []map[uint64]uint64
}

func (s *slow) do(op api.JOp) api.JAns {
	last := len(s.marks) - 1
	switch op.Kind {
	case 1:
		s.values[op.Key] = op.Value
	case 2:
		return api.JAns{Value: s.values[op.Key]}
	case 3:
		s.marks = append(s.marks, maps.Clone(s.values))
		return api.JAns{Value: uint64(len(s.marks))}
	case 4, 5:
		if last < 0 {
			return api.JAns{Err: api.ErrNone}
		}
		if op.Kind == 4 {
			s.values = s.marks[last]
		}
		s.marks = s.marks[:last]
		return api.JAns{Value: uint64(last)}
	default:
		return api.JAns{Err: api.ErrKind}
	}
	return api.JAns{}
}

func slowPlay(ops []api.JOp) ([]api.JAns, []api.JPair) {
	s := &slow{values: map[uint64]uint64{}}
	var answers []api.JAns
	for _, op := range ops {
		answers = append(answers, s.do(op))
	}
	var pairs []api.JPair
	for _, key := range slices.Sorted(maps.Keys(s.values)) {
		if s.values[key] != 0 {
			pairs = append(pairs, api.JPair{Key: key, Value: s.values[key]})
		}
	}
	return answers, pairs
}

// isPlay holds Play against the slow form, and answers what it answers.
func isPlay(t *testing.T, ops ...api.JOp) ([]api.JAns, []api.JPair) {
	t.Helper()
	answers, pairs := Play(ops)
	slowAnswers, slowPairs := slowPlay(ops)
	if !slices.Equal(answers, slowAnswers) {
		t.Fatalf("%v answers %v, not %v", ops, answers, slowAnswers)
	}
	if !slices.Equal(pairs, slowPairs) {
		t.Fatalf("%v leaves %v, not %v", ops, pairs, slowPairs)
	}
	return answers, pairs
}
