package world

import (
	"bytes"
	"slices"

	"lampbearer/api"
	"lampbearer/word"
)

// wrong is why a is not right: ErrForm, for its slots; ErrLong, for its code.
func wrong(a api.Account) api.Errno {
	if !areSlots(a.Slots) {
		return api.ErrForm
	}
	if len(a.Code) > api.MaxCode {
		return api.ErrLong
	}
	return api.OK
}

// areSlots is whether the keys of slots rise, and each of them has something.
func areSlots(slots []api.Slot) bool {
	for i, s := range slots {
		if i > 0 && word.Cmp(slots[i-1].Key, s.Key) >= 0 {
			return false
		}
		if s.Value == (api.Word{}) {
			return false
		}
	}
	return true
}

func hasNothing(a api.Account) bool {
	return a.Nonce == 0 && a.Money == (api.Word{}) && len(a.Code) == 0 && len(a.Slots) == 0
}

// order is less than 0, if a is ahead of b; 0, if they are the same.
func order(a, b api.Address) int { return bytes.Compare(a[:], b[:]) }

// place is where addr stands in w, which is a world, or would stand; true, if it does.
func place(w []api.Holder, addr api.Address) (int, bool) {
	return slices.BinarySearchFunc(w, addr, func(h api.Holder, addr api.Address) int {
		return order(h.Addr, addr)
	})
}

// accountAt is what addr has in w, which is a world. It has the lists of w.
func accountAt(w []api.Holder, addr api.Address) api.Account {
	at, found := place(w, addr)
	if !found {
		return api.Account{}
	}
	return w[at].Account
}

// copyOf is a in memory of its own.
func copyOf(a api.Account) api.Account {
	a.Code, a.Slots = bytes.Clone(a.Code), slices.Clone(a.Slots)
	return a
}

// copies is w in memory of its own.
func copies(w []api.Holder) []api.Holder {
	out := make([]api.Holder, len(w))
	for i, h := range w {
		out[i] = api.Holder{Addr: h.Addr, Account: copyOf(h.Account)}
	}
	return out
}
