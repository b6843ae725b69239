package admit

import (
	"math/big"
	"testing"

	"aviary/api"
)

// checkLoad holds Load of a right model whose version is not there against an outcome, and the other ways against theirs.
func checkLoad(t *testing.T, need, room, greatest int, want api.Errno) {
	t.Helper()
	ways := []struct {
		right, taken bool
		want         api.Errno
	}{
		{true, false, want},
		{true, true, api.VersionTaken},
		{false, false, api.Malformed},
		{false, true, api.Malformed},
	}
	for _, w := range ways {
		if e := Load(w.right, w.taken, need, room, greatest); e != w.want {
			t.Errorf("Load(%t, %t, %d, %d, %d): %d, not %d", w.right, w.taken, need, room, greatest, e, w.want)
		}
	}
}

// wantLoad is the outcome of a right model whose version is not there, by numbers without bounds.
func wantLoad(need, room, greatest int) api.Errno {
	left := new(big.Int).Sub(exact(room), exact(need))
	if left.Sign() < 0 || left.Cmp(exact(greatest)) < 0 {
		return api.OutOfMemory
	}
	return api.OK
}

// 22.3: answers that are reckoned by hand.
func TestLoadByHand(t *testing.T) {
	checkLoad(t, 3, 3, 0, api.OK)
	checkLoad(t, 4, 3, 0, api.OutOfMemory)
	checkLoad(t, 2, 3, 0, api.OK)
	checkLoad(t, 2, 3, 1, api.OK)
	checkLoad(t, 2, 3, 2, api.OutOfMemory)
	checkLoad(t, 3, 3, 1, api.OutOfMemory)
	checkLoad(t, 0, 0, 0, api.OK)
	checkLoad(t, 0, 5, 5, api.OK)
	checkLoad(t, 0, 5, 6, api.OutOfMemory)
	checkLoad(t, 10, 256, 246, api.OK)
	checkLoad(t, 10, 256, 247, api.OutOfMemory)
	checkLoad(t, 10, 256, 245, api.OK)
	checkLoad(t, 10, 9, -1, api.OutOfMemory)
	checkLoad(t, 10, 9, least, api.OutOfMemory)
}

// 22.3: numbers below 0, and the least and the greatest ones: what is left may be more than an int holds, and never wraps round.
func TestLoadEnds(t *testing.T) {
	checkLoad(t, least, most, most, api.OK)
	checkLoad(t, least, least, 0, api.OK)
	checkLoad(t, least, least, 1, api.OutOfMemory)
	checkLoad(t, least, least, least, api.OK)
	checkLoad(t, least, -1, most, api.OK)
	checkLoad(t, least, -2, most, api.OutOfMemory)
	checkLoad(t, least, 0, most, api.OK)
	checkLoad(t, -1, most, most, api.OK)
	checkLoad(t, -1, most-1, most, api.OK)
	checkLoad(t, -1, most-2, most, api.OutOfMemory)
	checkLoad(t, most, most, 0, api.OK)
	checkLoad(t, most, most, 1, api.OutOfMemory)
	checkLoad(t, most, most, least, api.OK)
	checkLoad(t, most, least, least, api.OutOfMemory)
	checkLoad(t, most, least, most, api.OutOfMemory)
	checkLoad(t, 1, least, 0, api.OutOfMemory)
	checkLoad(t, 1, least, least, api.OutOfMemory)
	checkLoad(t, 0, most, most, api.OK)
	checkLoad(t, 1, most, most, api.OutOfMemory)
	checkLoad(t, -3, -1, 2, api.OK)
	checkLoad(t, -3, -1, 3, api.OutOfMemory)
	checkLoad(t, -1, -3, -9, api.OutOfMemory)
}

// 22.3: each number at each edge, in all ways together, held against numbers without bounds.
func TestLoadTogether(t *testing.T) {
	for _, need := range near() {
		for _, room := range near() {
			for _, greatest := range near() {
				checkLoad(t, need, room, greatest, wantLoad(need, room, greatest))
			}
		}
	}
}

// 22.3: what is left is just most, one more, and one less.
func TestLoadAroundMost(t *testing.T) {
	for need := range 20 {
		for greatest := range 20 {
			checkLoad(t, need, need+greatest, greatest, api.OK)
			checkLoad(t, need, need+greatest+1, greatest, api.OK)
			checkLoad(t, need, need+greatest-1, greatest, api.OutOfMemory)
		}
	}
}
