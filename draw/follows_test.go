package draw

import (
	"slices"
	"testing"

	"aviary/pick"
)

// 18.3: the answer is one of the k best ones.
func TestOneOfTheBest(t *testing.T) {
	for _, scores := range rows()[2:] {
		for k := 1; k <= len(scores)+1; k++ {
			best := pick.Top(scores, k)
			for _, heat := range heats() {
				for n := range 12 {
					if i := Choose(scores, k, heat, Bits(3, n)); !slices.Contains(best, i) {
						t.Errorf("Choose(%v, %d, %d): %d, of the best ones %v", scores, k, heat, i, best)
					}
				}
			}
		}
	}
}

// 18.3: each of the k best ones that has a share is chosen at some time, no other one.
func TestEachOfTheBest(t *testing.T) {
	scores := []int64{3, 9, 1, 9, 7, 2}
	for k := 2; k <= len(scores); k++ {
		chosen := make([]bool, len(scores))
		for n := range 500 {
			chosen[Choose(scores, k, 65536, Bits(1, n))] = true
		}
		for i, was := range chosen {
			if best := slices.Contains(pick.Top(scores, k), i); was != best {
				t.Errorf("k %d, place %d: chosen %t, one of the best %t", k, i, was, best)
			}
		}
	}
}

// 18.3: with the same seed, number and scores the answer is the same, whatever was asked meanwhile.
func TestSameAgain(t *testing.T) {
	ask := func() []int {
		var list []int
		for _, scores := range rows() {
			for _, seed := range []uint64{0, 1, whole} {
				for n := range 6 {
					list = append(list, Choose(slices.Clone(scores), 3, 65536, Bits(seed, n)))
				}
			}
		}
		return list
	}
	first := ask()
	Choose(repeat(9, 100), 50, 3, 77)
	if again := ask(); !slices.Equal(first, again) {
		t.Errorf("first %v, then %v", first, again)
	}
}

// 18.3: a score that stands first by much is chosen always.
func TestFirstByMuch(t *testing.T) {
	for _, heat := range []int64{1, 2, 100, 65536, 1 << 20} {
		for _, count := range []int{2, 5, 16, 1000} {
			for _, first := range []int{0, 1, count / 2, count - 1} {
				scores := stepped(count, -3, 0)
				scores[first] += 12 * heat
				for _, k := range []int{2, count, most} {
					for _, u := range someNumbers() {
						checkChoose(t, scores, k, heat, u, first)
					}
				}
			}
		}
	}
}

// 18.3: where the first share is all there is, each number chooses the first place, and else some number another one.
func TestWholeShare(t *testing.T) {
	alone := 0
	for _, scores := range rows()[2:] {
		for _, heat := range heats()[5:] {
			places, shares := wantShares(scores, 4, heat)
			sum := sumOf(shares).Uint64()
			if sum != uint64(shares[0]) {
				if i := Choose(scores, 4, heat, sum-1); i == places[0] {
					t.Errorf("Choose(%v, 4, %d) by the last number: %d", scores, heat, i)
				}
				continue
			}
			alone++
			for _, u := range edges(scores, 4, heat) {
				checkChoose(t, scores, 4, heat, u, pick.Max(scores))
			}
		}
	}
	if alone < 20 {
		t.Errorf("the first share is all there is only %d times", alone)
	}
}

// roomy is a list with marked room behind its end.
func roomy(list []int64, mark int64) []int64 {
	return append(slices.Clone(list), mark, mark, mark)[:len(list)]
}

// R4: what is handed in is not changed, nor what lies in the room behind it, and that is not read.
func TestHandedIn(t *testing.T) {
	for _, scores := range rows() {
		for _, mark := range []int64{least, 77, most} {
			for _, k := range counts(len(scores)) {
				for _, heat := range heats() {
					for n := range 3 {
						u := Bits(5, n)
						handed := roomy(scores, mark)
						checkChoose(t, handed, k, heat, u, wantChoose(t, scores, k, heat, u))
						if !slices.Equal(handed[:len(scores)+3], append(slices.Clone(scores), mark, mark, mark)) {
							t.Errorf("Choose(%v, %d, %d, %d) changed what was handed in", scores, k, heat, u)
						}
					}
				}
			}
		}
	}
}

// R1: no call ends in a panic, whatever is handed in.
func TestNoPanic(t *testing.T) {
	for seed := range uint64(3000) {
		numbers := mixed(4, seed)
		scores := mixed(int(seed%23), seed+1)
		i := Choose(scores, int(numbers[0]), numbers[1], Bits(uint64(numbers[2]), int(numbers[3])))
		if i < -1 || i >= len(scores) || (i == -1) != (len(scores) == 0) {
			t.Errorf("Choose(%v, %d, %d): %d", scores, numbers[0], numbers[1], i)
		}
	}
}
