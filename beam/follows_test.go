package beam

import (
	"slices"
	"testing"

	"aviary/api"
	"aviary/sat"
)

// checkFollows tells whether what is promised to follow does so of one call.
func checkFollows(t *testing.T, l []Beam, scores [][]int64, width, length, stop int) {
	t.Helper()
	beams, places, e := Grow(l, scores, width, length, stop)
	if e != api.OK {
		t.Errorf("Grow(%v, %v, %d, %d, %d): error %d", l, scores, width, length, stop, e)
		return
	}
	for i, b := range beams {
		behind := l[places[i]]
		if behind.Done && !same(b, behind) {
			t.Errorf("%v was done, and is %v", behind, b)
		}
		if !behind.Done && b.Score > sat.Clamp(behind.Score) {
			t.Errorf("%v stands behind %v, and its score rose", b, behind)
		}
		if i > 0 && b.Score > beams[i-1].Score {
			t.Errorf("%v: the score rises at %d", beams, i)
		}
		if b.Score > beams[0].Score {
			t.Errorf("%v: the first one's score is less than that at %d", beams, i)
		}
	}
}

// 19.3: scores do not rise, what was done is as it was, and the first of the beams has no lesser score than the others.
func TestScoresFall(t *testing.T) {
	for _, row := range rows() {
		for _, score := range levels() {
			for width := 1; width <= api.MaxBeams; width++ {
				checkFollows(t, []Beam{{Score: score}}, [][]int64{row}, width, 3, 1)
				checkFollows(t, []Beam{{Score: score}, {Score: -3, Done: true}}, [][]int64{row}, width, 1, 0)
				checkFollows(t, []Beam{{Score: -3}, {Score: score, Done: true}}, [][]int64{row}, width, 1, 0)
			}
		}
	}
	for seed := range uint64(3000) {
		l, scores := several(seed)
		for width := 1; width <= api.MaxBeams; width++ {
			checkFollows(t, l, scores, width, int(seed%5), int(seed%7)-1)
		}
	}
}

// 19.3: the greatest of a row loses nothing, so that the best one that is not done keeps its score.
func TestGreatestLosesNothing(t *testing.T) {
	for _, row := range rows() {
		for _, score := range levels() {
			beams, _, _ := Grow([]Beam{{Score: score}}, [][]int64{row}, 1, 3, -1)
			if len(beams) != 1 || beams[0].Score != sat.Clamp(score) {
				t.Errorf("score %d, row %v: %v", score, row, beams)
			}
		}
	}
}

// roomy is a list with marked room behind its end.
func roomy[M any](list []M, mark M) []M {
	return append(slices.Clone(list), mark, mark, mark)[:len(list)]
}

// roomyBeams is beams with marked room behind them and behind each one's tokens.
func roomyBeams(l []Beam) []Beam {
	list := slices.Clone(l)
	for i := range list {
		list[i].Tokens = roomy(list[i].Tokens, 77)
	}
	return roomy(list, Beam{Score: 77})
}

// roomyRows is rows with marked room behind them and behind each one's scores.
func roomyRows(scores [][]int64, mark int64) [][]int64 {
	list := slices.Clone(scores)
	for i := range list {
		list[i] = roomy(list[i], mark)
	}
	return roomy(list, []int64{mark})
}

// untouched tells whether a list with marked room is as it was made.
func untouched[M any](list, was []M, mark M, equal func(a, b M) bool) bool {
	return slices.EqualFunc(list[:len(list)+3], append(slices.Clone(was), mark, mark, mark), equal)
}

func equal[M comparable](a, b M) bool { return a == b }

func checkHandedIn(t *testing.T, handed, l []Beam, rows, scores [][]int64, mark int64) {
	t.Helper()
	if !untouched(handed, l, Beam{Score: 77}, same) || !untouched(rows, scores, []int64{mark}, slices.Equal) {
		t.Errorf("beams %v or scores %v were changed", l, scores)
	}
	for i, b := range l {
		if !untouched(handed[i].Tokens, b.Tokens, 77, equal) {
			t.Errorf("tokens of %v were changed, or the room behind them", b)
		}
	}
	for i, row := range scores {
		if !untouched(rows[i], row, mark, equal) {
			t.Errorf("the row %v was changed, or the room behind it", row)
		}
	}
}

// R4: what is handed in is not changed, nor what lies in the room behind it, and that is not read.
func TestHandedIn(t *testing.T) {
	for seed := range uint64(500) {
		l, scores := several(seed)
		for _, mark := range []int64{least, 77, most} {
			for width := 0; width <= 5; width++ {
				handed, rows := roomyBeams(l), roomyRows(scores, mark)
				checkGrow(t, handed, rows, width, 3, 1)
				checkGrow(t, handed, rows[:max(len(rows)-1, 0)], width, 3, 1)
				checkBest(t, handed, width*13, wantBest(l, width*13))
				for i, b := range l {
					checkFinal(t, handed[i], width*13, wantFinal(b, width*13))
				}
				checkHandedIn(t, handed, l, rows, scores, mark)
			}
		}
	}
}

// scribble changes all of a list, and what lies in the room behind it.
func scribble(list []int) {
	list = list[:cap(list)]
	for i := range list {
		list[i] = -999
	}
}

// R4: a change of one beam's tokens, or of the room behind them, is seen in no other beam and in nothing that was handed in.
func TestNewTokens(t *testing.T) {
	for seed := range uint64(500) {
		l, scores := several(seed)
		handed, rows := roomyBeams(l), roomyRows(scores, 77)
		want, _, _ := wantGrow(l, scores, 4, 3, 1)
		beams, _, _ := Grow(handed, rows, 4, 3, 1)
		others, _, _ := Grow(handed, rows, 4, 3, 1)
		for i := range beams {
			scribble(beams[i].Tokens)
			if !slices.EqualFunc(beams[i+1:], want[i+1:], same) || !slices.EqualFunc(others, want, same) {
				t.Errorf("a change at %d is seen in %v or %v, which were %v", i, beams, others, want)
			}
		}
		checkHandedIn(t, handed, l, rows, scores, 77)
	}
}

// R4: what is handed in is not kept: a change of it is not seen in what was handed out.
func TestNotKept(t *testing.T) {
	for seed := range uint64(500) {
		l, scores := several(seed)
		want, wantPlaces, _ := wantGrow(l, scores, 4, 3, 1)
		handed, rows := roomyBeams(l), roomyRows(scores, 77)
		beams, places, _ := Grow(handed, rows, 4, 3, 1)
		for i := range handed {
			scribble(handed[i].Tokens)
			handed[i].Score, handed[i].Done = 5, !handed[i].Done
		}
		for _, row := range rows {
			clear(row)
		}
		if !slices.EqualFunc(beams, want, same) || !slices.Equal(places, wantPlaces) {
			t.Errorf("%v, %v, not %v, %v", beams, places, want, wantPlaces)
		}
	}
}

// R4: places and beams of one answer are those of no other.
func TestNewLists(t *testing.T) {
	l, scores := []Beam{{}, {Tokens: []int{4}, Done: true}}, [][]int64{{1, 2, 3}}
	want, wantPlaces, _ := wantGrow(l, scores, 4, 3, 1)
	first, firstPlaces, _ := Grow(l, scores, 4, 3, 1)
	second, secondPlaces, _ := Grow(l, scores, 4, 3, 1)
	scribble(firstPlaces)
	clear(first[:cap(first)])
	if !slices.EqualFunc(second, want, same) || !slices.Equal(secondPlaces, wantPlaces) {
		t.Errorf("%v, %v, not %v, %v", second, secondPlaces, want, wantPlaces)
	}
	checkGrow(t, l, scores, 4, 3, 1)
}

// R1: no call ends in a panic, whatever is handed in.
func TestNoPanic(t *testing.T) {
	for seed := range uint64(5000) {
		l, scores := several(seed)
		numbers := mixed(6, seed+9)
		if seed%3 == 0 {
			scores = append(scores, mixed(int(seed%4), seed))
		}
		if seed%5 == 0 {
			l = append(l, Beam{Tokens: []int{least, -1, most}, Score: numbers[4], Done: seed%2 == 0})
		}
		width := int(numbers[0])
		if seed%2 == 0 {
			width = int(seed % 6)
		}
		checkGrow(t, l, scores, width, int(numbers[1]), int(numbers[2]))
		checkBest(t, l, int(numbers[3]), wantBest(l, int(numbers[3])))
		for _, b := range l {
			checkFinal(t, b, int(numbers[5]), wantFinal(b, int(numbers[5])))
		}
	}
}
