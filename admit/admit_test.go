package admit

import (
	"math"
	"math/big"
	"slices"
	"testing"

	"aviary/api"
)

const (
	least = math.MinInt
	most  = math.MaxInt
)

// ends is numbers that are far off, or at the ends of a smaller kind of number.
func ends() []int {
	return []int{least, least + 1, -1 << 32, -1<<32 + 1, -1 << 31, -1 << 16, -256, -17, -2, -1, 1 << 16, 1<<16 + 1, 1 << 31, 1 << 32, 1<<32 + 1, 1 << 62, most - 1, most}
}

// near is the ends, and numbers around 0 and around the greatest queue.
func near() []int {
	return append(ends(), 0, 1, 2, 3, 14, 15, 16, 17, 18, 256)
}

// errnos is each outcome and error that there is, and numbers that are none.
func errnos() []api.Errno {
	list := []api.Errno{
		api.OK, api.Malformed, api.UnknownModel, api.VersionTaken, api.TooLong, api.QueueFull, api.OutOfMemory, api.Cancelled, api.Draining,
		api.ErrRange, api.ErrShape, api.ErrShort, api.ErrMore, api.ErrSum, api.ErrNone, api.ErrTwice, api.ErrState, api.ErrNan, api.ErrCommand,
	}
	for _, none := range []int{9, 19, 29, 69, 71, 255, 256, -1, -8, least, 1 << 32, 1<<32 + 1, most} {
		list = append(list, api.Errno(none))
	}
	return list
}

// dice draws numbers, the same ones each time for a state.
type dice struct {
	state uint64
}

// roll is a number from 0 to one less than the sides.
func (d *dice) roll(sides int) int {
	d.state += 0x9E3779B97F4A7C15
	z := d.state
	z = (z ^ z>>30) * 0xBF58476D1CE4E5B9
	z = (z ^ z>>27) * 0x94D049BB133111EB
	return int((z ^ z>>31) % uint64(sides))
}

// flip is true one time of two.
func (d *dice) flip() bool { return d.roll(2) == 0 }

// any is a number of any size, most often one at an edge.
func (d *dice) any() int {
	if d.roll(3) == 0 {
		return d.roll(40) - 8
	}
	list := near()
	return list[d.roll(len(list))]
}

// errno is any of the errnos, OK half of the time.
func (d *dice) errno() api.Errno {
	if d.flip() {
		return api.OK
	}
	list := errnos()
	return list[d.roll(len(list))]
}

// exact is a number as one without bounds.
func exact(n int) *big.Int { return big.NewInt(int64(n)) }

// greater tells whether the one number is above the other.
func greater(a, b int) bool { return exact(a).Cmp(exact(b)) > 0 }

// The chapter's examples.
func TestExamples(t *testing.T) {
	f := Facts{Tenant: true, Model: true, Adapter: true, Need: 3, Room: 3}
	checkDecide(t, f, api.OK)
	f.Room = 2
	checkDecide(t, f, api.OutOfMemory)
	checkDecide(t, Facts{}, api.Malformed)
	checkDecide(t, Facts{Twice: true, Draining: true, Asked: api.TooLong, Waiting: 16, Need: 3, Room: 2}, api.Malformed)
	c := api.Config{Dim: 2, Heads: 1, Layers: 1, Vocab: 2, Hidden: 1}
	a := api.Ask{Kind: api.Greedy, Prompt: []int{0, 1, 0, 1, 0}, Length: 4, Stop: -1}
	checkNeed(t, c, a, 0, 2)
}

// R4: a prompt, and the spare room behind its end, are left as they are.
func TestPromptIsNotChanged(t *testing.T) {
	room := []int{1, 0, 1, 0, 77, -5, 1 << 40}
	ahead := slices.Clone(room)
	for _, kind := range kinds() {
		a := plain(kind)
		a.Prompt = room[1:4]
		Need(small, a, 40)
		a.Length = most
		Need(small, a, 40)
		if !slices.Equal(room, ahead) {
			t.Fatalf("kind %d: the prompt's room is %v, not %v", kind, room, ahead)
		}
	}
}

// R1: whatever is handed in, no call ends in a panic.
func TestNoPanic(t *testing.T) {
	d := &dice{state: 1}
	for range 200000 {
		Decide(d.facts())
		Load(d.flip(), d.flip(), d.any(), d.any(), d.any())
		Need(d.wildConfig(), d.wildAsk(), d.any())
	}
	Decide(Facts{})
	Need(api.Config{}, api.Ask{}, 0)
}
