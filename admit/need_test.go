package admit

import (
	"math"
	"math/big"
	"slices"
	"testing"

	"aviary/api"
	"aviary/gen"
)

// small is the least configuration that there is: eight rows to a page.
var small = api.Config{Dim: 2, Heads: 1, Layers: 1, Vocab: 2, Hidden: 1}

// kinds is all kinds that there are.
func kinds() []int { return []int{api.Greedy, api.Sample, api.Beam, api.Embed} }

// plain is an ask of a kind that is right for each configuration.
func plain(kind int) api.Ask {
	return api.Ask{Kind: kind, Prompt: []int{1, 0}, Length: 3, Stop: -1, Seed: 9, TopK: 2, Heat: 0.5, Beams: 2, Penalty: 16}
}

// weighty is numbers of weights, each with its pages, reckoned by hand.
func weighty() [][2]int {
	return [][2]int{
		{least, 0}, {least + 1, 0}, {-1 << 32, 0}, {-33, 0}, {-32, 0}, {-1, 0}, {0, 0}, {1, 1}, {2, 1}, {31, 1}, {32, 1}, {33, 2},
		{63, 2}, {64, 2}, {65, 3}, {256, 8}, {257, 9}, {1 << 32, 1 << 27}, {1<<32 + 1, 1<<27 + 1},
		{most - 31, 1<<58 - 1}, {most - 30, 1 << 58}, {most - 1, 1 << 58}, {most, 1 << 58},
	}
}

// checkNeed holds Need against a number of pages.
func checkNeed(t *testing.T, c api.Config, a api.Ask, weights, want int) {
	t.Helper()
	if n := Need(c, a, weights); n != want {
		t.Errorf("Need(%+v, %+v, %d): %d, not %d", c, a, weights, n, want)
	}
}

// laid is how many pages rows of a width take, laid row by row.
func laid(rows, width int) int {
	pages, left := 0, 0
	for range rows {
		if left < width {
			pages, left = pages+1, 32
		}
		left -= width
	}
	return pages
}

// wantNeed is Need of a right ask, by numbers without bounds.
func wantNeed(c api.Config, a api.Ask, weights int) int {
	rows, sequences := len(a.Prompt)+a.Length, 1
	if a.Kind == api.Embed {
		rows = len(a.Prompt)
	}
	if a.Kind == api.Beam {
		sequences = a.Beams
	}
	need := 0
	for range sequences {
		need += laid(rows, (c.Dim+c.Dim)*c.Layers)
		if sequences > 1 {
			need++
		}
	}
	if weights > 0 {
		whole, rest := new(big.Int).DivMod(exact(weights), exact(32), new(big.Int))
		need += int(whole.Int64())
		if rest.Sign() > 0 {
			need++
		}
	}
	return need
}

// shapes is right configurations of all widths, with what a page holds of their rows.
func shapes() map[api.Config]int {
	return map[api.Config]int{
		small: 8,
		{Dim: 2, Heads: 1, Layers: 2, Vocab: 16, Hidden: 8, Window: 3}:                      4,
		{Dim: 4, Heads: 1, Layers: 1, Vocab: 3, Hidden: 2, Experts: 2, TopK: 1}:             4,
		{Dim: 4, Heads: 2, Layers: 2, Vocab: 2, Hidden: 3, Window: 16}:                      2,
		{Dim: 6, Heads: 3, Layers: 1, Vocab: 7, Hidden: 1}:                                  2,
		{Dim: 6, Heads: 1, Layers: 2, Vocab: 2, Hidden: 8, Experts: 4, TopK: 4}:             1,
		{Dim: 8, Heads: 4, Layers: 1, Vocab: 5, Hidden: 4, Experts: 3, TopK: 2}:             2,
		{Dim: 8, Heads: 1, Layers: 2, Vocab: 16, Hidden: 8, Experts: 4, Window: 1, TopK: 1}: 1,
	}
}

// askOfRows is a right ask of a kind that takes so many rows, at least 2 of them but of Embed.
func askOfRows(kind, rows int) api.Ask {
	a := plain(kind)
	a.Prompt, a.Length = []int{1}, rows-1
	if kind == api.Embed {
		a.Prompt = slices.Repeat([]int{1}, rows)
	}
	return a
}

// checkRows holds Need of so many rows, of each kind and in each number of sequences, against their pages.
func checkRows(t *testing.T, c api.Config, rows, pages int) {
	t.Helper()
	if rows < 1 || rows > api.MaxLen {
		return
	}
	checkNeed(t, c, askOfRows(api.Embed, rows), 0, pages)
	if rows == 1 {
		return
	}
	checkNeed(t, c, askOfRows(api.Greedy, rows), 0, pages)
	checkNeed(t, c, askOfRows(api.Sample, rows), 0, pages)
	a := askOfRows(api.Beam, rows)
	for beams, want := range []int{1: pages, 2: 2*pages + 2, 3: 3*pages + 3, 4: 4*pages + 4} {
		if a.Beams = beams; beams > 0 {
			checkNeed(t, c, a, 0, want)
		}
	}
}

// 22.2: rows that fill their pages exactly, one more and one less, at each width.
func TestNeedAroundPages(t *testing.T) {
	for c, each := range shapes() {
		for pages := 1; pages*each <= api.MaxLen; pages++ {
			checkRows(t, c, pages*each, pages)
			checkRows(t, c, pages*each+1, pages+1)
			if each == 1 {
				checkRows(t, c, pages-1, pages-1)
				continue
			}
			checkRows(t, c, pages*each-1, pages)
		}
	}
}

// 22.2: answers that are reckoned by hand.
func TestNeedByHand(t *testing.T) {
	five := []int{0, 1, 0, 1, 0}
	for kind, want := range map[int]int{api.Greedy: 2, api.Sample: 2, api.Embed: 1, api.Beam: 6} {
		a := plain(kind)
		a.Prompt, a.Length = five, 4
		checkNeed(t, small, a, 0, want)
		checkNeed(t, small, a, 33, want+2)
	}
	wide := api.Config{Dim: 8, Heads: 1, Layers: 2, Vocab: 2, Hidden: 1}
	rest := api.Config{Dim: 6, Heads: 1, Layers: 1, Vocab: 2, Hidden: 1}
	for beams, want := range map[int][3]int{1: {2, 9, 5}, 2: {6, 20, 12}, 3: {9, 30, 18}, 4: {12, 40, 24}} {
		a := plain(api.Beam)
		a.Prompt, a.Length, a.Beams = five, 4, beams
		checkNeed(t, small, a, 0, want[0])
		checkNeed(t, wide, a, 0, want[1])
		checkNeed(t, rest, a, 0, want[2])
		checkNeed(t, rest, a, 1, want[2]+1)
	}
	long := api.Ask{Kind: api.Beam, Prompt: []int{1}, Length: 23, Stop: 1, Beams: 4, Penalty: 64}
	checkNeed(t, wide, long, 0, 100)
	checkNeed(t, small, long, 0, 16)
}

// 22.2: an adapter's weights are as many pages more as hold them, at the edges of a page, and at the least and the greatest number.
func TestNeedWeights(t *testing.T) {
	for c := range shapes() {
		for _, kind := range kinds() {
			a := plain(kind)
			bare := Need(c, a, 0)
			for _, w := range weighty() {
				checkNeed(t, c, a, w[0], bare+w[1])
				checkNeed(t, c, a, w[0], wantNeed(c, a, w[0]))
			}
		}
	}
}

// 22.2: each right prompt and length of each kind, at each width; what is of other kinds does not matter.
func TestNeedOfAll(t *testing.T) {
	for c := range shapes() {
		for count := 1; count <= api.MaxLen; count++ {
			prompt := slices.Repeat([]int{1}, count)
			embed := api.Ask{Kind: api.Embed, Prompt: prompt, Length: most, Stop: most, TopK: least, Beams: 4, Penalty: -1, Heat: math.NaN()}
			checkNeed(t, c, embed, 40, wantNeed(c, embed, 40))
			for length := 1; length <= api.MaxLen-count; length++ {
				for _, kind := range []int{api.Greedy, api.Sample} {
					a := api.Ask{Kind: kind, Prompt: prompt, Length: length, Stop: 0, TopK: 1, Beams: 4, Penalty: most}
					checkNeed(t, c, a, 40, wantNeed(c, a, 40))
				}
				for beams := 1; beams <= api.MaxBeams; beams++ {
					a := api.Ask{Kind: api.Beam, Prompt: prompt, Length: length, Stop: -7, TopK: most, Heat: math.NaN(), Beams: beams}
					checkNeed(t, c, a, 40, wantNeed(c, a, 40))
				}
			}
		}
	}
}

// unfit is a configuration and an ask of which one is not right, or too long.
type unfit struct {
	name string
	c    api.Config
	a    api.Ask
}

// wrongConfigs is configurations that are not right, by each of their numbers; also such whose rows would be wider than a page.
func wrongConfigs() []api.Config {
	var list []api.Config
	change := func(set func(c *api.Config, n int), numbers ...int) {
		for _, n := range append(numbers, least, most) {
			c := small
			set(&c, n)
			list = append(list, c)
		}
	}
	change(func(c *api.Config, n int) { c.Dim = n }, -2, 0, 1, 3, 10, 16, 32)
	change(func(c *api.Config, n int) { c.Heads = n }, -1, 0, 2)
	change(func(c *api.Config, n int) { c.Layers = n }, -1, 0, 3, 8, 16)
	change(func(c *api.Config, n int) { c.Vocab = n }, -1, 0, 1, 17)
	change(func(c *api.Config, n int) { c.Hidden = n }, -1, 0, 9)
	change(func(c *api.Config, n int) { c.Experts = n }, -1, 1, 2, 5)
	change(func(c *api.Config, n int) { c.TopK = n }, -1, 1)
	change(func(c *api.Config, n int) { c.Window = n }, -1, 17)
	return append(list, api.Config{}, api.Config{Dim: 8, Heads: 1, Layers: 3, Vocab: 2, Hidden: 1})
}

// unfits is all reasons for which gen.Check does not take an ask.
func unfits() []unfit {
	var list []unfit
	add := func(name string, kind int, set func(a *api.Ask)) {
		a := plain(kind)
		set(&a)
		list = append(list, unfit{name, small, a})
	}
	for _, c := range wrongConfigs() {
		for _, kind := range kinds() {
			list = append(list, unfit{"configuration", c, plain(kind)})
		}
	}
	for _, kind := range []int{least, -1, 0, 5, most} {
		add("kind", kind, func(a *api.Ask) {})
	}
	for _, kind := range kinds() {
		add("no prompt", kind, func(a *api.Ask) { a.Prompt = nil })
		add("empty prompt", kind, func(a *api.Ask) { a.Prompt = []int{} })
		add("token below 0", kind, func(a *api.Ask) { a.Prompt = []int{0, -1} })
		add("token of Vocab", kind, func(a *api.Ask) { a.Prompt = []int{2, 0} })
		add("prompt too long", kind, func(a *api.Ask) { a.Prompt = make([]int, 25) })
		if kind == api.Embed {
			continue
		}
		for _, length := range []int{least, -1, 0, 23, 24, 1 << 32, most} {
			add("length", kind, func(a *api.Ask) { a.Length = length })
		}
		add("stop", kind, func(a *api.Ask) { a.Stop = 2 })
		add("stop far off", kind, func(a *api.Ask) { a.Stop = most })
	}
	for _, n := range []int{least, -1, 0, 3, most} {
		add("k", api.Sample, func(a *api.Ask) { a.TopK = n })
	}
	add("heat", api.Sample, func(a *api.Ask) { a.Heat = math.NaN() })
	for _, n := range []int{least, -1, 0, 5, most} {
		add("beams", api.Beam, func(a *api.Ask) { a.Beams = n })
	}
	for _, n := range []int{least, -1, 65, most} {
		add("penalty", api.Beam, func(a *api.Ask) { a.Penalty = n })
	}
	return list
}

// 22.2: of what gen.Check does not take nothing is needed, for whatever reason, and whatever the weights.
func TestNeedOfUnfit(t *testing.T) {
	for _, u := range unfits() {
		if gen.Check(u.c, u.a) == api.OK {
			t.Fatalf("%s: %+v, %+v is right", u.name, u.c, u.a)
		}
		for _, w := range weighty() {
			if n := Need(u.c, u.a, w[0]); n != 0 {
				t.Errorf("%s: Need(%+v, %+v, %d): %d, not 0", u.name, u.c, u.a, w[0], n)
			}
		}
	}
}

// config is a drawn right configuration.
func (d *dice) config() api.Config {
	dims := [][2]int{{2, 1}, {4, 1}, {4, 2}, {6, 1}, {6, 3}, {8, 1}, {8, 2}, {8, 4}}
	experts := [][2]int{{0, 0}, {2, 1}, {2, 2}, {3, 2}, {4, 1}, {4, 4}}
	dim, chosen := dims[d.roll(8)], experts[d.roll(6)]
	return api.Config{
		Dim: dim[0], Heads: dim[1], Layers: 1 + d.roll(2), Vocab: 2 + d.roll(15), Hidden: 1 + d.roll(8),
		Experts: chosen[0], TopK: chosen[1], Window: d.roll(17),
	}
}

// ask is a drawn ask that is right for a vocabulary.
func (d *dice) ask(vocab int) api.Ask {
	count := 1 + d.roll(23)
	prompt := make([]int, count)
	for i := range prompt {
		prompt[i] = d.roll(vocab)
	}
	return api.Ask{
		Kind: 1 + d.roll(4), Prompt: prompt, Length: 1 + d.roll(24-count), Stop: d.roll(vocab+1) - 1,
		TopK: 1 + d.roll(vocab), Heat: []float64{-1, 0, 0.5, math.Inf(1)}[d.roll(4)], Beams: 1 + d.roll(4), Penalty: d.roll(65),
	}
}

// wildConfig is a configuration of which some numbers may be any.
func (d *dice) wildConfig() api.Config {
	c := d.config()
	for _, field := range []*int{&c.Dim, &c.Heads, &c.Layers, &c.Vocab, &c.Hidden, &c.Experts, &c.TopK, &c.Window} {
		if d.roll(12) == 0 {
			*field = d.any()
		}
	}
	return c
}

// wildAsk is an ask of which some numbers may be any.
func (d *dice) wildAsk() api.Ask {
	a := d.ask(2 + d.roll(15))
	for _, field := range []*int{&a.Kind, &a.Length, &a.Stop, &a.TopK, &a.Beams, &a.Penalty, &a.Prompt[0]} {
		if d.roll(12) == 0 {
			*field = d.any()
		}
	}
	if d.roll(12) == 0 {
		a.Heat = []float64{math.NaN(), math.Inf(-1), math.MaxFloat64}[d.roll(3)]
	}
	if d.roll(12) == 0 {
		a.Prompt = make([]int, d.roll(60))
	}
	return a
}

// 22.2: drawn configurations and asks, right ones and others, held against the chapter's words.
func TestNeedDrawn(t *testing.T) {
	d := &dice{state: 222}
	fits := 0
	for range 60000 {
		c, a, weights := d.wildConfig(), d.wildAsk(), d.any()
		if gen.Check(c, a) != api.OK {
			checkNeed(t, c, a, weights, 0)
			continue
		}
		fits++
		checkNeed(t, c, a, weights, wantNeed(c, a, weights))
	}
	if fits < 10000 || fits > 50000 {
		t.Errorf("%d of 60000 were right", fits)
	}
}
