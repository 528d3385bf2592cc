package tests

import (
	"math"
	"slices"
	"strconv"
	"testing"

	"loop.example/g00401/impl"
)

// markedHand is what fills the room behind a list of hands.
var markedHand = impl.Hand{Kind: spare, Key: spare, Value: spare, Step: spare, Left: spare, Here: spare, Own: spare, Told: spare}

// roomyHands has these hands and room behind them.
func roomyHands(list ...impl.Hand) []impl.Hand {
	out := append(make([]impl.Hand, 0, len(list)+3), list...)
	for i := len(list); i < cap(out); i++ {
		out[:cap(out)][i] = markedHand
	}
	return out
}

// wholeHands reads hands with the room behind them.
func wholeHands(hands []impl.Hand) []impl.Hand { return slices.Clone(hands[:cap(hands)]) }

func wholeCrew(c impl.Crew) impl.Crew {
	return impl.Crew{Heap: wholeHeap(c.Heap), Hands: wholeHands(c.Hands)}
}

// spoilCrew writes over both lists and into the room behind them.
func spoilCrew(c impl.Crew) {
	spoilHeap(c.Heap)
	for i := range c.Hands[:cap(c.Hands)] {
		c.Hands[:cap(c.Hands)][i] = impl.Hand{Kind: -spare, Key: -spare, Step: -spare, Own: -spare}
	}
}

func crewOf(h []impl.Cell, hands ...impl.Hand) impl.Crew {
	return impl.Crew{Heap: h, Hands: roomyHands(hands...)}
}

func copyOf(c impl.Crew) impl.Crew {
	return impl.Crew{Heap: slices.Clone(c.Heap), Hands: slices.Clone(c.Hands)}
}

func sameCrew(a, b impl.Crew) bool {
	return slices.Equal(a.Heap, b.Heap) && slices.Equal(a.Hands, b.Hands)
}

func isZeroCrew(c impl.Crew) bool { return len(c.Heap) == 0 && len(c.Hands) == 0 }

// wantedCrewOk takes the words of the document one by one.
func wantedCrewOk(c impl.Crew) bool {
	if !wantedHeap(c.Heap) || len(c.Hands) > 4 {
		return false
	}
	owners := map[int64]int{}
	for _, w := range c.Hands {
		owners[w.Own]++
		if !wantedHand(c.Heap, w) || w.Own != -1 && owners[w.Own] > 1 {
			return false
		}
	}
	return true
}

// wantedPicked moves by the model of chapter 5.
func wantedPicked(c impl.Crew, who int64) (impl.Crew, bool) {
	if !wantedCrewOk(c) {
		return impl.Crew{}, false
	}
	out := copyOf(c)
	if who < 0 || who > int64(len(c.Hands))-1 || c.Hands[who].Step == impl.SpDone {
		return out, false
	}
	out.Heap, out.Hands[who] = wantedMoved(c.Heap, c.Hands[who])
	return out, true
}

func checkPicked(t *testing.T, c impl.Crew, who int64) impl.Crew {
	t.Helper()
	want, can := wantedPicked(c, who)
	got, ok := impl.Picked(c, who)
	if ok != can || !sameCrew(got, want) {
		t.Fatalf("Picked(%+v, %d) = %+v, %v, want %+v, %v", c, who, got, ok, want, can)
	}
	if impl.CrewOk(c) != impl.CrewOk(got) {
		t.Fatalf("Picked(%+v, %d) = %+v: CrewOk %v, was %v", c, who, got, impl.CrewOk(got), impl.CrewOk(c))
	}
	return got
}

// rolls are numbers that hang on seed.
func rolls(seed uint64) func(below int) int64 {
	return func(below int) int64 {
		seed = seed*6364136223846793005 + 1442695040888963407
		return int64(seed>>33) % int64(below)
	}
}

// moment is a new crew behind some picks, and what each hand that began and is not done could have seen.
type moment struct {
	cells     [5]impl.Cell
	hands     [4]impl.Hand
	cellCount int
	handCount int
	saw       [4][2]bool // whether its Key was not Living, and was Living, at a moment behind its first move
}

func momentOf(t *testing.T, c impl.Crew, saw [4][2]bool) moment {
	t.Helper()
	if len(c.Heap) > 5 || len(c.Hands) > 4 {
		t.Fatalf("one cell a hand, and cell 0, are enough: %+v", c)
	}
	m := moment{cellCount: len(c.Heap), handCount: len(c.Hands), saw: saw}
	copy(m.cells[:], c.Heap)
	copy(m.hands[:], c.Hands)
	return m
}

func (m moment) crew() impl.Crew {
	return impl.Crew{Heap: slices.Clone(m.cells[:m.cellCount]), Hands: slices.Clone(m.hands[:m.handCount])}
}

// checkLiving is the first half of promise 6, at one pick: w is who was picked, behind it.
func checkLiving(t *testing.T, before, after impl.Crew, w impl.Hand) {
	t.Helper()
	want, living := impl.Living(before.Heap), impl.Living(after.Heap)
	place, is := slices.BinarySearch(want, w.Key)
	if w.Step == impl.SpDone && w.Told == 1 {
		switch {
		case w.Kind == impl.HnPut && !is:
			want = slices.Insert(want, place, w.Key)
		case w.Kind == impl.HnTake && is:
			want = slices.Delete(want, place, place+1)
		case w.Kind != impl.HnLook:
			t.Fatalf("%+v says yes at Living %v", w, want)
		}
		if v, _ := impl.ValueAt(after.Heap, w.Key); w.Kind == impl.HnPut && v != w.Value {
			t.Fatalf("%+v says yes, but the Value there is %d", w, v)
		}
	}
	if !slices.Equal(living, want) {
		t.Fatalf("%+v: Living %v, want %v: %+v, %+v", w, living, want, before, after)
	}
}

// checkSaw is the other half of promise 6, of a hand that is just done.
func checkSaw(t *testing.T, saw [2]bool, w impl.Hand) {
	t.Helper()
	there := 0
	switch {
	case w.Step != impl.SpDone, w.Kind != impl.HnLook && w.Told == 1:
		return
	case w.Kind == impl.HnLook && w.Told == 1, w.Kind == impl.HnPut:
		there = 1
	}
	if !saw[there] {
		t.Fatalf("%+v: not so at any moment between its first move and its last", w)
	}
}

// behind is the moment behind one pick, with promise 6 asked of it.
func (m moment) behind(t *testing.T, who int64) moment {
	t.Helper()
	before := m.crew()
	c, ok := impl.Picked(before, who)
	if !ok || !impl.CrewOk(c) {
		t.Fatalf("Picked(%+v, %d) = %+v, %v", before, who, c, ok)
	}
	if heap, w := impl.Moved(before.Heap, before.Hands[who]); !slices.Equal(c.Heap, heap) || c.Hands[who] != w {
		t.Fatalf("Picked(%+v, %d) = %+v, but Moved = %v, %+v", before, who, c, heap, w)
	}
	checkLiving(t, before, c, c.Hands[who])
	checkSaw(t, m.saw[who], c.Hands[who])
	living := impl.Living(c.Heap)
	saw := m.saw
	for i, w := range c.Hands {
		if int64(i) != who && w != before.Hands[i] {
			t.Fatalf("Picked(%+v, %d) = %+v: hand %d is another one", before, who, c, i)
		}
		there := 0
		if slices.Contains(living, w.Key) {
			there = 1
		}
		began := int64(i) == who || m.saw[i] != [2]bool{}
		switch {
		case w.Step == impl.SpDone:
			saw[i] = [2]bool{}
		case began:
			saw[i][there] = true
		}
	}
	return momentOf(t, c, saw)
}

// checkEachAlone: whatever was picked, each hand alone comes to its end, by Alone and by picks of it and no other.
func checkEachAlone(t *testing.T, c impl.Crew) {
	t.Helper()
	for i, w := range c.Hands {
		heap, done := impl.Alone(c.Heap, w)
		alone := impl.Ran(c, slices.Repeat([]int64{int64(i)}, 100))
		if done.Step != impl.SpDone || len(alone.Hands) != len(c.Hands) || alone.Hands[i] != done || !slices.Equal(alone.Heap, heap) {
			t.Fatalf("hand %d of %+v alone: %+v, %v, picked alone: %+v", i, c, done, heap, alone)
		}
	}
}

// endings counts how hands ended, by Kind and Told, and how often one had to begin again.
type endings struct {
	told    [4][3]int
	again   int
	moments int
}

// everyOrder goes through all moments that a crew can come to, whatever is picked.
func everyOrder(t *testing.T, hands []impl.Hand, alone bool, ends *endings) {
	t.Helper()
	c, ok := impl.NewCrew(hands)
	if !ok {
		t.Fatalf("NewCrew(%+v)", hands)
	}
	first := momentOf(t, c, [4][2]bool{})
	met, open := map[moment]bool{first: true}, []moment{first}
	for len(open) > 0 {
		m := open[len(open)-1]
		open = open[:len(open)-1]
		ends.moments++
		if alone {
			checkEachAlone(t, m.crew())
		}
		done := true
		for who, w := range m.hands[:m.handCount] {
			if w.Step == impl.SpDone {
				continue
			}
			done = false
			next := m.behind(t, int64(who))
			switch moved := next.hands[who]; moved.Step {
			case impl.SpDone:
				ends.told[moved.Kind][moved.Told]++
			case impl.SpStart:
				ends.again++
			}
			if !met[next] {
				met[next] = true
				open = append(open, next)
			}
		}
		if impl.AllDone(m.crew()) != done {
			t.Fatalf("AllDone(%+v) = %v", m.crew(), !done)
		}
	}
}

// mixes goes through all crews of so many hands of each Kind at these Keys; those that differ in their order alone come once.
func mixes(many int, keys []int64, visit func([]impl.Hand)) {
	var grow func(hands []impl.Hand, from int)
	grow = func(hands []impl.Hand, from int) {
		if len(hands) == many {
			visit(slices.Clone(hands))
			return
		}
		for sort := from; sort < 3*len(keys); sort++ {
			grow(append(slices.Clone(hands), newHand(int64(1+sort%3), keys[sort/3], 7)), sort)
		}
	}
	grow(nil, 0)
}

// numbered gives each hand a Value of its own.
func numbered(hands []impl.Hand) []impl.Hand {
	for i := range hands {
		hands[i].Value = int64(100 + i)
	}
	return hands
}

// check wants every answer of every Kind to have been given, and hands that began again.
func (e endings) check(t *testing.T) {
	t.Helper()
	for kind := 1; kind <= 3; kind++ {
		if e.told[kind][1] < 100 || e.told[kind][2] < 100 {
			t.Errorf("Kind %d: %d times yes, %d times no", kind, e.told[kind][1], e.told[kind][2])
		}
	}
	if e.again < 100 {
		t.Errorf("hands began again %d times", e.again)
	}
}

// TestAsIfAtOneMoment is promise 6 in every order of picks, of all new crews of one to four hands that put, take and look at these Keys.
func TestAsIfAtOneMoment(t *testing.T) {
	var ends endings
	crews := 0
	for many, keys := range [][]int64{1: {4, 6, 9}, 2: {1, 6, 65535}, 3: {4, 6, 9}, 4: {4, 6}} {
		mixes(many, keys, func(hands []impl.Hand) {
			crews++
			if everyOrder(t, numbered(hands), many < 4, &ends); many == 2 {
				slices.Reverse(hands)
				everyOrder(t, hands, true, &ends)
			}
		})
	}
	if ends.check(t); crews < 300 || ends.moments < 400000 {
		t.Errorf("%d crews, %d moments", crews, ends.moments)
	}
}

// TestAsIfAtOneMomentAlike is promise 6 where hands have the same Key and Value: they are told apart by their Own alone.
func TestAsIfAtOneMomentAlike(t *testing.T) {
	var ends endings
	for many := 1; many <= 4; many++ {
		mixes(many, []int64{5}, func(hands []impl.Hand) { everyOrder(t, hands, true, &ends) })
	}
	ends.check(t)
}

// turns are ways to pick among four: each at any time, in bursts, one behind the other, and one far ahead of the others.
func turns(shape int, roll func(int) int64) func() int64 {
	who, left := int64(0), int64(0)
	return func() int64 {
		switch left--; shape {
		case 0:
			who = roll(4)
		case 1:
			if left < 0 {
				who, left = roll(4), roll(9)
			}
		case 2:
			who = (who + 1) % 4
		case 3:
			who = max(roll(12)-8, 0)
		}
		return who
	}
}

// TestAsIfAtOneMomentInLongRuns is promise 6 of four hands at more Keys, until all are done; Ran of the same picks is held against them.
func TestAsIfAtOneMomentInLongRuns(t *testing.T) {
	keys := []int64{1, 2, 5, 5, 8, 65535}
	for seed := range uint64(3000) {
		roll := rolls(seed)
		var hands []impl.Hand
		for i := range int64(4) {
			hands = append(hands, newHand(1+roll(3), keys[roll(2+int(seed%5))], 10+i))
		}
		start, ok := impl.NewCrew(hands)
		if !ok {
			t.Fatalf("NewCrew(%+v)", hands)
		}
		m, turn := momentOf(t, start, [4][2]bool{}), turns(int(seed%4), roll)
		var picks []int64
		for len(picks) < 300 && !impl.AllDone(m.crew()) {
			picks = append(picks, turn())
			if who := picks[len(picks)-1]; m.hands[who].Step != impl.SpDone {
				checkPicked(t, m.crew(), who)
				m = m.behind(t, who)
			}
		}
		if c := impl.Ran(start, picks); !sameCrew(c, m.crew()) || !impl.AllDone(c) {
			t.Fatalf("Ran(%+v, %v) = %+v, want %+v", start, picks, c, m.crew())
		}
	}
}

// TestBothAnswers: whether one that looks sees what is put hangs on the order alone.
func TestBothAnswers(t *testing.T) {
	for _, c := range []struct {
		what  string
		picks []int64
		told  int64
	}{
		{"looks first", []int64{1, 1, 1, 0, 0, 0, 0}, 2},
		{"looks last", []int64{0, 0, 0, 0, 1, 1, 1}, 1},
		{"begins ahead of the link", []int64{0, 0, 0, 1, 0, 1, 1}, 2},
	} {
		crew, _ := impl.NewCrew([]impl.Hand{newHand(impl.HnPut, 5, 50), newHand(impl.HnLook, 5, 0)})
		crew = impl.Ran(crew, c.picks)
		if !impl.AllDone(crew) || crew.Hands[0].Told != 1 || crew.Hands[1].Told != c.told {
			t.Errorf("%s: %+v", c.what, crew)
		}
	}
}

// TestCrewStepByStep tells the whole crew behind each pick: two put the same Key, a third takes it, a fourth looks.
func TestCrewStepByStep(t *testing.T) {
	one, two, take, look := newHand(impl.HnPut, 5, 50), newHand(impl.HnPut, 5, 51), newHand(impl.HnTake, 5, 0), newHand(impl.HnLook, 5, 0)
	c, ok := impl.NewCrew([]impl.Hand{one, two, take, look})
	heap, hands := []impl.Cell{{Next: -1}}, []impl.Hand{one, two, take, look}
	if !ok || !slices.Equal(c.Heap, heap) || !slices.Equal(c.Hands, hands) {
		t.Fatalf("NewCrew = %+v, %v", c, ok)
	}
	mine, other := impl.Cell{Key: 5, Value: 50, Next: -1}, impl.Cell{Key: 5, Value: 51, Next: -1}
	struck := impl.Cell{Key: 5, Value: 51, Next: -1, Gone: true}
	for i, pick := range []struct {
		who  int64
		hand impl.Hand
		heap []impl.Cell
	}{
		{0, handAt(one, impl.SpWalk, 0, -1, -1), []impl.Cell{{Next: -1}}},
		{1, handAt(two, impl.SpWalk, 0, -1, -1), []impl.Cell{{Next: -1}}},
		{1, handAt(two, impl.SpAct, 0, -1, -1), []impl.Cell{{Next: -1}}},
		{0, handAt(one, impl.SpAct, 0, -1, -1), []impl.Cell{{Next: -1}}},
		{0, handAt(one, impl.SpLink, 0, -1, 1), []impl.Cell{{Next: -1}, mine}},
		{1, handAt(two, impl.SpLink, 0, -1, 2), []impl.Cell{{Next: -1}, mine, other}},
		{1, handDone(two, 2, 1), []impl.Cell{{Next: 2}, mine, other}},
		{0, handAt(one, impl.SpStart, -1, -1, 1), []impl.Cell{{Next: 2}, mine, other}},
		{3, handAt(look, impl.SpWalk, 0, 2, -1), []impl.Cell{{Next: 2}, mine, other}},
		{2, handAt(take, impl.SpWalk, 0, 2, -1), []impl.Cell{{Next: 2}, mine, other}},
		{2, handAt(take, impl.SpAct, 0, 2, -1), []impl.Cell{{Next: 2}, mine, other}},
		{2, handAt(take, impl.SpMark, 0, 2, -1), []impl.Cell{{Next: 2}, mine, other}},
		{2, handDone(take, -1, 1), []impl.Cell{{Next: 2}, mine, struck}},
		{0, handAt(one, impl.SpWalk, 0, 2, 1), []impl.Cell{{Next: 2}, mine, struck}},
		{0, handAt(one, impl.SpWalk, 0, -1, 1), []impl.Cell{{Next: -1}, mine, struck}},
		{0, handAt(one, impl.SpAct, 0, -1, 1), []impl.Cell{{Next: -1}, mine, struck}},
		{3, handAt(look, impl.SpStart, -1, -1, -1), []impl.Cell{{Next: -1}, mine, struck}},
		{0, handAt(one, impl.SpLink, 0, -1, 1), []impl.Cell{{Next: -1}, mine, struck}},
		{0, handDone(one, 1, 1), []impl.Cell{{Next: 1}, mine, struck}},
		{3, handAt(look, impl.SpWalk, 0, 1, -1), []impl.Cell{{Next: 1}, mine, struck}},
		{3, handAt(look, impl.SpAct, 0, 1, -1), []impl.Cell{{Next: 1}, mine, struck}},
		{3, handDone(look, -1, 1), []impl.Cell{{Next: 1}, mine, struck}},
	} {
		if impl.AllDone(c) {
			t.Fatalf("pick %d: all done: %+v", i, c)
		}
		hands[pick.who] = pick.hand
		if c, ok = impl.Picked(c, pick.who); !ok || !slices.Equal(c.Heap, pick.heap) || !slices.Equal(c.Hands, hands) {
			t.Fatalf("pick %d, of %d: %+v, %v, want %v, %+v", i, pick.who, c, ok, pick.heap, hands)
		}
	}
	if !impl.AllDone(c) || !impl.CrewOk(c) {
		t.Fatalf("not all done: %+v", c)
	}
}

// givenCrews are right crews at heaps that no new crew comes to.
func givenCrews() map[string]impl.Crew {
	put, take, look := newHand(impl.HnPut, 5, 51), newHand(impl.HnTake, 5, 0), newHand(impl.HnLook, 5, 0)
	return map[string]impl.Crew{
		"no hand":              crewOf(meeting()),
		"nil":                  {Heap: linked(40)},
		"one":                  crewOf(meeting(), put),
		"all alike":            crewOf(meeting(), look, look, look, look),
		"each step":            crewOf(meeting(), handAt(put, impl.SpLink, 1, 5, 6), handAt(take, impl.SpMark, 1, 3, -1), handAt(look, impl.SpAct, 1, 5, -1), handAt(look, impl.SpWalk, 1, 2, -1)),
		"two Owns":             crewOf(meeting(), handAt(put, impl.SpLink, 1, 5, 6), handAt(put, impl.SpLink, 1, -1, 12), put, handDone(put, 7, 1)),
		"some done":            crewOf(meeting(), handDone(look, -1, 2), handAt(put, impl.SpWalk, 9, 5, 12), handDone(put, 6, 2), take),
		"all done":             crewOf(meeting(), handDone(look, -1, 2), handDone(put, 12, 1), handDone(put, 6, 2), handDone(take, -1, 1)),
		"Gone all along":       crewOf(struckAll(linked(39)), newHand(impl.HnPut, 39, 7), newHand(impl.HnTake, 20, 0), newHand(impl.HnLook, 38, 0), newHand(impl.HnPut, 65535, 7)),
		"no room":              crewOf(linked(40), newHand(impl.HnPut, 65535, 7), newHand(impl.HnPut, 65534, 7), newHand(impl.HnTake, 39, 0), newHand(impl.HnLook, 39, 0)),
		"room for one":         crewOf(linked(39), newHand(impl.HnPut, 65535, 7), newHand(impl.HnPut, 65534, 7), newHand(impl.HnPut, 39, 7)),
		"several":              crewOf(several(), newHand(impl.HnPut, 6, 7), newHand(impl.HnTake, 4, 7), newHand(impl.HnTake, 9, 7)),
		"greatest and least":   crewOf(several(), newHand(impl.HnPut, 1, math.MinInt64), newHand(impl.HnPut, 65535, math.MaxInt64)),
		"cell 0 alone, no one": {Heap: impl.NewHeap(), Hands: []impl.Hand{}},
	}
}

// TestGivenCrews goes on from each of them in many orders, with picks that can't be among them.
func TestGivenCrews(t *testing.T) {
	for name, start := range givenCrews() {
		if !impl.CrewOk(start) {
			t.Fatalf("%s: not CrewOk", name)
		}
		for seed := range uint64(12) {
			roll, c := rolls(seed), start
			var picks []int64
			for range 300 {
				picks = append(picks, roll(6)-1)
				c = checkPicked(t, c, picks[len(picks)-1])
			}
			if got := impl.Ran(start, picks); !sameCrew(got, c) || impl.AllDone(start) && !sameCrew(got, start) {
				t.Fatalf("%s: Ran(%v) = %+v, want %+v", name, picks, got, c)
			}
			for many := range 80 {
				checkEachAlone(t, impl.Ran(start, picks[:many]))
			}
		}
	}
}

// TestPairsAtMeeting is two right hands in whatever steps: whether they are a crew, and each pick of it.
func TestPairsAtMeeting(t *testing.T) {
	hands, same, far := handsAtMeeting(), 0, 0
	for i, a := range hands {
		for j, b := range hands {
			want := a.Own == -1 || a.Own != b.Own
			if want && (i+7*j)%5 != 0 { // a part of these is enough
				continue
			}
			c := impl.Crew{Heap: meeting(), Hands: []impl.Hand{a, b}}
			if got := impl.CrewOk(c); got != want {
				t.Fatalf("CrewOk(%+v) = %v", c, got)
			}
			if want {
				far++
			} else {
				same++
			}
			for who := int64(-1); who <= 2; who++ {
				checkPicked(t, c, who)
			}
		}
	}
	if same < 1000 || far < 1000 {
		t.Fatalf("%d pairs of the same Own, %d others", same, far)
	}
}

func TestCrewOkHands(t *testing.T) {
	put, look := newHand(impl.HnPut, 5, 51), newHand(impl.HnLook, 5, 0)
	started := func(own int64) impl.Hand { return handAt(put, impl.SpStart, -1, -1, own) }
	for _, c := range []struct {
		what  string
		hands []impl.Hand
		want  bool
	}{
		{"nil", nil, true}, {"none", []impl.Hand{}, true}, {"room alone", roomyHands(), true}, {"one", []impl.Hand{put}, true},
		{"four", []impl.Hand{put, look, put, look}, true}, {"five", []impl.Hand{put, look, put, look, look}, false}, {"six", slices.Repeat([]impl.Hand{look}, 6), false},
		{"five done", slices.Repeat([]impl.Hand{handDone(look, -1, 1)}, 5), false}, {"a thousand", slices.Repeat([]impl.Hand{put}, 1000), false},
		{"-1 both", []impl.Hand{put, put}, true}, {"-1 all", []impl.Hand{put, put, put, put}, true}, {"-1 both, done", []impl.Hand{handDone(put, -1, 2), handDone(put, -1, 2)}, true},
		{"two Owns", []impl.Hand{started(6), started(12)}, true}, {"the same Own", []impl.Hand{started(6), started(6)}, false},
		{"the same Own, apart", []impl.Hand{started(12), look, put, started(12)}, false}, {"the same Own in the middle", []impl.Hand{look, started(12), started(12), put}, false},
		{"the same Own, in other steps", []impl.Hand{started(6), handAt(put, impl.SpLink, 1, 5, 6)}, false},
		{"that of another that is done", []impl.Hand{started(6), handDone(put, 6, 1)}, false}, {"done, and that of another", []impl.Hand{handDone(put, 6, 2), started(6)}, false},
		{"both done, the same", []impl.Hand{handDone(put, 6, 1), handDone(put, 6, 1)}, false}, {"both done, the same, Gone", []impl.Hand{handDone(put, 7, 1), handDone(put, 7, 2)}, false},
		{"both done, two Owns", []impl.Hand{handDone(put, 6, 1), handDone(put, 7, 1)}, true}, {"three Owns", []impl.Hand{started(6), handDone(put, 7, 1), started(12), look}, true},
		{"the zero Hand", []impl.Hand{{}}, false}, {"the zero Hand last", []impl.Hand{put, look, put, {}}, false},
	} {
		if got := impl.CrewOk(impl.Crew{Heap: meeting(), Hands: c.hands}); got != c.want {
			t.Errorf("%s: CrewOk = %v", c.what, got)
		}
	}
	if impl.CrewOk(impl.Crew{}) || impl.CrewOk(impl.Crew{Hands: []impl.Hand{look}}) || !impl.CrewOk(impl.Crew{Heap: impl.NewHeap()}) {
		t.Error("the zero Crew, hands without a heap, or a heap alone")
	}
}

func TestNewCrew(t *testing.T) {
	for many := range 8 {
		for kind := int64(1); kind <= 3; kind++ {
			hands := roomyHands(slices.Repeat([]impl.Hand{newHand(kind, 5, 50)}, many)...)
			c, ok := impl.NewCrew(hands)
			if want := many <= 4; ok != want || !want && !isZeroCrew(c) || want && !sameCrew(c, impl.Crew{Heap: []impl.Cell{{Next: -1}}, Hands: hands}) {
				t.Errorf("%d hands: NewCrew = %+v, %v", many, c, ok)
			}
			if impl.CrewOk(c) != ok || impl.AllDone(c) != (many == 0) {
				t.Errorf("%d hands: CrewOk %v, AllDone %v", many, impl.CrewOk(c), impl.AllDone(c))
			}
		}
	}
	for name, none := range map[string][]impl.Hand{"nil": nil, "empty": {}, "room alone": roomyHands()} {
		if c, ok := impl.NewCrew(none); !ok || !sameCrew(c, impl.Crew{Heap: impl.NewHeap()}) {
			t.Errorf("%s: NewCrew = %+v, %v", name, c, ok)
		}
	}
	least, greatest := newHand(impl.HnPut, 1, math.MinInt64), newHand(impl.HnTake, 65535, math.MaxInt64)
	if c, ok := impl.NewCrew([]impl.Hand{least, greatest}); !ok || !slices.Equal(c.Hands, []impl.Hand{least, greatest}) {
		t.Errorf("least and greatest: NewCrew = %+v, %v", c, ok)
	}
}

// TestNewCrewRefuses: one wrong hand, or one that has begun, at each place among right ones.
func TestNewCrewRefuses(t *testing.T) {
	put, take, look := newHand(impl.HnPut, 5, 51), newHand(impl.HnTake, 5, 0), newHand(impl.HnLook, 5, 0)
	wrong := append(wrongHands(),
		handAt(put, impl.SpWalk, 0, -1, -1), handAt(take, impl.SpWalk, 0, -1, -1), handAt(look, impl.SpAct, 0, -1, -1), handAt(take, impl.SpAct, 0, -1, -1),
		handDone(look, -1, 1), handDone(look, -1, 2), handDone(put, -1, 2), handDone(take, -1, 1), // these are right at a new heap, but have begun
		handAt(put, impl.SpStart, -1, -1, 0), handAt(put, impl.SpStart, -1, -1, 1), handAt(put, impl.SpLink, 0, -1, 1), handAt(take, impl.SpMark, 0, 1, -1),
		handAt(put, impl.SpStart, 0, -1, -1), handAt(put, impl.SpStart, -1, 0, -1), handAt(put, impl.SpStart, -1, -1, -2))
	for _, w := range wrong {
		for many := 1; many <= 5; many++ {
			for at := range many {
				hands := slices.Repeat([]impl.Hand{look}, many)
				hands[at] = w
				if c, ok := impl.NewCrew(hands); ok || !isZeroCrew(c) {
					t.Fatalf("NewCrew(%+v) = %+v, %v", hands, c, ok)
				}
			}
		}
	}
}

func TestPickedWho(t *testing.T) {
	put, look := newHand(impl.HnPut, 5, 51), newHand(impl.HnLook, 5, 0)
	for many := range 5 {
		c := crewOf(meeting(), slices.Repeat([]impl.Hand{put}, many)...)
		for _, who := range append([]int64{-3, -2, -1, 0, 1, 2, 3, 4, 5, 6}, outside...) {
			want, there := copyOf(c), who >= 0 && who < int64(many)
			if there {
				want.Hands[who] = handAt(put, impl.SpWalk, 0, 1, -1)
			}
			if got, ok := impl.Picked(c, who); ok != there || !sameCrew(got, want) {
				t.Errorf("%d hands: Picked(%d) = %+v, %v", many, who, got, ok)
			}
			if got := impl.Ran(c, []int64{who}); !sameCrew(got, want) {
				t.Errorf("%d hands: Ran(%d) = %+v", many, who, got)
			}
		}
	}
	c := crewOf(meeting(), look, handDone(look, -1, 1), handDone(put, 6, 2), put)
	for who, want := range []bool{true, false, false, true} {
		got, ok := impl.Picked(c, int64(who))
		if ok != want || sameCrew(got, c) == want {
			t.Errorf("Picked(%d) = %+v, %v", who, got, ok)
		}
	}
}

// TestRanManyPicks: 300 are accepted and the last of them counts; one more is refused, whatever they pick.
func TestRanManyPicks(t *testing.T) {
	c := crewOf(meeting(), newHand(impl.HnPut, 5, 51), handDone(newHand(impl.HnLook, 5, 0), -1, 1))
	moved, _ := impl.Picked(c, 0)
	for _, many := range []int{1, 2, 299, 300, 301, 302, 1000} {
		for _, idle := range []int64{1, 2, -1, math.MinInt64, math.MaxInt64} {
			for _, at := range []int{0, many / 2, many - 1} {
				picks := slices.Repeat([]int64{idle}, many)
				picks[at] = 0
				want := moved
				if many > 300 {
					want = impl.Crew{}
				}
				if got := impl.Ran(c, picks); !sameCrew(got, want) {
					t.Errorf("pick %d of %d: Ran = %+v", at, many, got)
				}
			}
		}
	}
	for name, none := range map[string][]int64{"nil": nil, "none": {}, "room alone": {0, 0, 0}} {
		if got := impl.Ran(c, none[:0]); !sameCrew(got, c) {
			t.Errorf("%s: Ran = %+v", name, got)
		}
	}
	done := impl.Ran(c, slices.Repeat([]int64{0}, 300))
	if !impl.AllDone(done) || done.Hands[0] != handDone(newHand(impl.HnPut, 5, 51), 13, 1) || done.Hands[1] != c.Hands[1] {
		t.Errorf("300 times the same: %+v", done)
	}
	if got := impl.Ran(impl.Crew{Heap: impl.NewHeap()}, make([]int64, 301)); !isZeroCrew(got) {
		t.Errorf("no hand, 301 picks: %+v", got)
	}
}

func TestAllDone(t *testing.T) {
	put, take, look := newHand(impl.HnPut, 5, 51), newHand(impl.HnTake, 5, 0), newHand(impl.HnLook, 5, 0)
	done := []impl.Hand{handDone(put, 6, 1), handDone(take, -1, 2), handDone(look, -1, 1), handDone(put, -1, 2)}
	for many := range 5 {
		if !impl.AllDone(crewOf(meeting(), done[:many]...)) {
			t.Errorf("%d hands, all done: AllDone says no", many)
		}
		for at := range many {
			for _, w := range []impl.Hand{put, take, look, handAt(look, impl.SpWalk, 1, 2, -1), handAt(take, impl.SpAct, 1, 5, -1), handAt(put, impl.SpLink, 1, -1, 12), handAt(take, impl.SpMark, 1, 3, -1)} {
				hands := slices.Clone(done[:many])
				hands[at] = w
				if c := crewOf(meeting(), hands...); !impl.CrewOk(c) || impl.AllDone(c) {
					t.Errorf("%d hands, all done but %d: %+v", many, at, hands)
				}
			}
		}
	}
	five := slices.Repeat([]impl.Hand{handDone(look, -1, 1)}, 5)
	same := []impl.Hand{handDone(put, 6, 1), handDone(put, 6, 1)}
	if impl.AllDone(crewOf(meeting(), five...)) || impl.AllDone(crewOf(meeting(), same...)) || impl.AllDone(impl.Crew{}) || !impl.AllDone(crewOf(impl.NewHeap())) {
		t.Error("five, two of the same Own, the zero Crew, or no hand")
	}
}

// wrongCrews are wrong in their heap, in one hand, in how many there are, or in two Owns.
func wrongCrews() map[string]impl.Crew {
	put, look := newHand(impl.HnPut, 5, 51), newHand(impl.HnLook, 5, 0)
	wrong := map[string]impl.Crew{
		"zero":                {},
		"five":                crewOf(meeting(), look, look, look, look, look),
		"five, all done":      crewOf(meeting(), slices.Repeat([]impl.Hand{handDone(look, -1, 1)}, 5)...),
		"same Own":            crewOf(meeting(), handAt(put, impl.SpStart, -1, -1, 6), handAt(put, impl.SpWalk, 1, 2, 6)),
		"same Own, one done":  crewOf(meeting(), handDone(put, 6, 1), look, handAt(put, impl.SpWalk, 1, 2, 6)),
		"same Own, both done": crewOf(meeting(), handDone(put, 7, 1), handDone(put, 7, 2)),
	}
	for name, h := range wrongHeaps() {
		wrong[name+", no hand"] = crewOf(h)
		wrong[name+", one"] = crewOf(h, look)
		wrong[name+", done"] = crewOf(h, handDone(look, -1, 1), handDone(put, -1, 2))
	}
	for i, w := range wrongHands() {
		hands := slices.Repeat([]impl.Hand{look}, 1+i%4)
		hands[i%7%len(hands)] = w
		wrong["wrong hand "+strconv.Itoa(i)] = crewOf(meeting(), hands...)
	}
	return wrong
}

func TestWrongCrews(t *testing.T) {
	wrong := wrongCrews()
	if len(wrong) < 500 {
		t.Fatalf("%d wrong crews", len(wrong))
	}
	for name, c := range wrong {
		if wantedCrewOk(c) || impl.CrewOk(c) || impl.AllDone(c) {
			t.Errorf("%s: CrewOk %v, AllDone %v", name, impl.CrewOk(c), impl.AllDone(c))
		}
		for _, who := range []int64{-1, 0, 1, 2, 3, 4, 5, math.MinInt64, math.MaxInt64} {
			if got, ok := impl.Picked(c, who); ok || !isZeroCrew(got) {
				t.Errorf("%s: Picked(%d) = %+v, %v", name, who, got, ok)
			}
			if got := impl.Ran(c, []int64{who, 0, 1}); !isZeroCrew(got) {
				t.Errorf("%s: Ran(%d, 0, 1) = %+v", name, who, got)
			}
		}
		if got := impl.Ran(c, nil); !isZeroCrew(got) {
			t.Errorf("%s: Ran(nil) = %+v", name, got)
		}
	}
}

func TestCrewArgumentsStay(t *testing.T) {
	crews := wrongCrews()
	for name, c := range givenCrews() {
		crews["given: "+name] = c
	}
	room := []int64{0, 1, 2, 3, 0, 1, 2, 3, 0, 0, -1, 4, spare, spare, spare}
	picks := room[:12]
	for name, c := range crews {
		before, asked := wholeCrew(c), slices.Clone(room)
		impl.CrewOk(c)
		impl.AllDone(c)
		impl.NewCrew(c.Hands)
		impl.Ran(c, picks)
		impl.Ran(c, nil)
		for who := int64(-1); who <= 5; who++ {
			impl.Picked(c, who)
		}
		if !sameCrew(wholeCrew(c), before) || !slices.Equal(room, asked) {
			t.Fatalf("%s: %+v was %+v, picks %v", name, wholeCrew(c), before, room)
		}
	}
	hands := roomyHands(newHand(impl.HnPut, 5, 50), newHand(impl.HnLook, 5, 0))
	before := wholeHands(hands)
	c, _ := impl.NewCrew(hands)
	impl.Ran(c, picks)
	if spoilCrew(c); !slices.Equal(wholeHands(hands), before) {
		t.Errorf("NewCrew: %+v was %+v", wholeHands(hands), before)
	}
}

// checkNewMemory: what the call answers shares nothing with c, nor with another answer.
func checkNewMemory(t *testing.T, what string, given impl.Crew, call func(impl.Crew) impl.Crew) {
	t.Helper()
	before := wholeCrew(given)
	first, second := call(given), call(given)
	want := copyOf(second)
	if spoilCrew(first); !sameCrew(wholeCrew(given), before) {
		t.Fatalf("%s: a change of the answer changes what was given", what)
	}
	if !sameCrew(second, want) {
		t.Fatalf("%s: a change of the answer changes another one", what)
	}
	if spoilCrew(given); !sameCrew(second, want) {
		t.Fatalf("%s: the answer changes with what was given", what)
	}
}

func TestCrewAnswersAreNewMemory(t *testing.T) {
	picks := []int64{0, 1, 2, 3, 3, 2, 1, 0, 0, 0, 9}
	for name := range givenCrews() {
		for who := int64(-1); who <= 4; who++ {
			checkNewMemory(t, name+", Picked", givenCrews()[name], func(c impl.Crew) impl.Crew { out, _ := impl.Picked(c, who); return out })
		}
		checkNewMemory(t, name+", Ran", givenCrews()[name], func(c impl.Crew) impl.Crew { return impl.Ran(c, picks) })
		checkNewMemory(t, name+", Ran of none", givenCrews()[name], func(c impl.Crew) impl.Crew { return impl.Ran(c, nil) })
		checkNewMemory(t, name+", Ran of one that can't be", givenCrews()[name], func(c impl.Crew) impl.Crew { return impl.Ran(c, []int64{-1}) })
	}
	for many := range 5 {
		hands := crewOf(nil, slices.Repeat([]impl.Hand{newHand(impl.HnPut, 5, 50)}, many)...)
		checkNewMemory(t, "NewCrew", hands, func(c impl.Crew) impl.Crew { out, _ := impl.NewCrew(c.Hands); return out })
	}
}
