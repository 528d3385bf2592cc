package tests

import (
	"fmt"
	"math"
	"slices"
	"strconv"
	"strings"
	"testing"

	"loop.example/g00401/impl"
)

var bothKinds = []int64{1, 2}

// noKinds are none also where only the lowest bits of a number are looked at.
var noKinds = []int64{
	0, 3, -1, -2, -3, 4, 5, 17, 18, 1 << 8, 1<<8 + 1, 1<<8 + 2, 1 << 16, 1<<16 + 1, 1 << 31, 1 << 32, 1<<32 + 1, 1<<32 + 2, -1 << 32, 1 - 1<<32, 2 - 1<<32,
	math.MinInt64, math.MinInt64 + 1, math.MinInt64 + 2, math.MaxInt64 - 1, math.MaxInt64,
}

var rightSeeds = []int64{0, 1, 2, 3, 4, 5, 19, 20, 42, 999999, 1000000}

func clockChoice(r impl.Ring, s impl.Sketch) impl.Choice {
	return impl.Choice{Kind: 1, Ring: r, Sketch: s}
}

func queueChoice(q []string, s impl.Sketch) impl.Choice {
	return impl.Choice{Kind: 2, Queue: q, Sketch: s}
}

// wordClock and wordWait have a sketch that is about to be halved by the second name that is seen.
func wordClock(words string) impl.Choice { return clockChoice(wordRing(words), uneven(158)) }

func wordWait(words string) impl.Choice { return queueChoice(wordQueue(words), uneven(158)) }

func newChoice(t *testing.T, kind int64) impl.Choice {
	t.Helper()
	c, ok := impl.NewChoice(kind)
	if !ok {
		t.Fatalf("NewChoice(%d) is refused", kind)
	}
	return c
}

// seen is a new choice behind all of the words, one by one.
func seen(t *testing.T, kind int64, words string) impl.Choice {
	t.Helper()
	c := newChoice(t, kind)
	for _, name := range strings.Fields(words) {
		c = impl.Sees(c, name)
	}
	return c
}

func sameSketch(a, b impl.Sketch) bool {
	return a.Adds == b.Adds && slices.EqualFunc(a.Rows, b.Rows, slices.Equal[[]int64])
}

func sketchCopy(s impl.Sketch) impl.Sketch {
	out := impl.Sketch{Adds: s.Adds}
	for _, row := range s.Rows {
		out.Rows = append(out.Rows, slices.Clone(row))
	}
	return out
}

func sameChoice(a, b impl.Choice) bool {
	return a.Kind == b.Kind && sameRing(a.Ring, b.Ring) && slices.Equal(a.Queue, b.Queue) && sameSketch(a.Sketch, b.Sketch)
}

func isZeroChoice(c impl.Choice) bool {
	return c.Kind == 0 && isZeroRing(c.Ring) && len(c.Queue) == 0 && isZeroSketch(c.Sketch)
}

func choiceCopy(c impl.Choice) impl.Choice {
	return impl.Choice{Kind: c.Kind, Ring: ringCopy(c.Ring), Queue: slices.Clone(c.Queue), Sketch: sketchCopy(c.Sketch)}
}

// wholeChoice reads a choice with the room behind all its lists.
func wholeChoice(c impl.Choice) impl.Choice {
	return impl.Choice{Kind: c.Kind, Ring: wholeRing(c.Ring), Queue: wholeNames(c.Queue), Sketch: whole(c.Sketch)}
}

// spoilChoice writes over all lists and into the room behind them.
func spoilChoice(c impl.Choice) {
	spoilRing(c.Ring)
	spoilNames(c.Queue)
	spoil(c.Sketch)
}

func wantedSketch(s impl.Sketch) bool {
	for _, row := range s.Rows {
		if len(row) != 16 || slices.Min(row) < 0 || slices.Max(row) > 15 {
			return false
		}
	}
	return len(s.Rows) == 4 && s.Adds >= 0 && s.Adds <= 159
}

// wantedChoice takes the words of the document one by one.
func wantedChoice(c impl.Choice) bool {
	ways := map[int64]bool{
		1: wantedRing(c.Ring) && len(c.Queue) == 0,
		2: wantedQueue(c.Queue) && isZeroRing(c.Ring),
	}
	return ways[c.Kind] && wantedSketch(c.Sketch)
}

func wantedSees(c impl.Choice, name string) impl.Choice {
	if !wantedChoice(c) {
		return impl.Choice{}
	}
	out := choiceCopy(c)
	if !wantedName(name) {
		return out
	}
	out.Sketch = wantedAdded(c.Sketch, name)
	switch {
	case c.Kind == 2:
		out.Queue, _ = wantedTouched(c.Queue, name)
	case slices.Contains(c.Ring.Names, name):
		out.Ring = wantedUses(c.Ring, name)
	default:
		out.Ring, _ = wantedJoins(c.Ring, name)
	}
	return out
}

func wantedForgets(c impl.Choice, name string) impl.Choice {
	if !wantedChoice(c) {
		return impl.Choice{}
	}
	out := choiceCopy(c)
	if c.Kind == 1 {
		out.Ring, _ = wantedLeaves(c.Ring, name)
	} else {
		out.Queue = wantedWithout(c.Queue, name)
	}
	return out
}

func wantedNamesOf(c impl.Choice) []string {
	if !wantedChoice(c) {
		return nil
	}
	return slices.Concat(c.Ring.Names, c.Queue) // one of them is empty
}

// wantedVictim goes along the ring one place at a time: who is Used is passed and is Used no more, but is passed as it is.
func wantedVictim(c impl.Choice, but string, seed int64) (impl.Choice, string) {
	if !wantedChoice(c) || seed < 0 || seed > 1000000 {
		return impl.Choice{}, ""
	}
	out := choiceCopy(c)
	if c.Kind == 2 {
		return out, wantedSampled(wantedWithout(c.Queue, but), seed, 5)
	}
	many := len(c.Ring.Names)
	if many == 0 || many == 1 && c.Ring.Names[0] == but {
		return out, ""
	}
	for place := int(c.Ring.At); ; place = (place + 1) % many {
		switch {
		case out.Ring.Used[place]:
			out.Ring.Used[place] = false
		case out.Ring.Names[place] != but:
			out.Ring.At = int64(place)
			return out, out.Ring.Names[place]
		}
	}
}

func wantedEstimate(s impl.Sketch, key string) int64 {
	if !wantedSketch(s) {
		return -1
	}
	var counts []int64
	for row := range 4 {
		counts = append(counts, s.Rows[row][placed(key, row)])
	}
	return slices.Min(counts)
}

func wantedWorth(c impl.Choice, fresh, old string) bool {
	return wantedEstimate(c.Sketch, fresh)-wantedEstimate(c.Sketch, old) >= 1
}

func checkSees(t *testing.T, c impl.Choice, name string) impl.Choice {
	t.Helper()
	got, want := impl.Sees(c, name), wantedSees(c, name)
	if !sameChoice(got, want) {
		t.Fatalf("Sees(%+v, %q) = %+v, want %+v", c, name, got, want)
	}
	return got
}

func checkForgets(t *testing.T, c impl.Choice, name string) impl.Choice {
	t.Helper()
	got, want := impl.Forgets(c, name), wantedForgets(c, name)
	if !sameChoice(got, want) {
		t.Fatalf("Forgets(%+v, %q) = %+v, want %+v", c, name, got, want)
	}
	return got
}

func checkVictim(t *testing.T, c impl.Choice, but string, seed int64) impl.Choice {
	t.Helper()
	want, who := wantedVictim(c, but, seed)
	got, name := impl.Victim(c, but, seed)
	if name != who || !sameChoice(got, want) {
		t.Fatalf("Victim(%+v, %q, %d) = %+v, %q, want %+v, %q", c, but, seed, got, name, want, who)
	}
	return got
}

func checkWorth(t *testing.T, c impl.Choice, fresh, old string) {
	t.Helper()
	if got, want := impl.Worth(c, fresh, old), wantedWorth(c, fresh, old); got != want {
		t.Fatalf("Worth(%+v, %q, %q) = %v", c, fresh, old, got)
	}
}

// checkChoice asks all that can be asked of a choice, right or wrong.
func checkChoice(t *testing.T, c impl.Choice) {
	t.Helper()
	if got, want := impl.ChoiceOk(c), wantedChoice(c); got != want {
		t.Fatalf("ChoiceOk(%+v) = %v", c, got)
	}
	if got, want := impl.NamesOf(c), wantedNamesOf(c); !slices.Equal(got, want) {
		t.Fatalf("NamesOf(%+v) = %q, want %q", c, got, want)
	}
	for _, name := range slices.Concat(c.Ring.Names, c.Queue, oddNames()) {
		checkSees(t, c, name)
		checkForgets(t, c, name)
		for _, seed := range []int64{-1, 0, 1, 7, 1000000, 1000001} {
			checkVictim(t, c, name, seed)
		}
		for _, other := range []string{name, "a", "nobody", ""} {
			checkWorth(t, c, name, other)
			checkWorth(t, c, other, name)
		}
	}
}

// askSees, askForgets and askVictim hold a right choice against what came of it, by the words of the promise.
func askSees(t *testing.T, c impl.Choice, name string) impl.Choice {
	t.Helper()
	after := impl.Sees(c, name)
	before, names := impl.NamesOf(c), impl.NamesOf(after)
	if !impl.NameOk(name) {
		if !sameChoice(after, c) {
			t.Fatalf("Sees(%+v, %q) = %+v", c, name, after)
		}
		return after
	}
	room := slices.Contains(before, name) || len(before) < impl.MaxNames
	if !impl.ChoiceOk(after) || after.Kind != c.Kind || slices.Contains(names, name) != room {
		t.Fatalf("Sees(%+v, %q) = %+v", c, name, after)
	}
	if !sameSketch(after.Sketch, impl.Added(c.Sketch, name)) {
		t.Fatalf("Sees(%+v, %q) = %+v: it is not Added", c, name, after)
	}
	askOthersStand(t, before, leftOf(names, name), name)
	for other, is := range fates(after.Ring) {
		was, there := fates(c.Ring)[other]
		if is.Used != (was.Used || there && other == name) || there && is.Pointed != was.Pointed {
			t.Fatalf("Sees(%+v, %q) = %+v: %q", c, name, after, other)
		}
	}
	if c.Kind == impl.ChQueue && room && names[len(names)-1] != name {
		t.Fatalf("Sees(%+v, %q) = %+v: it is not at the end", c, name, after)
	}
	return after
}

// leftOf are the names but one, in their order.
func leftOf(names []string, but string) []string {
	return slices.DeleteFunc(slices.Clone(names), func(other string) bool { return other == but })
}

func askForgets(t *testing.T, c impl.Choice, name string) impl.Choice {
	t.Helper()
	after := impl.Forgets(c, name)
	before, names := impl.NamesOf(c), impl.NamesOf(after)
	if !impl.ChoiceOk(after) || after.Kind != c.Kind || slices.Contains(names, name) || !sameSketch(after.Sketch, c.Sketch) {
		t.Fatalf("Forgets(%+v, %q) = %+v", c, name, after)
	}
	askOthersStand(t, before, names, name)
	if !slices.Contains(before, name) && !sameChoice(after, c) {
		t.Fatalf("Forgets(%+v, %q) = %+v: it was not there", c, name, after)
	}
	for other, is := range fates(after.Ring) {
		if is.Used != fates(c.Ring)[other].Used {
			t.Fatalf("Forgets(%+v, %q) = %+v: %q", c, name, after, other)
		}
	}
	return after
}

func askVictim(t *testing.T, c impl.Choice, but string, seed int64) (impl.Choice, string) {
	t.Helper()
	after, name := impl.Victim(c, but, seed)
	names := impl.NamesOf(c)
	rest := leftOf(names, but)
	if !impl.ChoiceOk(after) || after.Kind != c.Kind || !slices.Equal(impl.NamesOf(after), names) || !sameSketch(after.Sketch, c.Sketch) {
		t.Fatalf("Victim(%+v, %q, %d) = %+v, %q", c, but, seed, after, name)
	}
	if len(rest) == 0 {
		if name != "" || !sameChoice(after, c) {
			t.Fatalf("Victim(%+v, %q, %d) = %+v, %q, of none", c, but, seed, after, name)
		}
		return after, name
	}
	if name == but || !slices.Contains(names, name) {
		t.Fatalf("Victim(%+v, %q, %d) = %q", c, but, seed, name)
	}
	if c.Kind == impl.ChQueue {
		if !sameChoice(after, c) {
			t.Fatalf("Victim(%+v, %q, %d) = %+v", c, but, seed, after)
		}
		return after, name
	}
	askPassed(t, c.Ring, after.Ring, but, name)
	return after, name
}

// askPassed: the hand is at whom it tells; that one was Used only where all but but were; nobody is Used who was not.
func askPassed(t *testing.T, before, after impl.Ring, but, name string) {
	t.Helper()
	was, is := fates(before), fates(after)
	if !is[name].Pointed || is[name].Used {
		t.Fatalf("%+v, but %q: %q of %+v", before, but, name, after)
	}
	for other, fate := range is {
		if fate.Used && !was[other].Used {
			t.Fatalf("%+v, but %q: %q of %+v: %q is Used", before, but, name, after, other)
		}
		if was[name].Used && other != but && !was[other].Used {
			t.Fatalf("%+v, but %q: %q of %+v: %q was not Used", before, but, name, after, other)
		}
	}
}

// butsOf are all that could be meant by but: those that are there, one that is not, and some that are no names.
func butsOf(names []string) []string {
	return slices.Concat(names, []string{"nobody", "", "A", "abcdefghijklm", "\xff"})
}

func TestChoiceConstants(t *testing.T) {
	if impl.ChClock != 1 || impl.ChQueue != 2 {
		t.Error(impl.ChClock, impl.ChQueue)
	}
}

func TestNewChoice(t *testing.T) {
	for _, kind := range bothKinds {
		c, ok := impl.NewChoice(kind)
		if !ok || !impl.ChoiceOk(c) || !sameChoice(c, impl.Choice{Kind: kind, Sketch: filled(0, 0)}) || len(impl.NamesOf(c)) != 0 {
			t.Errorf("NewChoice(%d) = %+v, %v", kind, c, ok)
		}
		checkChoice(t, c)
	}
	for _, kind := range noKinds {
		if c, ok := impl.NewChoice(kind); ok || !isZeroChoice(c) {
			t.Errorf("NewChoice(%d) = %+v, %v", kind, c, ok)
		}
	}
}

// TestChoiceOkKinds: each Kind with a ring, with a queue, with both and with neither.
func TestChoiceOkKinds(t *testing.T) {
	for _, kind := range slices.Concat(bothKinds, noKinds) {
		for _, r := range append(emptyRings(), wordRing("a"), wordRing("b* >a"), ringAt(19, manyNames(20), 3)) {
			for _, q := range [][]string{nil, {}, roomyNames(nil), wordQueue("a"), wordQueue("b a"), roomyNames(manyNames(20))} {
				c := impl.Choice{Kind: kind, Ring: r, Queue: q, Sketch: uneven(159)}
				want := kind == 1 && len(q) == 0 || kind == 2 && len(r.Names) == 0
				if got := impl.ChoiceOk(c); got != want || got != wantedChoice(c) {
					t.Errorf("ChoiceOk(%+v) = %v", c, got)
				}
			}
		}
	}
	if impl.ChoiceOk(impl.Choice{}) {
		t.Error("the zero Choice is ChoiceOk")
	}
}

// TestChoiceOkParts: a part that is not right, also where the other parts are.
func TestChoiceOkParts(t *testing.T) {
	for what, r := range givenRings() {
		if c := clockChoice(r, uneven(3)); !impl.ChoiceOk(c) {
			t.Errorf("%s: ChoiceOk = false", what)
		}
		if c := queueChoice(nil, uneven(3)); impl.ChoiceOk(impl.Choice{Kind: c.Kind, Ring: r, Sketch: c.Sketch}) != (len(r.Names) == 0) {
			t.Errorf("%s: ChoiceOk of ChQueue with it", what)
		}
	}
	for what, q := range givenQueues() {
		if !impl.ChoiceOk(queueChoice(q, uneven(3))) {
			t.Errorf("%s: ChoiceOk = false", what)
		}
		if c := clockChoice(wordRing("a"), uneven(3)); impl.ChoiceOk(impl.Choice{Kind: c.Kind, Ring: c.Ring, Queue: q, Sketch: c.Sketch}) != (len(q) == 0) {
			t.Errorf("%s: ChoiceOk of ChClock with it", what)
		}
	}
	for what, c := range wrongChoices() {
		if wantedChoice(c) || impl.ChoiceOk(c) {
			t.Errorf("%s: ChoiceOk(%+v) = %v", what, c, impl.ChoiceOk(c))
		}
	}
}

func TestSeesClock(t *testing.T) {
	for _, c := range []struct{ given, name, want string }{
		{"", "a", "a"}, {"", "abcdefghijkl", "abcdefghijkl"}, {"a", "b", "a b"}, {"a*", "b", "a* b"}, {"a >b", "c", "a >b c"}, {"b* >c*", "a", "b* >c* a"},
		{"a", "a", "a*"}, {"a*", "a", "a*"}, {"a >b c", "a", "a* >b c"}, {"a >b c", "b", "a >b* c"}, {"a >b c", "c", "a >b c*"}, {"a aa", "aa", "a aa*"},
	} {
		got := impl.Sees(wordClock(c.given), c.name)
		if want := clockChoice(wordRing(c.want), wantedAdded(uneven(158), c.name)); !sameChoice(got, want) {
			t.Errorf("Sees(%s, %q) = %+v", c.given, c.name, got)
		}
		checkChoice(t, wordClock(c.given))
		askSees(t, wordClock(c.given), c.name)
	}
}

func TestSeesQueue(t *testing.T) {
	for _, c := range []struct{ given, name, want string }{
		{"", "a", "a"}, {"", "abcdefghijkl", "abcdefghijkl"}, {"a", "b", "a b"}, {"b", "a", "b a"}, {"a b c", "d", "a b c d"},
		{"a", "a", "a"}, {"a b", "a", "b a"}, {"a b", "b", "a b"}, {"a b c", "a", "b c a"}, {"a b c", "b", "a c b"}, {"a b c", "c", "a b c"}, {"a aa", "a", "aa a"},
	} {
		got := impl.Sees(wordWait(c.given), c.name)
		if want := queueChoice(strings.Fields(c.want), wantedAdded(uneven(158), c.name)); !sameChoice(got, want) {
			t.Errorf("Sees(%s, %q) = %+v", c.given, c.name, got)
		}
		checkChoice(t, wordWait(c.given))
		askSees(t, wordWait(c.given), c.name)
	}
}

// TestSeesNoName: what is no name is not even Added, be the sketch about to be halved or not.
func TestSeesNoName(t *testing.T) {
	for _, name := range []string{"", "A", " ", "a ", "a b", "abcdefghijklm", "é", "\xff", "\x00", "a\n", "a_b", spareName, strings.Repeat("a", 1000)} {
		for what, c := range givenChoices() {
			if got := impl.Sees(c, name); !sameChoice(got, c) {
				t.Errorf("%s: Sees(%q) = %+v", what, name, got)
			}
			if got := impl.Forgets(c, name); !sameChoice(got, c) {
				t.Errorf("%s: Forgets(%q) = %+v", what, name, got)
			}
		}
	}
}

func TestForgetsClock(t *testing.T) {
	for _, c := range []struct{ given, name, want string }{
		{"a", "a", ""}, {"a*", "a", ""}, {"a b", "a", "b"}, {"a >b", "b", "a"}, {"a >b* c", "a", ">b* c"}, {"a >b* c", "b", "a >c"}, {"a >b* c", "c", "a >b*"}, {"a* b >c", "c", ">a* b"},
		{"", "a", ""}, {"a* >b", "c", "a* >b"}, {"a* >b", "ab", "a* >b"}, {"a* >b", "", "a* >b"}, {"a* >b", "A", "a* >b"},
	} {
		got := impl.Forgets(wordClock(c.given), c.name)
		if !sameChoice(got, wordClock(c.want)) {
			t.Errorf("Forgets(%s, %q) = %+v", c.given, c.name, got)
		}
		askForgets(t, wordClock(c.given), c.name)
	}
}

func TestForgetsQueue(t *testing.T) {
	for _, c := range []struct{ given, name, want string }{
		{"a", "a", ""}, {"a b", "a", "b"}, {"a b", "b", "a"}, {"b a", "b", "a"}, {"a b c", "b", "a c"}, {"a aa aaa", "aa", "a aaa"},
		{"", "a", ""}, {"a b", "c", "a b"}, {"a b", "ab", "a b"}, {"a b", "", "a b"}, {"a b", "A", "a b"},
	} {
		got := impl.Forgets(wordWait(c.given), c.name)
		if !sameChoice(got, wordWait(c.want)) {
			t.Errorf("Forgets(%s, %q) = %+v", c.given, c.name, got)
		}
		askForgets(t, wordWait(c.given), c.name)
	}
}

func TestNamesOf(t *testing.T) {
	for many := range 21 {
		names := manyNames(many)
		backward := slices.Clone(names)
		slices.Reverse(backward)
		for at := range max(many, 1) {
			if got := impl.NamesOf(clockChoice(ringAt(int64(at), names, countTo(many/2)...), uneven(5))); !slices.Equal(got, names) {
				t.Errorf("NamesOf a ring of %q, At %d = %q", names, at, got)
			}
		}
		for _, q := range [][]string{names, backward} {
			if got := impl.NamesOf(queueChoice(roomyNames(q), uneven(5))); !slices.Equal(got, q) {
				t.Errorf("NamesOf a queue of %q = %q", q, got)
			}
		}
	}
	for what, c := range wrongChoices() {
		if got := impl.NamesOf(c); len(got) != 0 {
			t.Errorf("%s: NamesOf = %q", what, got)
		}
	}
}

func TestVictimClock(t *testing.T) {
	for _, c := range []struct{ given, but, want, name string }{
		{"a", "b", "a", "a"}, {"a*", "b", "a", "a"}, {"a*", "", "a", "a"}, {"a*", "A", "a", "a"},
		{"", "a", "", ""}, {"", "", "", ""}, {"a", "a", "a", ""}, {"a*", "a", "a*", ""},
		{"a b", "a", "a >b", "b"}, {"a b", "b", ">a b", "a"}, {"a >b", "a", "a >b", "b"}, {"a >b", "b", ">a b", "a"},
		{"a* b", "a", "a >b", "b"}, {"a* b", "b", ">a b", "a"}, {"a b*", "a", "a >b", "b"}, {"a b*", "b", ">a b*", "a"},
		{"a* >b", "a", "a* >b", "b"}, {"a* >b", "b", ">a b", "a"}, {"a >b*", "a", "a >b", "b"}, {"a >b*", "b", ">a b", "a"},
		{"a* b*", "a", "a >b", "b"}, {"a* b*", "b", ">a b", "a"}, {"a* >b*", "a", "a >b", "b"}, {"a* >b*", "b", ">a b", "a"},
		{"a b c", "a", "a >b c", "b"}, {"a b c", "b", ">a b c", "a"}, {"a >b c", "b", "a b >c", "c"}, {"a b >c", "c", ">a b c", "a"}, {"a b >c", "b", "a b >c", "c"},
		{"a* >b c*", "b", "a b >c", "c"}, {"a >b c*", "b", ">a b c", "a"}, {"a b* c", "a", "a b >c", "c"}, {"a b* c", "c", ">a b* c", "a"},
		{"a >b* c*", "a", "a >b c", "b"}, {"a* b >c*", "b", "a b >c", "c"}, {"a* b* >c", "c", "a b c", "a"}, {"a* b* c*", "nobody", "a b c", "a"}, {"a* >b* c*", "", "a >b c", "b"}, {"a* >b* c*", "b", "a b >c", "c"},
		{"a b c d", "", "a b c d", "a"}, {"a* b >c* d", "d", "a >b c d", "b"}, {"a* b >c* d", "b", "a* b c >d", "d"}, {"a* b* >c* d", "d", "a b >c d", "c"},
	} {
		got, name := impl.Victim(wordClock(c.given), c.but, 7)
		if name != c.name || !sameChoice(got, wordClock(c.want)) {
			t.Errorf("Victim(%s, %q) = %v, %q, want %s, %q", c.given, c.but, got.Ring, name, c.want, c.name)
		}
		for _, seed := range rightSeeds {
			if other, who := impl.Victim(wordClock(c.given), c.but, seed); who != name || !sameChoice(other, got) {
				t.Errorf("Victim(%s, %q, %d) = %v, %q: a clock goes by no seed", c.given, c.but, seed, other.Ring, who)
			}
			askVictim(t, wordClock(c.given), c.but, seed)
			checkVictim(t, wordClock(c.given), c.but, seed)
		}
	}
}

func TestVictimQueue(t *testing.T) {
	for _, c := range []struct {
		given, but string
		seed       int64
		want       string
	}{
		{"", "a", 0, ""}, {"", "", 0, ""}, {"a", "a", 0, ""}, {"a", "a", 1000000, ""}, {"a", "b", 0, "a"}, {"a", "", 1000000, "a"}, {"a", "A", 1, "a"},
		{"a b", "a", 0, "b"}, {"a b", "b", 0, "a"}, {"b a", "a", 1, "b"}, {"b a", "b", 1, "a"}, {"b a", "c", 1, "b"}, {"b a", "c", 1000000, "b"}, {"a b", "", 1, "a"},
		{"c a b", "c", 0, "a"}, {"c a b", "c", 1, "a"}, {"c a b", "a", 0, "c"}, {"c a b", "x", 1, "a"}, {"c a b", "x", 2, "b"}, {"c a b", "x", 4, "a"},
		// Of 4: 1, 2, 1 ..; of 5: 2, 2 ..; of 10: 8, 9, 6, 5, 8 and 7, 2, 7 ..; of 11 without one: the places are those of 10.
		{"a b c d", "x", 1, "b"}, {"a b c d e", "a", 1, "c"}, {"a b c d e", "b", 1, "c"}, {"a b c d e", "c", 1, "b"}, {"a b c d e", "e", 1, "b"}, {"a b c d e", "x", 2, "c"}, {"a b c d e f", "a", 2, "d"}, {"a b c d e f", "f", 2, "c"},
		{"a b c d e f g h i j", "x", 8, "f"}, {"a b c d e f g h i j", "x", 7, "c"}, {"a b c d e f g h i j k", "a", 8, "g"}, {"a b c d e f g h i j k", "k", 8, "f"}, {"a b c d e f g h i j k", "f", 8, "g"}, {"a b c d e f g h i j k", "c", 7, "d"}, {"a b c d e f g h i j k", "a", 1000000, "b"},
		// Of 11, seed 3: 3, 2, 6, 1, 10, and 0 only at the tenth look.
		{"a b c d e f g h i j k", "x", 3, "b"}, {"a b c d e f g h i j k l", "a", 3, "c"}, {"a b c d e f g h i j k l", "b", 3, "c"}, {"a b c d e f g h i j k l", "c", 3, "b"},
		// Of 11, seed 10: 10, 7, 8, 4, 9, and 0 at the sixth.
		{"a b c d e f g h i j k", "x", 10, "e"}, {"a b c d e f g h i j k l", "a", 10, "f"}, {"a b c d e f g h i j k l", "l", 10, "e"},
	} {
		given := wordWait(c.given)
		got, name := impl.Victim(given, c.but, c.seed)
		if name != c.want || !sameChoice(got, given) {
			t.Errorf("Victim(%s, %q, %d) = %q, %q, want %q", c.given, c.but, c.seed, got.Queue, name, c.want)
		}
		for _, seed := range append([]int64{c.seed}, rightSeeds...) {
			askVictim(t, given, c.but, seed)
			checkVictim(t, given, c.but, seed)
		}
	}
}

// TestPromise16Clock: all rings of up to four names, with each that but could be.
func TestPromise16Clock(t *testing.T) {
	for _, names := range [][]string{nil, {"a"}, {"b", "a"}, {"-", "0", "abcdefghijkl"}, {"d", "c", "b", "a"}} {
		everyRing(t, names, func(r impl.Ring) {
			c := clockChoice(r, uneven(159))
			if !impl.ChoiceOk(c) {
				t.Fatalf("%+v is refused", c)
			}
			for _, but := range butsOf(names) {
				askVictim(t, c, but, 1000000)
				checkVictim(t, c, but, 0)
				askForgets(t, c, but)
				checkForgets(t, c, but)
				askSees(t, c, but)
				checkSees(t, c, but)
			}
		})
	}
}

// TestPromise16Queue: all queues of up to five names, with each that but could be and many seeds.
func TestPromise16Queue(t *testing.T) {
	everyQueue(t, []string{"a", "b", "c", "d", "e"}, func(q []string) {
		c := queueChoice(q, uneven(159))
		for _, but := range butsOf(q) {
			for seed := range int64(21) {
				askVictim(t, c, but, seed)
				checkVictim(t, c, but, 1000000-seed)
			}
			askForgets(t, c, but)
			checkForgets(t, c, but)
			askSees(t, c, but)
			checkSees(t, c, but)
		}
		if !impl.ChoiceOk(c) {
			t.Fatalf("%+v is refused", c)
		}
	})
}

// TestVictimGoesRound: from each At, with each choice of Used ones and each but, in rings of up to 7.
func TestVictimGoesRound(t *testing.T) {
	for many := 1; many <= 7; many++ {
		names := manyNames(many)
		for choice := range 1 << many {
			used := slices.DeleteFunc(countTo(many), func(place int) bool { return choice>>place&1 == 0 })
			for at := range many {
				c := clockChoice(ringAt(int64(at), names, used...), uneven(0))
				for _, but := range butsOf(names) {
					askVictim(t, c, but, 1)
					checkVictim(t, c, but, 1)
				}
			}
		}
	}
}

// TestVictimOfTwenty: where all were Used, none was, one was or all but one, with the hand and but at every place.
func TestVictimOfTwenty(t *testing.T) {
	names := manyNames(20)
	for _, many := range []int{19, 20} {
		for at := range many {
			rings := []impl.Ring{ringAt(int64(at), names[:many]), ringAt(int64(at), names[:many], countTo(many)...)}
			for place := range many {
				rings = append(rings, ringAt(int64(at), names[:many], place), ringAt(int64(at), names[:many], slices.Delete(countTo(many), place, place+1)...))
			}
			for _, r := range rings {
				for _, but := range []string{names[0], names[at], names[(at+1)%many], names[(at+many-1)%many], names[many-1], "nobody", "", "A"} {
					c := clockChoice(r, uneven(9))
					askVictim(t, c, but, 0)
					checkVictim(t, c, but, 0)
				}
			}
		}
	}
}

// TestVictimAllUsed: who is told is the one at the hand or the one behind it, and nobody is Used any more.
func TestVictimAllUsed(t *testing.T) {
	for many := 2; many <= 20; many++ {
		names := manyNames(many)
		for at := range many {
			c := clockChoice(ringAt(int64(at), names, countTo(many)...), uneven(0))
			for place, but := range names {
				want := at
				if place == at {
					want = (at + 1) % many
				}
				got, name := impl.Victim(c, but, 3)
				if name != names[want] || got.Ring.At != int64(want) || slices.Contains(got.Ring.Used, true) {
					t.Errorf("Victim(%+v, %q) = %+v, %q", c.Ring, but, got.Ring, name)
				}
			}
		}
	}
}

// TestVictimFreeBut: where all but but were Used, the hand may come by but twice; all others are Used no more.
func TestVictimFreeBut(t *testing.T) {
	for many := 2; many <= 20; many++ {
		names := manyNames(many)
		for at := range many {
			for place, but := range names {
				c := clockChoice(ringAt(int64(at), names, slices.Delete(countTo(many), place, place+1)...), uneven(0))
				got, name := impl.Victim(c, but, 3)
				if want := (place + 1) % many; at == place && name != names[want] || name == but || slices.Contains(got.Ring.Used, true) {
					t.Errorf("Victim(%+v, %q) = %+v, %q", c.Ring, but, got.Ring, name)
				}
				checkVictim(t, c, but, 3)
			}
		}
	}
}

// TestVictimOfQueues: each length, each but and all seeds that begin at another place.
func TestVictimOfQueues(t *testing.T) {
	for many := range 21 {
		for _, q := range [][]string{letters(many), backwardQueue(many)} {
			c := queueChoice(q, uneven(4))
			for _, but := range butsOf(q) {
				for _, seed := range append(seedsOf(max(many, 1)), rightSeeds...) {
					askVictim(t, c, but, seed)
					checkVictim(t, c, but, seed)
				}
			}
		}
	}
}

// TestVictimForemost: where few are left, five looks see them all, and the foremost of them goes.
func TestVictimForemost(t *testing.T) {
	for _, seed := range []int64{0, 1, 2, 3, 4, 5, 6, 7, 499999, 1000000} {
		for _, c := range []struct{ given, but, want string }{
			{"b", "a", "b"}, {"b a", "c", "b"}, {"b a", "b", "a"}, {"b a", "a", "b"}, {"c b a", "c", "b"}, {"c b a", "b", "c"}, {"c b a", "a", "c"}, {"a b c", "a", "b"},
		} {
			if _, name := impl.Victim(wordWait(c.given), c.but, seed); name != c.want {
				t.Errorf("Victim(%s, %q, %d) = %q", c.given, c.but, seed, name)
			}
		}
	}
}

func TestVictimSeeds(t *testing.T) {
	for what, c := range givenChoices() {
		names := impl.NamesOf(c)
		for _, but := range butsOf(names) {
			for _, seed := range rightSeeds {
				if got, name := impl.Victim(c, but, seed); (name == "") != (len(leftOf(names, but)) == 0) || isZeroChoice(got) {
					t.Errorf("%s: Victim(%q, %d) = %+v, %q", what, but, seed, got, name)
				}
			}
			for _, seed := range wrongSeeds {
				if got, name := impl.Victim(c, but, seed); name != "" || !isZeroChoice(got) {
					t.Errorf("%s: Victim(%q, %d) = %+v, %q", what, but, seed, got, name)
				}
			}
		}
	}
}

// grownChoice is a choice together with who is there, as the calls told it.
type grownChoice struct {
	choice impl.Choice
	there  map[string]bool
}

func (g *grownChoice) see(t *testing.T, name string) {
	t.Helper()
	g.choice = askSees(t, g.choice, name)
	if impl.NameOk(name) && len(g.there) < impl.MaxNames {
		g.there[name] = true
	}
}

func (g *grownChoice) forget(t *testing.T, name string) {
	t.Helper()
	g.choice = askForgets(t, g.choice, name)
	delete(g.there, name)
}

// victim also takes whoever is told out, as one does who needs room, where goes is true.
func (g *grownChoice) victim(t *testing.T, but string, seed int64, goes bool) {
	t.Helper()
	checkVictim(t, g.choice, but, seed)
	next, name := askVictim(t, g.choice, but, seed)
	if name != "" && (!g.there[name] || name == but) {
		t.Fatalf("%+v, but %q: %q", g.choice, but, name)
	}
	if g.choice = next; goes && name != "" {
		g.forget(t, name)
	}
}

func (g *grownChoice) ask(t *testing.T) {
	t.Helper()
	names := impl.NamesOf(g.choice)
	if !impl.ChoiceOk(g.choice) || len(names) != len(g.there) {
		t.Fatal(g.choice, g.there)
	}
	for _, name := range names {
		if !g.there[name] {
			t.Fatal(g.choice, g.there)
		}
	}
}

// TestPromise16Runs: long runs of both Kinds, over several halvings, with as many names as there is room for, fewer and more.
func TestPromise16Runs(t *testing.T) {
	for seed := range uint64(60) {
		roll := rolls(seed)
		pool := append(manyNames([]int{1, 2, 3, 8, 20, 21, 30}[seed%7]), "", "A", "abcdefghijklm")
		sees := []int{3, 6, 20}[seed%3]
		g := &grownChoice{choice: newChoice(t, bothKinds[seed/3%2]), there: map[string]bool{}}
		for step := range 400 {
			name := pool[roll(len(pool))]
			switch n := roll(sees + 3); n {
			case 0:
				g.forget(t, name)
			case 1, 2:
				g.victim(t, name, roll(1000001), n == 1)
			default:
				g.see(t, name)
			}
			if g.ask(t); step%40 == 0 {
				checkChoice(t, g.choice)
			}
		}
	}
}

// TestOutInTurn: who is told goes, till none but but is left; each has gone once.
func TestOutInTurn(t *testing.T) {
	for _, kind := range bothKinds {
		for many := 1; many <= 20; many++ {
			names := manyNames(many)
			for place, but := range names {
				c := seen(t, kind, strings.Join(names, " ")+" "+names[many/2])
				var out []string
				for seed := int64(place); len(impl.NamesOf(c)) > 1; seed = (7*seed + 3) % 1000001 {
					next, name := askVictim(t, c, but, seed)
					c, out = askForgets(t, next, name), append(out, name)
				}
				if last, name := impl.Victim(c, but, 1); name != "" || !sameChoice(last, c) || !slices.Equal(impl.NamesOf(c), []string{but}) {
					t.Errorf("%d names, but %q: %+v, %q", many, but, last, name)
				}
				want := leftOf(names, but)
				slices.Sort(want)
				if slices.Sort(out); !slices.Equal(out, want) {
					t.Errorf("%d names, but %q: %q", many, but, out)
				}
			}
		}
	}
}

// TestNoRoom: who comes where 20 are there is Added, and that is all; where one goes, there is room.
func TestNoRoom(t *testing.T) {
	names := manyNames(22)
	for _, kind := range bothKinds {
		c := seen(t, kind, strings.Join(names[:20], " "))
		for _, name := range names[20:] {
			got := askSees(t, c, name)
			if !slices.Equal(impl.NamesOf(got), names[:20]) || !sameRing(got.Ring, c.Ring) || impl.Estimate(got.Sketch, name) < 1 || got.Sketch.Adds != 21 {
				t.Errorf("Sees(%+v, %q) = %+v", c, name, got)
			}
			checkSees(t, c, name)
		}
		for _, name := range names[:20] {
			if got := askSees(t, c, name); len(impl.NamesOf(got)) != 20 {
				t.Errorf("Sees(%+v, %q) = %+v", c, name, got)
			}
			got := askSees(t, askForgets(t, c, name), names[20])
			if all := impl.NamesOf(got); len(all) != 20 || all[19] != names[20] {
				t.Errorf("behind %q: %q", name, all)
			}
		}
		for many := range 22 {
			got := seen(t, kind, strings.Join(names[:many], " "))
			if !slices.Equal(impl.NamesOf(got), names[:min(many, 20)]) || got.Sketch.Adds != int64(many) {
				t.Errorf("%d names: %+v", many, got)
			}
		}
	}
}

// TestSeesTwice: who is seen again is Used, or at the end; who was forgotten comes as one who is fresh.
func TestSeesTwice(t *testing.T) {
	k := seen(t, impl.ChClock, "a b c a c")
	if !sameRing(k.Ring, wordRing("a* b c*")) || len(k.Queue) != 0 {
		t.Errorf("%+v", k)
	}
	if back := impl.Sees(impl.Forgets(k, "a"), "a"); !sameRing(back.Ring, wordRing("b c* a")) || impl.Estimate(back.Sketch, "a") < 3 {
		t.Errorf("%+v", back)
	}
	q := seen(t, impl.ChQueue, "a b c a c")
	if !slices.Equal(q.Queue, strings.Fields("b a c")) || !isZeroRing(q.Ring) {
		t.Errorf("%+v", q)
	}
	if back := impl.Sees(impl.Forgets(q, "b"), "b"); !slices.Equal(back.Queue, strings.Fields("a c b")) || impl.Estimate(back.Sketch, "b") < 2 {
		t.Errorf("%+v", back)
	}
}

// TestWorth goes by "a" and "b", which share no place, and by "q", which shares all of its own with "a".
func TestWorth(t *testing.T) {
	for _, kind := range bothKinds {
		for _, c := range []struct {
			given, fresh, old string
			want              bool
		}{
			{"", "a", "b", false}, {"", "a", "a", false}, {"", "", "", false}, {"a", "a", "b", true}, {"a", "b", "a", false}, {"a", "a", "a", false}, {"a", "b", "b", false},
			{"a b", "a", "b", false}, {"b a", "b", "a", false}, {"a b a", "a", "b", true}, {"a b a", "b", "a", false}, {"b b a a b", "b", "a", true}, {"b b a a b", "a", "b", false},
			{"a a a", "a", "q", false}, {"a a a", "q", "a", false}, {"a a a", "q", "b", true}, {"q", "a", "b", true},
		} {
			choice := seen(t, kind, c.given)
			if got := impl.Worth(choice, c.fresh, c.old); got != c.want {
				t.Errorf("Kind %d, %s: Worth(%q, %q) = %v", kind, c.given, c.fresh, c.old, got)
			}
			for _, name := range []string{"a", "b", "q"} {
				if got := impl.Worth(impl.Forgets(choice, name), c.fresh, c.old); got != c.want {
					t.Errorf("Kind %d, %s without %q: Worth(%q, %q) = %v", kind, c.given, name, c.fresh, c.old, got)
				}
			}
			checkWorth(t, choice, c.fresh, c.old)
		}
	}
}

// TestWorthUpToMaxCount: each one more is worth it, till both are counted no further.
func TestWorthUpToMaxCount(t *testing.T) {
	for more := range 20 {
		for less := range 20 {
			c := seen(t, impl.ChQueue, strings.Repeat("a ", more)+strings.Repeat("b ", less))
			if got := impl.Worth(c, "a", "b"); got != (min(more, 15) > min(less, 15)) {
				t.Errorf("%d against %d: Worth = %v", more, less, got)
			}
			checkWorth(t, c, "b", "a")
		}
	}
}

// TestWorthHalved: what was worth it by one is, or is not, behind the halving.
func TestWorthHalved(t *testing.T) {
	for _, kind := range bothKinds {
		for more := range int64(15) {
			for less := range int64(16) {
				s := filled(0, 159)
				for row := range 4 {
					s.Rows[row][placed("a", row)], s.Rows[row][placed("b", row)] = more, less
				}
				c := impl.Choice{Kind: kind, Sketch: s}
				if got := impl.Worth(c, "a", "b"); got != (more > less) {
					t.Errorf("%d against %d: Worth = %v", more, less, got)
				}
				after := askSees(t, c, "a")
				if got, want := impl.Worth(after, "a", "b"), (more+1)/2 > less/2; got != want || after.Sketch.Adds != 0 {
					t.Errorf("%d and 1 against %d, halved: Worth = %v, %+v", more, less, got, after)
				}
				checkSees(t, c, "b")
			}
		}
	}
}

// TestWorthKeys: any text can be asked for; who is there does not count.
func TestWorthKeys(t *testing.T) {
	keys := append(oddNames(), sketchKeys...)
	for what, c := range map[string]impl.Choice{"clock": wordClock("a* >b c"), "queue": wordWait("a b nobody"), "nobody there": wordWait("")} {
		for _, fresh := range keys {
			if impl.Worth(c, fresh, fresh) {
				t.Errorf("%s: Worth(%q) of itself", what, fresh)
			}
			for _, old := range keys {
				checkWorth(t, c, fresh, old)
			}
		}
	}
}

// TestWorthGoesBySketch: the rest of a choice that is not right is not asked for; of a sketch that is not right nothing is worth it.
func TestWorthGoesBySketch(t *testing.T) {
	for what, c := range wrongChoices() {
		for _, fresh := range []string{"a", "b", "larder", ""} {
			for _, old := range []string{"a", "b", "larder", ""} {
				if got := impl.Worth(c, fresh, old); got && !wantedSketch(c.Sketch) {
					t.Errorf("%s: Worth(%q, %q)", what, fresh, old)
				}
				checkWorth(t, c, fresh, old)
			}
		}
	}
	s := impl.Added(impl.NewSketch(), "a")
	for _, c := range []impl.Choice{{Sketch: s}, {Kind: 3, Sketch: s}, {Kind: 1, Queue: wordQueue("a"), Sketch: s}, {Kind: 2, Ring: wordRing("a"), Sketch: s}} {
		if !impl.Worth(c, "a", "b") || impl.Worth(c, "b", "a") {
			t.Errorf("%+v: Worth = %v", c, impl.Worth(c, "a", "b"))
		}
	}
}

// wrongSketches are wrong in their shape, in Adds or in a count.
func wrongSketches() map[string]impl.Sketch {
	wrong := misshapen()
	for _, adds := range []int64{-1, 160, 161, 256, 1 << 32, math.MinInt64, math.MaxInt64} {
		wrong[fmt.Sprint("Adds ", adds)] = uneven(adds)
	}
	for _, count := range []int64{-1, 16, 256, 1 << 32, math.MinInt64, math.MaxInt64} {
		for _, place := range []int{0, 31, 63} {
			s := uneven(159)
			s.Rows[place/16][place%16] = count
			wrong[fmt.Sprint("count ", count, " at ", place)] = s
		}
	}
	return wrong
}

// wrongChoices are wrong in one part each: Kind, the part that this Kind has no use for, or a part that is not right.
func wrongChoices() map[string]impl.Choice {
	wrong := map[string]impl.Choice{
		"zero":              {},
		"clock and a queue": {Kind: 1, Ring: wordRing("a b"), Queue: wordQueue("a b"), Sketch: uneven(3)}, "clock, a queue alone": {Kind: 1, Queue: wordQueue("a"), Sketch: uneven(3)}, "clock, an empty text": {Kind: 1, Queue: []string{""}, Sketch: uneven(3)},
		"queue and a ring": {Kind: 2, Ring: wordRing("a b"), Queue: wordQueue("a b"), Sketch: uneven(3)}, "queue, a ring alone": {Kind: 2, Ring: wordRing("a*"), Sketch: uneven(3)}, "queue, At 1": {Kind: 2, Ring: impl.Ring{At: 1}, Queue: wordQueue("a b"), Sketch: uneven(3)}, "queue, a flag": {Kind: 2, Ring: impl.Ring{Used: []bool{false}}, Queue: wordQueue("a b"), Sketch: uneven(3)},
		"both, no Kind": {Ring: wordRing("a"), Queue: wordQueue("a"), Sketch: uneven(3)},
	}
	for _, kind := range noKinds {
		number := strconv.FormatInt(kind, 10)
		wrong["Kind "+number] = impl.Choice{Kind: kind, Sketch: uneven(3)}
		wrong["ring, Kind "+number] = impl.Choice{Kind: kind, Ring: wordRing("a* >b"), Sketch: uneven(3)}
		wrong["queue, Kind "+number] = impl.Choice{Kind: kind, Queue: wordQueue("a b"), Sketch: uneven(3)}
	}
	for what, r := range wrongRings() {
		wrong["clock, "+what] = clockChoice(r, uneven(3))
		wrong["queue, ring "+what] = impl.Choice{Kind: 2, Ring: r, Sketch: uneven(3)}
	}
	for what, q := range wrongQueues() {
		wrong["queue, "+what] = queueChoice(q, uneven(3))
		wrong["clock, queue "+what] = impl.Choice{Kind: 1, Queue: q, Sketch: uneven(3)}
	}
	for what, s := range wrongSketches() {
		wrong["clock, sketch "+what] = clockChoice(wordRing("a >b"), s)
		wrong["queue, sketch "+what] = queueChoice(wordQueue("a b"), s)
		wrong["new, sketch "+what] = impl.Choice{Kind: 1, Sketch: s}
	}
	return wrong
}

func TestWrongChoices(t *testing.T) {
	for what, c := range wrongChoices() {
		for _, name := range slices.Concat([]string{"a", "b", "fresh"}, oddNames()) {
			if got := impl.Sees(c, name); !isZeroChoice(got) {
				t.Errorf("%s: Sees(%q) = %+v", what, name, got)
			}
			if got := impl.Forgets(c, name); !isZeroChoice(got) {
				t.Errorf("%s: Forgets(%q) = %+v", what, name, got)
			}
			for _, seed := range append([]int64{0, 1, 1000000}, wrongSeeds...) {
				if got, who := impl.Victim(c, name, seed); who != "" || !isZeroChoice(got) {
					t.Errorf("%s: Victim(%q, %d) = %+v, %q", what, name, seed, got, who)
				}
			}
		}
	}
}

// givenChoices are right ones of both Kinds, with and without room behind their lists.
func givenChoices() map[string]impl.Choice {
	one := make([]int64, 16) // what is given may share its rows
	given := map[string]impl.Choice{
		"shared rows, clock": clockChoice(wordRing("a* >b c"), impl.Sketch{Rows: [][]int64{one, one, one, one}}), "shared rows, queue": queueChoice(wordQueue("a b c"), impl.Sketch{Rows: [][]int64{one, one, one, one}, Adds: 159}),
		"clock, empty queue": {Kind: 1, Ring: wordRing("a"), Queue: []string{}, Sketch: uneven(1)}, "clock, room for a queue": {Kind: 1, Ring: wordRing("a b*"), Queue: roomyNames(nil), Sketch: uneven(1)},
		"queue, empty ring": {Kind: 2, Ring: impl.Ring{Names: []string{}, Used: []bool{}}, Queue: wordQueue("a"), Sketch: uneven(1)}, "queue, room for a ring": {Kind: 2, Ring: ringAt(0, nil), Queue: wordQueue("b a"), Sketch: uneven(1)},
	}
	for what, r := range givenRings() {
		given["clock, "+what] = clockChoice(r, uneven(159))
	}
	for what, q := range givenQueues() {
		given["queue, "+what] = queueChoice(q, uneven(159))
	}
	for _, adds := range []int64{0, 1, 158, 159} {
		given[fmt.Sprint("clock, Adds ", adds)] = clockChoice(wordRing("a* >b* c"), filled(15, adds))
		given[fmt.Sprint("queue, Adds ", adds)] = queueChoice(wordQueue("a b c"), filled(0, adds))
	}
	return given
}

func TestGivenChoices(t *testing.T) {
	for what, c := range givenChoices() {
		if !impl.ChoiceOk(c) {
			t.Errorf("%s: %+v is refused", what, c)
		}
		checkChoice(t, c)
	}
}

// TestEmptyChoices: an empty list and nil are the same, wherever one stands.
func TestEmptyChoices(t *testing.T) {
	for _, kind := range bothKinds {
		for _, r := range emptyRings() {
			for _, q := range [][]string{nil, {}, roomyNames(nil), manyNames(8)[:0]} {
				c := impl.Choice{Kind: kind, Ring: r, Queue: q, Sketch: uneven(159)}
				checkChoice(t, c)
				for _, but := range append(oddNames(), "a") {
					if got, name := askVictim(t, c, but, 0); name != "" || len(impl.NamesOf(got)) != 0 {
						t.Errorf("Victim(%+v, %q) = %+v, %q", c, but, got, name)
					}
				}
				if got := askSees(t, c, "a"); !slices.Equal(impl.NamesOf(got), []string{"a"}) {
					t.Errorf("Sees(%+v, a) = %+v", c, got)
				}
			}
		}
	}
}

// askAll calls every function of the chapter with c.
func askAll(c impl.Choice, names []string) {
	impl.ChoiceOk(c)
	impl.NamesOf(c)
	for _, name := range names {
		impl.Sees(c, name)
		impl.Forgets(c, name)
		for _, seed := range []int64{-1, 0, 3, 1000000} {
			impl.Victim(c, name, seed)
		}
		impl.Worth(c, name, "a")
		impl.Worth(c, "a", name)
	}
}

// TestChoiceArgumentsStay: what was given reads as before, with the room behind its lists, be it right or wrong.
func TestChoiceArgumentsStay(t *testing.T) {
	choices := wrongChoices()
	for what, c := range givenChoices() {
		choices["given: "+what] = c
	}
	for what, c := range choices {
		before := wholeChoice(c)
		askAll(c, slices.Concat([]string{"a", "b", "fresh"}, oddNames()))
		if !sameChoice(wholeChoice(c), before) {
			t.Fatalf("%s: %+v was %+v", what, wholeChoice(c), before)
		}
	}
}

// choiceCalls are all that answer a choice, with one name.
func choiceCalls(name string) map[string]func(impl.Choice) impl.Choice {
	return map[string]func(impl.Choice) impl.Choice{
		"Sees":    func(c impl.Choice) impl.Choice { return impl.Sees(c, name) },
		"Forgets": func(c impl.Choice) impl.Choice { return impl.Forgets(c, name) },
		"Victim":  func(c impl.Choice) impl.Choice { out, _ := impl.Victim(c, name, 3); return out },
	}
}

// checkNewChoice: what the call answers shares nothing with what was given, nor with another answer.
func checkNewChoice(t *testing.T, what string, given impl.Choice, call func(impl.Choice) impl.Choice) {
	t.Helper()
	before := wholeChoice(given)
	first, second := call(given), call(given)
	want := choiceCopy(second)
	if spoilChoice(first); !sameChoice(wholeChoice(given), before) {
		t.Fatalf("%s: a change of the answer changes what was given", what)
	}
	if !sameChoice(second, want) || !sameChoice(call(given), want) {
		t.Fatalf("%s: a change of the answer changes another one", what)
	}
	if spoilChoice(given); !sameChoice(second, want) {
		t.Fatalf("%s: the answer changes with what was given", what)
	}
}

func TestChoiceAnswersAreNewMemory(t *testing.T) {
	for what := range givenChoices() {
		for _, name := range []string{"a", "b", "fresh", "n19", "nobody", "", "A"} {
			for verb, call := range choiceCalls(name) {
				checkNewChoice(t, fmt.Sprintf("%s, %s %q", what, verb, name), givenChoices()[what], call)
			}
		}
		c := givenChoices()[what]
		before := wholeChoice(c)
		first, second := impl.NamesOf(c), impl.NamesOf(c)
		want := slices.Clone(second)
		if spoilNames(first); !sameChoice(wholeChoice(c), before) || !slices.Equal(second, want) {
			t.Fatalf("%s: a change of NamesOf changes what was given, or another answer", what)
		}
		if spoilChoice(c); !slices.Equal(second, want) {
			t.Fatalf("%s: NamesOf changes with what was given", what)
		}
	}
	for _, kind := range bothKinds {
		first, second := newChoice(t, kind), newChoice(t, kind)
		if spoilChoice(first); !sameChoice(second, newChoice(t, kind)) || !impl.ChoiceOk(second) {
			t.Fatalf("new choices of Kind %d share memory", kind)
		}
	}
}

// partsOf write over one list each, and into the room behind it.
func partsOf() map[string]func(impl.Choice) {
	parts := map[string]func(impl.Choice){
		"Names": func(c impl.Choice) { spoilNames(c.Ring.Names) },
		"Used":  func(c impl.Choice) { spoilRing(impl.Ring{Used: c.Ring.Used}) },
		"Queue": func(c impl.Choice) { spoilNames(c.Queue) },
	}
	for place := range 4 {
		parts[fmt.Sprint("row ", place)] = func(c impl.Choice) {
			row := c.Sketch.Rows[place]
			for i := range row[:cap(row)] {
				row[:cap(row)][i] = int64(100 + place)
			}
		}
	}
	return parts
}

// askApart: a list that is written over changes no other one, so the answer reads as a copy does in which just that list is written over.
func askApart(t *testing.T, what string, answer func() impl.Choice) {
	t.Helper()
	for part, write := range partsOf() {
		c := answer()
		want := choiceCopy(c)
		write(c)
		if write(want); !sameChoice(c, want) {
			t.Fatalf("%s: another list changes with %s", what, part)
		}
	}
}

func TestListsOfAChoiceShareNothing(t *testing.T) {
	for _, kind := range bothKinds {
		askApart(t, fmt.Sprint("new, Kind ", kind), func() impl.Choice { return newChoice(t, kind) })
	}
	for what, c := range givenChoices() {
		for _, name := range []string{"a", "c", "fresh", "nobody", "", "A"} {
			for verb, call := range choiceCalls(name) {
				askApart(t, fmt.Sprintf("%s, %s %q", what, verb, name), func() impl.Choice { return call(c) })
			}
		}
	}
}

// TestChoiceRoomIsNotRead: what stands behind the lists does not count.
func TestChoiceRoomIsNotRead(t *testing.T) {
	for what, c := range givenChoices() {
		bare := choiceCopy(c)
		bare.Ring.Names, bare.Ring.Used, bare.Queue = slices.Clip(bare.Ring.Names), slices.Clip(bare.Ring.Used), slices.Clip(bare.Queue)
		for _, name := range append(manyNames(21), "b", "c", spareName, "") {
			for verb, call := range choiceCalls(name) {
				if one, two := call(c), call(bare); !sameChoice(one, two) {
					t.Errorf("%s: %s(%q) = %+v, %+v", what, verb, name, one, two)
				}
			}
		}
	}
}

// TestTwoOfOneChoice: what is done to one of two that came of the same choice is not seen in the other.
func TestTwoOfOneChoice(t *testing.T) {
	for _, c := range []struct {
		kind  int64
		words [6]string
	}{
		{1, [6]string{"a* b", "a* b c", "a* b d", "b", "a >b", "a* b*"}},
		{2, [6]string{"b a", "b a c", "b a d", "b", "b a", "a b"}},
	} {
		base := seen(t, c.kind, "a b a")
		one, two, three := impl.Sees(base, "c"), impl.Sees(base, "d"), impl.Forgets(base, "a")
		four, _ := impl.Victim(base, "c", 0)
		five := impl.Sees(base, "b")
		for place, got := range []impl.Choice{base, one, two, three, four, five} {
			words := c.words[place]
			if c.kind == impl.ChClock && !sameRing(got.Ring, wordRing(words)) || c.kind == impl.ChQueue && !slices.Equal(got.Queue, strings.Fields(words)) {
				t.Errorf("Kind %d, %d: %+v, want %s", c.kind, place, got, words)
			}
		}
	}
}

// TestChoiceTwice: nothing is kept from call to call.
func TestChoiceTwice(t *testing.T) {
	others := wrongChoices()
	for what, c := range givenChoices() {
		others["given: "+what] = c
	}
	for _, c := range []impl.Choice{clockChoice(wordRing("a* >b c* d"), uneven(159)), queueChoice(wordQueue("d a c b"), uneven(159))} {
		_, who := impl.Victim(c, "b", 3)
		for what, other := range others {
			askAll(other, []string{"a", "b", ""})
			if next, name := impl.Victim(c, "b", 3); name != who || !slices.Equal(impl.NamesOf(next), impl.NamesOf(c)) {
				t.Fatalf("behind %s: %q, was %q", what, name, who)
			}
			checkSees(t, c, "a")
			checkForgets(t, c, "a")
			checkVictim(t, c, "b", 3)
		}
	}
}
