package tests

import (
	"fmt"
	"math"
	"slices"
	"strconv"
	"strings"
	"testing"

	"loop.example/g00401/impl"
)

// spareDrop fills the room behind a list of drops.
var spareDrop = impl.Drop{Name: spareName, Cause: -spare, After: -spare}

// endNumbers are out of every range of a larder, and so they are where only the lowest bits are looked at.
var endNumbers = []int64{math.MinInt64, math.MinInt64 + 1, -1 << 32, -1 << 31, -2, -1, 1 << 31, 1 << 32, 1<<32 + 1, 1 << 62, math.MaxInt64 - 1, math.MaxInt64}

func roomyDrops(list ...impl.Drop) []impl.Drop {
	out := append(make([]impl.Drop, 0, len(list)+4), list...)
	for i := len(list); i < cap(out); i++ {
		out[:cap(out)][i] = spareDrop
	}
	return out
}

// wordDrops takes one word a drop: NAME:CAUSE@AFTER.
func wordDrops(words string) []impl.Drop {
	var list []impl.Drop
	for _, word := range strings.Fields(words) {
		name, rest, _ := strings.Cut(word, ":")
		cause, after, _ := strings.Cut(rest, "@")
		c, _ := strconv.ParseInt(cause, 10, 64)
		a, _ := strconv.ParseInt(after, 10, 64)
		list = append(list, impl.Drop{Name: name, Cause: c, After: a})
	}
	return roomyDrops(list...)
}

func dropWords(list []impl.Drop) string {
	var words []string
	for _, d := range list {
		words = append(words, fmt.Sprintf("%s:%d@%d", d.Name, d.Cause, d.After))
	}
	return strings.Join(words, " ")
}

func sameLarder(a, b impl.Larder) bool {
	return a.Room == b.Room && a.Now == b.Now && a.Seed == b.Seed && a.Count == b.Count && a.Tally == b.Tally &&
		sameBook(a.Book, b.Book) && sameChoice(a.Choice, b.Choice) && slices.Equal(a.Drops, b.Drops)
}

func isZeroLarder(l impl.Larder) bool { return sameLarder(l, impl.Larder{}) }

func larderCopy(l impl.Larder) impl.Larder {
	l.Book, l.Choice, l.Drops = copiedBook(l.Book), choiceCopy(l.Choice), slices.Clone(l.Drops)
	return l
}

// wholeLarder reads a larder with the room behind all its lists.
func wholeLarder(l impl.Larder) impl.Larder {
	l.Book.Items, l.Choice, l.Drops = wholeBook(l.Book.Items), wholeChoice(l.Choice), slices.Clone(l.Drops[:cap(l.Drops)])
	return l
}

// looseLarder is in memory of its own, with as much room behind its lists.
func looseLarder(l impl.Larder) impl.Larder {
	out := wholeLarder(l)
	out.Book.Items, out.Drops = out.Book.Items[:len(l.Book.Items)], out.Drops[:len(l.Drops)]
	ring := &out.Choice.Ring
	ring.Names, ring.Used, out.Choice.Queue = ring.Names[:len(l.Choice.Ring.Names)], ring.Used[:len(l.Choice.Ring.Used)], out.Choice.Queue[:len(l.Choice.Queue)]
	out.Choice.Sketch = sketchCopy(l.Choice.Sketch)
	return out
}

func spoilDrops(list []impl.Drop) {
	for i := range list[:cap(list)] {
		list[:cap(list)][i] = impl.Drop{Name: "spoilt", Cause: spare, After: -spare}
	}
}

// spoilLarder writes over all lists and into the room behind them.
func spoilLarder(l impl.Larder) {
	spoilBook(l.Book)
	spoilChoice(l.Choice)
	spoilDrops(l.Drops)
}

// keptLarder stands by while l is handed out: it fails where l, or the room behind its lists, is not as it was.
func keptLarder(t *testing.T, l impl.Larder) func(call string) {
	t.Helper()
	before := wholeLarder(l)
	return func(call string) {
		t.Helper()
		if !sameLarder(wholeLarder(l), before) {
			t.Fatalf("%s: the larder %+v was %+v", call, wholeLarder(l), before)
		}
	}
}

// wantedDrop: of how many commands there are, there are at most 400.
func wantedDrop(d impl.Drop) bool {
	return wantedName(d.Name) && (d.Cause == 1 || d.Cause == 2) && d.After >= 1 && d.After <= 400
}

// wantedLarder takes the words of the document one by one.
func wantedLarder(l impl.Larder) bool {
	switch {
	case l.Room < 0 || l.Room > 2000, l.Now < 0 || l.Now > 1000000, l.Seed < 0 || l.Seed > 1000000, l.Count < 0 || l.Count > 400:
	case !wantedStore(l.Book), len(l.Book.Items) > 19, wantedHeavy(l.Book.Items) > l.Room:
	case !wantedChoice(l.Choice), !wantedTally(l.Tally):
	case int64(len(l.Drops))+int64(len(l.Book.Items)) > l.Count:
	case slices.ContainsFunc(l.Drops, func(d impl.Drop) bool { return !wantedDrop(d) }):
	default:
		names := wantedNamesOf(l.Choice)
		slices.Sort(names)
		return slices.Equal(names, namesIn(l.Book.Items))
	}
	return false
}

func wantedNewLarder(kind, room, seed int64) (impl.Larder, bool) {
	l := impl.Larder{Room: room, Seed: seed, Book: impl.Book{Next: 1}, Choice: impl.Choice{Kind: kind, Sketch: filled(0, 0)}}
	if !wantedLarder(l) {
		return impl.Larder{}, false
	}
	return l, true
}

// wantedSeed takes away what is too much, piece by piece.
func wantedSeed(seed int64) int64 {
	seed = 3 + 7*seed
	for seed > 1000002 {
		seed -= 1000003
	}
	if seed > 1000000 {
		seed -= 1000001
	}
	return seed
}

func wantedDidLarder(l impl.Larder, c impl.Cmd) (impl.Larder, impl.Reply) {
	if !wantedLarder(l) {
		return impl.Larder{}, impl.Reply{Kind: 10}
	}
	out := larderCopy(l)
	if l.Count == 400 || !wantedCmd(c) {
		return out, impl.Reply{Kind: 10}
	}
	aged, overs := wantedAged(l.Book, l.Now)
	book, r := wantedDid(l.Book, c, l.Now)
	out.Book, out.Tally, out.Count = book, wantedCounted(l.Tally, c.Verb, r.Kind), l.Count+1
	out.Tally.Overs = min(out.Tally.Overs+int64(len(overs)), fullTally)
	for _, i := range l.Book.Items {
		if slices.Contains(overs, i.Name) || r.Kind == 9 || r.Kind == 8 && i.Name == c.Name {
			out.Choice = wantedForgets(out.Choice, i.Name)
		}
	}
	if r.Kind == 1 || r.Kind == 5 || r.Kind == 6 || r.Kind == 7 {
		out.Choice = wantedSees(out.Choice, c.Name)
	}
	fresh := wantedFound(aged.Items, c.Name) == -1
	for len(out.Book.Items) > 19 || wantedHeavy(out.Book.Items) > l.Room {
		wantedOut(&out, c.Name, fresh)
	}
	return out, r
}

func wantedOut(l *impl.Larder, name string, fresh bool) {
	choice, goes := wantedVictim(l.Choice, name, l.Seed)
	cause := int64(1)
	switch {
	case goes == "", fresh && !wantedWorth(choice, name, goes):
		goes, cause = name, 2
	}
	l.Seed, l.Choice = wantedSeed(l.Seed), wantedForgets(choice, goes)
	l.Book.Items = slices.DeleteFunc(l.Book.Items, func(i impl.Item) bool { return i.Name == goes })
	l.Drops = append(l.Drops, impl.Drop{Name: goes, Cause: cause, After: l.Count})
	l.Tally.Drops = min(l.Tally.Drops+1, fullTally)
}

func wantedLater(l impl.Larder, by int64) (impl.Larder, bool) {
	if !wantedLarder(l) {
		return impl.Larder{}, false
	}
	out := larderCopy(l)
	if by < 0 || by > 1000000 || l.Now+by > 1000000 {
		return out, false
	}
	out.Now = l.Now + by
	return out, true
}

func checkNewLarder(t *testing.T, kind, room, seed int64) impl.Larder {
	t.Helper()
	want, can := wantedNewLarder(kind, room, seed)
	got, ok := impl.NewLarder(kind, room, seed)
	if ok != can || !sameLarder(got, want) {
		t.Fatalf("NewLarder(%d, %d, %d) = %+v, %v, want %+v, %v", kind, room, seed, got, ok, want, can)
	}
	return got
}

// checkLarder also writes over what is answered: nothing of what was given changes with it. So do the next two.
func checkLarder(t *testing.T, l impl.Larder) {
	t.Helper()
	stays := keptLarder(t, l)
	if got, want := impl.LarderOk(l), wantedLarder(l); got != want {
		t.Fatalf("LarderOk(%+v) = %v", l, got)
	}
	stays("LarderOk")
}

func checkDidLarder(t *testing.T, l impl.Larder, c impl.Cmd) {
	t.Helper()
	stays := keptLarder(t, l)
	got, r := impl.DidLarder(l, c)
	if want, told := wantedDidLarder(l, c); r != told || !sameLarder(got, want) {
		t.Fatalf("DidLarder(%+v, %+v) = %+v, %+v, want %+v, %+v", l, c, got, r, want, told)
	}
	spoilLarder(got)
	stays("DidLarder")
}

func checkLater(t *testing.T, l impl.Larder, by int64) {
	t.Helper()
	stays := keptLarder(t, l)
	got, ok := impl.Later(l, by)
	if want, can := wantedLater(l, by); ok != can || !sameLarder(got, want) {
		t.Fatalf("Later(%+v, %d) = %+v, %v, want %+v, %v", l, by, got, ok, want, can)
	}
	spoilLarder(got)
	stays("Later")
}

// askDidLarder holds a right larder and a right command against promise 17, by the calls of the chapters below.
func askDidLarder(t *testing.T, l impl.Larder, c impl.Cmd) impl.Larder {
	t.Helper()
	if !impl.LarderOk(l) || !impl.CmdOk(c) || l.Count >= impl.MaxDone {
		t.Fatalf("%+v, %+v: not right", l, c)
	}
	after, r := impl.DidLarder(l, c)
	book, told := impl.DidBook(l.Book, c, l.Now)
	if r != told || after.Room != l.Room || after.Now != l.Now || after.Count != l.Count+1 || after.Book.Next != book.Next {
		t.Fatalf("DidLarder(%+v, %+v) = %+v, %+v", l, c, after, r)
	}
	if len(after.Drops) < len(l.Drops) || !slices.Equal(after.Drops[:len(l.Drops)], l.Drops) {
		t.Fatalf("DidLarder(%+v, %+v): the Drops are %+v", l, c, after.Drops)
	}
	askRoom(t, after)
	askDropped(t, l, c, after)
	return after
}

// askRoom weighs by hand.
func askRoom(t *testing.T, l impl.Larder) {
	t.Helper()
	weight := 0
	for _, i := range l.Book.Items {
		weight += 8 + len(i.Name) + len(i.Bytes)
	}
	names := impl.NamesOf(l.Choice)
	slices.Sort(names)
	switch many := len(l.Book.Items); {
	case !impl.LarderOk(l), int64(weight) > l.Room, many > impl.MaxNames-1, !slices.Equal(names, namesIn(l.Book.Items)), int64(many+len(l.Drops)) > l.Count:
		t.Fatalf("%+v is not right", l)
	}
}

// askDropped: each one that goes was there, and there was no room with it; who goes is the one that the choice tells, but a fresh Name that is not worth it, and a Name where nobody else is there. Nothing else changes.
func askDropped(t *testing.T, l impl.Larder, c impl.Cmd, after impl.Larder) {
	t.Helper()
	aged, overs := impl.Aged(l.Book, l.Now)
	book, r := impl.DidBook(l.Book, c, l.Now)
	choice := choiceBehind(l.Choice, c, r, overs, namesIn(aged.Items))
	seed, fresh := l.Seed, impl.FindItem(aged.Items, c.Name) == -1
	drops := after.Drops[len(l.Drops):]
	for _, d := range drops {
		place := impl.FindItem(book.Items, d.Name)
		if place == -1 || impl.Heavy(book.Items) <= l.Room && len(book.Items) < impl.MaxNames {
			t.Fatalf("DidLarder(%+v, %+v): %+v of %+v, for nothing", l, c, d, drops)
		}
		var victim string
		choice, victim = impl.Victim(choice, c.Name, seed)
		seed = (7*seed + 3) % 1000003 % 1000001
		want := impl.Drop{Name: victim, Cause: impl.DrRoom, After: after.Count}
		if victim == "" || fresh && !impl.Worth(choice, c.Name, victim) {
			want.Name, want.Cause = c.Name, impl.DrUnworthy
		}
		if d != want {
			t.Fatalf("DidLarder(%+v, %+v): %+v of %+v, want %+v", l, c, d, drops, want)
		}
		book.Items, choice = slices.Delete(book.Items, int(place), int(place)+1), impl.Forgets(choice, d.Name)
	}
	if !sameBook(after.Book, book) || !sameChoice(after.Choice, choice) || after.Seed != seed {
		t.Fatalf("DidLarder(%+v, %+v) = %+v, want %+v, %+v, %d", l, c, after, book, choice, seed)
	}
	tally := impl.Counted(l.Tally, c, r)
	tally.Overs, tally.Drops = min(tally.Overs+int64(len(overs)), impl.MaxTally), min(tally.Drops+int64(len(drops)), impl.MaxTally)
	if after.Tally != tally {
		t.Fatalf("DidLarder(%+v, %+v): the Tally is %+v, want %+v", l, c, after.Tally, tally)
	}
}

// choiceBehind is ahead of all drops: over are those that were, left are those that were there behind that.
func choiceBehind(choice impl.Choice, c impl.Cmd, r impl.Reply, over, left []string) impl.Choice {
	for _, name := range over {
		choice = impl.Forgets(choice, name)
	}
	switch r.Kind {
	case impl.RpCut:
		return impl.Forgets(choice, c.Name)
	case impl.RpCleared:
		for _, name := range left {
			choice = impl.Forgets(choice, name)
		}
	case impl.RpStored, impl.RpNumber, impl.RpValue, impl.RpTouched:
		return impl.Sees(choice, c.Name)
	}
	return choice
}

// weighing is a thing of this weight.
func weighing(name string, weight int) impl.Item {
	return impl.Item{Name: name, Bytes: strings.Repeat("x", weight-8-len(name)), Cas: 1}
}

// larderOf has just these things, and a choice of just their Names in the order of the words (as of wordRing); a command each brought them.
func larderOf(kind, room int64, words string, list ...impl.Item) impl.Larder {
	slices.SortFunc(list, func(a, b impl.Item) int { return strings.Compare(a.Name, b.Name) })
	l := impl.Larder{Room: room, Seed: 7, Count: int64(len(list)), Book: bookAt(50, list...), Choice: clockChoice(wordRing(words), filled(0, 0)), Drops: roomyDrops()}
	if kind == impl.ChQueue {
		l.Choice = queueChoice(wordRing(words).Names, filled(0, 0))
	}
	return l
}

// wordLarder has one thing a word, of these weights.
func wordLarder(kind, room int64, words string, weights ...int) impl.Larder {
	var list []impl.Item
	for place, name := range wordRing(words).Names {
		list = append(list, weighing(name, weights[place]))
	}
	return larderOf(kind, room, words, list...)
}

// seenAs has a letter and a count a word: so often each was seen. Of the letters from a to p no two share a place.
func seenAs(l impl.Larder, words string) impl.Larder {
	for _, word := range strings.Fields(words) {
		count, _ := strconv.ParseInt(word[1:], 10, 64)
		for row := range 4 {
			l.Choice.Sketch.Rows[row][placed(word[:1], row)] = count
		}
	}
	return l
}

func TestLettersShareNoPlace(t *testing.T) {
	for row := range 4 {
		met := map[int64]bool{}
		for letter := 'a'; letter <= 'p'; letter++ {
			met[placed(string(letter), row)] = true
		}
		if len(met) != 16 {
			t.Fatalf("row %d: the letters from a to p have %d places", row, len(met))
		}
	}
}

func setOf(name string, weight int) impl.Cmd {
	return impl.Cmd{Verb: impl.VbSet, Name: name, Bytes: weighing(name, weight).Bytes}
}

func TestLarderConstants(t *testing.T) {
	if impl.DrRoom != 1 || impl.DrUnworthy != 2 || impl.MaxRoom != 2000 || impl.MaxDone != 400 {
		t.Error(impl.DrRoom, impl.DrUnworthy, impl.MaxRoom, impl.MaxDone)
	}
}

// TestNewLarder: each of the three at its ends and past them, with the others right and wrong.
func TestNewLarder(t *testing.T) {
	kinds := slices.Concat([]int64{1, 2}, noKinds)
	rooms := append([]int64{0, 1, 9, 100, 1999, 2000, 2001, 2002, 4000}, endNumbers...)
	seeds := append([]int64{0, 1, 7, 999999, 1000000, 1000001, 1000002, 1000003, 2000000}, endNumbers...)
	made := 0
	for _, kind := range kinds {
		for _, room := range rooms {
			for _, seed := range seeds {
				l := checkNewLarder(t, kind, room, seed)
				if checkLarder(t, l); impl.LarderOk(l) {
					made++
				}
			}
		}
	}
	if made != 2*6*5 {
		t.Errorf("%d new larders", made)
	}
	for _, kind := range bothKinds {
		l, ok := impl.NewLarder(kind, 2000, 1000000)
		if !ok || l.Room != 2000 || l.Now != 0 || l.Seed != 1000000 || l.Count != 0 || l.Tally != (impl.Tally{}) || len(l.Drops) != 0 || !sameBook(l.Book, impl.NewBook()) || !sameChoice(l.Choice, newChoice(t, kind)) {
			t.Errorf("NewLarder(%d, 2000, 1000000) = %+v, %v", kind, l, ok)
		}
	}
}

// larderKinds are right larders of both Kinds.
func larderKinds() map[string]impl.Larder {
	kinds := map[string]impl.Larder{}
	for _, kind := range bothKinds {
		add := func(what string, l impl.Larder) { kinds[fmt.Sprint("Kind ", kind, ", ", what)] = l }
		for _, room := range []int64{0, 9, 30, 2000} {
			l, _ := wantedNewLarder(kind, room, 7)
			add(fmt.Sprint("new, Room ", room), l)
		}
		add("one just as heavy", wordLarder(kind, 20, "a*", 20))
		add("three just as heavy", wordLarder(kind, 30, "b* >a c", 9, 10, 11))
		add("three, seen", seenAs(wordLarder(kind, 33, "c >a* b*", 11, 11, 11), "a3 b1 c15"))
		l := larderOf(kind, 60, "n >m* o p", impl.Item{Name: "m", Flags: 5, Bytes: "999999999", Cas: 3, Until: 6}, impl.Item{Name: "n", Bytes: "9", Cas: 1000000, Until: 5}, impl.Item{Name: "o", Cas: 2}, impl.Item{Name: "p", Bytes: "99", Cas: 4, Until: 1000000})
		l.Now, l.Count, l.Drops, l.Book.Next, l.Tally = 5, 9, wordDrops("a:1@2 b:2@2 a:1@7"), 1000000, tallyOf(1, 2, 3, fullTally-1, fullTally-1)
		add("some over", l)
		l = larderCopy(l)
		l.Now, l.Count, l.Tally, l.Choice.Sketch = 1000000, 399, evenTally(fullTally), uneven(159)
		add("at the end of time", l)
		l = larderCopy(l)
		l.Count, l.Seed = 400, 1000000
		add("all done", l)
		l = wordLarder(kind, 30, "b* >a c", 9, 10, 11)
		l.Count, l.Drops = 11, wordDrops("a:1@400 b-0:2@1 b-0:1@400 abcdefghijkl:2@12 -:1@11 9:2@2 a:1@1 a:1@1")
		add("drops in no order", l)
		words := strings.Join(manyNames(19), " ")
		var list []impl.Item
		for number, name := range manyNames(19) {
			list = append(list, unevenItem(name, number))
		}
		l = larderOf(kind, 2000, words, list...)
		l.Now = 3
		add("nineteen", l)
	}
	return kinds
}

// larderCmds are right commands of every Verb that meet what larderKinds have, and others.
func larderCmds() []impl.Cmd {
	list := []impl.Cmd{setOf("a", 72), setOf("q", 9), setOf("b", 21), {Verb: impl.VbTail, Name: "a", Bytes: "xx"}, {Verb: impl.VbHead, Name: "m", Bytes: strings.Repeat("y", 55)}, {Verb: impl.VbUp, Name: "p", Delta: 1}}
	for _, name := range []string{"a", "m", "n", "nobody"} {
		list = append(list, namedCmds(name, 3)...)
	}
	return list
}

func TestLarderKinds(t *testing.T) {
	wrong := wrongCmds()
	for what, l := range larderKinds() {
		if !impl.LarderOk(l) || !wantedLarder(l) {
			t.Fatalf("%s: %+v is refused", what, l)
		}
		for _, c := range larderCmds() {
			if checkDidLarder(t, l, c); l.Count < 400 {
				askDidLarder(t, l, c)
			}
		}
		for place := range 40 {
			checkDidLarder(t, l, wrong[place*len(wrong)/40])
		}
		for _, by := range append([]int64{0, 1, 2, 5, 999994, 999995, 999996, 999999, 1000000, 1000001}, endNumbers...) {
			checkLater(t, l, by)
		}
	}
}

// TestLarderOkNumbers: each number at its ends and past them.
func TestLarderOkNumbers(t *testing.T) {
	for _, field := range []struct {
		name      string
		of        func(*impl.Larder) *int64
		low, high int64
	}{
		{"Room", func(l *impl.Larder) *int64 { return &l.Room }, 0, 2000}, {"Now", func(l *impl.Larder) *int64 { return &l.Now }, 0, 1000000},
		{"Seed", func(l *impl.Larder) *int64 { return &l.Seed }, 0, 1000000}, {"Count", func(l *impl.Larder) *int64 { return &l.Count }, 0, 400},
	} {
		for _, kind := range bothKinds {
			numbers := append([]int64{field.low - 1, field.low, field.low + 1, field.high / 2, field.high - 1, field.high, field.high + 1, field.high + 2, 2 * field.high, -field.high}, endNumbers...)
			for _, n := range numbers {
				l, _ := wantedNewLarder(kind, 5, 5)
				*field.of(&l) = n
				if got, want := impl.LarderOk(l), field.low <= n && n <= field.high; got != want {
					t.Errorf("%s %d: LarderOk = %v", field.name, n, got)
				}
				checkLarder(t, l)
			}
		}
	}
}

// TestLarderOkRoom: Heavy just Room, one less and one more; as many things as there may be, and one more.
func TestLarderOkRoom(t *testing.T) {
	for _, kind := range bothKinds {
		for many := range 21 {
			var list []impl.Item
			heavy := 0
			for number, name := range manyNames(many) {
				list = append(list, unevenItem(name, number))
				heavy += 8 + len(name) + len(list[number].Bytes)
			}
			for _, room := range []int64{int64(heavy) - 1, int64(heavy), int64(heavy) + 1, 2000} {
				l := larderOf(kind, room, strings.Join(manyNames(many), " "), slices.Clone(list)...)
				if got, want := impl.LarderOk(l), many < 20 && room >= int64(heavy); got != want {
					t.Errorf("%d things of %d, Room %d: LarderOk = %v", many, heavy, room, got)
				}
				checkLarder(t, l)
			}
		}
	}
}

// TestLarderOkNames: the choice has just the Names of the book, in whatever order.
func TestLarderOkNames(t *testing.T) {
	names := []string{"a", "b", "c", "d"}
	for _, kind := range bothKinds {
		everyQueue(t, names, func(q []string) {
			for choice := range 16 {
				var list []impl.Item
				met := 0
				for place, name := range names {
					if choice>>place&1 == 1 {
						list = append(list, plainItem(name))
					}
					if choice>>place&1 == 1 && slices.Contains(q, name) {
						met++
					}
				}
				l := larderOf(kind, 2000, strings.Join(q, " "), list...)
				l.Count = 400
				if got, want := impl.LarderOk(l), met == len(q) && met == len(list); got != want {
					t.Fatalf("%q of %q: LarderOk = %v", q, namesIn(list), got)
				}
				checkLarder(t, l)
			}
		})
	}
}

// TestLarderOkCount: Drops and things together, up to Count and one more.
func TestLarderOkCount(t *testing.T) {
	for _, kind := range bothKinds {
		for _, things := range []int{0, 1, 2, 19} {
			for _, drops := range []int{0, 1, 2, 3, 200, 381, 399, 400, 401} {
				for _, count := range []int{0, 1, 2, 3, 4, things, drops, things + drops - 1, things + drops, things + drops + 1, 399, 400, 401} {
					l := larderOf(kind, 2000, strings.Join(manyNames(things), " "), wordBook(strings.Join(manyNames(things), " "))...)
					l.Drops, l.Count = roomyDrops(slices.Repeat([]impl.Drop{{Name: "z", Cause: 1, After: 1}}, drops)...), int64(count)
					if got, want := impl.LarderOk(l), count >= 0 && count <= 400 && things+drops <= count; got != want {
						t.Errorf("%d things, %d Drops, Count %d: LarderOk = %v", things, drops, count, got)
					}
					checkLarder(t, l)
				}
			}
		}
	}
}

// wrongDrops are wrong in one part each, but the zero Drop and the spare one.
func wrongDrops() []impl.Drop {
	list := []impl.Drop{{}, spareDrop, {Name: "a"}}
	for _, name := range append(oddNames(), nearNames("abcdefghijkl")...) {
		if !wantedName(name) {
			list = append(list, impl.Drop{Name: name, Cause: 1, After: 1})
		}
	}
	for _, n := range append([]int64{0, 3, 4, 5, 257, 258}, endNumbers...) {
		list = append(list, impl.Drop{Name: "a", Cause: n, After: 1})
	}
	for _, n := range append([]int64{0, 401, 402, 800, 1000000}, endNumbers...) {
		list = append(list, impl.Drop{Name: "a", Cause: 2, After: n})
	}
	return list
}

// rightDrops: After may be behind more commands than there were.
func rightDrops() []impl.Drop {
	var list []impl.Drop
	for _, name := range []string{"a", "z", "0", "9", "-", "a-0", "abcdefghijkl", "------------", "nobody"} {
		for _, cause := range []int64{1, 2} {
			for _, after := range []int64{1, 2, 3, 4, 200, 256, 257, 399, 400} {
				list = append(list, impl.Drop{Name: name, Cause: cause, After: after})
			}
		}
	}
	return list
}

// droppedLarder has had so many more drops than this one, which is the one at place.
func droppedLarder(kind int64, d impl.Drop, place, more int) impl.Larder {
	l := wordLarder(kind, 20, "a b", 10, 10)
	l.Drops = roomyDrops(slices.Insert(slices.Repeat([]impl.Drop{{Name: "z", Cause: 1, After: 1}}, more), place, d)...)
	l.Count = int64(more + 3)
	return l
}

// TestLarderOkDrops: each one is asked, wherever it stands; whether there was such a command, and when, is not.
func TestLarderOkDrops(t *testing.T) {
	for _, kind := range bothKinds {
		for _, many := range []int{0, 1, 2, 19, 396} {
			for _, place := range []int{0, many / 2, many} {
				for _, d := range rightDrops() {
					l := droppedLarder(kind, d, place, many)
					if !impl.LarderOk(l) {
						t.Errorf("%+v at %d of %d more: it is refused", d, place, many)
					}
					checkLarder(t, l)
				}
				for _, d := range wrongDrops() {
					l := droppedLarder(kind, d, place, many)
					if impl.LarderOk(l) {
						t.Errorf("%+v at %d of %d more: LarderOk", d, place, many)
					}
					checkLarder(t, l)
				}
			}
		}
	}
}

// TestDropsStay: those there are come first, as they are; of a larder with a wrong one nothing is answered.
func TestDropsStay(t *testing.T) {
	for _, kind := range bothKinds {
		for _, d := range rightDrops() {
			l := droppedLarder(kind, d, 1, 1)
			for _, c := range []impl.Cmd{setOf("c", 10), {Verb: impl.VbGet, Name: "a"}, {Verb: impl.VbClear}} {
				checkDidLarder(t, l, c)
				if got := askDidLarder(t, l, c); got.Drops[1] != d {
					t.Errorf("%+v: DidLarder(%+v): %+v", d, c, got.Drops)
				}
			}
			if got, ok := impl.Later(l, 5); !ok || got.Now != 5 || !slices.Equal(got.Drops, l.Drops) {
				t.Errorf("%+v: Later: %+v, %v", d, got, ok)
			}
		}
		for _, d := range wrongDrops() {
			l := droppedLarder(kind, d, 1, 1)
			for _, c := range []impl.Cmd{setOf("c", 10), {Verb: impl.VbGet, Name: "a"}, {Verb: impl.VbClear}, {}} {
				if got, r := impl.DidLarder(l, c); r != (impl.Reply{Kind: impl.RpError}) || !isZeroLarder(got) {
					t.Errorf("%+v: DidLarder(%+v) = %+v, %+v", d, c, got, r)
				}
			}
			if got, ok := impl.Later(l, 5); ok || !isZeroLarder(got) {
				t.Errorf("%+v: Later: %+v, %v", d, got, ok)
			}
		}
	}
}

// TestDropsBehind: what stands in the spare room behind the list is not asked.
func TestDropsBehind(t *testing.T) {
	for _, kind := range bothKinds {
		for _, d := range wrongDrops() {
			l := droppedLarder(kind, d, 2, 2)
			l.Drops = l.Drops[:2]
			if !impl.LarderOk(l) {
				t.Errorf("%+v behind the list: it is refused", d)
			}
			checkDidLarder(t, l, setOf("c", 10))
			checkLater(t, l, 5)
		}
	}
}

// grownLarder is a larder together with what it told of its drops as they came, and how often each kind of a thing was met.
type grownLarder struct {
	larder impl.Larder
	drops  []impl.Drop
	tally  impl.Tally
	met    map[string]int
}

func (g *grownLarder) did(t *testing.T, c impl.Cmd) {
	t.Helper()
	before := g.larder
	checkDidLarder(t, before, c)
	aged, overs := impl.Aged(before.Book, before.Now)
	g.larder = askDidLarder(t, before, c)
	_, r := impl.DidBook(before.Book, c, before.Now)
	g.tally = impl.Counted(g.tally, c, r)
	news := g.larder.Drops[len(before.Drops):]
	g.drops = append(g.drops, news...)
	g.tally.Drops += int64(len(news))
	g.tally.Overs += int64(len(overs))
	g.met[fmt.Sprint("reply ", r.Kind)]++
	g.met[fmt.Sprint("verb ", c.Verb)]++
	if len(overs) > 0 {
		g.met["over"]++
	}
	if len(news) > 1 {
		g.met["more than one"]++
	}
	if len(news) > 1 && news[0].Cause != news[len(news)-1].Cause {
		g.met["both causes"]++
	}
	if impl.Heavy(g.larder.Book.Items) == g.larder.Room {
		g.met["just as heavy"]++
	}
	if len(g.larder.Book.Items) == 19 && len(news) > 0 {
		g.met["too many"]++
	}
	for _, d := range news {
		fresh := impl.FindItem(aged.Items, c.Name) == -1
		g.met[fmt.Sprint("cause ", d.Cause, " of the Name ", d.Name == c.Name, ", which is fresh ", fresh)]++
	}
}

func (g *grownLarder) later(t *testing.T, by int64) {
	t.Helper()
	checkLater(t, g.larder, by)
	next, ok := impl.Later(g.larder, by)
	if can := by >= 0 && by <= 1000000-g.larder.Now; ok != can || !can && !sameLarder(next, g.larder) {
		t.Fatalf("Later(%+v, %d) = %+v, %v", g.larder, by, next, ok)
	}
	if next.Now -= g.larder.Now; ok && next.Now != by {
		t.Fatalf("Later(%+v, %d): Now is %d more", g.larder, by, next.Now)
	}
	next.Now += g.larder.Now
	askRoom(t, next)
	g.larder = next
}

// refused: what can't be changes nothing.
func (g *grownLarder) refused(t *testing.T, c impl.Cmd) {
	t.Helper()
	checkDidLarder(t, g.larder, c)
	if got, r := impl.DidLarder(g.larder, c); r != (impl.Reply{Kind: impl.RpError}) || !sameLarder(got, g.larder) {
		t.Fatalf("DidLarder(%+v, %+v) = %+v, %+v", g.larder, c, got, r)
	}
}

func (g *grownLarder) ask(t *testing.T) {
	t.Helper()
	if !slices.Equal(g.larder.Drops, g.drops) || g.larder.Tally != g.tally || g.tally.Drops != int64(len(g.drops)) {
		t.Fatalf("%+v: was %+v, %+v", g.larder, g.drops, g.tally)
	}
}

// TestPromise17Runs: runs up to MaxDone of both Kinds, in a small Room and in a great one, with few names and with many, with Later between and without.
func TestPromise17Runs(t *testing.T) {
	met := map[string]int{}
	wrong := wrongCmds()
	for run := range 48 {
		roll := rolls(uint64(170 + run))
		room := []int64{20 + roll(60), 2000, 100 + roll(400), 400 + roll(800), 2000, roll(40)}[run/2%6]
		names := sortedNames([]int{3, 25, 6, 15, 30}[run%5])
		l := checkNewLarder(t, bothKinds[run%2], room, roll(1000001))
		g := &grownLarder{larder: l, met: met}
		for g.larder.Count < impl.MaxDone {
			c := rolledDeed(roll, g.larder.Book, names, g.larder.Now)
			if roll(4) == 0 {
				c = setOf(names[roll(len(names))], 20+int(roll(50)))
			}
			if room == 2000 && c.Verb == impl.VbClear && roll(10) > 0 {
				c = impl.Cmd{Verb: impl.VbGet, Name: names[roll(len(names))]}
			}
			if g.did(t, c); run%3 > 0 && roll(3) == 0 {
				g.later(t, roll(7)-1)
			}
			if roll(10) == 0 {
				g.refused(t, wrong[roll(len(wrong))])
			}
		}
		g.ask(t)
		for _, c := range []impl.Cmd{setOf("a", 9), {Verb: impl.VbClear}, {}} {
			g.refused(t, c)
		}
	}
	askMet(t, met)
}

// askMet: the runs went by all that there is to meet, and by nothing that can't be.
func askMet(t *testing.T, met map[string]int) {
	t.Helper()
	for kind := 1; kind <= 12; kind++ {
		if never := kind == impl.RpError; met[fmt.Sprint("reply ", kind)] == 0 != never {
			t.Errorf("reply %d: %d", kind, met[fmt.Sprint("reply ", kind)])
		}
	}
	for verb := 1; verb <= 13; verb++ {
		if met[fmt.Sprint("verb ", verb)] == 0 {
			t.Errorf("verb %d: none", verb)
		}
	}
	for what, can := range map[string]bool{
		"over": true, "more than one": true, "both causes": true, "just as heavy": true, "too many": true,
		"cause 1 of the Name false, which is fresh true": true, "cause 1 of the Name false, which is fresh false": true,
		"cause 2 of the Name true, which is fresh true": true, "cause 2 of the Name true, which is fresh false": true,
		"cause 1 of the Name true, which is fresh true": false, "cause 1 of the Name true, which is fresh false": false,
		"cause 2 of the Name false, which is fresh true": false, "cause 2 of the Name false, which is fresh false": false,
	} {
		if met[what] > 0 != can {
			t.Errorf("%s: %d", what, met[what])
		}
	}
}

// TestPromise17Every: each run of up to three commands by three names and one Later, whatever comes behind what.
func TestPromise17Every(t *testing.T) {
	steps := []func(l impl.Larder) impl.Larder{func(l impl.Larder) impl.Larder { out, _ := impl.Later(l, 1); return out }}
	for _, c := range []impl.Cmd{
		setOf("a", 9), setOf("a", 12), setOf("b", 12), setOf("c", 24), setOf("c", 10), {Verb: impl.VbAdd, Name: "b", Bytes: "9", Until: 1}, {Verb: impl.VbReplace, Name: "a", Bytes: "123456"},
		{Verb: impl.VbTail, Name: "a", Bytes: "xx"}, {Verb: impl.VbHead, Name: "c", Bytes: strings.Repeat("y", 14)}, {Verb: impl.VbUp, Name: "b", Delta: 1}, {Verb: impl.VbGets, Name: "a"}, {Verb: impl.VbGet, Name: "c"},
		{Verb: impl.VbCas, Name: "a", Bytes: "4567", Cas: 1}, {Verb: impl.VbTouch, Name: "a", Until: 1}, {Verb: impl.VbCut, Name: "b"}, {Verb: impl.VbClear, Quiet: true},
	} {
		steps = append(steps, func(l impl.Larder) impl.Larder {
			checkDidLarder(t, l, c)
			return askDidLarder(t, l, c)
		})
	}
	var walk func(l impl.Larder, left int)
	walk = func(l impl.Larder, left int) {
		if askRoom(t, l); left == 0 {
			return
		}
		for _, step := range steps {
			walk(step(l), left-1)
		}
	}
	for _, kind := range bothKinds {
		for _, room := range []int64{11, 24} {
			l, _ := impl.NewLarder(kind, room, 1)
			walk(l, 3)
		}
		walk(seenAs(wordLarder(kind, 35, "b >c* a", 11, 12, 12), "a1 b2"), 2)
	}
}

// toldLarder is a case by words: drops, who is there (the ring or the queue), and what is asked.
type toldLarder struct {
	what        string
	given       impl.Larder
	c           impl.Cmd
	kind        int64
	drops, left string
}

func (c toldLarder) check(t *testing.T) {
	t.Helper()
	got, r := impl.DidLarder(c.given, c.c)
	r = impl.Reply{Kind: r.Kind}
	if r.Kind != c.kind || dropWords(got.Drops) != c.drops {
		t.Errorf("%s: %+v, Drops %s, want %s", c.what, r, dropWords(got.Drops), c.drops)
	}
	if left := wordRing(c.left); c.given.Choice.Kind == impl.ChClock && !sameRing(got.Choice.Ring, left) || c.given.Choice.Kind == impl.ChQueue && !slices.Equal(got.Choice.Queue, left.Names) {
		t.Errorf("%s: %+v, %q, want %s", c.what, got.Choice.Ring, got.Choice.Queue, c.left)
	}
	if got.Tally.Drops != c.given.Tally.Drops+int64(len(got.Drops)-len(c.given.Drops)) {
		t.Errorf("%s: the Tally is %+v", c.what, got.Tally)
	}
	checkDidLarder(t, c.given, c.c)
	askDidLarder(t, c.given, c.c)
}

// TestDropsOfAClock goes by three things of weight 10 in Room 30.
func TestDropsOfAClock(t *testing.T) {
	abc := func(words, counts string) impl.Larder { return seenAs(wordLarder(1, 30, words, 10, 10, 10), counts) }
	tail := func(name string, more int) impl.Cmd {
		return impl.Cmd{Verb: impl.VbTail, Name: name, Bytes: strings.Repeat("y", more)}
	}
	for _, c := range []toldLarder{
		{"worth it", abc("a b c", ""), setOf("d", 10), 1, "a:1@4", ">b c d"},
		{"worth it by one", abc("a b c", "d2 a2"), setOf("d", 10), 1, "a:1@4", ">b c d"},
		{"not worth it by one", abc("a b c", "d2 a3"), setOf("d", 10), 1, "d:2@4", ">a b c"},
		{"not worth it by two", abc("a b c", "a2"), setOf("d", 10), 1, "d:2@4", ">a b c"},
		{"both seen no further", abc("a b c", "a15 d15"), setOf("d", 10), 1, "d:2@4", ">a b c"},
		{"the first one is Used", abc("a* b c", ""), setOf("d", 10), 1, "b:1@4", "a >c d"},
		{"not worth it, Used no more", abc("a* b c", "b1"), setOf("d", 10), 1, "d:2@4", "a >b c"},
		{"all are Used: behind the Name they are not", abc("a* b* c*", ""), setOf("d", 10), 1, "a:1@4", ">b c d"},
		{"all are Used, from the second one on", abc("a* >b* c*", ""), setOf("d", 10), 1, "b:1@4", "a >c d"},
		{"the last one", abc("a b >c", ""), setOf("d", 10), 1, "c:1@4", "a b >d"},
		{"all are Used, from the last one on", abc("a* b* >c*", ""), setOf("d", 10), 1, "c:1@4", "a b >d"},
		{"two go", abc("a b c", ""), setOf("d", 20), 1, "a:1@4 b:1@4", ">c d"},
		{"two go, lighter by one", abc("a b c", ""), setOf("d", 11), 1, "a:1@4 b:1@4", ">c d"},
		{"one goes, then it is not worth it", abc("a b c", "b1"), setOf("d", 20), 1, "a:1@4 d:2@4", ">b c"},
		{"all go", abc("a b c", ""), setOf("d", 30), 1, "a:1@4 b:1@4 c:1@4", ">d"},
		{"all go, and it as well", abc("a b c", ""), setOf("d", 31), 1, "a:1@4 b:1@4 c:1@4 d:2@4", ""},
		{"too heavy, and not worth it", abc("a b c", "a1"), setOf("d", 31), 1, "d:2@4", ">a b c"},
		{"added", abc("a b c", ""), impl.Cmd{Verb: impl.VbAdd, Name: "d"}, 1, "a:1@4", ">b c d"},
		{"not added", abc("a b c", ""), impl.Cmd{Verb: impl.VbAdd, Name: "a", Bytes: "xx"}, 2, "", ">a b c"},
		{"not replaced", abc("a b c", ""), impl.Cmd{Verb: impl.VbReplace, Name: "d", Bytes: "xx"}, 2, "", ">a b c"},
		{"lighter", abc("a b c", ""), setOf("b", 9), 1, "", ">a b* c"},
		{"as heavy", abc("a b c", ""), setOf("b", 10), 1, "", ">a b* c"},
		{"heavier by one", abc("a b c", "a15"), setOf("b", 11), 1, "a:1@4", ">b* c"},
		{"heavier by one, at the hand", abc("a b c", "b15"), setOf("a", 11), 1, "b:1@4", "a >c"},
		{"not fresh: two go", abc("a b c", "a15 c15"), setOf("b", 21), 1, "a:1@4 c:1@4", ">b"},
		{"not fresh: all go, and it as well", abc("a b c", "a15"), setOf("b", 31), 1, "a:1@4 c:1@4 b:2@4", ""},
		{"replaced", abc("a b c", "a15"), impl.Cmd{Verb: impl.VbReplace, Name: "b", Bytes: "xx"}, 1, "a:1@4", ">b* c"},
		{"by its Cas", abc("a b c", "a15"), impl.Cmd{Verb: impl.VbCas, Name: "b", Bytes: "xx", Cas: 1}, 1, "a:1@4", ">b* c"},
		{"by another Cas", abc("a b c", "a15"), impl.Cmd{Verb: impl.VbCas, Name: "b", Bytes: "xx", Cas: 2}, 3, "", ">a b c"},
		{"tail", abc("a b c", "a15"), tail("c", 1), 1, "a:1@4", ">b c*"},
		{"tail by nothing", abc("a b c", "a15"), tail("c", 0), 1, "", ">a b c*"},
		{"tail of nobody", abc("a b c", "a15"), tail("d", 1), 2, "", ">a b c"},
		{"tail: too many bytes", abc("a b c", "a15"), tail("c", 64), 12, "", ">a b c"},
		{"tail: all go, and it as well", abc("a b c", "a15"), tail("a", 21), 1, "b:1@4 c:1@4 a:2@4", ""},
		{"head", abc("a b c", "a15"), impl.Cmd{Verb: impl.VbHead, Name: "b", Bytes: "yz"}, 1, "a:1@4", ">b* c"},
		{"no number", abc("a b c", ""), impl.Cmd{Verb: impl.VbUp, Name: "a", Delta: 5}, 11, "", ">a b c"},
		{"cut", abc("a b c", ""), impl.Cmd{Verb: impl.VbCut, Name: "a"}, 8, "", ">b c"},
		{"cut, nobody", abc("a b c", ""), impl.Cmd{Verb: impl.VbCut, Name: "d"}, 4, "", ">a b c"},
		{"clear", abc("a b >c*", ""), impl.Cmd{Verb: impl.VbClear}, 9, "", ""},
		{"get", abc("a b >c*", ""), impl.Cmd{Verb: impl.VbGet, Name: "a"}, 5, "", "a* b >c*"},
		{"touch", abc("a b >c*", ""), impl.Cmd{Verb: impl.VbTouch, Name: "b", Until: 9}, 7, "", "a b* >c*"},
	} {
		c.check(t)
	}
}

// TestDropsOfAQueue: with two others the foremost of both goes, with three the Seed says which, with one that one.
func TestDropsOfAQueue(t *testing.T) {
	queue := func(words, counts string, seed int64) impl.Larder {
		many := len(strings.Fields(words))
		l := seenAs(wordLarder(2, int64(10*many), words, slices.Repeat([]int{10}, many)...), counts)
		l.Seed = seed
		return l
	}
	for _, c := range []toldLarder{
		{"one", queue("a", "", 7), setOf("b", 10), 1, "a:1@2", "b"},
		{"one, not worth it", queue("a", "a1", 7), setOf("b", 10), 1, "b:2@2", "a"},
		{"one, grown", queue("a", "", 7), setOf("a", 11), 1, "a:2@2", ""},
		{"two", queue("b a", "", 0), setOf("c", 10), 1, "b:1@3", "a c"},
		{"two, another Seed", queue("b a", "", 1), setOf("c", 10), 1, "b:1@3", "a c"},
		{"two, not worth it", queue("b a", "b1", 1), setOf("c", 10), 1, "c:2@3", "b a"},
		{"two, the other one was seen", queue("b a", "a9", 1), setOf("c", 10), 1, "b:1@3", "a c"},
		{"two, the foremost one grown", queue("b a", "a9", 1), setOf("b", 11), 1, "a:1@3", "b"},
		{"two, the last one grown", queue("b a", "b9", 1), setOf("a", 11), 1, "b:1@3", "a"},
		{"two and a half", queue("b a", "", 1), setOf("c", 21), 1, "b:1@3 a:1@3 c:2@3", ""},
		{"three, Seed 0", queue("c b a", "", 0), setOf("d", 10), 1, "c:1@4", "b a d"},
		{"three, Seed 1", queue("c b a", "", 1), setOf("d", 10), 1, "b:1@4", "c a d"},
		{"three, Seed 2", queue("c b a", "", 2), setOf("d", 10), 1, "a:1@4", "c b d"},
		{"three, Seed 1000000", queue("c b a", "", 1000000), setOf("d", 10), 1, "b:1@4", "c a d"},
		{"three, Seed 1, then two", queue("c b a", "", 1), setOf("d", 20), 1, "b:1@4 c:1@4", "a d"},
		{"three, Seed 1, then not worth it", queue("c b a", "c1", 1), setOf("d", 20), 1, "b:1@4 d:2@4", "c a"},
		{"three, Seed 1, all", queue("c b a", "", 1), setOf("d", 31), 1, "b:1@4 c:1@4 a:1@4 d:2@4", ""},
		{"four, Seed 2: the third, then the second of three", queue("a b c d", "", 2), setOf("e", 20), 1, "b:1@5 d:1@5", "a c e"},
		{"three, grown", queue("c b a", "", 0), setOf("c", 11), 1, "b:1@4", "a c"},
		{"cut", queue("c b a", "", 0), impl.Cmd{Verb: impl.VbCut, Name: "b"}, 8, "", "c a"},
		{"clear", queue("c b a", "", 0), impl.Cmd{Verb: impl.VbClear}, 9, "", ""},
		{"get", queue("c b a", "", 0), impl.Cmd{Verb: impl.VbGet, Name: "c"}, 5, "", "b a c"},
		{"gets, nobody", queue("c b a", "", 0), impl.Cmd{Verb: impl.VbGets, Name: "d"}, 4, "", "c b a"},
	} {
		c.check(t)
	}
}

// TestNumberGrows: a digit more is a byte more.
func TestNumberGrows(t *testing.T) {
	for _, kind := range bothKinds {
		for _, c := range []struct {
			bytes string
			delta int64
			drops string
		}{
			{"8", 1, ""}, {"9", 0, ""}, {"9", 1, "b:1@3"}, {"99", 1, "b:1@3"}, {"99999999", 1, "b:1@3"}, {"999999999", 1, ""}, {"5", 999995, "b:1@3"},
		} {
			i := impl.Item{Name: "a", Bytes: c.bytes, Cas: 4}
			room := int64(9 + len(c.bytes) + 10)
			l := seenAs(larderOf(kind, room, "a b", i, weighing("b", 10)), "b15")
			toldLarder{c.bytes, l, impl.Cmd{Verb: impl.VbUp, Name: "a", Delta: c.delta}, 6, c.drops, map[bool]string{true: "a* b", false: "a"}[c.drops == ""]}.checkNames(t)
			toldLarder{c.bytes, l, impl.Cmd{Verb: impl.VbDown, Name: "a", Delta: c.delta}, 6, "", "a b"}.checkNames(t)
		}
	}
	l := larderOf(1, 10, "a", impl.Item{Name: "a", Bytes: "9", Cas: 4})
	toldLarder{"alone", l, impl.Cmd{Verb: impl.VbUp, Name: "a", Delta: 1}, 6, "a:2@2", ""}.checkNames(t)
}

// checkNames asks who is there, in whatever order.
func (c toldLarder) checkNames(t *testing.T) {
	t.Helper()
	got, r := impl.DidLarder(c.given, c.c)
	names := wordRing(c.left).Names
	if r.Kind != c.kind || dropWords(got.Drops) != c.drops || !slices.Equal(namesIn(got.Book.Items), names) {
		t.Errorf("%s: %+v, Drops %s, %q, want %s, %q", c.what, r, dropWords(got.Drops), namesIn(got.Book.Items), c.drops, names)
	}
	checkDidLarder(t, c.given, c.c)
	askDidLarder(t, c.given, c.c)
}

// TestJustTheRoom: two things of weight 10 and a third one, in every Room from that of the two to more than that of all three.
func TestJustTheRoom(t *testing.T) {
	for _, kind := range bothKinds {
		for weight := 9; weight <= 73; weight++ {
			for room := 20; room <= weight+21; room++ {
				l := wordLarder(kind, int64(room), "a b", 10, 10)
				want := "a:1@3 b:1@3 c:2@3"
				switch {
				case room >= weight+20:
					want = ""
				case room >= weight+10:
					want = "a:1@3"
				case room >= weight:
					want = "a:1@3 b:1@3"
				}
				if got, r := impl.DidLarder(l, setOf("c", weight)); r.Kind != impl.RpStored || dropWords(got.Drops) != want {
					t.Errorf("Kind %d, Room %d, weight %d: Drops %s, want %s", kind, room, weight, dropWords(got.Drops), want)
				}
				checkDidLarder(t, l, setOf("c", weight))
				askDidLarder(t, l, setOf("c", weight))
			}
		}
	}
}

// TestOneAlone: a thing heavier than Room can't stay, whether it is fresh or it has grown; as heavy as Room it can.
func TestOneAlone(t *testing.T) {
	for _, kind := range bothKinds {
		for _, room := range []int64{0, 1, 8, 9, 10, 20, 72, 73, 2000} {
			empty := checkNewLarder(t, kind, room, 7)
			for weight := 9; weight <= 73; weight++ {
				for _, verb := range []int64{impl.VbSet, impl.VbAdd} {
					c := setOf("a", weight)
					c.Verb = verb
					askAlone(t, empty, c, int64(weight) <= room)
				}
			}
			if room < 9 {
				continue
			}
			for more := range 56 {
				bytes := strings.Repeat("y", more)
				l := wordLarder(kind, room, "a", 9)
				for _, c := range []impl.Cmd{setOf("a", 9+more), {Verb: impl.VbReplace, Name: "a", Bytes: bytes}, {Verb: impl.VbTail, Name: "a", Bytes: bytes}, {Verb: impl.VbHead, Name: "a", Bytes: bytes}, {Verb: impl.VbCas, Name: "a", Bytes: bytes, Cas: 1}} {
					askAlone(t, l, c, int64(9+more) <= room)
				}
			}
		}
	}
}

// askAlone: where it does not stay, that it was stored is told, and nobody is there any more.
func askAlone(t *testing.T, l impl.Larder, c impl.Cmd, stays bool) {
	t.Helper()
	got, r := impl.DidLarder(l, c)
	want := ""
	if !stays {
		want = fmt.Sprintf("a:2@%d", l.Count+1)
	}
	if r != (impl.Reply{Kind: impl.RpStored}) || dropWords(got.Drops) != want || len(got.Book.Items) != len(impl.NamesOf(got.Choice)) || len(got.Book.Items) == 1 != stays {
		t.Fatalf("DidLarder(%+v, %+v) = %+v, %+v", l, c, got, r)
	}
	if behind, told := impl.DidLarder(got, impl.Cmd{Verb: impl.VbGet, Name: "a"}); (told.Kind == impl.RpValue) != stays || !impl.LarderOk(behind) {
		t.Fatalf("behind %+v: %+v", c, told)
	}
	seed := l.Seed
	if !stays {
		seed = (7*seed + 3) % 1000003 % 1000001
	}
	if got.Seed != seed {
		t.Fatalf("behind %+v: Seed %d, was %d", c, got.Seed, l.Seed)
	}
	checkDidLarder(t, l, c)
	askDidLarder(t, l, c)
}

// TestNineteen: MaxNames less 1 things stay, however light; with one more, one goes. What is not fresh changes nothing there.
func TestNineteen(t *testing.T) {
	names := manyNames(20)
	words := strings.Join(names[:19], " ")
	for _, kind := range bothKinds {
		for _, seed := range []int64{0, 3, 7, 18, 19, 999999, 1000000} {
			l := larderOf(kind, 2000, words, wordBook(words)...)
			l.Seed = seed
			for _, name := range names[:19] {
				if got := askDidLarder(t, l, setOf(name, 30)); len(got.Book.Items) != 19 || len(got.Drops) != 0 || got.Seed != seed {
					t.Errorf("set %s: %+v", name, got)
				}
				checkDidLarder(t, l, setOf(name, 30))
			}
			for _, verb := range []int64{impl.VbSet, impl.VbAdd} {
				c := impl.Cmd{Verb: verb, Name: names[19]}
				got := askDidLarder(t, l, c)
				if len(got.Book.Items) != 19 || len(got.Drops) != 1 || got.Drops[0].After != 20 || got.Seed != wantedSeed(seed) {
					t.Errorf("one more: %+v", got)
				}
				checkDidLarder(t, l, c)
			}
		}
		l := checkNewLarder(t, kind, 2000, 7)
		for many, name := range manyNames(40) {
			l = askDidLarder(t, l, setOf(name, 8+len(name)))
			if len(l.Book.Items) != min(many+1, 19) || len(l.Drops) != max(many-18, 0) {
				t.Errorf("Kind %d, %d names: %d things, %d Drops", kind, many+1, len(l.Book.Items), len(l.Drops))
			}
		}
	}
}

// TestFreshAmongNineteen: too many and too heavy at once; whoever goes makes room for both.
func TestFreshAmongNineteen(t *testing.T) {
	names := strings.Split("abcdefghijklmnopqrs", "")
	for _, kind := range bothKinds {
		for _, room := range []int64{190, 199, 200, 201, 250} {
			for _, weight := range []int{9, 10, 11, 19, 20, 21, 60} {
				for _, counts := range []string{"", "a1", "b1", "a15 b15 h15", "t1", "t15"} {
					l := seenAs(wordLarder(kind, room, strings.Join(names, " "), slices.Repeat([]int{10}, 19)...), counts)
					checkDidLarder(t, l, setOf("t", weight))
					if got := askDidLarder(t, l, setOf("t", weight)); len(got.Drops) == 0 || len(got.Book.Items) > 19 {
						t.Errorf("Room %d, weight %d: %+v", room, weight, got)
					}
				}
			}
		}
	}
}

// TestSeedBehind: one step a Victim, also where there is none; none where nobody must go.
func TestSeedBehind(t *testing.T) {
	steps := map[int64][2]int64{0: {3, 24}, 1: {10, 73}, 7: {52, 367}, 142857: {1, 10}, 142856: {999995, 999950}, 142858: {6, 45}, 428572: {0, 3}, 428571: {999994, 999943}, 428573: {5, 38}, 1000000: {999985, 999880}, 999999: {999978, 999831}}
	for seed, want := range steps {
		for _, kind := range bothKinds {
			l := wordLarder(kind, 20, "a b", 10, 10)
			l.Seed = seed
			for _, c := range []struct {
				c    impl.Cmd
				seed int64
			}{
				{setOf("c", 10), want[0]}, {setOf("c", 20), want[1]}, {setOf("a", 11), want[0]}, {setOf("a", 21), want[1]}, {setOf("a", 10), seed}, {setOf("a", 9), seed},
				{impl.Cmd{Verb: impl.VbGet, Name: "a"}, seed}, {impl.Cmd{Verb: impl.VbCut, Name: "a"}, seed}, {impl.Cmd{Verb: impl.VbClear}, seed}, {impl.Cmd{Verb: impl.VbAdd, Name: "a", Bytes: "xxx"}, seed},
			} {
				if got, _ := impl.DidLarder(l, c.c); got.Seed != c.seed {
					t.Errorf("Seed %d, %+v: %d, want %d", seed, c.c, got.Seed, c.seed)
				}
				checkDidLarder(t, l, c.c)
				askDidLarder(t, l, c.c)
			}
			alone := checkNewLarder(t, kind, 0, seed)
			if got, _ := impl.DidLarder(alone, setOf("a", 9)); got.Seed != want[0] {
				t.Errorf("Seed %d, nobody else: %d", seed, got.Seed)
			}
		}
	}
	for seed := int64(0); seed <= 1000000; seed += 997 {
		l := wordLarder(2, 20, "a b", 10, 10)
		l.Seed = seed
		if got, _ := impl.DidLarder(l, setOf("c", 10)); got.Seed != wantedSeed(seed) || got.Seed < 0 || got.Seed > 1000000 {
			t.Errorf("Seed %d: %d, want %d", seed, got.Seed, wantedSeed(seed))
		}
	}
}

// TestCountToTheEnd: at MaxDone less 1 one more is done, at MaxDone none, whatever it would be.
func TestCountToTheEnd(t *testing.T) {
	for what, given := range larderKinds() {
		for _, c := range append(larderCmds(), wrongCmds()[:20]...) {
			for _, count := range []int64{398, 399, 400} {
				l := looseLarder(given)
				l.Count = count
				got, r := impl.DidLarder(l, c)
				if done := count < 400 && impl.CmdOk(c); done && got.Count != count+1 || !done && (r != (impl.Reply{Kind: impl.RpError}) || !sameLarder(got, l)) {
					t.Fatalf("%s, Count %d: %+v, %+v", what, count, got, r)
				}
				checkDidLarder(t, l, c)
			}
		}
	}
	for _, kind := range bothKinds {
		l := checkNewLarder(t, kind, 2000, 7)
		for count := range int64(400) {
			if l = askDidLarder(t, l, impl.Cmd{Verb: impl.VbGet, Name: "a"}); l.Count != count+1 || l.Tally.Asked != count+1 {
				t.Fatalf("behind %d: %+v", count, l)
			}
		}
		checkDidLarder(t, l, impl.Cmd{Verb: impl.VbGet, Name: "a"})
		if next, ok := impl.Later(l, 1000000); !ok || next.Now != 1000000 || next.Count != 400 {
			t.Errorf("Later, all done: %+v, %v", next, ok)
		}
	}
}

// datedLarder has one letter an Until, from a on, all of weight 10.
func datedLarder(kind, room, now int64, untils ...int64) impl.Larder {
	var list []impl.Item
	var words []string
	for place, until := range untils {
		i := weighing(string(rune('a'+place)), 10)
		i.Until = until
		list, words = append(list, i), append(words, i.Name)
	}
	l := larderOf(kind, room, strings.Join(words, " "), list...)
	l.Now = now
	return l
}

// TestOver: what is over is forgotten ahead of all else, is counted, and is no drop.
func TestOver(t *testing.T) {
	get := func(name string) impl.Cmd { return impl.Cmd{Verb: impl.VbGet, Name: name} }
	for _, kind := range bothKinds {
		for _, c := range []struct {
			what  string
			given impl.Larder
			c     impl.Cmd
			kind  int64
			overs int64
			drops string
			names string
		}{
			{"none", datedLarder(kind, 40, 4, 0, 5, 6, 7), get("z"), 4, 0, "", "a b c d"},
			{"one", datedLarder(kind, 40, 5, 0, 5, 6, 7), get("z"), 4, 1, "", "a c d"},
			{"three", datedLarder(kind, 40, 7, 0, 5, 6, 7), get("z"), 4, 3, "", "a"},
			{"all", datedLarder(kind, 40, 1000000, 1, 5, 6, 1000000), get("a"), 4, 4, "", ""},
			{"room by what is over", datedLarder(kind, 40, 5, 0, 5, 6, 7), setOf("e", 10), 1, 1, "", "a c d e"},
			{"no room even so", datedLarder(kind, 40, 5, 0, 5, 6, 7), setOf("e", 11), 1, 1, "a:1@5", "c d e"},
			{"itself, fresh again", datedLarder(kind, 40, 5, 0, 5, 6, 7), setOf("b", 10), 1, 1, "", "a b c d"},
			{"itself, by add", datedLarder(kind, 40, 5, 0, 5, 6, 7), impl.Cmd{Verb: impl.VbAdd, Name: "b"}, 1, 1, "", "a b c d"},
			{"itself, asked for", datedLarder(kind, 40, 5, 0, 5, 6, 7), get("b"), 4, 1, "", "a c d"},
			{"itself, touched", datedLarder(kind, 40, 5, 0, 5, 6, 7), impl.Cmd{Verb: impl.VbTouch, Name: "b"}, 4, 1, "", "a c d"},
			{"itself, cut", datedLarder(kind, 40, 5, 0, 5, 6, 7), impl.Cmd{Verb: impl.VbCut, Name: "b"}, 4, 1, "", "a c d"},
			{"another one cut", datedLarder(kind, 40, 5, 0, 5, 6, 7), impl.Cmd{Verb: impl.VbCut, Name: "c"}, 8, 1, "", "a d"},
			{"cleared", datedLarder(kind, 40, 6, 0, 5, 6, 7), impl.Cmd{Verb: impl.VbClear}, 9, 2, "", ""},
			{"not added", datedLarder(kind, 40, 6, 0, 5, 6, 7), impl.Cmd{Verb: impl.VbAdd, Name: "a"}, 2, 2, "", "a d"},
			{"stored until now", datedLarder(kind, 40, 5), impl.Cmd{Verb: impl.VbSet, Name: "a", Until: 5}, 1, 0, "", "a"},
		} {
			c.given.Seed = 0
			got, r := impl.DidLarder(c.given, c.c)
			if r.Kind != c.kind || got.Tally.Overs != c.overs || dropWords(got.Drops) != c.drops || strings.Join(namesIn(got.Book.Items), " ") != c.names {
				t.Errorf("Kind %d, %s: %+v, %+v, want %d over, Drops %s, %s", kind, c.what, got, r, c.overs, c.drops, c.names)
			}
			checkDidLarder(t, c.given, c.c)
			askDidLarder(t, c.given, c.c)
		}
	}
}

// TestOverAndBack: who was over and comes again is fresh: at the end of the ring and not Used, and dropped where it is not worth it.
func TestOverAndBack(t *testing.T) {
	l := larderOf(1, 20, "a* b", impl.Item{Name: "a", Bytes: "x", Cas: 1, Until: 3}, weighing("b", 10))
	l.Now = 3
	if got := askDidLarder(t, l, setOf("a", 10)); !sameRing(got.Choice.Ring, wordRing("b a")) {
		t.Errorf("over: %+v", got.Choice.Ring)
	}
	l.Now = 2
	if got := askDidLarder(t, l, setOf("a", 10)); !sameRing(got.Choice.Ring, wordRing("a* b")) {
		t.Errorf("not over yet: %+v", got.Choice.Ring)
	}
	for now, drops := range map[int64]string{2: "b:1@3", 3: "a:2@3"} {
		l := seenAs(larderOf(1, 20, "a* b", impl.Item{Name: "a", Bytes: "x", Cas: 1, Until: 3}, weighing("b", 10)), "b9")
		l.Now = now
		if got := askDidLarder(t, l, setOf("a", 11)); dropWords(got.Drops) != drops {
			t.Errorf("at %d: %s", now, dropWords(got.Drops))
		}
		checkDidLarder(t, l, setOf("a", 11))
	}
	for seed := range int64(3) {
		l := seenAs(datedLarder(2, 30, 9, 9, 0, 0), "b1 c1")
		l.Seed = seed
		if got := askDidLarder(t, l, setOf("a", 11)); dropWords(got.Drops) != "a:2@4" {
			t.Errorf("queue: %s", dropWords(got.Drops))
		}
	}
}

// TestSeenBy: which replies make the choice see the Name, of each Verb where it is there, not there, and over.
func TestSeenBy(t *testing.T) {
	told := map[int64]map[bool]int{}
	for _, kind := range bothKinds {
		for _, bytes := range []string{"7", "x", strings.Repeat("y", 64)} {
			for _, c := range slices.Concat(namedCmds("m", 3), namedCmds("m", 4), namedCmds("nobody", 3)) {
				for _, now := range []int64{0, 9} {
					l := larderOf(kind, 2000, "m n", impl.Item{Name: "m", Bytes: bytes, Cas: 3, Until: 9}, plainItem("n"))
					l.Now = now
					got, r := impl.DidLarder(l, c)
					sees := r.Kind == impl.RpValue || r.Kind == impl.RpStored || r.Kind == impl.RpNumber || r.Kind == impl.RpTouched
					if told[r.Kind] == nil {
						told[r.Kind] = map[bool]int{}
					}
					told[r.Kind][got.Choice.Sketch.Adds == 1]++
					if got.Choice.Sketch.Adds == 1 != sees || !sees && !sameSketch(got.Choice.Sketch, filled(0, 0)) || sees && !sameSketch(got.Choice.Sketch, wantedAdded(filled(0, 0), c.Name)) {
						t.Errorf("%+v at %d: %+v, %+v", c, now, r, got.Choice)
					}
					checkDidLarder(t, l, c)
					askDidLarder(t, l, c)
				}
			}
		}
	}
	for kind := int64(1); kind <= 12; kind++ {
		sees := slices.Contains([]int64{impl.RpValue, impl.RpStored, impl.RpNumber, impl.RpTouched}, kind)
		if kind != impl.RpError && (told[kind][sees] == 0 || told[kind][!sees] != 0) {
			t.Errorf("reply %d: %v", kind, told[kind])
		}
	}
}

// TestCutAndClear: forgotten, and no drop; the Seed stays, and what comes again is fresh.
func TestCutAndClear(t *testing.T) {
	for what, l := range larderKinds() {
		if l.Count == 400 {
			continue
		}
		aged, overs := impl.Aged(l.Book, l.Now)
		for _, name := range append(namesIn(l.Book.Items), "nobody") {
			got := askDidLarder(t, l, impl.Cmd{Verb: impl.VbCut, Name: name})
			if !slices.Equal(got.Drops, l.Drops) || got.Seed != l.Seed || got.Tally.Drops != l.Tally.Drops || slices.Contains(impl.NamesOf(got.Choice), name) || !slices.Equal(namesIn(got.Book.Items), leftOf(namesIn(aged.Items), name)) {
				t.Errorf("%s, cut %s: %+v", what, name, got)
			}
		}
		for _, quiet := range []bool{false, true} {
			got := askDidLarder(t, l, impl.Cmd{Verb: impl.VbClear, Quiet: quiet})
			if !slices.Equal(got.Drops, l.Drops) || got.Seed != l.Seed || got.Tally.Drops != l.Tally.Drops || len(impl.NamesOf(got.Choice)) != 0 || len(got.Book.Items) != 0 || !sameSketch(got.Choice.Sketch, l.Choice.Sketch) {
				t.Errorf("%s, clear: %+v", what, got)
			}
			if got.Tally.Overs != min(l.Tally.Overs+int64(len(overs)), fullTally) {
				t.Errorf("%s, clear: %+v", what, got.Tally)
			}
		}
	}
}

// TestTallyOfALarder: each count at its end stays there, and one below it gets there.
func TestTallyOfALarder(t *testing.T) {
	for _, kind := range bothKinds {
		for _, tally := range tallyKinds() {
			l := datedLarder(kind, 40, 5, 0, 0, 5, 4)
			l.Tally = tally
			for _, c := range []struct {
				c     impl.Cmd
				gains [5]int64
			}{
				{setOf("a", 31), [5]int64{0, 0, 1, 1, 2}}, {setOf("a", 41), [5]int64{0, 0, 1, 2, 2}}, {impl.Cmd{Verb: impl.VbGet, Name: "a"}, [5]int64{1, 1, 0, 0, 2}}, {impl.Cmd{Verb: impl.VbGets, Name: "c"}, [5]int64{1, 0, 0, 0, 2}}, {impl.Cmd{Verb: impl.VbClear}, [5]int64{0, 0, 0, 0, 2}},
			} {
				want := listTally(tally)
				for place, gain := range c.gains {
					want[place] = min(want[place]+gain, fullTally)
				}
				if got, r := impl.DidLarder(l, c.c); !slices.Equal(listTally(got.Tally), want) || !impl.LarderOk(got) {
					t.Fatalf("%+v, %+v: %+v, %+v, want %d", tally, c.c, got.Tally, r, want)
				}
			}
			checkDidLarder(t, l, setOf("a", 41))
		}
	}
	for what, spoil := range wrongTallies() {
		l := wordLarder(1, 30, "a b", 10, 10)
		if spoil(&l); impl.LarderOk(l) {
			t.Errorf("%s: LarderOk", what)
		}
	}
}

func wrongTallies() map[string]func(l *impl.Larder) {
	wrong := map[string]func(l *impl.Larder){}
	for _, field := range tallyFields {
		for _, n := range wrongCounts {
			wrong[fmt.Sprint("Tally ", field.name, " ", n)] = func(l *impl.Larder) { *field.of(&l.Tally) = n }
		}
	}
	return wrong
}

func TestLater(t *testing.T) {
	for what, given := range larderKinds() {
		for _, now := range []int64{0, 1, 5, 500000, 999999, 1000000} {
			l := looseLarder(given)
			l.Now = now
			for _, by := range append([]int64{0, 1, 2, 999999 - now, 1000000 - now, 1000001 - now, 1000002 - now, 999999, 1000000, 1000001, 2000000}, endNumbers...) {
				got, ok := impl.Later(l, by)
				can := by >= 0 && by <= 1000000-now
				want := larderCopy(l)
				if can {
					want.Now = now + by
				}
				if ok != can || !sameLarder(got, want) {
					t.Errorf("%s, Now %d: Later by %d = %+v, %v", what, now, by, got, ok)
				}
				checkLater(t, l, by)
			}
		}
	}
	l := checkNewLarder(t, 1, 100, 7)
	for _, c := range []struct {
		by, now int64
		ok      bool
	}{
		{0, 0, true}, {5, 5, true}, {-1, 5, false}, {999995, 1000000, true}, {1, 1000000, false}, {0, 1000000, true}, {math.MaxInt64, 1000000, false}, {math.MinInt64, 1000000, false}, {-1000000, 1000000, false},
	} {
		next, ok := impl.Later(l, c.by)
		if ok != c.ok || next.Now != c.now {
			t.Errorf("Later by %d: Now %d, %v", c.by, next.Now, ok)
		}
		l = next
	}
}

// TestLaterIsNotOver: what is over by then stays till the next command.
func TestLaterIsNotOver(t *testing.T) {
	for _, kind := range bothKinds {
		l := datedLarder(kind, 40, 0, 3, 0, 1000000)
		for _, by := range []int64{2, 3, 999999, 1000000} {
			next, ok := impl.Later(l, by)
			if !ok || !sameBook(next.Book, l.Book) || !sameChoice(next.Choice, l.Choice) || next.Tally != l.Tally || next.Count != l.Count {
				t.Errorf("Later by %d: %+v", by, next)
			}
			gone := map[int64]int{2: 0, 3: 1, 999999: 1, 1000000: 2}[by]
			if got := askDidLarder(t, next, impl.Cmd{Verb: impl.VbGet, Name: "z"}); len(got.Book.Items) != 3-gone || got.Tally.Overs != int64(gone) || len(got.Drops) != 0 {
				t.Errorf("behind Later by %d: %+v", by, got)
			}
		}
	}
}

// TestWrongCmdsOfALarder: a command that is not right changes nothing, and is not counted; what is over stays too.
func TestWrongCmdsOfALarder(t *testing.T) {
	for what, l := range larderKinds() {
		for _, c := range wrongCmds() {
			if got, r := impl.DidLarder(l, c); r != (impl.Reply{Kind: impl.RpError}) || !sameLarder(got, l) {
				t.Fatalf("%s: DidLarder(%+v) = %+v, %+v", what, c, got, r)
			}
		}
	}
}

// wrongLarders are wrong in one part each.
func wrongLarders() map[string]impl.Larder {
	wrong := map[string]impl.Larder{"zero": {}}
	for _, kind := range bothKinds {
		spoilt := func(what string, spoil func(l *impl.Larder)) {
			l := wordLarder(kind, 30, "b* >a c", 9, 10, 11)
			l.Count, l.Drops = 5, wordDrops("d:1@4 e:2@5")
			spoil(&l)
			wrong[fmt.Sprint("Kind ", kind, ", ", what)] = l
		}
		for _, n := range endNumbers {
			spoilt(fmt.Sprint("Room ", n), func(l *impl.Larder) { l.Room = n })
			spoilt(fmt.Sprint("Now ", n), func(l *impl.Larder) { l.Now = n })
			spoilt(fmt.Sprint("Seed ", n), func(l *impl.Larder) { l.Seed = n })
			spoilt(fmt.Sprint("Count ", n), func(l *impl.Larder) { l.Count = n })
			spoilt(fmt.Sprint("Next ", n), func(l *impl.Larder) { l.Book.Next = n })
		}
		spoilt("Room 2001", func(l *impl.Larder) { l.Room = 2001 })
		spoilt("Now 1000001", func(l *impl.Larder) { l.Now = 1000001 })
		spoilt("Seed 1000001", func(l *impl.Larder) { l.Seed = 1000001 })
		spoilt("Seed 1000002", func(l *impl.Larder) { l.Seed = 1000002 })
		spoilt("Count 401", func(l *impl.Larder) { l.Count = 401 })
		spoilt("Count 4", func(l *impl.Larder) { l.Count = 4 })
		spoilt("Count 0", func(l *impl.Larder) { l.Count = 0 })
		for _, d := range wrongDrops() {
			spoilt(fmt.Sprintf("%+v", d), func(l *impl.Larder) { l.Drops[1] = d })
		}
		spoilt("one Drop more", func(l *impl.Larder) { l.Drops = wordDrops("d:1@4 e:2@5 f:1@5") })
		spoilt("Room 29", func(l *impl.Larder) { l.Room = 29 })
		spoilt("Room 0", func(l *impl.Larder) { l.Room = 0 })
		spoilt("Next 0", func(l *impl.Larder) { l.Book.Next = 0 })
		spoilt("Next 1000001", func(l *impl.Larder) { l.Book.Next = 1000001 })
		spoilt("Names the other way", func(l *impl.Larder) { slices.Reverse(l.Book.Items) })
		spoilt("a Name twice", func(l *impl.Larder) { l.Book.Items[1].Name = "a" })
		spoilt("no name", func(l *impl.Larder) { l.Book.Items[0].Name = "A" })
		spoilt("Cas 0", func(l *impl.Larder) { l.Book.Items[2].Cas = 0 })
		spoilt("Flags -1", func(l *impl.Larder) { l.Book.Items[2].Flags = -1 })
		spoilt("Until 1000001", func(l *impl.Larder) { l.Book.Items[2].Until = 1000001 })
		spoilt("65 Bytes", func(l *impl.Larder) { l.Book.Items[2].Bytes, l.Room = strings.Repeat("x", 65), 2000 })
		spoilt("no things", func(l *impl.Larder) { l.Book.Items = roomyBook() })
		spoilt("one thing less", func(l *impl.Larder) { l.Book.Items = l.Book.Items[:2] })
		spoilt("one thing more", func(l *impl.Larder) {
			l.Book.Items, l.Room, l.Count = roomyBook(slices.Concat(l.Book.Items, []impl.Item{plainItem("d")})...), 100, 9
		})
		spoilt("another thing", func(l *impl.Larder) { l.Book.Items[2].Name = "d" })
		words := strings.Join(manyNames(20), " ")
		twenty := larderOf(kind, 2000, words, wordBook(words)...)
		spoilt("twenty", func(l *impl.Larder) { *l = twenty })
		for what, spoil := range wrongTallies() {
			spoilt(what, spoil)
		}
		wrongChoicesOf(kind, spoilt)
	}
	return wrong
}

// wrongChoicesOf are not right in themselves, or not of just the Names of the book.
func wrongChoicesOf(kind int64, spoilt func(what string, spoil func(l *impl.Larder))) {
	for _, words := range []string{"", "a", "a b", "b c", "a b c d", "a b d", "d e f", "a b cc", "a b c nobody"} {
		for _, other := range bothKinds {
			choice := larderOf(other, 0, words).Choice
			spoilt(fmt.Sprint("choice of Kind ", other, ": ", words), func(l *impl.Larder) { l.Choice = choice })
		}
	}
	for what, s := range wrongSketches() {
		spoilt("sketch "+what, func(l *impl.Larder) { l.Choice.Sketch = s })
	}
	for what, c := range wrongChoices() {
		spoilt("choice "+what, func(l *impl.Larder) { l.Choice = c })
	}
	for _, n := range noKinds {
		spoilt(fmt.Sprint("choice of Kind ", n), func(l *impl.Larder) { l.Choice.Kind = n })
	}
	spoilt("choice of the other Kind", func(l *impl.Larder) { l.Choice.Kind = 3 - kind })
	spoilt("a ring and a queue", func(l *impl.Larder) { l.Choice.Ring, l.Choice.Queue = wordRing("a b c"), wordQueue("a b c") })
	spoilt("a name twice", func(l *impl.Larder) { l.Choice = larderOf(kind, 0, "a b b").Choice })
	spoilt("a name twice more", func(l *impl.Larder) { l.Choice = larderOf(kind, 0, "a b c c").Choice })
	spoilt("no Choice", func(l *impl.Larder) { l.Choice = impl.Choice{} })
	if kind == impl.ChClock {
		spoilt("At 3", func(l *impl.Larder) { l.Choice.Ring.At = 3 })
		spoilt("At -1", func(l *impl.Larder) { l.Choice.Ring.At = -1 })
		spoilt("a flag less", func(l *impl.Larder) { l.Choice.Ring.Used = l.Choice.Ring.Used[:2] })
		spoilt("a flag more", func(l *impl.Larder) { l.Choice.Ring.Used = l.Choice.Ring.Used[:4] })
	}
}

func TestWrongLarders(t *testing.T) {
	all := wrongLarders()
	if len(all) < 500 {
		t.Fatalf("%d wrong larders", len(all))
	}
	cmds := []impl.Cmd{{}, {Verb: impl.VbGet}, {Verb: impl.VbClear}, {Verb: impl.VbClear, Quiet: true}, setOf("a", 9), setOf("a", 72), setOf("d", 10), {Verb: impl.VbGet, Name: "a"}, {Verb: impl.VbCut, Name: "c"}, {Verb: 14, Name: "a"}}
	for what, l := range all {
		if wantedLarder(l) || impl.LarderOk(l) {
			t.Errorf("%s: LarderOk", what)
		}
		checkLarder(t, l)
		for _, c := range cmds {
			if got, r := impl.DidLarder(l, c); r != (impl.Reply{Kind: impl.RpError}) || !isZeroLarder(got) {
				t.Errorf("%s: DidLarder(%+v) = %+v, %+v", what, c, got, r)
			}
		}
		checkDidLarder(t, l, cmds[4])
		for _, by := range []int64{0, 1, -1, 1000000, 1000001, math.MinInt64, math.MaxInt64} {
			if got, ok := impl.Later(l, by); ok || !isZeroLarder(got) {
				t.Errorf("%s: Later by %d = %+v, %v", what, by, got, ok)
			}
		}
		checkLater(t, l, 1)
	}
}

// TestWrongBooksOfALarder: books that are not right, with a choice of their Names where there can be one.
func TestWrongBooksOfALarder(t *testing.T) {
	for what, b := range wrongStores() {
		for _, kind := range bothKinds {
			l := larderOf(kind, 2000, strings.Join(namesIn(b.Items), " "))
			l.Book, l.Count = b, 400
			if got, r := impl.DidLarder(l, impl.Cmd{Verb: impl.VbClear}); impl.LarderOk(l) || r != (impl.Reply{Kind: impl.RpError}) || !isZeroLarder(got) {
				t.Errorf("%s: %+v, %+v", what, got, r)
			}
			l.Count = 30
			checkLarder(t, l)
			checkDidLarder(t, l, setOf("a", 9))
			checkLater(t, l, 1)
		}
	}
}

// TestEmptyLarders: an empty list and nil are the same, wherever one stands.
func TestEmptyLarders(t *testing.T) {
	for _, kind := range bothKinds {
		for _, items := range [][]impl.Item{nil, {}, roomyBook(), bookOf(8)[:0]} {
			for _, drops := range [][]impl.Drop{nil, {}, roomyDrops(), wordDrops("a:1@1")[:0]} {
				for _, r := range emptyRings() {
					for _, q := range [][]string{nil, {}, roomyNames(nil)} {
						l := impl.Larder{Room: 20, Book: impl.Book{Items: items, Next: 9}, Choice: impl.Choice{Kind: kind, Ring: r, Queue: q, Sketch: filled(0, 0)}, Drops: drops}
						checkLarder(t, l)
						checkLater(t, l, 4)
						for _, c := range []impl.Cmd{setOf("a", 20), setOf("a", 21), {Verb: impl.VbGet, Name: "a"}, {Verb: impl.VbClear}, {}} {
							checkDidLarder(t, l, c)
						}
					}
				}
			}
		}
	}
}

// larderCalls are all that answer a larder.
func larderCalls() map[string]func(impl.Larder) impl.Larder {
	calls := map[string]func(impl.Larder) impl.Larder{}
	for _, by := range []int64{0, 1, -1, 1000001} {
		calls[fmt.Sprint("Later by ", by)] = func(l impl.Larder) impl.Larder { out, _ := impl.Later(l, by); return out }
	}
	for _, c := range []impl.Cmd{
		{}, setOf("a", 9), setOf("a", 30), setOf("d", 10), setOf("d", 30), setOf("d", 72), {Verb: impl.VbGet, Name: "a"}, {Verb: impl.VbGet, Name: "nobody"}, {Verb: impl.VbCut, Name: "a"}, {Verb: impl.VbCut, Name: "nobody"},
		{Verb: impl.VbTouch, Name: "a", Until: 7}, {Verb: impl.VbTail, Name: "a", Bytes: "xx"}, {Verb: impl.VbAdd, Name: "a"}, {Verb: impl.VbUp, Name: "n", Delta: 1}, {Verb: impl.VbClear},
	} {
		calls[fmt.Sprintf("DidLarder %+v", c)] = func(l impl.Larder) impl.Larder { out, _ := impl.DidLarder(l, c); return out }
	}
	return calls
}

// TestLarderArgumentsStay: what was given reads as before, with the room behind its lists, be it right or wrong.
func TestLarderArgumentsStay(t *testing.T) {
	larders := wrongLarders()
	for what, l := range larderKinds() {
		larders["right: "+what] = l
	}
	for what, l := range larders {
		stays := keptLarder(t, l)
		impl.LarderOk(l)
		for call, run := range larderCalls() {
			run(l)
			stays(what + ", " + call)
		}
	}
}

// TestLarderAnswersAreNewMemory: an answer changes neither with what was given nor with another answer.
func TestLarderAnswersAreNewMemory(t *testing.T) {
	for what, l := range larderKinds() {
		for call, run := range larderCalls() {
			given := looseLarder(l)
			stays := keptLarder(t, given)
			first, second := run(given), run(given)
			want := larderCopy(second)
			spoilLarder(first)
			if stays(what + ", " + call); !sameLarder(second, want) {
				t.Fatalf("%s, %s: a change of the answer changes another one", what, call)
			}
			if spoilLarder(given); !sameLarder(second, want) {
				t.Fatalf("%s, %s: the answer changes with what was given", what, call)
			}
		}
	}
	for _, kind := range bothKinds {
		first, second := checkNewLarder(t, kind, 30, 7), checkNewLarder(t, kind, 30, 7)
		if spoilLarder(first); !sameLarder(second, checkNewLarder(t, kind, 30, 7)) {
			t.Errorf("new larders of Kind %d share memory", kind)
		}
	}
}

// TestListsOfALarderShareNothing: a list that is written over, and the room behind it, changes no other one.
func TestListsOfALarderShareNothing(t *testing.T) {
	parts := map[string]func(impl.Larder){"Items": func(l impl.Larder) { spoilBook(l.Book) }, "Drops": func(l impl.Larder) { spoilDrops(l.Drops) }}
	for part, write := range partsOf() {
		parts[part] = func(l impl.Larder) { write(l.Choice) }
	}
	calls := larderCalls()
	for _, kind := range bothKinds {
		calls[fmt.Sprint("new, Kind ", kind)] = func(impl.Larder) impl.Larder { out, _ := impl.NewLarder(kind, 30, 7); return out }
	}
	for what, l := range larderKinds() {
		for call, run := range calls {
			for part, write := range parts {
				got := run(l)
				want := larderCopy(got)
				write(got)
				if write(want); !sameLarder(got, want) {
					t.Fatalf("%s, %s: another list changes with %s", what, call, part)
				}
			}
		}
	}
}

// TestLarderRoomIsNotRead: what stands behind the lists does not count.
func TestLarderRoomIsNotRead(t *testing.T) {
	for what, l := range larderKinds() {
		bare := larderCopy(l)
		bare.Book.Items, bare.Drops, bare.Choice.Queue = slices.Clip(bare.Book.Items), slices.Clip(bare.Drops), slices.Clip(bare.Choice.Queue)
		for call, run := range larderCalls() {
			if one, two := run(l), run(bare); !sameLarder(one, two) {
				t.Errorf("%s, %s: %+v, %+v", what, call, one, two)
			}
		}
	}
}

// TestTwoOfOneLarder: what is done to one of two that came of the same larder is not seen in the other.
func TestTwoOfOneLarder(t *testing.T) {
	for _, kind := range bothKinds {
		base := wordLarder(kind, 30, "a b c", 10, 10, 10)
		base.Seed = 0
		one := askDidLarder(t, base, setOf("d", 10))
		kept := larderCopy(one)
		two, three := askDidLarder(t, one, setOf("e", 10)), askDidLarder(t, one, setOf("f", 20))
		if dropWords(base.Drops) != "" || dropWords(two.Drops) != "a:1@4 b:1@5" || dropWords(three.Drops)[:11] != "a:1@4 b:1@5" || !sameLarder(one, kept) {
			t.Errorf("Kind %d: %s, %s, %s, %s", kind, dropWords(base.Drops), dropWords(one.Drops), dropWords(two.Drops), dropWords(three.Drops))
		}
		if spoilLarder(three); !sameLarder(one, kept) || dropWords(two.Drops) != "a:1@4 b:1@5" {
			t.Errorf("Kind %d: one changes with the other", kind)
		}
	}
}

// TestLarderTwice: nothing is kept from call to call, also not of what gave up.
func TestLarderTwice(t *testing.T) {
	wrong := wrongLarders()
	for what, l := range larderKinds() {
		for call, run := range larderCalls() {
			first := run(l)
			for _, other := range []string{"zero", "Kind 1, Room 29", "Kind 2, Count 401", "Kind 1, no Choice", "Kind 2, twenty"} {
				if _, there := wrong[other]; !there {
					t.Fatalf("%s is missing", other)
				}
				run(wrong[other])
				if again := run(l); !sameLarder(again, first) {
					t.Fatalf("%s, %s behind %s: %+v, was %+v", what, call, other, again, first)
				}
			}
		}
	}
}
