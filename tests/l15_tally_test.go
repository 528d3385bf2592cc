package tests

import (
	"fmt"
	"math"
	"slices"
	"strconv"
	"strings"
	"testing"
	"unsafe"

	"loop.example/g00401/impl"
)

const fullTally = 1000000000

// tallyEdges are the ends of a count, and what stands next to them.
var tallyEdges = []int64{0, 1, fullTally - 1, fullTally}

// wrongCounts are all out of range.
var wrongCounts = []int64{
	-1, -2, fullTally + 1, fullTally + 2, 2 * fullTally, -fullTally, -fullTally - 1, 1 << 30, 1 << 31, 1 << 32, 1<<32 + 1, 1<<32 + fullTally, -1 << 31, -1 << 32, 1 - 1<<32,
	math.MinInt64, math.MinInt64 + 1, math.MaxInt64 - 1, math.MaxInt64,
}

// tallyFields are in the order in which they are shown.
var tallyFields = []struct {
	name string
	of   func(*impl.Tally) *int64
}{
	{"Asked", func(x *impl.Tally) *int64 { return &x.Asked }}, {"Hits", func(x *impl.Tally) *int64 { return &x.Hits }}, {"Stored", func(x *impl.Tally) *int64 { return &x.Stored }},
	{"Drops", func(x *impl.Tally) *int64 { return &x.Drops }}, {"Overs", func(x *impl.Tally) *int64 { return &x.Overs }},
}

func tallyOf(asked, hits, stored, drops, overs int64) impl.Tally {
	return impl.Tally{Asked: asked, Hits: hits, Stored: stored, Drops: drops, Overs: overs}
}

func evenTally(n int64) impl.Tally { return tallyOf(n, n, n, n, n) }

func listTally(x impl.Tally) []int64 {
	return []int64{x.Asked, x.Hits, x.Stored, x.Drops, x.Overs}
}

// wantedGains are what is counted once more, in the order of the fields.
func wantedGains(verb, kind int64) []int64 {
	gains := make([]int64, 5)
	if verb == 1 || verb == 2 {
		gains[0] = 1
	}
	if kind == 5 {
		gains[1] = 1
	}
	if kind == 1 || kind == 6 {
		gains[2] = 1
	}
	return gains
}

func wantedTally(x impl.Tally) bool {
	list := listTally(x)
	return slices.Min(list) >= 0 && slices.Max(list) <= fullTally
}

func wantedCounted(x impl.Tally, verb, kind int64) impl.Tally {
	if !wantedTally(x) {
		return impl.Tally{}
	}
	list := listTally(x)
	for place, gain := range wantedGains(verb, kind) {
		if list[place] != fullTally {
			list[place] += gain
		}
	}
	return tallyOf(list[0], list[1], list[2], list[3], list[4])
}

func wantedShownTally(x impl.Tally) string {
	if !wantedTally(x) {
		return ""
	}
	return fmt.Sprintf("%d %d %d %d %d", x.Asked, x.Hits, x.Stored, x.Drops, x.Overs)
}

// checkTally asks all that can be asked of a tally alone, right or wrong.
func checkTally(t *testing.T, x impl.Tally) {
	t.Helper()
	before := x
	if got, want := impl.TallyOk(x), wantedTally(x); got != want {
		t.Fatalf("TallyOk(%+v) = %v", x, got)
	}
	if got, want := impl.ShowTally(x), wantedShownTally(x); got != want {
		t.Fatalf("ShowTally(%+v) = %q, want %q", x, got, want)
	}
	if x != before {
		t.Fatalf("%+v was %+v", x, before)
	}
}

func checkCounted(t *testing.T, x impl.Tally, c impl.Cmd, r impl.Reply) impl.Tally {
	t.Helper()
	tally, cmd, reply := x, c, r
	after := impl.Counted(x, c, r)
	if want := wantedCounted(x, c.Verb, r.Kind); after != want {
		t.Fatalf("Counted(%+v, %+v, %+v) = %+v, want %+v", x, c, r, after, want)
	}
	if x != tally || c != cmd || r != reply {
		t.Fatalf("Counted(%+v, %+v, %+v): was %+v, %+v, %+v", x, c, r, tally, cmd, reply)
	}
	checkTally(t, after)
	return after
}

// askCounted holds a right tally against promise 15, whatever the command and the reply.
func askCounted(t *testing.T, x impl.Tally, c impl.Cmd, r impl.Reply) impl.Tally {
	t.Helper()
	if !impl.TallyOk(x) {
		t.Fatalf("%+v is not TallyOk", x)
	}
	after := impl.Counted(x, c, r)
	if !impl.TallyOk(after) {
		t.Fatalf("Counted(%+v, %+v, %+v) = %+v, which is not TallyOk", x, c, r, after)
	}
	counted := map[string]bool{
		"Asked": c.Verb == impl.VbGet || c.Verb == impl.VbGets, "Hits": r.Kind == impl.RpValue, "Stored": r.Kind == impl.RpStored || r.Kind == impl.RpNumber,
	}
	for _, field := range tallyFields {
		from, to := *field.of(&x), *field.of(&after)
		if to < from || to > from+1 {
			t.Fatalf("Counted(%+v, %+v, %+v) = %+v: %s went from %d to %d", x, c, r, after, field.name, from, to)
		}
		if (to > from) != (counted[field.name] && from < impl.MaxTally) {
			t.Fatalf("Counted(%+v, %+v, %+v) = %+v: %s is %d, was %d", x, c, r, after, field.name, to, from)
		}
	}
	return after
}

// tallyKinds has every choice of edges for the five counts, and some numbers between.
func tallyKinds() []impl.Tally {
	var list []impl.Tally
	many := len(tallyEdges)
	for number := range many * many * many * many * many {
		var x impl.Tally
		for _, field := range tallyFields {
			*field.of(&x) = tallyEdges[number%many]
			number /= many
		}
		list = append(list, x)
	}
	return append(list, tallyOf(2, 3, 5, 7, 11), tallyOf(11, 7, 5, 3, 2), tallyOf(9, 99, 999, 9999, 99999), tallyOf(999999999, 99999999, 9999999, 999999, 99999), evenTally(1<<29), evenTally(fullTally/2))
}

// rolledTally is right; its counts are long and short, and often near an end.
func rolledTally(roll func(int) int64) impl.Tally {
	var x impl.Tally
	for _, field := range tallyFields {
		n := roll(fullTally+1) >> roll(30)
		switch roll(4) {
		case 0:
			n = min(n, roll(4))
		case 1:
			n = fullTally - min(n, roll(4))
		}
		*field.of(&x) = n
	}
	return x
}

// everyVerb is each Verb with each Kind, whatever a book would tell.
func everyVerb(visit func(c impl.Cmd, r impl.Reply)) {
	for verb := int64(impl.VbGet); verb <= impl.VbClear; verb++ {
		for kind := int64(impl.RpStored); kind <= impl.RpBig; kind++ {
			visit(impl.Cmd{Verb: verb}, impl.Reply{Kind: kind})
		}
	}
}

func TestPromise15(t *testing.T) {
	kinds := tallyKinds()
	if len(kinds) < 1024 {
		t.Fatalf("%d tallies", len(kinds))
	}
	for _, x := range kinds {
		checkTally(t, x)
		everyVerb(func(c impl.Cmd, r impl.Reply) {
			askCounted(t, x, c, r)
			checkCounted(t, x, c, r)
		})
	}
}

// TestPromise15Cmds: right commands and replies of all makes, each of the one with some of the other.
func TestPromise15Cmds(t *testing.T) {
	cmds, replies := edgeCmds(), edgeReplies()
	kinds := []impl.Tally{{}, evenTally(fullTally - 1), evenTally(fullTally), tallyOf(1, fullTally, 0, fullTally-1, 5), tallyOf(fullTally, 3, fullTally-1, 0, 8)}
	for place, c := range cmds {
		for _, x := range kinds {
			for kind := int64(1); kind <= 12; kind++ {
				askCounted(t, x, c, plainReply(kind))
			}
			r := replies[place%len(replies)]
			askCounted(t, x, c, r)
			checkCounted(t, x, c, r)
		}
	}
	for place, r := range replies {
		for _, x := range kinds {
			for _, v := range verbLines {
				askCounted(t, x, shaped(v, impl.Cmd{Name: "a", Cas: 1}), r)
			}
			c := cmds[place%len(cmds)]
			askCounted(t, x, c, r)
			checkCounted(t, x, c, r)
		}
	}
}

func TestPromise15Rolled(t *testing.T) {
	roll := rolls(15)
	wrong := wrongCmds()
	for range 20000 {
		x, c, r := rolledTally(roll), rolledCmd(roll), rolledReply(roll)
		switch roll(6) {
		case 0:
			c = wrong[roll(len(wrong))]
		case 1:
			r.Kind = wholeNumbers[roll(len(wholeNumbers))]
		case 2:
			r.Number -= roll(3)
		}
		checkTally(t, x)
		askCounted(t, x, c, r)
		checkCounted(t, x, c, r)
	}
}

// TestPromise15Runs: many Counted one behind the other, held against how often each was to be counted, from 0, near MaxTally and at it.
func TestPromise15Runs(t *testing.T) {
	roll := rolls(151)
	for run := range 60 {
		begin := []impl.Tally{{}, evenTally(fullTally - 40), evenTally(fullTally), rolledTally(roll)}[run%4]
		x, sums := begin, listTally(begin)
		for range 300 {
			c, r := rolledCmd(roll), rolledReply(roll)
			x = askCounted(t, x, c, r)
			for place, gain := range wantedGains(c.Verb, r.Kind) {
				sums[place] += gain
			}
			for place, n := range listTally(x) {
				if n != min(sums[place], fullTally) {
					t.Fatalf("from %+v on: %+v, want %d at most %d", begin, x, sums, fullTally)
				}
			}
		}
	}
}

// TestPromise15Book: what a book tells of its commands, right and wrong ones.
func TestPromise15Book(t *testing.T) {
	roll := rolls(152)
	wrong := wrongCmds()
	asked, told := map[int64]int64{}, map[int64]int64{}
	var x impl.Tally
	for range 30 {
		b, names := impl.NewBook(), sortedNames(4+int(roll(21)))
		for now := range int64(120) {
			c := rolledDeed(roll, b, names, now)
			if roll(8) == 0 {
				c = wrong[roll(len(wrong))]
			}
			var r impl.Reply
			b, r = impl.DidBook(b, c, now)
			x = askCounted(t, x, c, r)
			asked[c.Verb]++
			told[r.Kind]++
		}
		if want := tallyOf(asked[1]+asked[2], told[5], told[1]+told[6], 0, 0); x != want {
			t.Fatalf("%+v, want %+v: told %d", x, want, told)
		}
	}
	if len(told) != 12 || x.Asked == 0 {
		t.Fatalf("not all Kinds are told: %d, %+v", told, x)
	}
}

// TestPromise15Orders: whatever comes first, the sums are the same.
func TestPromise15Orders(t *testing.T) {
	type step struct{ verb, kind int64 }
	steps := []step{{1, 5}, {2, 4}, {3, 1}, {9, 6}, {13, 9}}
	for _, begin := range []impl.Tally{{}, evenTally(7), evenTally(fullTally - 2), evenTally(fullTally - 1), evenTally(fullTally), tallyOf(fullTally, 0, 3, 1, fullTally)} {
		list := listTally(begin)
		want := tallyOf(min(list[0]+2, fullTally), min(list[1]+1, fullTally), min(list[2]+2, fullTally), list[3], list[4])
		var walk func(x impl.Tally, left []step)
		walk = func(x impl.Tally, left []step) {
			if len(left) == 0 && x != want {
				t.Fatalf("from %+v on: %+v, want %+v", begin, x, want)
			}
			for place, s := range left {
				after := askCounted(t, x, impl.Cmd{Verb: s.verb}, impl.Reply{Kind: s.kind})
				walk(after, slices.Concat(left[:place], left[place+1:]))
			}
		}
		walk(begin, steps)
	}
}

func TestTallyConstant(t *testing.T) {
	if impl.MaxTally != 1000000000 {
		t.Errorf("MaxTally is %d", impl.MaxTally)
	}
}

func TestTallyOk(t *testing.T) {
	for _, c := range []struct {
		what string
		x    impl.Tally
		want bool
	}{
		{"zero", impl.Tally{}, true},
		{"all 1", evenTally(1), true},
		{"all one below MaxTally", evenTally(999999999), true},
		{"all MaxTally", evenTally(1000000000), true},
		{"all one above MaxTally", evenTally(1000000001), false},
		{"all -1", evenTally(-1), false},
		{"more Hits than Asked", tallyOf(0, 5, 0, 0, 0), true},
		{"more Drops than Stored", tallyOf(0, 0, 0, 5, 0), true},
		{"more Overs than Stored", tallyOf(0, 0, 0, 0, 5), true},
		{"Asked MaxTally alone", tallyOf(1000000000, 0, 0, 0, 0), true},
		{"Overs MaxTally alone", tallyOf(0, 0, 0, 0, 1000000000), true},
		{"Asked one above", tallyOf(1000000001, 0, 0, 0, 0), false},
		{"Overs one above", tallyOf(0, 0, 0, 0, 1000000001), false},
		{"Asked below 0", tallyOf(-1, 0, 0, 0, 0), false},
		{"Overs below 0", tallyOf(0, 0, 0, 0, -1), false},
		{"one too many, one too few", tallyOf(-1, 1, 0, 0, 0), false},
		{"the ends", tallyOf(math.MinInt64, math.MaxInt64, 1, 0, 0), false},
	} {
		if got := impl.TallyOk(c.x); got != c.want {
			t.Errorf("%s: TallyOk(%+v) = %v", c.what, c.x, got)
		}
		checkTally(t, c.x)
	}
}

// TestTallyLimits: each count alone at each number, the others at an edge.
func TestTallyLimits(t *testing.T) {
	numbers := slices.Concat(wholeNumbers, tallyEdges, wrongCounts, []int64{2, 9, 10, fullTally - 2, fullTally / 2})
	for _, others := range tallyEdges {
		for place, field := range tallyFields {
			for _, n := range numbers {
				x := evenTally(others)
				*field.of(&x) = n
				if got, want := impl.TallyOk(x), n >= 0 && n <= 1000000000; got != want {
					t.Errorf("%s at %d, the others at %d: TallyOk = %v", field.name, n, others, got)
				}
				if listTally(x)[place] != n {
					t.Fatalf("%s is not at place %d", field.name, place)
				}
				checkTally(t, x)
				everyVerb(func(c impl.Cmd, r impl.Reply) { checkCounted(t, x, c, r) })
			}
		}
	}
}

func TestCounted(t *testing.T) {
	from := tallyOf(10, 20, 30, 40, 50)
	for _, c := range []struct {
		verb, kind int64
		want       impl.Tally
	}{
		{impl.VbGet, impl.RpValue, tallyOf(11, 21, 30, 40, 50)}, {impl.VbGets, impl.RpValue, tallyOf(11, 21, 30, 40, 50)},
		{impl.VbGet, impl.RpMissing, tallyOf(11, 20, 30, 40, 50)}, {impl.VbGets, impl.RpMissing, tallyOf(11, 20, 30, 40, 50)},
		{impl.VbGet, impl.RpError, tallyOf(11, 20, 30, 40, 50)}, {impl.VbGets, impl.RpBad, tallyOf(11, 20, 30, 40, 50)},
		{impl.VbSet, impl.RpStored, tallyOf(10, 20, 31, 40, 50)}, {impl.VbAdd, impl.RpStored, tallyOf(10, 20, 31, 40, 50)}, {impl.VbReplace, impl.RpStored, tallyOf(10, 20, 31, 40, 50)},
		{impl.VbTail, impl.RpStored, tallyOf(10, 20, 31, 40, 50)}, {impl.VbHead, impl.RpStored, tallyOf(10, 20, 31, 40, 50)}, {impl.VbCas, impl.RpStored, tallyOf(10, 20, 31, 40, 50)},
		{impl.VbUp, impl.RpNumber, tallyOf(10, 20, 31, 40, 50)}, {impl.VbDown, impl.RpNumber, tallyOf(10, 20, 31, 40, 50)},
		{impl.VbSet, impl.RpNot, from}, {impl.VbAdd, impl.RpNot, from}, {impl.VbReplace, impl.RpNot, from}, {impl.VbTail, impl.RpBig, from}, {impl.VbHead, impl.RpNot, from},
		{impl.VbCas, impl.RpExists, from}, {impl.VbCas, impl.RpMissing, from}, {impl.VbUp, impl.RpBad, from}, {impl.VbDown, impl.RpMissing, from},
		{impl.VbTouch, impl.RpTouched, from}, {impl.VbTouch, impl.RpMissing, from}, {impl.VbCut, impl.RpCut, from}, {impl.VbCut, impl.RpMissing, from},
		{impl.VbClear, impl.RpCleared, from}, {impl.VbClear, impl.RpError, from},
		// No book would tell these, but each counts by itself.
		{impl.VbGet, impl.RpStored, tallyOf(11, 20, 31, 40, 50)}, {impl.VbGets, impl.RpNumber, tallyOf(11, 20, 31, 40, 50)}, {impl.VbGet, impl.RpCut, tallyOf(11, 20, 30, 40, 50)},
		{impl.VbSet, impl.RpValue, tallyOf(10, 21, 30, 40, 50)}, {impl.VbClear, impl.RpValue, tallyOf(10, 21, 30, 40, 50)}, {impl.VbClear, impl.RpStored, tallyOf(10, 20, 31, 40, 50)},
		{impl.VbCut, impl.RpNumber, tallyOf(10, 20, 31, 40, 50)}, {impl.VbTouch, impl.RpValue, tallyOf(10, 21, 30, 40, 50)},
	} {
		cmd, reply := impl.Cmd{Verb: c.verb}, impl.Reply{Kind: c.kind}
		if got := impl.Counted(from, cmd, reply); got != c.want {
			t.Errorf("Verb %d, Kind %d: Counted = %+v, want %+v", c.verb, c.kind, got, c.want)
		}
		checkCounted(t, from, cmd, reply)
	}
}

// TestCountedEdges: what is counted at 0, 1, one below MaxTally and at MaxTally, each count alone and all together.
func TestCountedEdges(t *testing.T) {
	behind := map[int64]int64{0: 1, 1: 2, 999999999: 1000000000, 1000000000: 1000000000}
	for n, more := range behind {
		for _, c := range []struct {
			verb, kind int64
			want       impl.Tally
		}{
			{impl.VbGet, impl.RpValue, tallyOf(more, more, n, n, n)}, {impl.VbGets, impl.RpStored, tallyOf(more, n, more, n, n)}, {impl.VbGet, impl.RpNumber, tallyOf(more, n, more, n, n)}, {impl.VbGets, impl.RpMissing, tallyOf(more, n, n, n, n)},
			{impl.VbSet, impl.RpStored, tallyOf(n, n, more, n, n)}, {impl.VbUp, impl.RpNumber, tallyOf(n, n, more, n, n)}, {impl.VbCut, impl.RpValue, tallyOf(n, more, n, n, n)}, {impl.VbClear, impl.RpCleared, tallyOf(n, n, n, n, n)},
		} {
			if got := impl.Counted(evenTally(n), impl.Cmd{Verb: c.verb}, impl.Reply{Kind: c.kind}); got != c.want {
				t.Errorf("all at %d, Verb %d, Kind %d: Counted = %+v, want %+v", n, c.verb, c.kind, got, c.want)
			}
		}
		for _, others := range tallyEdges {
			for _, field := range tallyFields {
				x := evenTally(others)
				*field.of(&x) = n
				everyVerb(func(c impl.Cmd, r impl.Reply) {
					askCounted(t, x, c, r)
					checkCounted(t, x, c, r)
				})
			}
		}
	}
}

// TestCountedToTheEnd: the last steps to MaxTally, and some that would go past it.
func TestCountedToTheEnd(t *testing.T) {
	for _, c := range []struct {
		verb, kind int64
		moves      string
	}{
		{impl.VbGet, impl.RpMissing, "Asked"}, {impl.VbGets, impl.RpMissing, "Asked"}, {impl.VbSet, impl.RpValue, "Hits"}, {impl.VbSet, impl.RpStored, "Stored"}, {impl.VbDown, impl.RpNumber, "Stored"}, {impl.VbTouch, impl.RpTouched, ""},
	} {
		x := evenTally(fullTally - 5)
		for step := int64(1); step <= 12; step++ {
			x = askCounted(t, x, impl.Cmd{Verb: c.verb}, impl.Reply{Kind: c.kind})
			for _, field := range tallyFields {
				want := int64(fullTally - 5)
				if field.name == c.moves {
					want = min(want+step, fullTally)
				}
				if got := *field.of(&x); got != want {
					t.Fatalf("Verb %d, Kind %d, step %d: %s is %d, want %d", c.verb, c.kind, step, field.name, got, want)
				}
			}
		}
	}
}

func TestShowTally(t *testing.T) {
	for want, x := range map[string]impl.Tally{
		"0 0 0 0 0": {},
		"1 0 0 0 0": {Asked: 1}, "0 1 0 0 0": {Hits: 1}, "0 0 1 0 0": {Stored: 1}, "0 0 0 1 0": {Drops: 1}, "0 0 0 0 1": {Overs: 1},
		"1 2 3 4 5":               tallyOf(1, 2, 3, 4, 5),
		"5 4 3 2 1":               tallyOf(5, 4, 3, 2, 1),
		"3 20 100 4567 89012":     tallyOf(3, 20, 100, 4567, 89012),
		"1 12 123 1234 12345":     tallyOf(1, 12, 123, 1234, 12345),
		"10 100 1000 10000 1":     tallyOf(10, 100, 1000, 10000, 1),
		"0 10 0 1000000000 0":     tallyOf(0, 10, 0, 1000000000, 0),
		"7 700 70000 7000000 700": tallyOf(7, 700, 70000, 7000000, 700),
		"123456 1234567 12345678 123456789 1000000000":           tallyOf(123456, 1234567, 12345678, 123456789, 1000000000),
		"1000000000 123456789 12345678 1234567 123456":           tallyOf(1000000000, 123456789, 12345678, 1234567, 123456),
		"999999999 999999999 999999999 999999999 999999999":      evenTally(999999999),
		"1000000000 1000000000 1000000000 1000000000 1000000000": evenTally(1000000000),
	} {
		if got := impl.ShowTally(x); got != want {
			t.Errorf("ShowTally(%+v) = %q, want %q", x, got, want)
		}
		checkTally(t, x)
	}
}

// TestShowTallyDigits: a count of one to ten digits at each place, and what is shown read word by word.
func TestShowTallyDigits(t *testing.T) {
	numbers := []int64{0}
	for ten := int64(1); ten <= fullTally; ten *= 10 {
		numbers = append(numbers, ten-1, ten, min(ten+1, fullTally))
	}
	for place, field := range tallyFields {
		for _, n := range numbers {
			for step := range 5 {
				var x impl.Tally
				for other, one := range tallyFields {
					*one.of(&x) = numbers[(other*7+step*5)%len(numbers)]
				}
				*field.of(&x) = n
				words := strings.Split(impl.ShowTally(x), " ")
				if len(words) != 5 || words[place] != strconv.FormatInt(n, 10) {
					t.Fatalf("ShowTally(%+v): %q, %s is %d", x, words, field.name, n)
				}
				for other, word := range words {
					if got, err := strconv.ParseInt(word, 10, 64); err != nil || got != listTally(x)[other] {
						t.Fatalf("ShowTally(%+v): %q", x, words)
					}
				}
				checkTally(t, x)
			}
		}
	}
}

// TestShowTallyUnlike: no two tallies are shown alike.
func TestShowTallyUnlike(t *testing.T) {
	whose := map[string]impl.Tally{}
	for _, x := range tallyKinds() {
		s := impl.ShowTally(x)
		if other, ok := whose[s]; ok && other != x {
			t.Fatalf("%+v and %+v are both %q", other, x, s)
		}
		whose[s] = x
	}
}

// expectWrongTally: each function gives the one answer that the document names.
func expectWrongTally(t *testing.T, what string, x impl.Tally) {
	t.Helper()
	if impl.TallyOk(x) {
		t.Errorf("%s: TallyOk(%+v)", what, x)
	}
	if got := impl.ShowTally(x); got != "" {
		t.Errorf("%s: ShowTally(%+v) = %q", what, x, got)
	}
	everyVerb(func(c impl.Cmd, r impl.Reply) {
		if got := impl.Counted(x, c, r); got != (impl.Tally{}) {
			t.Errorf("%s: Counted(%+v, %+v, %+v) = %+v", what, x, c, r, got)
		}
	})
	for _, c := range []impl.Cmd{{}, {Verb: 14}, {Verb: math.MinInt64}, {Verb: impl.VbGet, Name: "a"}} {
		for _, r := range []impl.Reply{{}, {Kind: 13}, {Kind: math.MaxInt64}, {Kind: impl.RpValue, Name: "a", Cas: 1}} {
			if got := checkCounted(t, x, c, r); got != (impl.Tally{}) {
				t.Errorf("%s: Counted(%+v, %+v, %+v) = %+v", what, x, c, r, got)
			}
		}
	}
	checkTally(t, x)
}

// TestWrongTallies: one count that is out of range, two of these, and all.
func TestWrongTallies(t *testing.T) {
	for _, n := range wrongCounts {
		expectWrongTally(t, fmt.Sprint("all at ", n), evenTally(n))
		for place, field := range tallyFields {
			for _, others := range tallyEdges {
				x := evenTally(others)
				*field.of(&x) = n
				expectWrongTally(t, fmt.Sprint(field.name, " at ", n, ", the others at ", others), x)
			}
			for _, other := range tallyFields[place+1:] {
				x := tallyOf(2, 3, 5, 7, 11)
				*field.of(&x), *other.of(&x) = n, -n
				if n == math.MinInt64 {
					*other.of(&x) = math.MaxInt64
				}
				expectWrongTally(t, fmt.Sprint(field.name, " at ", n, ", ", other.name, " at the other end"), x)
			}
		}
	}
}

// TestWrongTalliesDoNotMend: one step from the range, what would be counted does not bring it there.
func TestWrongTalliesDoNotMend(t *testing.T) {
	c, r := impl.Cmd{Verb: impl.VbGet}, impl.Reply{Kind: impl.RpValue}
	for what, x := range map[string]impl.Tally{"Asked": {Asked: -1}, "Hits": {Hits: -1}, "Stored": {Stored: -1}, "Drops": {Drops: -1}, "Overs": {Overs: -1}} {
		if got := impl.Counted(x, c, r); got != (impl.Tally{}) {
			t.Errorf("%s at -1: Counted = %+v", what, got)
		}
		if got := impl.Counted(x, impl.Cmd{Verb: impl.VbUp}, impl.Reply{Kind: impl.RpNumber}); got != (impl.Tally{}) {
			t.Errorf("%s at -1: Counted = %+v", what, got)
		}
	}
	again := impl.Counted(impl.Counted(tallyOf(-1, 5, 5, 5, 5), c, r), c, r)
	if again != tallyOf(1, 1, 0, 0, 0) {
		t.Errorf("behind a wrong one: %+v", again)
	}
}

// wrongCodes are neither a Verb nor a Kind, also where only the lowest bits of a number are looked at.
var wrongCodes = []int64{
	0, -1, -2, -5, -6, -12, -13, 14, 15, 16, 17, 21, 100, 1 << 8, 1<<8 + 1, 1<<8 + 2, 1<<8 + 5, 1<<8 + 6, 1 << 16, 1<<16 + 1, 1<<16 + 5, 1 << 31, 1 << 32, 1<<32 + 1, 1<<32 + 2, 1<<32 + 5, 1<<32 + 6,
	-1 << 32, 1 - 1<<32, 2 - 1<<32, 5 - 1<<32, 6 - 1<<32, math.MinInt64, math.MinInt64 + 1, math.MinInt64 + 2, math.MinInt64 + 5, math.MaxInt64 - 1, math.MaxInt64,
}

// TestCountedWrongCodes: what is no Verb and what is no Kind counts nothing, but what stands beside it still does.
func TestCountedWrongCodes(t *testing.T) {
	for _, x := range []impl.Tally{{}, evenTally(1), evenTally(fullTally - 1), evenTally(fullTally), tallyOf(2, 3, 5, 7, 11)} {
		for _, one := range wrongCodes {
			for _, two := range append([]int64{13}, wrongCodes...) {
				c, r := impl.Cmd{Verb: one, Name: "a"}, impl.Reply{Kind: two}
				if got := impl.Counted(x, c, r); got != x {
					t.Errorf("Counted(%+v, %+v, %+v) = %+v", x, c, r, got)
				}
			}
			for kind := int64(1); kind <= 12; kind++ {
				c, r := impl.Cmd{Verb: one}, plainReply(kind)
				if got := askCounted(t, x, c, r); got.Asked != x.Asked {
					t.Errorf("Counted(%+v, %+v, %+v) = %+v", x, c, r, got)
				}
				checkCounted(t, x, c, r)
			}
			for _, v := range verbLines {
				c, r := impl.Cmd{Verb: v.verb, Name: "a"}, impl.Reply{Kind: one, Name: "a", Number: 1}
				if got := askCounted(t, x, c, r); got.Hits != x.Hits || got.Stored != x.Stored {
					t.Errorf("Counted(%+v, %+v, %+v) = %+v", x, c, r, got)
				}
				checkCounted(t, x, c, r)
			}
		}
	}
}

// wrongReplies are not right in one field each, of each Kind.
func wrongReplies() []impl.Reply {
	var list []impl.Reply
	for kind := int64(1); kind <= 12; kind++ {
		for _, spoil := range []func(r *impl.Reply){
			func(r *impl.Reply) { r.Name = "" }, func(r *impl.Reply) { r.Name = "A" }, func(r *impl.Reply) { r.Name = "abcdefghijklm" }, func(r *impl.Reply) { r.Name = "b" },
			func(r *impl.Reply) { r.Flags = -1 }, func(r *impl.Reply) { r.Flags = 65536 }, func(r *impl.Reply) { r.Flags = 1 },
			func(r *impl.Reply) { r.Bytes = strings.Repeat("x", 65) }, func(r *impl.Reply) { r.Bytes = "x" },
			func(r *impl.Reply) { r.Cas = -1 }, func(r *impl.Reply) { r.Cas = 1000001 }, func(r *impl.Reply) { r.Cas = 1 }, func(r *impl.Reply) { r.Cas = math.MaxInt64 },
			func(r *impl.Reply) { r.Number = -1 }, func(r *impl.Reply) { r.Number = 1000000000 }, func(r *impl.Reply) { r.Number = 1 }, func(r *impl.Reply) { r.Number = math.MinInt64 },
		} {
			r := plainReply(kind)
			if spoil(&r); !wantedReplyOk(r) {
				list = append(list, r)
			}
		}
	}
	return list
}

// TestCountedWrongFields: nothing counts but the Verb and the Kind, be the rest right or not.
func TestCountedWrongFields(t *testing.T) {
	cmds, replies := wrongCmds(), wrongReplies()
	if len(cmds) < 100 || len(replies) < 100 {
		t.Fatalf("%d wrong commands, %d wrong replies", len(cmds), len(replies))
	}
	for _, x := range []impl.Tally{{}, tallyOf(2, 3, 5, 7, 11), evenTally(fullTally - 1), evenTally(fullTally)} {
		for _, c := range cmds {
			for kind := int64(0); kind <= 13; kind++ {
				if got, bare := askCounted(t, x, c, plainReply(kind)), impl.Counted(x, impl.Cmd{Verb: c.Verb}, impl.Reply{Kind: kind}); got != bare {
					t.Errorf("Counted(%+v, %+v, Kind %d) = %+v, want %+v", x, c, kind, got, bare)
				}
			}
		}
		for _, r := range replies {
			for verb := int64(0); verb <= 14; verb++ {
				if got, bare := askCounted(t, x, impl.Cmd{Verb: verb, Name: "a"}, r), impl.Counted(x, impl.Cmd{Verb: verb}, impl.Reply{Kind: r.Kind}); got != bare {
					t.Errorf("Counted(%+v, Verb %d, %+v) = %+v, want %+v", x, verb, r, got, bare)
				}
			}
		}
		for place, c := range cmds {
			checkCounted(t, x, c, replies[place%len(replies)])
		}
	}
}

// TestCountedNumbers: whatever numbers the other fields hold, they are no Verb and no Kind, and are not added.
func TestCountedNumbers(t *testing.T) {
	x := tallyOf(2, 3, 5, 7, 11)
	for _, n := range append([]int64{5, 6, 12, 13}, wholeNumbers...) {
		everyVerb(func(c impl.Cmd, r impl.Reply) {
			c.Flags, c.Until, c.Cas, c.Delta, c.Quiet = n, n, n, n, true
			r.Flags, r.Cas, r.Number = n, n, n
			askCounted(t, x, c, r)
			checkCounted(t, x, c, r)
		})
	}
}

func TestTallyEmpty(t *testing.T) {
	if got := impl.Counted(impl.Tally{}, impl.Cmd{}, impl.Reply{}); got != (impl.Tally{}) {
		t.Errorf("Counted of nothing = %+v", got)
	}
	if !impl.TallyOk(impl.Tally{}) || impl.ShowTally(impl.Tally{}) != "0 0 0 0 0" {
		t.Errorf("the zero Tally: %v, %q", impl.TallyOk(impl.Tally{}), impl.ShowTally(impl.Tally{}))
	}
	if got := impl.Counted(evenTally(4), impl.Cmd{}, impl.Reply{}); got != evenTally(4) {
		t.Errorf("Counted of no command and no reply = %+v", got)
	}
}

// TestTallyArgumentsStay: what was given, and what stands around its texts in the same memory, reads as before.
func TestTallyArgumentsStay(t *testing.T) {
	for _, s := range append(slices.Clone(cmdTexts), replyTexts...) {
		memory := []byte("<<<<" + s + ">>>>")
		before := string(memory)
		given := unsafe.String(&memory[4], len(s))
		for _, x := range []impl.Tally{{}, tallyOf(2, 3, 5, 7, 11), evenTally(fullTally), evenTally(-1), tallyOf(1, 2, 3, 4, fullTally+1)} {
			everyVerb(func(c impl.Cmd, r impl.Reply) {
				c.Name, c.Bytes, r.Name, r.Bytes = given, given, given, given
				tally, cmd, reply := x, c, r
				impl.Counted(x, c, r)
				if string(memory) != before || x != tally || c != cmd || r != reply {
					t.Fatalf("Counted(%+v, %+v, %+v): %q was %q", x, c, r, memory, before)
				}
			})
		}
	}
	for _, x := range append(tallyKinds(), evenTally(-1), evenTally(fullTally+1), evenTally(math.MinInt64)) {
		before := x
		impl.TallyOk(x)
		impl.ShowTally(x)
		if x != before {
			t.Fatalf("%+v was %+v", x, before)
		}
	}
}

// TestTallyNewMemory: a text that was shown stays, whatever is shown or counted afterwards.
func TestTallyNewMemory(t *testing.T) {
	var shown []string
	kinds := tallyKinds()
	for _, x := range kinds {
		shown = append(shown, impl.ShowTally(x))
		impl.Counted(x, impl.Cmd{Verb: impl.VbGet}, impl.Reply{Kind: impl.RpValue})
	}
	for place, x := range kinds {
		if shown[place] != wantedShownTally(x) {
			t.Fatalf("ShowTally(%+v) is %q by now", x, shown[place])
		}
	}
}

// TestTallyTwice: nothing is kept from call to call, and no answer hangs on an order that changes.
func TestTallyTwice(t *testing.T) {
	c, r := impl.Cmd{Verb: impl.VbGets}, impl.Reply{Kind: impl.RpNumber}
	others := append(tallyKinds(), evenTally(-1), evenTally(fullTally+1), tallyOf(math.MinInt64, math.MaxInt64, 0, 0, 0))
	x := tallyOf(3, 20, 100, 4567, 89012)
	for _, other := range others {
		impl.TallyOk(other)
		impl.ShowTally(other)
		impl.Counted(other, impl.Cmd{Verb: impl.VbGet}, impl.Reply{Kind: impl.RpValue})
		if !impl.TallyOk(x) || impl.ShowTally(x) != "3 20 100 4567 89012" || impl.Counted(x, c, r) != tallyOf(4, 20, 101, 4567, 89012) {
			t.Fatalf("behind %+v: %v, %q, %+v", other, impl.TallyOk(x), impl.ShowTally(x), impl.Counted(x, c, r))
		}
	}
}
