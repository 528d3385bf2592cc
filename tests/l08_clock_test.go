package tests

import (
	"fmt"
	"math"
	"slices"
	"strconv"
	"strings"
	"testing"

	"loop.example/g00401/impl"
)

const spareName = "Spare name" // fills the room behind a list of names; no name itself

// manyNames are unlike, as many as asked for; some of them are of 12 bytes.
func manyNames(many int) []string {
	list := []string{"a", "z", "0", "9", "-", "larder-0-to9", "abcdefghijkl", "ab"}
	for i := len(list); i < many; i++ {
		list = append(list, "n"+strconv.Itoa(i))
	}
	return list[:many]
}

// ringAt has room behind both lists; used are the places of those that are Used.
func ringAt(at int64, names []string, used ...int) impl.Ring {
	r := impl.Ring{At: at}
	r.Names = append(make([]string, 0, len(names)+4), names...)
	r.Used = make([]bool, len(names), len(names)+5)
	for _, place := range used {
		r.Used[place] = true
	}
	for i := len(names); i < cap(r.Names); i++ {
		r.Names[:cap(r.Names)][i] = spareName
	}
	for i := len(names); i < cap(r.Used); i++ {
		r.Used[:cap(r.Used)][i] = i%2 == 0
	}
	return r
}

// wordRing takes one word a name: * behind those that are Used, > ahead of the one that At points to.
func wordRing(words string) impl.Ring {
	var names []string
	var used []int
	at := 0
	for place, word := range strings.Fields(words) {
		if strings.HasPrefix(word, ">") {
			at = place
		}
		if strings.HasSuffix(word, "*") {
			used = append(used, place)
		}
		names = append(names, strings.Trim(word, ">*"))
	}
	return ringAt(int64(at), names, used...)
}

func countTo(many int) []int {
	var list []int
	for i := range many {
		list = append(list, i)
	}
	return list
}

func sameRing(a, b impl.Ring) bool {
	return slices.Equal(a.Names, b.Names) && slices.Equal(a.Used, b.Used) && a.At == b.At
}

func isZeroRing(r impl.Ring) bool { return len(r.Names) == 0 && len(r.Used) == 0 && r.At == 0 }

// wholeRing reads a ring with the room behind its lists.
func wholeRing(r impl.Ring) impl.Ring {
	return impl.Ring{Names: slices.Clone(r.Names[:cap(r.Names)]), Used: slices.Clone(r.Used[:cap(r.Used)]), At: r.At}
}

func ringCopy(r impl.Ring) impl.Ring {
	return impl.Ring{Names: slices.Clone(r.Names), Used: slices.Clone(r.Used), At: r.At}
}

// spoilRing writes over both lists and into the room behind them.
func spoilRing(r impl.Ring) {
	for i := range r.Names[:cap(r.Names)] {
		r.Names[:cap(r.Names)][i] = "spoilt"
	}
	for i, used := range r.Used[:cap(r.Used)] {
		r.Used[:cap(r.Used)][i] = !used
	}
}

func wantedName(s string) bool {
	return len(s) >= 1 && len(s) <= 12 && strings.Trim(s, "abcdefghijklmnopqrstuvwxyz0123456789-") == ""
}

// wantedRing takes the words of the document one by one.
func wantedRing(r impl.Ring) bool {
	met := map[string]int{}
	for _, name := range r.Names {
		met[name]++
		if !wantedName(name) || met[name] > 1 {
			return false
		}
	}
	if len(r.Names) > 20 || len(r.Names) != len(r.Used) {
		return false
	}
	return r.At == 0 || r.At > 0 && r.At <= int64(len(r.Names))-1
}

func wantedJoins(r impl.Ring, name string) (impl.Ring, bool) {
	switch {
	case !wantedRing(r):
		return impl.Ring{}, false
	case slices.Contains(r.Names, name) || !wantedName(name) || len(r.Names) > 19:
		return ringCopy(r), false
	}
	return impl.Ring{Names: slices.Concat(r.Names, []string{name}), Used: slices.Concat(r.Used, []bool{false}), At: r.At}, true
}

func wantedUses(r impl.Ring, name string) impl.Ring {
	if !wantedRing(r) {
		return impl.Ring{}
	}
	out := ringCopy(r)
	for place := range out.Names {
		out.Used[place] = out.Used[place] || out.Names[place] == name
	}
	return out
}

// fromAt are the names in the order in which the hand comes by.
func fromAt(r impl.Ring) []string {
	return slices.Concat(r.Names[r.At:], r.Names[:r.At])
}

// wantedLeaves goes by whom the hand would meet first, not by places.
func wantedLeaves(r impl.Ring, name string) (impl.Ring, bool) {
	switch {
	case !wantedRing(r):
		return impl.Ring{}, false
	case !slices.Contains(r.Names, name):
		return ringCopy(r), false
	}
	var out impl.Ring
	for place, other := range r.Names {
		if other != name {
			out.Names, out.Used = append(out.Names, other), append(out.Used, r.Used[place])
		}
	}
	for _, other := range fromAt(r) {
		if other != name {
			out.At = int64(slices.Index(out.Names, other))
			break
		}
	}
	return out, true
}

// wantedTurns counts how many Used ones stand in a row from At on; where all are, it is as if it turned round once.
func wantedTurns(r impl.Ring) (impl.Ring, string) {
	if !wantedRing(r) {
		return impl.Ring{}, ""
	}
	out, many := ringCopy(r), len(r.Names)
	if many == 0 {
		return out, ""
	}
	row := 0
	for row < many && r.Used[(int(r.At)+row)%many] {
		out.Used[(int(r.At)+row)%many] = false
		row++
	}
	out.At = (r.At + int64(row)) % int64(many)
	return out, out.Names[out.At]
}

func checkJoins(t *testing.T, r impl.Ring, name string) impl.Ring {
	t.Helper()
	want, can := wantedJoins(r, name)
	got, ok := impl.Joins(r, name)
	if ok != can || !sameRing(got, want) {
		t.Fatalf("Joins(%v, %q) = %v, %v, want %v, %v", r, name, got, ok, want, can)
	}
	return got
}

func checkUses(t *testing.T, r impl.Ring, name string) impl.Ring {
	t.Helper()
	got, want := impl.Uses(r, name), wantedUses(r, name)
	if !sameRing(got, want) {
		t.Fatalf("Uses(%v, %q) = %v, want %v", r, name, got, want)
	}
	return got
}

func checkLeaves(t *testing.T, r impl.Ring, name string) impl.Ring {
	t.Helper()
	want, can := wantedLeaves(r, name)
	got, ok := impl.Leaves(r, name)
	if ok != can || !sameRing(got, want) {
		t.Fatalf("Leaves(%v, %q) = %v, %v, want %v, %v", r, name, got, ok, want, can)
	}
	return got
}

func checkTurns(t *testing.T, r impl.Ring) impl.Ring {
	t.Helper()
	want, first := wantedTurns(r)
	got, name := impl.Turns(r)
	if name != first || !sameRing(got, want) {
		t.Fatalf("Turns(%v) = %v, %q, want %v, %q", r, got, name, want, first)
	}
	return got
}

// oddNames are in no ring: they are no names, or nobody's.
func oddNames() []string {
	return []string{
		"", "nobody", strings.Repeat("a", 12), strings.Repeat("a", 13), strings.Repeat("-", 13), "A", "a ", " ", "a\n", "\x00", "é", "\xff", "n_1", "`", "{", "/", ":", ",", ".", "spoilt", spareName,
	}
}

// checkRing asks all that can be asked of a ring, right or wrong.
func checkRing(t *testing.T, r impl.Ring) {
	t.Helper()
	if got, want := impl.RingOk(r), wantedRing(r); got != want {
		t.Fatalf("RingOk(%v) = %v", r, got)
	}
	checkTurns(t, r)
	for _, name := range slices.Concat(r.Names, oddNames()) {
		checkJoins(t, r, name)
		checkUses(t, r, name)
		checkLeaves(t, r, name)
	}
}

// fate is what a ring tells of one name; Pointed is that At points to it.
type fate struct {
	Used, Pointed bool
}

func fates(r impl.Ring) map[string]fate {
	all := map[string]fate{}
	for place, name := range r.Names {
		all[name] = fate{r.Used[place], int64(place) == r.At}
	}
	return all
}

// askJoined, askUsed, askLeft and askTurned hold a right ring against what came of it, by the words of promise 8.
func askJoined(t *testing.T, before impl.Ring, name string) impl.Ring {
	t.Helper()
	after, ok := impl.Joins(before, name)
	many := len(before.Names)
	if can := !slices.Contains(before.Names, name) && impl.NameOk(name) && many < 20; ok != can || !ok && !sameRing(after, before) {
		t.Fatalf("Joins(%v, %q) = %v, %v", before, name, after, ok)
	}
	if ok && (after.Names[many] != name || after.Used[many] || after.At != before.At || !slices.Equal(after.Names[:many], before.Names) || !slices.Equal(after.Used[:many], before.Used)) {
		t.Fatalf("Joins(%v, %q) = %v", before, name, after)
	}
	return after
}

func askUsed(t *testing.T, before impl.Ring, name string) impl.Ring {
	t.Helper()
	after := impl.Uses(before, name)
	if !slices.Equal(after.Names, before.Names) || after.At != before.At {
		t.Fatalf("Uses(%v, %q) = %v", before, name, after)
	}
	for other, was := range fates(before) {
		if is := fates(after)[other]; is.Used != (was.Used || other == name) {
			t.Fatalf("Uses(%v, %q) = %v: %s", before, name, after, other)
		}
	}
	return after
}

func askLeft(t *testing.T, before impl.Ring, name string) impl.Ring {
	t.Helper()
	after, ok := impl.Leaves(before, name)
	was, there := fates(before)[name]
	if ok != there || !ok && !sameRing(after, before) {
		t.Fatalf("Leaves(%v, %q) = %v, %v", before, name, after, ok)
	}
	if !ok {
		return after
	}
	if rest := slices.DeleteFunc(slices.Clone(before.Names), func(other string) bool { return other == name }); !slices.Equal(after.Names, rest) {
		t.Fatalf("Leaves(%v, %q) = %v", before, name, after)
	}
	pointed := ""
	switch place := slices.Index(before.Names, name); {
	case !was.Pointed:
		pointed = before.Names[before.At]
	case place+1 < len(before.Names):
		pointed = before.Names[place+1]
	case len(after.Names) > 0:
		pointed = before.Names[0]
	}
	if len(after.Names) > 0 && after.Names[after.At] != pointed || len(after.Names) == 0 && after.At != 0 {
		t.Fatalf("Leaves(%v, %q) = %v: At is not at %s", before, name, after, pointed)
	}
	for other, is := range fates(after) {
		if is.Used != fates(before)[other].Used {
			t.Fatalf("Leaves(%v, %q) = %v: %s", before, name, after, other)
		}
	}
	return after
}

func askTurned(t *testing.T, before impl.Ring) impl.Ring {
	t.Helper()
	after, name := impl.Turns(before)
	if len(before.Names) == 0 {
		if name != "" || !sameRing(after, before) {
			t.Fatalf("Turns(%v) = %v, %q", before, after, name)
		}
		return after
	}
	if !slices.Equal(after.Names, before.Names) || after.Names[after.At] != name || after.Used[after.At] {
		t.Fatalf("Turns(%v) = %v, %q", before, after, name)
	}
	all := !slices.Contains(before.Used, false)
	if fates(before)[name].Used && !all || all && name != before.Names[before.At] {
		t.Fatalf("Turns(%v) = %v, %q: who was Used goes first", before, after, name)
	}
	passed := true
	for _, other := range fromAt(before) {
		was, is := fates(before)[other], fates(after)[other]
		passed = passed && (all || other != name)
		if passed && (!was.Used || is.Used) || !passed && was.Used != is.Used {
			t.Fatalf("Turns(%v) = %v, %q: %s", before, after, name, other)
		}
	}
	return after
}

func TestNameOkLengths(t *testing.T) {
	for _, letter := range []string{"a", "m", "z", "0", "5", "9", "-"} {
		for many := range 30 {
			if got := impl.NameOk(strings.Repeat(letter, many)); got != (many >= 1 && many <= 12) {
				t.Errorf("NameOk(%q) = %v", strings.Repeat(letter, many), got)
			}
		}
		if s := strings.Repeat(letter, 12+256); impl.NameOk(s) || impl.NameOk(strings.Repeat(letter, 1<<16+1)) {
			t.Errorf("NameOk says yes to a long text of %s", letter)
		}
	}
	for _, name := range []string{"abcdefghijkl", "mnopqrstuvwx", "yz0123456789", "-", "--", "-a-", "0-9", "a-1", "------------"} {
		if !impl.NameOk(name) {
			t.Errorf("NameOk(%q) = false", name)
		}
	}
}

// TestNameOkEachByte: each of the 256 bytes, alone, and at each place of a text that would be a name with another one there.
func TestNameOkEachByte(t *testing.T) {
	for b := range 256 {
		want := strings.IndexByte("abcdefghijklmnopqrstuvwxyz0123456789-", byte(b)) >= 0
		if got := impl.NameOk(string([]byte{byte(b)})); got != want {
			t.Errorf("NameOk of byte %d = %v", b, got)
		}
		for _, many := range []int{2, 3, 11, 12} {
			for place := range many {
				text := slices.Repeat([]byte{'a'}, many)
				text[place] = byte(b)
				if got := impl.NameOk(string(text)); got != want {
					t.Errorf("NameOk(%q) = %v", text, got)
				}
			}
		}
		for _, many := range []int{13, 14, 20} {
			if text := strings.Repeat(string([]byte{byte(b)}), many); impl.NameOk(text) {
				t.Errorf("NameOk(%q)", text)
			}
		}
	}
}

func TestNameOkOtherTexts(t *testing.T) {
	for _, s := range []string{
		"", " ", "a b", "a ", " a", "A", "Z", "aA", "Za", "a_b", "a.b", "a/b", "a:b", "a`b", "a{b", "a,b", "a@b", "a[b", "a\nb", "a\n", "a\x00", "\x00", "é", "aé", "ä", "ａ", "٣", "–", "\xff", "a\x80", "\xe1", "a\xad", "\xb1", "abcdefghijkl ", "abcdefghijklm", "a-b-c-d-e-f-g",
	} {
		if impl.NameOk(s) || wantedName(s) {
			t.Errorf("NameOk(%q) = %v", s, impl.NameOk(s))
		}
	}
}

func TestRingOkSizes(t *testing.T) {
	for many := range 45 {
		names := manyNames(many)
		for _, used := range [][]int{nil, countTo(many), countTo(many / 2)} {
			for _, at := range []int64{0, int64(many) / 2, int64(many) - 1} {
				r := ringAt(max(at, 0), names, used...)
				if got := impl.RingOk(r); got != (many <= 20) {
					t.Errorf("%d names, At %d: RingOk = %v", many, r.At, got)
				}
			}
		}
	}
	if impl.MaxNames != 20 {
		t.Error(impl.MaxNames)
	}
}

func TestRingOkAt(t *testing.T) {
	for _, many := range []int{0, 1, 2, 3, 19, 20} {
		for at := int64(-25); at <= 45; at++ {
			want := at >= 0 && at < int64(many) || many == 0 && at == 0
			if got := impl.RingOk(ringAt(at, manyNames(many))); got != want {
				t.Errorf("%d names, At %d: RingOk = %v", many, at, got)
			}
		}
		for _, at := range outside {
			if impl.RingOk(ringAt(at, manyNames(many))) {
				t.Errorf("%d names, At %d: RingOk", many, at)
			}
		}
	}
}

// TestRingOkFlags: just as many flags as names, whatever they say.
func TestRingOkFlags(t *testing.T) {
	for many := range 22 {
		for flags := range 45 {
			for _, used := range []bool{false, true} {
				r := impl.Ring{Names: manyNames(many), Used: slices.Repeat([]bool{used}, flags)}
				if got := impl.RingOk(r); got != (many == flags && many <= 20) {
					t.Errorf("%d names, %d flags: RingOk = %v", many, flags, got)
				}
			}
		}
	}
}

// TestRingOkUnlike: each place with the name of each other one, in rings of 2, 3 and 20.
func TestRingOkUnlike(t *testing.T) {
	for _, many := range []int{2, 3, 19, 20} {
		for first := range many {
			for second := range many {
				names := manyNames(many)
				names[second] = names[first]
				if got := impl.RingOk(ringAt(0, names)); got != (first == second) {
					t.Errorf("%q: RingOk = %v", names, got)
				}
			}
		}
	}
	for _, names := range [][]string{{"a", "aa"}, {"a", "-a"}, {"a", "a-"}, {"1", "01"}, {"ab", "ba"}} {
		if !impl.RingOk(ringAt(1, names)) {
			t.Errorf("%q: RingOk = false", names)
		}
	}
}

func TestRingOkEachName(t *testing.T) {
	for _, wrong := range []string{"", "A", " ", "a ", "\x80", "é", "abcdefghijklm", "a\n", "`", "{", "/", ":"} {
		for _, many := range []int{1, 2, 3, 20} {
			for place := range many {
				names := manyNames(many)
				names[place] = wrong
				if impl.RingOk(ringAt(0, names)) {
					t.Errorf("RingOk of %q", names)
				}
			}
		}
	}
}

// everyRing goes through all rings that come of the zero Ring by these names, in whatever order of calls.
func everyRing(t *testing.T, names []string, visit func(impl.Ring)) int {
	t.Helper()
	met, open := map[string]bool{fmt.Sprint(impl.Ring{}): true}, []impl.Ring{{}}
	meet := func(r impl.Ring) {
		if text := fmt.Sprint(r); !met[text] {
			met[text] = true
			open = append(open, r)
		}
	}
	for len(open) > 0 {
		r := open[len(open)-1]
		open = open[:len(open)-1]
		visit(r)
		for _, name := range names {
			meet(askJoined(t, r, name))
			meet(askUsed(t, r, name))
			meet(askLeft(t, r, name))
		}
		meet(askTurned(t, r))
	}
	return len(met)
}

// TestRingsInEveryOrder is promise 8 of each ring that a few names can come to: that is each order, each choice of Used ones and each At.
func TestRingsInEveryOrder(t *testing.T) {
	for _, c := range []struct {
		names []string
		many  int
	}{
		{nil, 1},
		{[]string{"a"}, 1 + 1*2*1},
		{[]string{"b", "a"}, 1 + 2*2*1 + 2*4*2},
		{[]string{"-", "0", "abcdefghijkl"}, 1 + 3*2*1 + 6*4*2 + 6*8*3},
		{[]string{"d", "c", "b", "a"}, 1 + 4*2*1 + 12*4*2 + 24*8*3 + 24*16*4},
	} {
		many := everyRing(t, c.names, func(r impl.Ring) {
			if !impl.RingOk(r) {
				t.Fatalf("RingOk(%v) = false", r)
			}
			checkRing(t, r)
		})
		if many != c.many {
			t.Errorf("%q: %d rings, want %d", c.names, many, c.many)
		}
	}
}

// grownRing keeps, beside a ring, who was Used since the hand came by or since it joined.
type grownRing struct {
	ring  impl.Ring
	since map[string]int
}

func (g *grownRing) join(t *testing.T, name string) {
	t.Helper()
	if !slices.Contains(g.ring.Names, name) {
		delete(g.since, name)
	}
	g.ring = askJoined(t, g.ring, name)
}

func (g *grownRing) use(t *testing.T, name string) {
	t.Helper()
	if g.ring = askUsed(t, g.ring, name); slices.Contains(g.ring.Names, name) {
		g.since[name]++
	}
}

func (g *grownRing) leave(t *testing.T, name string) {
	t.Helper()
	g.ring = askLeft(t, g.ring, name)
	delete(g.since, name)
}

// turn also takes whoever is told out, as one does who needs room, where goes is true.
func (g *grownRing) turn(t *testing.T, goes bool) {
	t.Helper()
	before := g.ring
	next, name := impl.Turns(before)
	askTurned(t, before)
	if len(before.Names) == 0 {
		return
	}
	if g.since[name] > 0 && len(g.since) < len(before.Names) {
		t.Fatalf("Turns(%v) = %v: it was Used since", before, name)
	}
	all := len(g.since) == len(before.Names)
	for _, other := range fromAt(before) {
		if other == name && !all {
			break
		}
		if g.since[other] == 0 {
			t.Fatalf("Turns(%v) = %v: it passed %q", before, name, other)
		}
		delete(g.since, other)
	}
	if g.ring = next; goes {
		g.leave(t, name)
	}
}

// TestRingsInLongRuns is promise 8 of long runs, with few names or more than there is room for.
func TestRingsInLongRuns(t *testing.T) {
	for seed := range uint64(120) {
		roll := rolls(seed)
		pool := append(manyNames([]int{3, 8, 20, 21, 30}[seed%5]), "", "A", "abcdefghijklm")
		uses := []int{2, 6, 20}[seed%3]
		g := &grownRing{since: map[string]int{}}
		for step := range 250 {
			name := pool[roll(len(pool))]
			switch n := int(roll(uses + 7)); {
			case n < 4:
				g.join(t, name)
			case n == 4:
				g.leave(t, name)
			case n == 5:
				g.turn(t, roll(2) == 0)
			default:
				g.use(t, name)
			}
			if !impl.RingOk(g.ring) {
				t.Fatalf("RingOk(%v) = false", g.ring)
			}
			if step%25 == 0 {
				checkRing(t, g.ring)
			}
			for place, name := range g.ring.Names {
				if g.ring.Used[place] != (g.since[name] > 0) {
					t.Fatalf("%v: %s", g.ring, name)
				}
			}
		}
	}
}

// TestTurnsGoesRound: from each At, with each choice of Used ones, in rings of up to 8 and in a full one.
func TestTurnsGoesRound(t *testing.T) {
	for many := 1; many <= 8; many++ {
		for choice := range 1 << many {
			var used []int
			for place := range many {
				if choice>>place&1 == 1 {
					used = append(used, place)
				}
			}
			for at := range many {
				r := ringAt(int64(at), manyNames(many), used...)
				askTurned(t, r)
				checkTurns(t, r)
			}
		}
	}
	for at := range 20 {
		for free := range 20 {
			r := ringAt(int64(at), manyNames(20), slices.DeleteFunc(countTo(20), func(place int) bool { return place == free })...)
			if got, name := impl.Turns(askTurned(t, r)); name != r.Names[free] || got.At != int64(free) {
				t.Errorf("Turns(%v) = %v, %q", r, got, name)
			}
			checkTurns(t, r)
		}
	}
}

func TestTurns(t *testing.T) {
	for _, c := range []struct{ given, want, name string }{
		{"a", "a", "a"}, {"a*", "a", "a"},
		{"a b c", "a b c", "a"}, {"a >b c", "a >b c", "b"}, {"a b >c", "a b >c", "c"},
		{"a* b c", "a >b c", "b"}, {"a* b* c", "a b >c", "c"}, {"a* b c*", "a >b c*", "b"}, {"a b* c*", "a b* c*", "a"},
		{"a b >c*", ">a b c", "a"}, {"a* b >c*", "a >b c", "b"}, {"a b* >c*", ">a b* c", "a"},
		{"a* b* c*", ">a b c", "a"}, {"a* >b* c*", "a >b c", "b"}, {"a* b* >c*", "a b >c", "c"},
		{"a* >b c*", "a* >b c*", "b"}, {"a* b >c", "a* b >c", "c"}, {"a* >b* c", "a* b >c", "c"}, {"a >b* c*", ">a b c", "a"},
		{"a* >b", "a* >b", "b"}, {"a >b*", ">a b", "a"}, {"a* >b*", "a >b", "b"},
	} {
		r, want := wordRing(c.given), wordRing(c.want)
		if got, name := impl.Turns(r); name != c.name || !sameRing(got, want) {
			t.Errorf("Turns(%s) = %v, %q, want %s, %s", c.given, got, name, c.want, c.name)
		}
		checkTurns(t, r)
	}
	for _, r := range emptyRings() {
		if got, name := impl.Turns(r); name != "" || !isZeroRing(got) {
			t.Errorf("Turns(%v) = %v, %q", r, got, name)
		}
	}
}

// TestTurnsTwice: where it stopped it stops again, till that one is Used or leaves.
func TestTurnsTwice(t *testing.T) {
	r := wordRing("a* >b* c d*")
	for range 3 {
		next, name := impl.Turns(r)
		if name != "c" || !sameRing(next, wordRing("a* b >c d*")) {
			t.Fatal(next, name)
		}
		r = next
	}
	if next, name := impl.Turns(impl.Uses(r, "c")); name != "b" || !sameRing(next, wordRing("a >b c d")) {
		t.Error(next, name)
	}
	left, _ := impl.Leaves(r, "c")
	if next, name := impl.Turns(left); name != "b" || !sameRing(next, wordRing("a >b d")) {
		t.Error(next, name)
	}
}

func TestJoins(t *testing.T) {
	for _, c := range []struct {
		given, name, want string
		ok                bool
	}{
		{"", "a", "a", true}, {"", "-", "-", true}, {"", "abcdefghijkl", "abcdefghijkl", true},
		{"a", "b", "a b", true}, {"a*", "b", "a* b", true}, {"a >b", "c", "a >b c", true}, {"b* >c*", "a", "b* >c* a", true}, {"a", "aa", "a aa", true},
		{"", "", "", false}, {"", "A", "", false}, {"", "abcdefghijklm", "", false}, {"", "a b", "", false}, {"", "\xff", "", false},
		{"a", "a", "a", false}, {"a*", "a", "a*", false}, {"a* >b c*", "a", "a* >b c*", false}, {"a* >b c*", "b", "a* >b c*", false}, {"a* >b c*", "c", "a* >b c*", false}, {"a >b*", "", "a >b*", false}, {"a >b*", "B", "a >b*", false},
	} {
		got, ok := impl.Joins(wordRing(c.given), c.name)
		if ok != c.ok || !sameRing(got, wordRing(c.want)) {
			t.Errorf("Joins(%s, %q) = %v, %v", c.given, c.name, got, ok)
		}
		checkJoins(t, wordRing(c.given), c.name)
	}
}

func TestJoinsUpToMaxNames(t *testing.T) {
	var r impl.Ring
	names := manyNames(22)
	for many, name := range names[:20] {
		next, ok := impl.Joins(r, name)
		if !ok || len(next.Names) != many+1 || !impl.RingOk(next) {
			t.Fatalf("Joins(%v, %q) = %v, %v", r, name, next, ok)
		}
		r = next
	}
	for _, name := range append(names, "", "A") {
		if next, ok := impl.Joins(r, name); ok || !sameRing(next, r) {
			t.Errorf("Joins(%v, %q) = %v, %v", r, name, next, ok)
		}
	}
	left, _ := impl.Leaves(r, names[7])
	if next, ok := impl.Joins(left, names[20]); !ok || len(next.Names) != 20 || next.Names[19] != names[20] {
		t.Error(next, ok)
	}
	for _, many := range []int{18, 19, 20} {
		for at := range many {
			checkRing(t, ringAt(int64(at), names[:many], at, many-1))
		}
	}
}

func TestUses(t *testing.T) {
	for _, c := range []struct{ given, name, want string }{
		{"", "a", ""}, {"", "", ""}, {"a", "a", "a*"}, {"a*", "a", "a*"}, {"a", "b", "a"}, {"a", "", "a"}, {"a", "A", "a"}, {"a aa", "aa", "a aa*"},
		{"a >b c", "a", "a* >b c"}, {"a >b c", "b", "a >b* c"}, {"a >b c", "c", "a >b c*"}, {"a* >b c*", "d", "a* >b c*"}, {"a* >b c*", "b", "a* >b* c*"}, {"a* >b c*", spareName, "a* >b c*"},
	} {
		if got := impl.Uses(wordRing(c.given), c.name); !sameRing(got, wordRing(c.want)) {
			t.Errorf("Uses(%s, %q) = %v", c.given, c.name, got)
		}
		checkUses(t, wordRing(c.given), c.name)
	}
}

func TestLeaves(t *testing.T) {
	for _, c := range []struct {
		given, name, want string
		ok                bool
	}{
		{"a", "a", "", true}, {"a*", "a", "", true},
		{"a b", "a", "b", true}, {"a b", "b", "a", true}, {"a >b", "a", "b", true}, {"a >b", "b", "a", true},
		{">a b* c", "a", ">b* c", true}, {">a b* c", "b", ">a c", true}, {">a b* c", "c", ">a b*", true},
		{"a >b* c", "a", ">b* c", true}, {"a >b* c", "b", "a >c", true}, {"a >b* c", "c", "a >b*", true},
		{"a b* >c", "a", "b* >c", true}, {"a b* >c", "b", "a >c", true}, {"a b* >c", "c", ">a b*", true},
		{"a* b >c d* e", "c", "a* b >d* e", true}, {"a* b >c d* e", "d", "a* b >c e", true}, {"a* b >c d* e", "e", "a* b >c d*", true}, {"a* b >c d* e", "a", "b >c d* e", true}, {"a* b c d* >e", "e", ">a* b c d*", true},
		{"", "a", "", false}, {"", "", "", false}, {"a", "b", "a", false}, {"a* >b", "c", "a* >b", false}, {"a* >b", "", "a* >b", false}, {"a* >b", "A", "a* >b", false}, {"a* >b", "ab", "a* >b", false}, {"a* >b", spareName, "a* >b", false},
	} {
		got, ok := impl.Leaves(wordRing(c.given), c.name)
		if ok != c.ok || !sameRing(got, wordRing(c.want)) {
			t.Errorf("Leaves(%s, %q) = %v, %v", c.given, c.name, got, ok)
		}
		checkLeaves(t, wordRing(c.given), c.name)
	}
}

// TestLeavesEachPlace: each place leaves, from each At, in rings of each size.
func TestLeavesEachPlace(t *testing.T) {
	for many := 1; many <= 20; many++ {
		for at := range many {
			r := ringAt(int64(at), manyNames(many), countTo(many/2)...)
			for _, name := range r.Names {
				askLeft(t, r, name)
				checkLeaves(t, r, name)
			}
		}
	}
}

func TestLeavesTillNoneIsLeft(t *testing.T) {
	for at := range 20 {
		r := ringAt(int64(at), manyNames(20), 0, 3, 19)
		for seed := uint64(at); len(r.Names) > 0; seed++ {
			r = askLeft(t, r, r.Names[rolls(seed)(len(r.Names))])
		}
		if !isZeroRing(r) {
			t.Error(r)
		}
		if r, ok := impl.Joins(r, "a"); !ok || !sameRing(r, wordRing("a")) {
			t.Error(r, ok)
		}
	}
}

// emptyRings are right and alike: nobody is there.
func emptyRings() []impl.Ring {
	return []impl.Ring{{}, {Names: []string{}}, {Used: []bool{}}, {Names: []string{}, Used: []bool{}}, ringAt(0, nil)}
}

func TestEmptyRings(t *testing.T) {
	for _, r := range emptyRings() {
		if !impl.RingOk(r) {
			t.Errorf("RingOk(%v) = false", r)
		}
		checkRing(t, r)
		for _, name := range append(oddNames(), "a") {
			if got := impl.Uses(r, name); !isZeroRing(got) {
				t.Errorf("Uses(%v, %q) = %v", r, name, got)
			}
			if got, ok := impl.Leaves(r, name); ok || !isZeroRing(got) {
				t.Errorf("Leaves(%v, %q) = %v, %v", r, name, got, ok)
			}
		}
	}
}

// wrongRings are wrong in a name, in how many there are, in their flags, or in At.
func wrongRings() map[string]impl.Ring {
	wrong := map[string]impl.Ring{
		"no flags": {Names: []string{"a"}}, "no flags, two": {Names: []string{"a", "b"}}, "empty flags": {Names: []string{"a", "b"}, Used: []bool{}},
		"flags alone": {Used: []bool{true}}, "a flag, empty names": {Names: []string{}, Used: []bool{false}},
		"a flag less": {Names: []string{"a", "b"}, Used: []bool{true}}, "a flag more": {Names: []string{"a", "b"}, Used: []bool{true, false, true}},
		"20 flags": {Names: []string{"a"}, Used: make([]bool, 20)}, "21 flags": {Names: manyNames(20), Used: make([]bool, 21)}, "19 flags": {Names: manyNames(20), Used: make([]bool, 19)},
		"room for a flag": {Names: []string{"a", "b"}, Used: ringAt(0, []string{"a"}).Used},
		"twice":           ringAt(0, []string{"a", "a"}), "twice, apart": ringAt(2, []string{"a", "b", "c", "a"}, 0), "twice among 20": ringAt(0, append(manyNames(19), "a")),
		"no name": ringAt(0, []string{""}), "no name, last": ringAt(1, []string{"a", ""}), "13 bytes": ringAt(0, []string{"abcdefghijklm"}), "capital": ringAt(0, []string{"a", "B", "c"}, 1), "blank": ringAt(0, []string{"a b"}), "above 127": ringAt(0, []string{"a", "\x80"}), "byte 0": ringAt(0, []string{"\x00"}),
		"21 names": ringAt(0, manyNames(21)), "21 names, all Used": ringAt(20, manyNames(21), countTo(21)...), "40 names": ringAt(3, manyNames(40)), "1000 names": ringAt(0, manyNames(1000)), "21 names, 20 flags": {Names: manyNames(21), Used: make([]bool, 20)},
		"all wrong": {Names: []string{"A", "A"}, Used: []bool{true}, At: -1},
	}
	for _, at := range append([]int64{20, 21, 30}, outside...) {
		for _, many := range []int{0, 1, 2, 20} {
			wrong[fmt.Sprint("At ", at, " of ", many)] = ringAt(at, manyNames(many), countTo(many)...)
		}
	}
	for _, many := range []int{1, 2, 19, 20} {
		wrong[fmt.Sprint("At past ", many)] = ringAt(int64(many), manyNames(many))
		wrong[fmt.Sprint("At past ", many, ", all Used")] = ringAt(int64(many), manyNames(many), countTo(many)...)
	}
	for _, at := range []int64{1, 2, 19, math.MaxInt32} {
		wrong[fmt.Sprint("At ", at, " of none")] = impl.Ring{At: at}
	}
	return wrong
}

func TestWrongRings(t *testing.T) {
	for name, r := range wrongRings() {
		if wantedRing(r) || impl.RingOk(r) {
			t.Errorf("%s: RingOk %v", name, impl.RingOk(r))
		}
		if got, first := impl.Turns(r); first != "" || !isZeroRing(got) {
			t.Errorf("%s: Turns = %v, %q", name, got, first)
		}
		for _, who := range slices.Concat([]string{"a", "b", "fresh"}, r.Names, oddNames()) {
			if got, ok := impl.Joins(r, who); ok || !isZeroRing(got) {
				t.Errorf("%s: Joins(%q) = %v, %v", name, who, got, ok)
			}
			if got := impl.Uses(r, who); !isZeroRing(got) {
				t.Errorf("%s: Uses(%q) = %v", name, who, got)
			}
			if got, ok := impl.Leaves(r, who); ok || !isZeroRing(got) {
				t.Errorf("%s: Leaves(%q) = %v, %v", name, who, got, ok)
			}
		}
	}
}

// givenRings are right ones, with and without room behind their lists.
func givenRings() map[string]impl.Ring {
	given := map[string]impl.Ring{
		"zero": {}, "room alone": ringAt(0, nil), "one": wordRing("a"), "one Used": wordRing("a*"), "none Used": wordRing("a >b c"), "all Used": wordRing("a* >b* c*"), "some": wordRing("a b* >c* d e*"), "last": wordRing("a* b c >d*"),
		"no room behind": ringCopy(wordRing("a* >b* c")),
	}
	for _, many := range []int{2, 19, 20} {
		given[strconv.Itoa(many)+" names"] = ringAt(int64(many)-1, manyNames(many), 0, many/2, many-1)
	}
	// Room behind one list alone, and one list that is a piece of a longer one.
	given["room for names"] = impl.Ring{Names: wordRing("a b c").Names, Used: slices.Clip([]bool{true, true, false})}
	given["room for flags"] = impl.Ring{Names: slices.Clip([]string{"a", "b", "c"}), Used: wordRing("a* b* c").Used, At: 1}
	given["a piece"] = impl.Ring{Names: manyNames(20)[2:7], Used: ringAt(0, manyNames(20), 2, 3, 9).Used[2:7], At: 1}
	return given
}

func TestGivenRings(t *testing.T) {
	for name, r := range givenRings() {
		if !impl.RingOk(r) {
			t.Errorf("%s: %v is refused", name, r)
		}
		checkRing(t, r)
	}
}

// TestRingRoomIsNotRead: what stands behind the lists does not count.
func TestRingRoomIsNotRead(t *testing.T) {
	for name, r := range givenRings() {
		bare := impl.Ring{Names: slices.Clip(slices.Clone(r.Names)), Used: slices.Clip(slices.Clone(r.Used)), At: r.At}
		for _, who := range append(manyNames(21), spareName) {
			one, ok := impl.Joins(r, who)
			if two, also := impl.Joins(bare, who); ok != also || !sameRing(one, two) {
				t.Errorf("%s: Joins(%q) = %v, %v", name, who, one, two)
			}
			one, ok = impl.Leaves(r, who)
			if two, also := impl.Leaves(bare, who); ok != also || !sameRing(one, two) {
				t.Errorf("%s: Leaves(%q) = %v, %v", name, who, one, two)
			}
			if one, two := impl.Uses(r, who), impl.Uses(bare, who); !sameRing(one, two) {
				t.Errorf("%s: Uses(%q) = %v, %v", name, who, one, two)
			}
		}
	}
}

func TestRingArgumentsStay(t *testing.T) {
	rings := wrongRings()
	for name, r := range givenRings() {
		rings["given: "+name] = r
	}
	for name, r := range rings {
		before := wholeRing(r)
		impl.RingOk(r)
		impl.Turns(r)
		if !sameRing(wholeRing(r), before) {
			t.Fatalf("%s: %v was %v", name, wholeRing(r), before)
		}
		for _, who := range slices.Concat([]string{"a", "b", "fresh"}, r.Names, oddNames()) {
			impl.Joins(r, who)
			impl.Uses(r, who)
			impl.Leaves(r, who)
			if !sameRing(wholeRing(r), before) {
				t.Fatalf("%s, %q: %v was %v", name, who, wholeRing(r), before)
			}
		}
	}
}

// checkNewRing: what the call answers shares nothing with what was given, nor with another answer.
func checkNewRing(t *testing.T, what string, given impl.Ring, call func(impl.Ring) impl.Ring) {
	t.Helper()
	before := wholeRing(given)
	first, second := call(given), call(given)
	want := ringCopy(second)
	if spoilRing(first); !sameRing(wholeRing(given), before) {
		t.Fatalf("%s: a change of the answer changes what was given", what)
	}
	if !sameRing(second, want) || !sameRing(call(given), want) {
		t.Fatalf("%s: a change of the answer changes another one", what)
	}
	if spoilRing(given); !sameRing(second, want) {
		t.Fatalf("%s: the answer changes with what was given", what)
	}
}

func TestRingAnswersAreNewMemory(t *testing.T) {
	for name, r := range givenRings() {
		for _, who := range slices.Concat(r.Names, oddNames()) {
			what := fmt.Sprintf("%s, %q", name, who)
			checkNewRing(t, what+", Joins", givenRings()[name], func(r impl.Ring) impl.Ring { out, _ := impl.Joins(r, who); return out })
			checkNewRing(t, what+", Uses", givenRings()[name], func(r impl.Ring) impl.Ring { return impl.Uses(r, who) })
			checkNewRing(t, what+", Leaves", givenRings()[name], func(r impl.Ring) impl.Ring { out, _ := impl.Leaves(r, who); return out })
		}
		checkNewRing(t, name+", Turns", givenRings()[name], func(r impl.Ring) impl.Ring { out, _ := impl.Turns(r); return out })
	}
}

// TestTwoOfOneRing: what is done to one of two that came of the same ring is not seen in the other.
func TestTwoOfOneRing(t *testing.T) {
	r, _ := impl.Joins(wordRing("a* b"), "c")
	one, _ := impl.Joins(r, "d")
	two, _ := impl.Joins(r, "e")
	three, _ := impl.Leaves(r, "a")
	four, name := impl.Turns(r)
	five := impl.Uses(r, "c")
	for i, c := range []struct {
		got  impl.Ring
		want string
	}{{r, "a* b c"}, {one, "a* b c d"}, {two, "a* b c e"}, {three, "b c"}, {four, "a >b c"}, {five, "a* b c*"}} {
		if !sameRing(c.got, wordRing(c.want)) {
			t.Errorf("%d: %v, want %s", i, c.got, c.want)
		}
	}
	if name != "b" {
		t.Error(name)
	}
}
