package tests

import (
	"fmt"
	"math"
	"math/big"
	"slices"
	"strings"
	"testing"

	"loop.example/g00401/impl"
)

var wrongSeeds = []int64{
	math.MinInt64, math.MinInt64 + 1, -1 << 32, -1000001, -1000000, -20, -2, -1,
	1000001, 1000002, 1 << 20, 1 << 31, 1 << 32, 1<<32 + 5, 1 << 62, math.MaxInt64 - 1, math.MaxInt64,
}

var wrongMany = []int64{
	math.MinInt64, math.MinInt64 + 1, -1<<32 + 1, -20, -2, -1, 0,
	21, 22, 40, 1000, 1 << 31, 1 << 32, 1<<32 + 1, 1<<32 + 20, 1 << 62, math.MaxInt64 - 1, math.MaxInt64,
}

// roomyNames has room behind it, with what no queue has in it.
func roomyNames(names []string) []string { return ringAt(0, names).Names }

// wordQueue takes one word a name.
func wordQueue(words string) []string { return roomyNames(strings.Fields(words)) }

// letters is a queue of the first so many letters of a to z: the place can be told from the name.
func letters(many int) []string {
	return roomyNames(strings.Split("abcdefghijklmnopqrstuvwxyz"[:many], ""))
}

// wholeNames reads a list with the room behind it.
func wholeNames(q []string) []string { return slices.Clone(q[:cap(q)]) }

// spoilNames writes over a list and into the room behind it.
func spoilNames(q []string) {
	for i := range q[:cap(q)] {
		q[:cap(q)][i] = "spoilt"
	}
}

// wantedQueue takes the words of the document one by one.
func wantedQueue(q []string) bool {
	met := map[string]int{}
	for _, name := range q {
		met[name]++
		if !wantedName(name) || met[name] > 1 {
			return false
		}
	}
	return len(q) <= 20
}

func wantedTouched(q []string, name string) ([]string, bool) {
	place := slices.Index(q, name)
	switch {
	case !wantedQueue(q):
		return nil, false
	case !wantedName(name) || place < 0 && len(q) > 19:
		return slices.Clone(q), false
	case place < 0:
		return slices.Concat(q, []string{name}), true
	}
	return slices.Concat(q[:place], q[place+1:], []string{name}), true
}

func wantedWithout(q []string, name string) []string {
	place := slices.Index(q, name)
	switch {
	case !wantedQueue(q):
		return nil
	case place < 0:
		return slices.Clone(q)
	}
	return slices.Concat(q[:place], q[place+1:])
}

// lookedAt are the places as the document tells them: the numbers grow, only what is told of each is modulo size.
func lookedAt(seed, many int64, size int) []int {
	var places []int
	number := big.NewInt(seed)
	for range many {
		places = append(places, int(new(big.Int).Mod(number, big.NewInt(int64(size))).Int64()))
		number = new(big.Int).Add(new(big.Int).Mul(number, big.NewInt(7)), big.NewInt(3))
	}
	return places
}

// wantedSampled goes along the queue, not along the places.
func wantedSampled(q []string, seed, many int64) string {
	if !wantedQueue(q) || seed < 0 || seed > 1000000 || many < 1 || many > 20 || len(q) == 0 {
		return ""
	}
	places := lookedAt(seed, many, len(q))
	for place, name := range q {
		if slices.Contains(places, place) {
			return name
		}
	}
	return "nowhere"
}

func checkTouched(t *testing.T, q []string, name string) []string {
	t.Helper()
	want, can := wantedTouched(q, name)
	got, ok := impl.Touched(q, name)
	if ok != can || !slices.Equal(got, want) {
		t.Fatalf("Touched(%q, %q) = %q, %v, want %q, %v", q, name, got, ok, want, can)
	}
	return got
}

func checkWithout(t *testing.T, q []string, name string) []string {
	t.Helper()
	got, want := impl.Without(q, name), wantedWithout(q, name)
	if !slices.Equal(got, want) {
		t.Fatalf("Without(%q, %q) = %q, want %q", q, name, got, want)
	}
	return got
}

func checkSampled(t *testing.T, q []string, seed, many int64) string {
	t.Helper()
	got, want := impl.Sampled(q, seed, many), wantedSampled(q, seed, many)
	if got != want {
		t.Fatalf("Sampled(%q, %d, %d) = %q, want %q", q, seed, many, got, want)
	}
	return got
}

// checkQueue asks all that can be asked of a queue, right or wrong.
func checkQueue(t *testing.T, q []string) {
	t.Helper()
	if got, want := impl.QueueOk(q), wantedQueue(q); got != want {
		t.Fatalf("QueueOk(%q) = %v", q, got)
	}
	for _, name := range slices.Concat(q, oddNames()) {
		checkTouched(t, q, name)
		checkWithout(t, q, name)
	}
	for _, seed := range []int64{-1, 0, 1, 2, 5, 19, 20, 999999, 1000000, 1000001} {
		for _, many := range []int64{-1, 0, 1, 2, 3, 5, 19, 20, 21} {
			checkSampled(t, q, seed, many)
		}
	}
}

// askTouched and askWithout hold a right queue against what came of it, by the words of promise 9.
func askTouched(t *testing.T, before []string, name string) []string {
	t.Helper()
	after, ok := impl.Touched(before, name)
	there := slices.Contains(before, name)
	if can := impl.NameOk(name) && (there || len(before) < 20); ok != can || !ok && !slices.Equal(after, before) {
		t.Fatalf("Touched(%q, %q) = %q, %v", before, name, after, ok)
	}
	if !ok {
		return after
	}
	if len(after) == 0 || after[len(after)-1] != name {
		t.Fatalf("Touched(%q, %q) = %q: it is not at the end", before, name, after)
	}
	askOthersStand(t, before, after[:len(after)-1], name)
	return after
}

func askWithout(t *testing.T, before []string, name string) []string {
	t.Helper()
	after := impl.Without(before, name)
	if slices.Contains(after, name) {
		t.Fatalf("Without(%q, %q) = %q", before, name, after)
	}
	askOthersStand(t, before, after, name)
	return after
}

// askOthersStand: who stood ahead of whom still does, nobody is missing and nobody new came.
func askOthersStand(t *testing.T, before, after []string, name string) {
	t.Helper()
	var stood []string
	for _, other := range before {
		if other != name {
			stood = append(stood, other)
		}
	}
	if !slices.Equal(stood, after) {
		t.Fatalf("%q, %q: %q, the others stood as %q", before, name, after, stood)
	}
}

// askSampled holds what is told with 1 to 20 looks against the places that are looked at, by the words of promise 9.
func askSampled(t *testing.T, q []string, seed int64) {
	t.Helper()
	looked := map[int]bool{}
	last := len(q)
	for many := int64(1); many <= 20; many++ {
		name := impl.Sampled(q, seed, many)
		if len(q) == 0 {
			if name != "" {
				t.Fatalf("Sampled(%q, %d, %d) = %q", q, seed, many, name)
			}
			continue
		}
		place := slices.Index(q, name)
		for _, at := range lookedAt(seed, many, len(q)) {
			looked[at] = true
		}
		if place < 0 || !looked[place] {
			t.Fatalf("Sampled(%q, %d, %d) = %q: not looked at", q, seed, many, name)
		}
		if place > last {
			t.Fatalf("Sampled(%q, %d, %d) = %q: further behind than with fewer looks", q, seed, many, name)
		}
		if (len(looked) == len(q) || looked[0]) && place != 0 {
			t.Fatalf("Sampled(%q, %d, %d) = %q: the foremost one goes first", q, seed, many, name)
		}
		last = place
	}
}

func TestQueueOkSizes(t *testing.T) {
	for many := range 45 {
		if got := impl.QueueOk(manyNames(many)); got != (many <= 20) {
			t.Errorf("%d names: QueueOk = %v", many, got)
		}
	}
	for _, many := range []int{256, 276, 1000, 1<<16 + 1} {
		if impl.QueueOk(manyNames(many)) {
			t.Errorf("%d names: QueueOk", many)
		}
	}
	if !impl.QueueOk(nil) || !impl.QueueOk([]string{}) || !impl.QueueOk(roomyNames(nil)) {
		t.Error("an empty queue is refused")
	}
}

// TestQueueOkUnlike: each place with the name of each other one, in queues of 2, 3, 19 and 20.
func TestQueueOkUnlike(t *testing.T) {
	for _, many := range []int{2, 3, 19, 20} {
		for first := range many {
			for second := range many {
				q := manyNames(many)
				q[second] = q[first]
				if got := impl.QueueOk(q); got != (first == second) {
					t.Errorf("QueueOk(%q) = %v", q, got)
				}
			}
		}
	}
	for _, words := range []string{"a aa", "a -a", "a a-", "1 01", "ab ba", "abcdefghijkl abcdefghijkk", "b a", "c a b"} {
		if !impl.QueueOk(wordQueue(words)) {
			t.Errorf("QueueOk(%s) = false", words)
		}
	}
}

func TestQueueOkEachName(t *testing.T) {
	for _, wrong := range []string{"", "A", " ", "a ", "\x80", "\xff", "\x00", "é", strings.Repeat("x", 13), strings.Repeat("x", 12+256), "a\n", "`", "{", "/", ":", "a_b"} {
		for _, many := range []int{1, 2, 3, 19, 20} {
			for place := range many {
				q := manyNames(many)
				q[place] = wrong
				if impl.QueueOk(q) {
					t.Errorf("QueueOk(%q)", q)
				}
			}
		}
	}
	for _, right := range []string{"x", "-", "0", "x-9", strings.Repeat("x", 12), strings.Repeat("-", 12)} {
		for _, many := range []int{1, 2, 19, 20} {
			for place := range many {
				q := manyNames(many)
				for i := range q {
					q[i] = fmt.Sprint("n", i)
				}
				q[place] = right
				if !impl.QueueOk(q) {
					t.Errorf("QueueOk(%q) = false", q)
				}
			}
		}
	}
}

// TestQueueOkEachByte: each of the 256 bytes as a name of its own, and behind another one.
func TestQueueOkEachByte(t *testing.T) {
	for b := range 256 {
		one := string([]byte{byte(b)})
		want := strings.Contains("abcdefghijklmnopqrstuvwxyz0123456789-", one)
		if got := impl.QueueOk([]string{one}); got != want {
			t.Errorf("QueueOk of byte %d = %v", b, got)
		}
		if got := impl.QueueOk([]string{"other", "x" + one}); got != want {
			t.Errorf("QueueOk with byte %d = %v", b, got)
		}
	}
}

func TestTouched(t *testing.T) {
	for _, c := range []struct {
		given, name, want string
		ok                bool
	}{
		{"", "a", "a", true}, {"", "-", "-", true}, {"", "abcdefghijkl", "abcdefghijkl", true},
		{"a", "b", "a b", true}, {"b", "a", "b a", true}, {"a", "aa", "a aa", true}, {"a b c", "d", "a b c d", true}, {"c b", "a", "c b a", true},
		{"a", "a", "a", true}, {"a b", "a", "b a", true}, {"a b", "b", "a b", true},
		{"a b c", "a", "b c a", true}, {"a b c", "b", "a c b", true}, {"a b c", "c", "a b c", true},
		{"d c b a", "d", "c b a d", true}, {"d c b a", "c", "d b a c", true}, {"d c b a", "b", "d c a b", true}, {"d c b a", "a", "d c b a", true},
		{"", "", "", false}, {"", "A", "", false}, {"", "abcdefghijklm", "", false}, {"", "a b", "", false}, {"", "\xff", "", false},
		{"a b c", "", "a b c", false}, {"a b c", "A", "a b c", false}, {"a b c", "abcdefghijklm", "a b c", false}, {"a b c", "a ", "a b c", false}, {"a b c", "\x00", "a b c", false}, {"a b c", "é", "a b c", false}, {"a b c", spareName, "a b c", false},
	} {
		got, ok := impl.Touched(wordQueue(c.given), c.name)
		if ok != c.ok || !slices.Equal(got, strings.Fields(c.want)) {
			t.Errorf("Touched(%s, %q) = %q, %v", c.given, c.name, got, ok)
		}
		checkTouched(t, wordQueue(c.given), c.name)
	}
}

func TestTouchedUpToMaxNames(t *testing.T) {
	var q []string
	names := manyNames(22)
	for many, name := range names[:20] {
		next, ok := impl.Touched(q, name)
		if !ok || !slices.Equal(next, names[:many+1]) || !impl.QueueOk(next) {
			t.Fatalf("Touched(%q, %q) = %q, %v", q, name, next, ok)
		}
		q = next
	}
	for _, name := range append(oddNames(), names[20], names[21]) {
		if next, ok := impl.Touched(q, name); ok || !slices.Equal(next, q) {
			t.Errorf("Touched(%q, %q) = %q, %v", q, name, next, ok)
		}
	}
	if next, ok := impl.Touched(impl.Without(q, names[7]), names[20]); !ok || len(next) != 20 || next[19] != names[20] {
		t.Error(next, ok)
	}
}

// TestTouchedEachPlace: each place, in queues of each size; where there is no room, who is there goes to the end all the same.
func TestTouchedEachPlace(t *testing.T) {
	for many := 1; many <= 20; many++ {
		q := roomyNames(manyNames(many))
		for place, name := range q {
			next, ok := impl.Touched(q, name)
			if !ok || len(next) != many || next[many-1] != name || !impl.QueueOk(next) {
				t.Errorf("%d names, place %d: %q, %v", many, place, next, ok)
			}
			askTouched(t, q, name)
			askWithout(t, q, name)
			checkQueue(t, next)
		}
		checkQueue(t, q)
	}
}

// TestTouchedAllInTurn: where each one is touched in turn, the queue is as it was; the other way round, it is turned round.
func TestTouchedAllInTurn(t *testing.T) {
	for many := range 21 {
		names := manyNames(many)
		q := slices.Clone(names)
		for _, name := range names {
			q = askTouched(t, q, name)
		}
		if !slices.Equal(q, names) {
			t.Errorf("%q, was %q", q, names)
		}
		for _, name := range slices.Backward(names) {
			q = askTouched(t, q, name)
		}
		if slices.Reverse(q); !slices.Equal(q, names) {
			t.Errorf("%q, was %q", q, names)
		}
	}
}

func TestWithout(t *testing.T) {
	for _, c := range []struct{ given, name, want string }{
		{"a", "a", ""}, {"a b", "a", "b"}, {"a b", "b", "a"}, {"b a", "b", "a"},
		{"a b c", "a", "b c"}, {"a b c", "b", "a c"}, {"a b c", "c", "a b"}, {"d c b a", "c", "d b a"}, {"a aa aaa", "aa", "a aaa"},
		{"", "a", ""}, {"", "", ""}, {"", "A", ""}, {"a", "b", "a"}, {"a b", "ab", "a b"}, {"b a", "c", "b a"},
		{"b a", "", "b a"}, {"b a", "A", "b a"}, {"b a", "a ", "b a"}, {"b a", "abcdefghijklm", "b a"}, {"b a", "\xff", "b a"}, {"b a", spareName, "b a"},
	} {
		if got := impl.Without(wordQueue(c.given), c.name); !slices.Equal(got, strings.Fields(c.want)) {
			t.Errorf("Without(%s, %q) = %q", c.given, c.name, got)
		}
		checkWithout(t, wordQueue(c.given), c.name)
	}
}

func TestWithoutTillNoneIsLeft(t *testing.T) {
	for seed := range uint64(20) {
		q, roll := manyNames(20), rolls(seed)
		for many := 20; many > 0; many-- {
			if len(q) != many {
				t.Fatal(many, q)
			}
			q = askWithout(t, q, q[roll(many)])
		}
		if q, ok := impl.Touched(q, "a"); !ok || !slices.Equal(q, []string{"a"}) {
			t.Error(q, ok)
		}
	}
}

// everyQueue goes through all queues that come of nothing by these names, in whatever order of calls.
func everyQueue(t *testing.T, names []string, visit func([]string)) int {
	t.Helper()
	met, open := map[string]bool{"": true}, [][]string{nil}
	meet := func(q []string) {
		if text := strings.Join(q, " "); !met[text] {
			met[text] = true
			open = append(open, q)
		}
	}
	for len(open) > 0 {
		q := open[0]
		open = open[1:]
		visit(q)
		for _, name := range names {
			meet(askTouched(t, q, name))
			meet(askWithout(t, q, name))
		}
	}
	return len(met)
}

// TestEveryQueue: promise 9 at all queues of up to five names.
func TestEveryQueue(t *testing.T) {
	many := everyQueue(t, []string{"a", "b", "c", "d", "e"}, func(q []string) {
		checkQueue(t, q)
		for seed := range int64(25) {
			askSampled(t, q, seed)
		}
	})
	if many != 1+5+20+60+120+120 {
		t.Error(many)
	}
}

// grownQueue is a queue together with when each one that is there was touched last.
type grownQueue struct {
	queue   []string
	touched map[string]int
}

// ask holds the queue against the days: the one not asked for longest stands first.
func (g *grownQueue) ask(t *testing.T) {
	t.Helper()
	if len(g.queue) != len(g.touched) || !impl.QueueOk(g.queue) {
		t.Fatal(g.queue, g.touched)
	}
	for place, name := range g.queue {
		if day, there := g.touched[name]; !there || place > 0 && day <= g.touched[g.queue[place-1]] {
			t.Fatalf("%q: %q stands at %d, %v", g.queue, name, place, g.touched)
		}
	}
}

// TestGrownQueues: promise 9 in long runs, with as many names as there is room for, fewer and more.
func TestGrownQueues(t *testing.T) {
	for _, many := range []int{1, 2, 3, 8, 19, 20, 21, 26} {
		for seed := range uint64(6) {
			roll, names := rolls(seed*100+uint64(many)), manyNames(many)
			g := grownQueue{touched: map[string]int{}}
			for day := range 400 {
				name := names[roll(many)]
				_, there := g.touched[name]
				if roll(5) < int64(4-seed%3) {
					full := len(g.queue) == 20
					g.queue = askTouched(t, g.queue, name)
					if there || !full {
						g.touched[name] = day
					}
				} else {
					g.queue = askWithout(t, g.queue, name)
					delete(g.touched, name)
				}
				g.ask(t)
				askSampled(t, g.queue, roll(1000001))
			}
			checkQueue(t, g.queue)
		}
	}
}

// TestGoesFirst: who is taken where all places are looked at goes in the order in which they were touched last.
func TestGoesFirst(t *testing.T) {
	q := wordQueue("a b")
	for _, c := range []struct{ touched, first string }{{"a", "b"}, {"b", "a"}, {"b", "a"}, {"a", "b"}, {"a", "b"}} {
		q, _ = impl.Touched(q, c.touched)
		for seed := range int64(10) {
			if got := impl.Sampled(q, seed, 2); got != c.first {
				t.Errorf("Sampled(%q, %d, 2) = %q", q, seed, got)
			}
		}
	}
	q = letters(20)
	for _, want := range letters(20) {
		got := impl.Sampled(q, 0, 1)
		if got != want {
			t.Errorf("Sampled(%q, 0, 1) = %q", q, got)
		}
		q = impl.Without(q, got)
	}
}

// TestSampledByHand: places that were worked out on paper.
func TestSampledByHand(t *testing.T) {
	for _, c := range []struct {
		size   int
		seed   int64
		places []int
	}{
		{1, 0, []int{0, 0, 0}}, {1, 1, []int{0, 0}}, {1, 1000000, []int{0, 0}},
		{2, 0, []int{0, 1, 0}}, {2, 1, []int{1, 0, 1, 0}}, {2, 999999, []int{1, 0, 1}},
		{3, 1, []int{1, 1, 1}}, {3, 2, []int{2, 2, 2}}, {3, 4, []int{1, 1}},
		{4, 1, []int{1, 2, 1, 2}}, {4, 2, []int{2, 1, 2}}, {4, 3, []int{3, 0, 3}},
		{5, 3, []int{3, 4, 1, 0, 3}}, {5, 4, []int{4, 1, 0}}, {5, 2, []int{2, 2, 2}}, {5, 7, []int{2, 2, 2}},
		{10, 8, []int{8, 9, 6, 5, 8}}, {10, 7, []int{7, 2, 7}}, {10, 9, []int{9, 6, 5}}, {10, 1000000, []int{0, 3, 4, 1, 0}},
		{11, 3, []int{3, 2, 6, 1, 10, 7, 8, 4, 9, 0, 3}}, {11, 10, []int{10, 7, 8, 4, 9, 0}}, {11, 5, []int{5, 5, 5, 5}},
		{7, 1000000, []int{1, 3, 3, 3}}, {13, 1000000, []int{1, 10, 8, 7, 0, 3}},
		{19, 18, []int{18, 15, 13, 18, 15}}, {19, 4, []int{4, 12, 11, 4}},
		{20, 5, []int{5, 18, 9, 6, 5}}, {20, 19, []int{19, 16, 15, 8, 19}}, {20, 18, []int{18, 9, 6, 5, 18}}, {20, 17, []int{17, 2, 17}}, {20, 13, []int{13, 14, 1, 10, 13}}, {20, 39, []int{19, 16, 15, 8}}, {20, 999999, []int{19, 16, 15, 8}},
	} {
		q := letters(c.size)
		for many := range c.places {
			want := q[slices.Min(c.places[:many+1])]
			if got := impl.Sampled(q, c.seed, int64(many)+1); got != want {
				t.Errorf("Sampled of %d, seed %d, many %d = %q, want %q", c.size, c.seed, many+1, got, want)
			}
		}
		if got := lookedAt(c.seed, int64(len(c.places)), c.size); !slices.Equal(got, c.places) {
			t.Errorf("%d of %d: %v, want %v", c.seed, c.size, got, c.places)
		}
	}
}

// TestSampledEachSize: each length from 1 to 20 with each many from 1 to 20, against the places one by one.
func TestSampledEachSize(t *testing.T) {
	for size := 1; size <= 20; size++ {
		for _, q := range [][]string{letters(size), backwardQueue(size), roomyNames(manyNames(size))} {
			for _, seed := range seedsOf(size) {
				for many := int64(1); many <= 20; many++ {
					checkSampled(t, q, seed, many)
				}
				askSampled(t, q, seed)
			}
		}
	}
}

// backwardQueue: who stands first is the last one in the order of the letters.
func backwardQueue(size int) []string {
	q := letters(size)
	slices.Reverse(q)
	return q
}

// seedsOf begin at each place of the queue, from low and from high seeds.
func seedsOf(size int) []int64 {
	var seeds []int64
	for place := range int64(size) {
		seeds = append(seeds, place, place+int64(size), 500000+place, 1000000-place)
	}
	return append(seeds, 6, 7, 42, 65536, 123456, 777777)
}

// TestSampledAllPlaces: two places are all looked at with two looks, whatever the seed; of one place there is no other.
func TestSampledAllPlaces(t *testing.T) {
	for _, seed := range []int64{0, 1, 2, 3, 10, 499999, 500000, 999999, 1000000} {
		for many := int64(1); many <= 20; many++ {
			if got := impl.Sampled([]string{"z"}, seed, many); got != "z" {
				t.Errorf("Sampled of one, %d, %d = %q", seed, many, got)
			}
			if got := impl.Sampled([]string{"z", "a"}, seed, many); many > 1 && got != "z" || many == 1 && got != []string{"z", "a"}[seed%2] {
				t.Errorf("Sampled of two, %d, %d = %q", seed, many, got)
			}
		}
	}
}

// TestSampledOneLook: a look falls on each place, as the seed goes on.
func TestSampledOneLook(t *testing.T) {
	for size := 1; size <= 20; size++ {
		q := letters(size)
		for seed := range int64(3 * size) {
			if got := impl.Sampled(q, seed, 1); got != q[seed%int64(size)] {
				t.Errorf("Sampled(%q, %d, 1) = %q", q, seed, got)
			}
		}
	}
}

func TestSampledRanges(t *testing.T) {
	for _, many := range []int{1, 2, 3, 7, 19, 20} {
		q := letters(many)
		for _, seed := range []int64{0, 1, 999999, 1000000} {
			for _, looks := range []int64{1, 2, 19, 20} {
				if impl.Sampled(q, seed, looks) == "" {
					t.Errorf("Sampled(%q, %d, %d) is refused", q, seed, looks)
				}
			}
			for _, looks := range wrongMany {
				if got := impl.Sampled(q, seed, looks); got != "" {
					t.Errorf("Sampled(%q, %d, %d) = %q", q, seed, looks, got)
				}
			}
		}
		for _, seed := range wrongSeeds {
			for _, looks := range append([]int64{1, 2, 20}, wrongMany...) {
				if got := impl.Sampled(q, seed, looks); got != "" {
					t.Errorf("Sampled(%q, %d, %d) = %q", q, seed, looks, got)
				}
			}
		}
	}
}

func TestEmptyQueues(t *testing.T) {
	for _, q := range [][]string{nil, {}, roomyNames(nil), manyNames(8)[:0]} {
		checkQueue(t, q)
		for _, name := range append(oddNames(), "a") {
			if got := impl.Without(q, name); len(got) != 0 {
				t.Errorf("Without(%q, %q) = %q", q, name, got)
			}
			if got, ok := impl.Touched(q, name); ok != wantedName(name) || ok && !slices.Equal(got, []string{name}) || !ok && len(got) != 0 {
				t.Errorf("Touched(%q, %q) = %q, %v", q, name, got, ok)
			}
		}
		for _, seed := range append([]int64{0, 1, 1000000}, wrongSeeds...) {
			for _, many := range append([]int64{1, 20}, wrongMany...) {
				if got := impl.Sampled(q, seed, many); got != "" {
					t.Errorf("Sampled(%q, %d, %d) = %q", q, seed, many, got)
				}
			}
		}
	}
}

// wrongQueues are wrong in a name or in how many there are.
func wrongQueues() map[string][]string {
	return map[string][]string{
		"twice": wordQueue("a a"), "twice, apart": wordQueue("a b c a"), "twice, behind": wordQueue("c b a a"), "twice among 20": roomyNames(append(manyNames(19), "a")), "all alike": slices.Repeat([]string{"a"}, 20),
		"empty text": {""}, "empty text first": roomyNames([]string{"", "a"}), "empty text last": roomyNames([]string{"a", "b", ""}), "empty texts": make([]string, 20), "one empty among 20": roomyNames(append(manyNames(19), "")),
		"13 bytes": wordQueue("abcdefghijklm"), "13 bytes, last": wordQueue("a b -------------"), "capital": wordQueue("a B c"), "blank": roomyNames([]string{"a b"}), "above 127": roomyNames([]string{"a", "\x80"}), "byte 0": {"\x00", "b"}, "two bytes": wordQueue("a é"), "lower line": wordQueue("a b n_1"), "new line": roomyNames([]string{"a\n", "b"}),
		"21 names": roomyNames(manyNames(21)), "22 names": manyNames(22), "40 names": roomyNames(manyNames(40)), "1000 names": manyNames(1000), "21 empty texts": make([]string, 21),
		"all wrong": append(manyNames(30), "A", "", "a"),
	}
}

func TestWrongQueues(t *testing.T) {
	for what, q := range wrongQueues() {
		if wantedQueue(q) || impl.QueueOk(q) {
			t.Errorf("%s: QueueOk %v", what, impl.QueueOk(q))
		}
		for _, name := range slices.Concat([]string{"a", "b", "fresh"}, q, oddNames()) {
			if got, ok := impl.Touched(q, name); ok || len(got) != 0 {
				t.Errorf("%s: Touched(%q) = %q, %v", what, name, got, ok)
			}
			if got := impl.Without(q, name); len(got) != 0 {
				t.Errorf("%s: Without(%q) = %q", what, name, got)
			}
		}
		for _, seed := range append([]int64{0, 1, 2, 3, 1000000}, wrongSeeds...) {
			for _, many := range append([]int64{1, 2, 20}, wrongMany...) {
				if got := impl.Sampled(q, seed, many); got != "" {
					t.Errorf("%s: Sampled(%d, %d) = %q", what, seed, many, got)
				}
			}
		}
	}
}

// givenQueues are right ones, with and without room behind them.
func givenQueues() map[string][]string {
	given := map[string][]string{
		"nil": nil, "empty": {}, "room alone": roomyNames(nil), "one": wordQueue("a"), "two": wordQueue("b a"), "three": wordQueue("c a b"), "some": wordQueue("e d c a b"),
		"no room behind": slices.Clip([]string{"a", "b", "c"}), "a piece": manyNames(20)[2:7],
	}
	for _, many := range []int{2, 18, 19, 20} {
		given[fmt.Sprint(many, " names")] = roomyNames(manyNames(many))
	}
	return given
}

func TestGivenQueues(t *testing.T) {
	for what, q := range givenQueues() {
		if !impl.QueueOk(q) {
			t.Errorf("%s: %q is refused", what, q)
		}
		checkQueue(t, q)
	}
}

// TestQueueRoomIsNotRead: what stands behind the list does not count.
func TestQueueRoomIsNotRead(t *testing.T) {
	for what, q := range givenQueues() {
		bare := slices.Clip(slices.Clone(q))
		for _, name := range append(manyNames(21), spareName) {
			one, ok := impl.Touched(q, name)
			if two, also := impl.Touched(bare, name); ok != also || !slices.Equal(one, two) {
				t.Errorf("%s: Touched(%q) = %q, %q", what, name, one, two)
			}
			if one, two := impl.Without(q, name), impl.Without(bare, name); !slices.Equal(one, two) {
				t.Errorf("%s: Without(%q) = %q, %q", what, name, one, two)
			}
		}
		for seed := range int64(25) {
			if one, two := impl.Sampled(q, seed, 3), impl.Sampled(bare, seed, 3); one != two {
				t.Errorf("%s: Sampled(%d, 3) = %q, %q", what, seed, one, two)
			}
		}
	}
}

func TestQueueArgumentsStay(t *testing.T) {
	queues := wrongQueues()
	for what, q := range givenQueues() {
		queues["given: "+what] = q
	}
	for what, q := range queues {
		before := wholeNames(q)
		impl.QueueOk(q)
		for _, name := range slices.Concat([]string{"a", "b", "fresh"}, q, oddNames()) {
			impl.Touched(q, name)
			impl.Without(q, name)
			if !slices.Equal(wholeNames(q), before) {
				t.Fatalf("%s, %q: %q was %q", what, name, wholeNames(q), before)
			}
		}
		for _, seed := range []int64{-1, 0, 3, 1000000} {
			for many := range int64(22) {
				impl.Sampled(q, seed, many)
			}
		}
		if !slices.Equal(wholeNames(q), before) {
			t.Fatalf("%s: %q was %q", what, wholeNames(q), before)
		}
	}
}

// checkNewQueue: what the call answers shares nothing with what was given, nor with another answer.
func checkNewQueue(t *testing.T, what string, given []string, call func([]string) []string) {
	t.Helper()
	before := wholeNames(given)
	first, second := call(given), call(given)
	want := slices.Clone(second)
	if spoilNames(first); !slices.Equal(wholeNames(given), before) {
		t.Fatalf("%s: a change of the answer changes what was given", what)
	}
	if !slices.Equal(second, want) || !slices.Equal(call(given), want) {
		t.Fatalf("%s: a change of the answer changes another one", what)
	}
	if spoilNames(given); !slices.Equal(second, want) {
		t.Fatalf("%s: the answer changes with what was given", what)
	}
}

func TestQueueAnswersAreNewMemory(t *testing.T) {
	for what, q := range givenQueues() {
		for _, name := range slices.Concat(q, oddNames()) {
			checkNewQueue(t, fmt.Sprintf("%s, Touched %q", what, name), givenQueues()[what], func(q []string) []string { out, _ := impl.Touched(q, name); return out })
			checkNewQueue(t, fmt.Sprintf("%s, Without %q", what, name), givenQueues()[what], func(q []string) []string { return impl.Without(q, name) })
		}
	}
	for what := range wrongQueues() {
		checkNewQueue(t, what+", Touched", wrongQueues()[what], func(q []string) []string { out, _ := impl.Touched(q, "a"); return out })
		checkNewQueue(t, what+", Without", wrongQueues()[what], func(q []string) []string { return impl.Without(q, "a") })
	}
}

// TestTwoOfOneQueue: what is done to one of two that came of the same queue is not seen in the other.
func TestTwoOfOneQueue(t *testing.T) {
	q, _ := impl.Touched(wordQueue("a b"), "c")
	one, _ := impl.Touched(q, "d")
	two, _ := impl.Touched(q, "e")
	three, _ := impl.Touched(q, "a")
	four := impl.Without(q, "a")
	five := impl.Without(q, "nobody")
	six, _ := impl.Touched(five, "f")
	for i, c := range []struct {
		got  []string
		want string
	}{{q, "a b c"}, {one, "a b c d"}, {two, "a b c e"}, {three, "b c a"}, {four, "b c"}, {five, "a b c"}, {six, "a b c f"}} {
		if !slices.Equal(c.got, strings.Fields(c.want)) {
			t.Errorf("%d: %q, want %s", i, c.got, c.want)
		}
	}
}
