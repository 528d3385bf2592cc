package tests

import (
	"fmt"
	"math"
	"slices"
	"strings"
	"testing"

	"loop.example/g00401/impl"
)

// datedList has one thing an Until, named by letters from a on.
func datedList(untils ...int64) []impl.Item { return untilBook(1, untils...).Items }

// wantedDue sorts texts in which the Until stands ahead of the Name, always as many digits long.
func wantedDue(b []impl.Item, now int64) []string {
	if !wantedBook(b) {
		return nil
	}
	var list []string
	for _, i := range b {
		if wantedOver(i, now) {
			list = append(list, fmt.Sprintf("%07d%s", i.Until, i.Name))
		}
	}
	slices.Sort(list)
	for place := range list {
		list[place] = list[place][7:]
	}
	return list
}

func wantedSoonest(b []impl.Item) int64 {
	if !wantedBook(b) {
		return 0
	}
	least := int64(1000001)
	for _, i := range b {
		if i.Until != 0 {
			least = min(least, i.Until)
		}
	}
	return least % 1000001
}

// wantedOutlives looks for a moment at which a is over and b is not.
func wantedOutlives(a, b impl.Item) bool {
	if !wantedItem(a) || !wantedItem(b) {
		return false
	}
	for _, now := range []int64{0, 1, a.Until - 1, a.Until, a.Until + 1, b.Until - 1, b.Until, b.Until + 1, 1000000} {
		if wantedOver(a, now) && !wantedOver(b, now) {
			return false
		}
	}
	return true
}

// keptList stands by while b is handed out: it fails where b, or the room behind it, is not as it was.
func keptList(t *testing.T, b []impl.Item) func(call string) {
	t.Helper()
	before := wholeBook(b)
	return func(call string) {
		t.Helper()
		if !slices.Equal(wholeBook(b), before) {
			t.Fatalf("%s: the list %+v was %+v", call, wholeBook(b), before)
		}
	}
}

func checkDue(t *testing.T, b []impl.Item, now int64) {
	t.Helper()
	stays := keptList(t, b)
	got := impl.DueBy(b, now)
	if want := wantedDue(b, now); !slices.Equal(got, want) {
		t.Fatalf("DueBy(%+v, %d) = %q, want %q", b, now, got, want)
	}
	spoilNames(got)
	stays("DueBy")
}

func checkSoonest(t *testing.T, b []impl.Item) {
	t.Helper()
	stays := keptList(t, b)
	if got, want := impl.SoonestOf(b), wantedSoonest(b); got != want {
		t.Fatalf("SoonestOf(%+v) = %d, want %d", b, got, want)
	}
	stays("SoonestOf")
}

func checkOutlives(t *testing.T, a, b impl.Item) {
	t.Helper()
	if got, want := impl.Outlives(a, b), wantedOutlives(a, b); got != want {
		t.Fatalf("Outlives(%+v, %+v) = %v", a, b, got)
	}
}

// momentsOf are near each Until of the list, and near all ends.
func momentsOf(b []impl.Item) []int64 {
	moments := slices.Concat(nowEdges, wholeNumbers)
	for _, i := range b {
		moments = append(moments, i.Until-1, i.Until, i.Until+1)
	}
	slices.Sort(moments)
	return slices.Compact(moments)
}

// checkAge asks all that can be asked of a list, right or wrong.
func checkAge(t *testing.T, b []impl.Item) {
	t.Helper()
	checkSoonest(t, b)
	for _, now := range momentsOf(b) {
		checkDue(t, b, now)
	}
}

// askDue holds a right book, at a moment in range, against promise 14.
func askDue(t *testing.T, b impl.Book, now int64) {
	t.Helper()
	due := impl.DueBy(b.Items, now)
	left, gone := impl.Aged(b, now)
	same := slices.Sorted(slices.Values(due))
	if !slices.Equal(same, gone) || len(slices.Compact(same)) != len(due) {
		t.Fatalf("DueBy(%+v, %d) = %q, Aged %q", b.Items, now, due, gone)
	}
	things := shelfOf(b).things
	for place, name := range due {
		if place == 0 {
			continue
		}
		ahead, i := things[due[place-1]], things[name]
		if ahead.Until > i.Until || ahead.Until == i.Until && ahead.Name >= name {
			t.Fatalf("DueBy(%+v, %d) = %q: %+v stands ahead of %+v", b.Items, now, due, ahead, i)
		}
		if !impl.Outlives(i, ahead) || impl.Outlives(ahead, i) != (ahead.Until == i.Until) {
			t.Fatalf("Outlives(%+v, %+v) = %v, and %v the other way round", i, ahead, impl.Outlives(i, ahead), impl.Outlives(ahead, i))
		}
	}
	soonest := impl.SoonestOf(b.Items)
	if len(due) > 0 && things[due[0]].Until != soonest || len(due) == 0 && soonest != 0 && soonest <= now {
		t.Fatalf("SoonestOf(%+v) = %d, DueBy %d is %q", b.Items, soonest, now, due)
	}
	if none, next := impl.DueBy(left.Items, now), impl.SoonestOf(left.Items); len(none) != 0 || next != 0 && next <= now {
		t.Fatalf("%+v is left of %+v at %d: DueBy %q, SoonestOf %d", left, b, now, none, next)
	}
}

// askDueAlways asks at each moment that counts; what is due stays due, and what comes later stands behind it.
func askDueAlways(t *testing.T, b impl.Book) {
	t.Helper()
	var ahead []string
	for _, now := range momentsOf(b.Items) {
		due := impl.DueBy(b.Items, now)
		if len(due) < len(ahead) || !slices.Equal(due[:len(ahead)], ahead) {
			t.Fatalf("DueBy(%+v, %d) = %q, before it was %q", b.Items, now, due, ahead)
		}
		ahead = due
		if wantedNow(now) {
			askDue(t, b, now)
		}
	}
}

func TestPromise14(t *testing.T) {
	for what, b := range storeKinds() {
		if !impl.StoreOk(b) {
			t.Fatalf("%s is not StoreOk", what)
		}
		askDueAlways(t, b)
		checkAge(t, b.Items)
	}
}

// TestPromise14Every: each book of at most five things by few Untils, at each moment near them.
func TestPromise14Every(t *testing.T) {
	for many := range 6 {
		untils := make([]int64, many)
		var fill func(place int)
		fill = func(place int) {
			if place < many {
				for _, until := range []int64{0, 3, 4, 6} {
					untils[place] = until
					fill(place + 1)
				}
				return
			}
			b := untilBook(7, untils...)
			checkSoonest(t, b.Items)
			for now := int64(0); now <= 7; now++ {
				checkDue(t, b.Items, now)
				askDue(t, b, now)
			}
		}
		fill(0)
	}
}

// TestPromise14Orders: five Untils, all unlike, in each order in which they can stand.
func TestPromise14Orders(t *testing.T) {
	var walk func(untils, left []int64)
	walk = func(untils, left []int64) {
		if len(left) == 0 {
			b := untilBook(7, untils...)
			checkAge(t, b.Items)
			askDueAlways(t, b)
		}
		for place, until := range left {
			walk(slices.Concat(untils, []int64{until}), slices.Concat(left[:place], left[place+1:]))
		}
	}
	walk(nil, []int64{1, 2, 500000, 999999, 1000000})
}

// TestPromise14Rolled: books of every length, with Untils that are far apart, near together or alike.
func TestPromise14Rolled(t *testing.T) {
	roll := rolls(14)
	for round := range 600 {
		untils := make([]int64, round%21)
		span := []int{2, 3, 8, 30, 1000001}[roll(5)]
		for place := range untils {
			untils[place] = roll(span)
		}
		b := untilBook(1+roll(1000000), untils...)
		checkAge(t, b.Items)
		askDueAlways(t, b)
	}
}

// TestPromise14Runs: a book as commands leave it, while time goes on.
func TestPromise14Runs(t *testing.T) {
	roll := rolls(41)
	for range 20 {
		b := impl.NewBook()
		names := sortedNames(4 + int(roll(21)))
		var now int64
		for range 80 {
			b, _ = impl.DidBook(b, rolledDeed(roll, b, names, now), now)
			checkAge(t, b.Items)
			askDueAlways(t, b)
			now += roll(4)
		}
	}
}

func TestDueBy(t *testing.T) {
	for _, c := range []struct {
		what   string
		untils []int64
		now    int64
		want   string
	}{
		{"nothing there", nil, 1000000, ""},
		{"one for ever", []int64{0}, 1000000, ""},
		{"one for ever, at 0", []int64{0}, 0, ""},
		{"one, not yet", []int64{5}, 4, ""},
		{"one, at it", []int64{5}, 5, "a"},
		{"one, behind it", []int64{5}, 6, "a"},
		{"1, at 0", []int64{1}, 0, ""},
		{"1, at 1", []int64{1}, 1, "a"},
		{"MaxTime, one before", []int64{1000000}, 999999, ""},
		{"MaxTime, at it", []int64{1000000}, 1000000, "a"},
		{"all for ever", []int64{0, 0, 0}, 1000000, ""},
		{"some for ever", []int64{0, 2, 0, 1}, 2, "d b"},
		{"none for ever", []int64{2, 1, 3}, 3, "b a c"},
		{"rising", []int64{1, 2, 3, 4}, 4, "a b c d"},
		{"falling", []int64{4, 3, 2, 1}, 4, "d c b a"},
		{"some not yet", []int64{4, 3, 2, 1}, 2, "d c"},
		{"all alike", []int64{7, 7, 7, 7}, 7, "a b c d"},
		{"all alike, not yet", []int64{7, 7, 7, 7}, 6, ""},
		{"alike, the ends", []int64{7, 5, 6, 7}, 7, "b c a d"},
		{"alike, apart", []int64{7, 5, 7, 5}, 9, "b d a c"},
		{"alike, before now and at it", []int64{9, 8, 9, 8, 10, 0, 8}, 9, "b d g a c"},
		{"2 and 10", []int64{10, 2, 100000, 20}, 1000000, "b a d c"},
	} {
		b := datedList(c.untils...)
		if got := strings.Join(impl.DueBy(b, c.now), " "); got != c.want {
			t.Errorf("%s: DueBy = %q, want %q", c.what, got, c.want)
		}
		checkAge(t, b)
	}
}

// TestDueByName: of one Until it is the Name that counts, byte by byte, and no other field.
func TestDueByName(t *testing.T) {
	b := roomyBook(
		impl.Item{Name: "-", Flags: 9, Bytes: "z", Cas: 9, Until: 5}, impl.Item{Name: "0", Flags: 8, Bytes: "y", Cas: 8, Until: 5}, impl.Item{Name: "10", Flags: 7, Bytes: "x", Cas: 7, Until: 4},
		impl.Item{Name: "9", Flags: 6, Bytes: "w", Cas: 6, Until: 4}, impl.Item{Name: "a", Flags: 5, Bytes: "v", Cas: 5, Until: 5}, impl.Item{Name: "a-", Flags: 4, Cas: 4, Until: 5},
		impl.Item{Name: "aa", Flags: 3, Cas: 3, Until: 5}, impl.Item{Name: "ab", Flags: 2, Cas: 2, Until: 3}, impl.Item{Name: "b", Flags: 1, Cas: 1, Until: 5},
	)
	if got := strings.Join(impl.DueBy(b, 5), " "); got != "ab 10 9 - 0 a a- aa b" {
		t.Errorf("DueBy = %q", got)
	}
	checkAge(t, b)
}

// TestDueBySizes: an empty list, one thing, and up to MaxNames and more, all alike, rising, falling, or all but one for ever.
func TestDueBySizes(t *testing.T) {
	for _, many := range []int{0, 1, 2, 3, 18, 19, 20, 21, 22, 25} {
		alike, rising, falling := make([]int64, many), make([]int64, many), make([]int64, many)
		for place := range many {
			alike[place], rising[place], falling[place] = 9, int64(1+place), int64(many-place)
		}
		forward := make([]string, 0, many)
		for _, i := range datedList(alike...) {
			forward = append(forward, i.Name)
		}
		reversed := slices.Clone(forward)
		slices.Reverse(reversed)
		if many > 20 {
			forward, reversed = nil, nil
		}
		for _, c := range []struct {
			untils []int64
			want   []string
			first  int64
		}{{alike, forward, 9}, {rising, forward, 1}, {falling, reversed, 1}, {make([]int64, many), nil, 0}} {
			b := datedList(c.untils...)
			if got := impl.DueBy(b, 1000000); !slices.Equal(got, c.want) {
				t.Errorf("%d things %d: DueBy = %q, want %q", many, c.untils, got, c.want)
			}
			if got := impl.SoonestOf(b); len(c.want) > 0 && got != c.first || len(c.want) == 0 && got != 0 {
				t.Errorf("%d things %d: SoonestOf = %d, want %d", many, c.untils, got, c.first)
			}
			checkAge(t, b)
		}
	}
}

// TestDuePairs: two of one Until at any two places, sooner or later than all others.
func TestDuePairs(t *testing.T) {
	for _, many := range []int{2, 3, 4, 7, 19, 20} {
		for low := range many {
			for high := low + 1; high < many; high++ {
				for _, until := range []int64{1, 15, 1000000} {
					untils := make([]int64, many)
					for place := range untils {
						untils[place] = int64(10 + (place*7)%many)
					}
					untils[low], untils[high] = until, until
					b := untilBook(7, untils...)
					checkAge(t, b.Items)
					askDue(t, b, 15)
					askDue(t, b, 1000000)
				}
			}
		}
	}
}

// TestDueNow: the chapter names no answer of its own for a now that is out of range, so it is OverAt that counts there too.
func TestDueNow(t *testing.T) {
	b := datedList(0, 1000000, 1, 500000, 1)
	for now, want := range map[int64]string{
		math.MinInt64: "", math.MinInt64 + 1: "", -1 << 32: "", -1000000: "", -1: "", 0: "", 1: "c e", 2: "c e", 499999: "c e", 500000: "c e d", 999999: "c e d",
		1000000: "c e d b", 1000001: "c e d b", 1 << 32: "c e d b", 1<<32 + 1: "c e d b", math.MaxInt64 - 1: "c e d b", math.MaxInt64: "c e d b",
	} {
		if got := strings.Join(impl.DueBy(b, now), " "); got != want {
			t.Errorf("DueBy at %d = %q, want %q", now, got, want)
		}
		checkDue(t, b, now)
		if got := impl.DueBy(datedList(0, 0, 0), now); len(got) != 0 {
			t.Errorf("DueBy of things for ever at %d = %q", now, got)
		}
	}
}

func TestSoonestOf(t *testing.T) {
	for _, c := range []struct {
		what   string
		untils []int64
		want   int64
	}{
		{"nothing there", nil, 0},
		{"one for ever", []int64{0}, 0},
		{"all for ever", []int64{0, 0, 0, 0}, 0},
		{"one", []int64{7}, 7},
		{"one, 1", []int64{1}, 1},
		{"one, MaxTime", []int64{1000000}, 1000000},
		{"one not for ever, first", []int64{8, 0, 0}, 8},
		{"one not for ever, in the middle", []int64{0, 8, 0}, 8},
		{"one not for ever, last", []int64{0, 0, 8}, 8},
		{"MaxTime among others for ever", []int64{0, 1000000, 0}, 1000000},
		{"all MaxTime", []int64{1000000, 1000000}, 1000000},
		{"one below MaxTime", []int64{1000000, 999999, 1000000}, 999999},
		{"the least first", []int64{3, 4, 5}, 3},
		{"the least in the middle", []int64{5, 3, 4}, 3},
		{"the least last", []int64{5, 4, 3}, 3},
		{"the least last but one", []int64{9, 5, 3, 4}, 3},
		{"the least twice", []int64{5, 3, 9, 3}, 3},
		{"0 is not the least", []int64{5, 0, 2, 0, 4}, 2},
		{"1 and MaxTime", []int64{1000000, 0, 1}, 1},
	} {
		b := datedList(c.untils...)
		if got := impl.SoonestOf(b); got != c.want {
			t.Errorf("%s: SoonestOf = %d, want %d", c.what, got, c.want)
		}
		checkAge(t, b)
	}
}

// TestSoonestPlaces: the least one at each place, among others that are later or for ever.
func TestSoonestPlaces(t *testing.T) {
	for _, many := range []int{1, 2, 3, 5, 19, 20} {
		for place := range many {
			for _, others := range []int64{0, 43, 1000000} {
				untils := slices.Repeat([]int64{others}, many)
				untils[place] = 42
				b := datedList(untils...)
				if got := impl.SoonestOf(b); got != 42 {
					t.Errorf("42 at %d of %d, the others %d: SoonestOf = %d", place, many, others, got)
				}
				if got := impl.DueBy(b, 42); len(got) != 1 || got[0] != b[place].Name {
					t.Errorf("42 at %d of %d, the others %d: DueBy = %q", place, many, others, got)
				}
			}
		}
	}
}

func TestOutlives(t *testing.T) {
	for _, c := range []struct {
		a, b int64
		want bool
	}{
		{0, 0, true}, {0, 1, true}, {0, 500000, true}, {0, 1000000, true}, {1, 0, false}, {500000, 0, false}, {1000000, 0, false},
		{1, 1, true}, {2, 1, true}, {1, 2, false}, {500000, 500000, true}, {500000, 499999, true}, {499999, 500000, false}, {500001, 500000, true}, {500000, 500001, false},
		{1000000, 1000000, true}, {1000000, 999999, true}, {999999, 1000000, false}, {1000000, 1, true}, {1, 1000000, false}, {9, 10, false}, {10, 9, true},
	} {
		for _, a := range []impl.Item{{Name: "a", Cas: 1}, {Name: "zzzzzzzzzzzz", Flags: 65535, Bytes: strings.Repeat("z", 64), Cas: 1000000}} {
			for _, b := range []impl.Item{{Name: "a", Cas: 1}, {Name: "m", Flags: 5, Bytes: "m", Cas: 5}, {Name: "zzzzzzzzzzzz", Flags: 65535, Bytes: strings.Repeat("z", 64), Cas: 1000000}} {
				a.Until, b.Until = c.a, c.b
				if got := impl.Outlives(a, b); got != c.want {
					t.Errorf("Outlives(%+v, %+v) = %v", a, b, got)
				}
				checkOutlives(t, a, b)
			}
		}
	}
}

// TestOutlivesItself: whatever is right is never over before itself.
func TestOutlivesItself(t *testing.T) {
	for what, b := range storeKinds() {
		for _, i := range b.Items {
			if !impl.Outlives(i, i) {
				t.Errorf("%s: Outlives(%+v) of itself is false", what, i)
			}
		}
	}
	for until := int64(0); until <= 1000000; until += 9973 {
		if i := (impl.Item{Name: "a", Cas: 1, Until: until}); !impl.Outlives(i, i) {
			t.Errorf("Outlives(%+v) of itself is false", i)
		}
	}
}

// TestOutlivesPairs: of two right things one at least outlives the other, both only where they are over at the same time; of three it goes on from one to the next.
func TestOutlivesPairs(t *testing.T) {
	things := append(datedList(0, 0, 1, 2, 2, 3, 499999, 500000, 500001, 999999, 1000000, 1000000), plainItem("zz"))
	for _, a := range things {
		for _, b := range things {
			checkOutlives(t, a, b)
			if one, two := impl.Outlives(a, b), impl.Outlives(b, a); !one && !two || one && two && a.Until != b.Until {
				t.Errorf("%+v and %+v: %v and %v", a, b, one, two)
			}
			for _, c := range things {
				if impl.Outlives(a, b) && impl.Outlives(b, c) && !impl.Outlives(a, c) {
					t.Errorf("%+v, %+v and %+v", a, b, c)
				}
			}
		}
	}
}

// TestOutlivesNumbers: each number that an Until can be near, in range and out of it, as the first, as the second and as both.
func TestOutlivesNumbers(t *testing.T) {
	for _, one := range append([]int64{3, 500000}, wholeNumbers...) {
		for _, two := range append([]int64{3, 500000}, wholeNumbers...) {
			a, b := impl.Item{Name: "a", Cas: 1, Until: one}, impl.Item{Name: "b", Cas: 1, Until: two}
			checkOutlives(t, a, b)
			if right := wantedNow(one) && wantedNow(two); impl.Outlives(a, b) && !right {
				t.Errorf("Outlives(%+v, %+v)", a, b)
			}
		}
	}
}

// TestOutlivesWrong: things that are not right in one field each, or in all, beside things that they would outlive, or that would outlive them.
func TestOutlivesWrong(t *testing.T) {
	right := datedList(0, 1, 2, 500000, 1000000)
	for what, wrong := range wrongItems() {
		for _, until := range []int64{wrong.Until, 0, 1, 500000, 1000000} {
			if wrong.Until == 0 || until == wrong.Until {
				one := wrong
				one.Until = until
				for _, i := range right {
					if impl.Outlives(one, i) || impl.Outlives(i, one) {
						t.Errorf("%s: %+v beside %+v: %v as the first, %v as the second", what, one, i, impl.Outlives(one, i), impl.Outlives(i, one))
					}
				}
				if impl.Outlives(one, one) {
					t.Errorf("%s: %+v outlives itself", what, one)
				}
			}
		}
		for other, two := range wrongItems() {
			if impl.Outlives(wrong, two) {
				t.Errorf("%s outlives %s", what, other)
			}
		}
	}
}

// datedWrongBooks are wrong as before; the things in them that were for ever are not, so that a list that is not refused tells names.
func datedWrongBooks() map[string][]impl.Item {
	books := wrongBooks()
	for what, b := range wrongBooks() {
		dated := looseBook(impl.Book{Items: b}).Items
		for place := range dated {
			if dated[place].Until == 0 {
				dated[place].Until = int64(3 + place%5)
			}
		}
		books[what+", dated"] = dated
	}
	for many := 21; many <= 26; many++ {
		books[fmt.Sprint(many, " by letters, dated")] = datedList(slices.Repeat([]int64{4}, many)...)
	}
	return books
}

func TestDueWrongBooks(t *testing.T) {
	for what, b := range datedWrongBooks() {
		if wantedBook(b) || impl.BookOk(b) {
			t.Fatalf("%s is a book", what)
		}
		for _, now := range momentsOf(b) {
			if got := impl.DueBy(b, now); len(got) != 0 {
				t.Fatalf("%s: DueBy at %d = %q", what, now, got)
			}
		}
		if got := impl.SoonestOf(b); got != 0 {
			t.Errorf("%s: SoonestOf = %d", what, got)
		}
		checkSoonest(t, b)
		checkDue(t, b, 1000000)
	}
}

// TestDueOneWrong: one wrong thing at each place in turn, where its Name still stands in the order wherever it is a name; all others are due.
func TestDueOneWrong(t *testing.T) {
	for _, many := range []int{1, 2, 5, 19, 20} {
		for place := range many {
			for what, wrong := range wrongItems() {
				b := datedList(slices.Repeat([]int64{6}, many)...)
				if impl.NameOk(wrong.Name) {
					wrong.Name = b[place].Name
				}
				b[place] = wrong
				if got := impl.DueBy(b, 6); len(got) != 0 || impl.SoonestOf(b) != 0 {
					t.Fatalf("%s at %d of %d: DueBy %q, SoonestOf %d", what, place, many, got, impl.SoonestOf(b))
				}
			}
		}
	}
}

// TestDueMisplaced: any two changed over, and any two of one Name.
func TestDueMisplaced(t *testing.T) {
	for _, many := range []int{2, 3, 7, 20} {
		for low := range many {
			for high := low + 1; high < many; high++ {
				over := datedList(slices.Repeat([]int64{6}, many)...)
				over[low], over[high] = over[high], over[low]
				twice := datedList(slices.Repeat([]int64{6}, many)...)
				twice[high].Name = twice[low].Name
				for _, b := range [][]impl.Item{over, twice} {
					if got := impl.DueBy(b, 6); len(got) != 0 || impl.SoonestOf(b) != 0 {
						t.Errorf("%d and %d of %d: DueBy %q, SoonestOf %d", low, high, many, got, impl.SoonestOf(b))
					}
				}
			}
		}
	}
}

// TestDueEmpty: an empty list and nil are the same.
func TestDueEmpty(t *testing.T) {
	for _, b := range [][]impl.Item{nil, {}, roomyBook(), bookOf(20)[:0], bookOf(8)[8:8], datedList(1, 2)[:0]} {
		for _, now := range momentsOf(nil) {
			if got := impl.DueBy(b, now); len(got) != 0 {
				t.Errorf("DueBy at %d = %q", now, got)
			}
		}
		if got := impl.SoonestOf(b); got != 0 {
			t.Errorf("SoonestOf = %d", got)
		}
		checkAge(t, b)
	}
	if impl.Outlives(impl.Item{}, impl.Item{}) || impl.Outlives(plainItem("a"), impl.Item{}) || impl.Outlives(impl.Item{}, plainItem("a")) {
		t.Error("the zero Item outlives, or is outlived")
	}
}

// TestDueRoomIsNotRead: what stands behind the list does not count, be it due or not.
func TestDueRoomIsNotRead(t *testing.T) {
	all := datedList(9, 8, 7, 6, 5, 4, 3, 2, 1)
	for from := range all {
		for to := from; to <= len(all); to++ {
			piece, bare := all[from:to], slices.Clip(slices.Clone(all[from:to]))
			if one, two := impl.SoonestOf(piece), impl.SoonestOf(bare); one != two {
				t.Errorf("%d to %d: SoonestOf %d, %d", from, to, one, two)
			}
			for now := int64(0); now <= 10; now++ {
				if one, two := impl.DueBy(piece, now), impl.DueBy(bare, now); !slices.Equal(one, two) {
					t.Errorf("%d to %d: DueBy at %d %q, %q", from, to, now, one, two)
				}
			}
			checkAge(t, piece)
		}
	}
}

// TestAgeNewMemory: the answer does not change where what was given, or another answer, is changed afterwards.
func TestAgeNewMemory(t *testing.T) {
	books := datedWrongBooks()
	for what, b := range storeKinds() {
		books["kind: "+what] = b.Items
	}
	for what, b := range books {
		for _, now := range []int64{0, 6, 500000, 1000000, -1, 1000001} {
			given := looseBook(impl.Book{Items: b}).Items
			due, other, soonest := impl.DueBy(given, now), impl.DueBy(given, now), impl.SoonestOf(given)
			before := slices.Clone(due)
			spoilNames(other)
			spoilBook(impl.Book{Items: given})
			if !slices.Equal(due, before) || soonest != impl.SoonestOf(b) {
				t.Fatalf("%s: DueBy at %d is %q, was %q; SoonestOf %d", what, now, due, before, soonest)
			}
			if again := impl.DueBy(b, now); !slices.Equal(again, before) {
				t.Fatalf("%s: DueBy at %d again is %q, was %q", what, now, again, before)
			}
		}
	}
}

// TestAgeTwice: nothing is kept from call to call.
func TestAgeTwice(t *testing.T) {
	b, others := datedList(9, 3, 0, 7, 3), datedWrongBooks()
	others["full"] = datedList(slices.Repeat([]int64{1}, 20)...)
	long, short := impl.Item{Name: "a", Cas: 1, Until: 9}, impl.Item{Name: "b", Cas: 1, Until: 8}
	for what, other := range others {
		impl.DueBy(other, 1000000)
		impl.SoonestOf(other)
		impl.Outlives(impl.Item{}, other[0])
		if got := strings.Join(impl.DueBy(b, 8), " "); got != "b e d" || impl.SoonestOf(b) != 3 || !impl.Outlives(long, short) || impl.Outlives(short, long) {
			t.Fatalf("behind %s: DueBy %q, SoonestOf %d", what, got, impl.SoonestOf(b))
		}
	}
}
