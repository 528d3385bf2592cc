package tests

import (
	"fmt"
	"math"
	"regexp"
	"slices"
	"strconv"
	"strings"
	"testing"

	"loop.example/g00401/impl"
)

// bookAt has room behind its Items.
func bookAt(next int64, list ...impl.Item) impl.Book {
	return impl.Book{Items: roomyBook(list...), Next: next}
}

// sameBook takes an empty list and nil for the same.
func sameBook(a, b impl.Book) bool { return a.Next == b.Next && slices.Equal(a.Items, b.Items) }

func copiedBook(b impl.Book) impl.Book {
	return impl.Book{Items: slices.Clone(b.Items), Next: b.Next}
}

// nowEdges are moments in range and out of it.
var nowEdges = []int64{0, 1, 2, 999999, 1000000, -1, 1000001, math.MinInt64, math.MaxInt64, 1 << 32, -1 << 32, 1<<32 + 1}

// shelf is a book in which things go by their Name alone, and stand in no order.
type shelf struct {
	things map[string]impl.Item
	next   int64
}

func shelfOf(b impl.Book) shelf {
	s := shelf{things: map[string]impl.Item{}, next: b.Next}
	for _, i := range b.Items {
		s.things[i.Name] = i
	}
	return s
}

func (s *shelf) book() impl.Book {
	b := impl.Book{Next: s.next}
	for _, i := range s.things {
		b.Items = append(b.Items, i)
	}
	slices.SortFunc(b.Items, func(a, b impl.Item) int { return strings.Compare(a.Name, b.Name) })
	return b
}

// stamp is whether i came to be there.
func (s *shelf) stamp(i impl.Item) bool {
	i.Cas = s.next
	_, there := s.things[i.Name]
	if !wantedItem(i) || !there && len(s.things) == 20 {
		return false
	}
	s.things[i.Name] = i
	if s.next++; s.next == 1000001 {
		s.next = 1
	}
	return true
}

func (s *shelf) stored(i impl.Item) impl.Reply {
	if s.stamp(i) {
		return impl.Reply{Kind: 1}
	}
	return impl.Reply{Kind: 2}
}

func wantedNow(now int64) bool { return now >= 0 && now <= 1000000 }

func wantedStore(b impl.Book) bool {
	return wantedBook(b.Items) && b.Next >= 1 && b.Next <= 1000000
}

func wantedAged(b impl.Book, now int64) (impl.Book, []string) {
	if !wantedStore(b) || !wantedNow(now) {
		return impl.Book{}, nil
	}
	s := shelfOf(b)
	var gone []string
	for name, i := range s.things {
		if wantedOver(i, now) {
			gone = append(gone, name)
		}
	}
	for _, name := range gone {
		delete(s.things, name)
	}
	slices.Sort(gone)
	return s.book(), gone
}

func wantedStamped(b impl.Book, i impl.Item) (impl.Book, bool) {
	if !wantedStore(b) {
		return impl.Book{}, false
	}
	s := shelfOf(b)
	ok := s.stamp(i)
	return s.book(), ok
}

// onNumber takes the words of the document one by one.
var onNumber = regexp.MustCompile(`\A` + numberPattern + `\z`)

// wantedNumber is what VbUp and VbDown make of the Bytes; -1 of what is no number.
func wantedNumber(c impl.Cmd, bytes string) int64 {
	if !onNumber.MatchString(bytes) {
		return -1
	}
	n, _ := strconv.ParseInt(bytes, 10, 64)
	if c.Verb == 9 {
		n += c.Delta
		for n >= 1000000000 {
			n -= 1000000000
		}
		return n
	}
	if c.Delta > n {
		return 0
	}
	return n - c.Delta
}

// wantedDid takes the words of the document one by one.
func wantedDid(b impl.Book, c impl.Cmd, now int64) (impl.Book, impl.Reply) {
	if !wantedStore(b) || !wantedNow(now) {
		return impl.Book{}, impl.Reply{Kind: 10}
	}
	if !wantedCmd(c) {
		return copiedBook(b), impl.Reply{Kind: 10}
	}
	aged, _ := wantedAged(b, now)
	s := shelfOf(aged)
	i, there := s.things[c.Name]
	r := s.told(c, i, there)
	return s.book(), r
}

func (s *shelf) told(c impl.Cmd, i impl.Item, there bool) impl.Reply {
	fresh := impl.Item{Name: c.Name, Flags: c.Flags, Bytes: c.Bytes, Until: c.Until}
	switch verb := verbLineOf(c.Verb).word; {
	case verb == "clear":
		s.things = nil
		return impl.Reply{Kind: 9}
	case verb == "set" || verb == "add" && !there || verb == "replace" && there:
		return s.stored(fresh)
	case verb == "add" || verb == "replace" || verb == "tail" && !there || verb == "head" && !there:
		return impl.Reply{Kind: 2}
	case !there:
		return impl.Reply{Kind: 4}
	case verb == "get":
		return impl.Reply{Kind: 5, Name: i.Name, Flags: i.Flags, Bytes: i.Bytes}
	case verb == "gets":
		return impl.Reply{Kind: 5, Name: i.Name, Flags: i.Flags, Bytes: i.Bytes, Cas: i.Cas}
	case (verb == "tail" || verb == "head") && len(i.Bytes)+len(c.Bytes) > 64:
		return impl.Reply{Kind: 12}
	case verb == "tail":
		i.Bytes += c.Bytes
		return s.stored(i)
	case verb == "head":
		i.Bytes = c.Bytes + i.Bytes
		return s.stored(i)
	case verb == "cas" && i.Cas != c.Cas:
		return impl.Reply{Kind: 3}
	case verb == "cas":
		return s.stored(fresh)
	case verb == "up" || verb == "down":
		n := wantedNumber(c, i.Bytes)
		if n == -1 {
			return impl.Reply{Kind: 11}
		}
		i.Bytes = strconv.FormatInt(n, 10)
		s.stamp(i)
		return impl.Reply{Kind: 6, Number: n}
	case verb == "touch":
		i.Until = c.Until
		s.things[i.Name] = i
		return impl.Reply{Kind: 7}
	}
	delete(s.things, c.Name)
	return impl.Reply{Kind: 8}
}

// keptBook stands by while b is handed out: it fails where b, or the room behind it, is not as it was.
func keptBook(t *testing.T, b impl.Book) func(call string) {
	t.Helper()
	before, next := wholeBook(b.Items), b.Next
	return func(call string) {
		t.Helper()
		if !slices.Equal(wholeBook(b.Items), before) || b.Next != next {
			t.Fatalf("%s: the book %+v was %+v", call, wholeBook(b.Items), before)
		}
	}
}

// spoilBook writes all over an answer, so that what lies in the same memory is seen to change.
func spoilBook(b impl.Book) {
	for i := range b.Items[:cap(b.Items)] {
		b.Items[:cap(b.Items)][i] = spareItem
	}
}

func checkStore(t *testing.T, b impl.Book) {
	t.Helper()
	stays := keptBook(t, b)
	if got, want := impl.StoreOk(b), wantedStore(b); got != want {
		t.Fatalf("StoreOk(%+v) = %v", b, got)
	}
	stays("StoreOk")
}

func checkAged(t *testing.T, b impl.Book, now int64) {
	t.Helper()
	stays := keptBook(t, b)
	got, gone := impl.Aged(b, now)
	if want, names := wantedAged(b, now); !sameBook(got, want) || !slices.Equal(gone, names) {
		t.Fatalf("Aged(%+v, %d) = %+v, %q, want %+v, %q", b, now, got, gone, want, names)
	}
	spoilBook(got)
	for i := range gone {
		gone[i] = spareName
	}
	stays("Aged")
}

func checkStamped(t *testing.T, b impl.Book, i impl.Item) {
	t.Helper()
	stays := keptBook(t, b)
	got, ok := impl.Stamped(b, i)
	if want, is := wantedStamped(b, i); !sameBook(got, want) || ok != is {
		t.Fatalf("Stamped(%+v, %+v) = %+v, %v, want %+v, %v", b, i, got, ok, want, is)
	}
	spoilBook(got)
	stays("Stamped")
}

func checkDid(t *testing.T, b impl.Book, c impl.Cmd, now int64) {
	t.Helper()
	stays := keptBook(t, b)
	got, r := impl.DidBook(b, c, now)
	if want, told := wantedDid(b, c, now); !sameBook(got, want) || r != told {
		t.Fatalf("DidBook(%+v, %+v, %d) = %+v, %+v, want %+v, %+v", b, c, now, got, r, want, told)
	}
	if !impl.ReplyOk(r) {
		t.Fatalf("DidBook(%+v, %+v, %d) tells %+v, which is no reply", b, c, now, r)
	}
	spoilBook(got)
	stays("DidBook")
}

// expectDid names the answer itself, and asks the rest likewise.
func expectDid(t *testing.T, what string, b impl.Book, c impl.Cmd, now int64, want impl.Book, told impl.Reply) {
	t.Helper()
	if got, r := impl.DidBook(b, c, now); !sameBook(got, want) || r != told {
		t.Errorf("%s: DidBook(%+v, %+v, %d) = %+v, %+v, want %+v, %+v", what, b, c, now, got, r, want, told)
	}
	checkDid(t, b, c, now)
}

// askStored holds a right book and a right command against promise 13.
func askStored(t *testing.T, b impl.Book, c impl.Cmd, now int64) {
	t.Helper()
	after, r := impl.DidBook(b, c, now)
	if !impl.StoreOk(after) {
		t.Fatalf("DidBook(%+v, %+v, %d) = %+v, which is not StoreOk", b, c, now, after)
	}
	if c.Verb != impl.VbClear {
		askOthers(t, b, after, c, now)
	}
	if r.Kind != impl.RpStored && r.Kind != impl.RpNumber {
		if after.Next != b.Next {
			t.Fatalf("DidBook(%+v, %+v, %d) tells %+v, and Next is %d", b, c, now, r, after.Next)
		}
		return
	}
	i := storedThing(b, c, r)
	if place := impl.FindItem(after.Items, c.Name); place == -1 || after.Items[place] != i {
		t.Fatalf("DidBook(%+v, %+v, %d) = %+v, where %+v was stored", b, c, now, after, i)
	}
	if i.Until == 0 || i.Until > now {
		askTold(t, after, i, now)
	}
}

// askOthers: whoever goes by another Name and is not over stays as it was, and nobody comes.
func askOthers(t *testing.T, b, after impl.Book, c impl.Cmd, now int64) {
	t.Helper()
	for _, i := range b.Items {
		place := impl.FindItem(after.Items, i.Name)
		switch {
		case i.Name == c.Name:
		case i.Until != 0 && i.Until <= now:
			if place != -1 {
				t.Fatalf("DidBook(%+v, %+v, %d): %+v is over, and there", b, c, now, i)
			}
		case place == -1 || after.Items[place] != i:
			t.Fatalf("DidBook(%+v, %+v, %d) = %+v: %+v did not stay", b, c, now, after, i)
		}
	}
	for _, i := range after.Items {
		if i.Name != c.Name && impl.FindItem(b.Items, i.Name) == -1 {
			t.Fatalf("DidBook(%+v, %+v, %d) = %+v: where does %+v come from", b, c, now, after, i)
		}
	}
}

// storedThing is the thing that c stored, where it told r.
func storedThing(b impl.Book, c impl.Cmd, r impl.Reply) impl.Item {
	old := shelfOf(b).things[c.Name]
	old.Cas = b.Next
	switch c.Verb {
	case impl.VbTail:
		old.Bytes += c.Bytes
	case impl.VbHead:
		old.Bytes = c.Bytes + old.Bytes
	case impl.VbUp, impl.VbDown:
		old.Bytes = strconv.FormatInt(r.Number, 10)
	default:
		return impl.Item{Name: c.Name, Flags: c.Flags, Bytes: c.Bytes, Cas: b.Next, Until: c.Until}
	}
	return old
}

// askTold: i is told just as it was stored; a VbCas by its Cas stores once.
func askTold(t *testing.T, b impl.Book, i impl.Item, now int64) {
	t.Helper()
	for verb, cas := range map[int64]int64{impl.VbGet: 0, impl.VbGets: i.Cas} {
		same, r := impl.DidBook(b, impl.Cmd{Verb: verb, Name: i.Name}, now)
		if want := (impl.Reply{Kind: impl.RpValue, Name: i.Name, Flags: i.Flags, Bytes: i.Bytes, Cas: cas}); r != want || same.Next != b.Next {
			t.Fatalf("verb %d of %+v at %d: %+v, want %+v", verb, b, now, r, want)
		}
	}
	c := impl.Cmd{Verb: impl.VbCas, Name: i.Name, Flags: 9, Bytes: "once", Cas: i.Cas}
	for _, near := range []int64{i.Cas - 1, i.Cas + 1} {
		other := c
		if other.Cas = near; near >= 1 && near <= 1000000 {
			if _, r := impl.DidBook(b, other, now); r != (impl.Reply{Kind: impl.RpExists}) {
				t.Fatalf("%+v of %+v at %d: %+v", other, b, now, r)
			}
		}
	}
	once, r := impl.DidBook(b, c, now)
	if r != (impl.Reply{Kind: impl.RpStored}) {
		t.Fatalf("%+v of %+v at %d: %+v", c, b, now, r)
	}
	twice, r := impl.DidBook(once, c, now)
	if r != (impl.Reply{Kind: impl.RpExists}) || !sameBook(once, twice) {
		t.Fatalf("%+v of %+v at %d, a second time: %+v", c, b, now, r)
	}
	_, r = impl.DidBook(twice, impl.Cmd{Verb: impl.VbGets, Name: i.Name}, now)
	if want := (impl.Reply{Kind: impl.RpValue, Name: i.Name, Flags: 9, Bytes: "once", Cas: b.Next}); r != want {
		t.Fatalf("behind %+v of %+v at %d: %+v, want %+v", c, b, now, r, want)
	}
}

// numberBytes are what VbUp and VbDown may meet.
var numberBytes = []string{"0", "1", "9", "10", "999999", "1000000", "999000000", "999999998", "999999999", "1000000000", "x", "", "01", "-1", strings.Repeat("9", 64)}

// mixedBook has numbers and others among its Bytes, and things that are over at some time and others that never are.
func mixedBook(many int, next int64) impl.Book {
	list := slices.Clone(bookOf(many))
	for place := range list {
		if place%3 != 2 {
			list[place].Bytes = numberBytes[place%len(numberBytes)]
		}
		if place%2 == 0 {
			list[place].Until = 0
		}
	}
	return bookAt(next, list...)
}

// storeKinds are right books of all kinds.
func storeKinds() map[string]impl.Book {
	kinds := map[string]impl.Book{"new": impl.NewBook()}
	for _, next := range []int64{1, 2, 500000, 999999, 1000000} {
		for what, list := range givenBooks() {
			kinds[fmt.Sprint(what, ", Next ", next)] = impl.Book{Items: list, Next: next}
		}
		for _, many := range []int{1, 2, 7, 19, 20} {
			kinds[fmt.Sprint(many, " mixed, Next ", next)] = mixedBook(many, next)
		}
	}
	return kinds
}

// namedCmds are right ones of every Verb by this name.
func namedCmds(name string, cas int64) []impl.Cmd {
	var list []impl.Cmd
	for _, c := range []impl.Cmd{
		{Name: name, Cas: cas},
		{Name: name, Flags: 65535, Until: 1, Bytes: "7", Cas: cas, Delta: 1},
		{Name: name, Flags: 3, Until: 1000000, Bytes: strings.Repeat("\n", 64), Cas: min(cas+1, 1000000), Delta: 1000000, Quiet: true},
	} {
		for _, v := range verbLines {
			list = append(list, shaped(v, c))
		}
	}
	return list
}

func TestPromise13(t *testing.T) {
	for what, b := range storeKinds() {
		if !impl.StoreOk(b) {
			t.Fatalf("%s is not StoreOk", what)
		}
		names := []string{"-0", "m", "zz", "a"}
		for place, i := range b.Items {
			if place == 0 || place == len(b.Items)/2 || place == len(b.Items)-1 {
				names = append(names, i.Name)
			}
		}
		for _, name := range names {
			cas := max(shelfOf(b).things[name].Cas, 1)
			for _, c := range namedCmds(name, cas) {
				for _, now := range []int64{0, 1, 500000, 1000000} {
					askStored(t, b, c, now)
					checkDid(t, b, c, now)
				}
			}
		}
	}
}

// TestPromise13Edges: every right command of the edges, at a few books.
func TestPromise13Edges(t *testing.T) {
	books := []impl.Book{
		impl.NewBook(), bookAt(1000000, impl.Item{Name: "a", Bytes: "999999999", Cas: 1}), bookAt(999999, impl.Item{Name: "a", Bytes: "12", Cas: 1000000, Until: 9}, impl.Item{Name: "abcdefghijkl", Flags: 4, Bytes: "0", Cas: 1}),
		mixedBook(20, 1), bookAt(7, impl.Item{Name: "abcdefghijkl", Bytes: strings.Repeat("y", 64), Cas: 1000000, Until: 1000000}, impl.Item{Name: "quiet", Cas: 1, Until: 1}),
	}
	for _, b := range books {
		for _, c := range edgeCmds() {
			for _, now := range []int64{0, 1, 8, 9, 1000000} {
				askStored(t, b, c, now)
				checkDid(t, b, c, now)
			}
		}
	}
}

// TestPromise13Runs: long runs of commands by few names, with what the program itself answered, while time goes on.
func TestPromise13Runs(t *testing.T) {
	roll := rolls(13)
	for run := range 60 {
		b := impl.NewBook()
		if run%3 == 1 {
			b.Next = 1000000 - roll(30)
		}
		names := sortedNames(4 + int(roll(21)))
		var now int64
		for range 150 {
			c := rolledDeed(roll, b, names, now)
			askStored(t, b, c, now)
			checkDid(t, b, c, now)
			b, _ = impl.DidBook(b, c, now)
			if now += roll(3) * roll(2); roll(40) == 0 {
				now = min(now+roll(200), 1000000)
			}
		}
	}
}

// rolledDeed is right, and mostly meets something: names that are there, their Cas, numbers, an Until that is near.
func rolledDeed(roll func(int) int64, b impl.Book, names []string, now int64) impl.Cmd {
	c := rolledCmd(roll)
	c.Verb = 1 + roll(12)
	if roll(60) == 0 {
		c.Verb = impl.VbClear
	}
	c.Name = names[roll(len(names))]
	c.Cas = max(shelfOf(b).things[c.Name].Cas-roll(2), 1)
	c.Flags = roll(65536)
	c.Delta = []int64{0, 1, 7, 999999, 1000000}[roll(5)]
	c.Until = roll(2) * min(now+roll(40)-3, 1000000)
	c.Until = max(c.Until, 0)
	c.Bytes = numberBytes[roll(len(numberBytes))]
	if roll(3) == 0 {
		c.Bytes = rolledBytes(roll, int(roll(65)))
	}
	return shaped(verbLineOf(c.Verb), c)
}

// TestEveryRun: each run of few commands by two names, whatever comes behind what.
func TestEveryRun(t *testing.T) {
	var steps []impl.Cmd
	for _, v := range verbLines {
		for _, c := range []impl.Cmd{{Name: "a", Bytes: "9", Cas: 1, Delta: 4}, {Name: "b", Bytes: "x", Cas: 2, Delta: 1, Until: 2, Flags: 5}} {
			steps = append(steps, shaped(v, c))
		}
	}
	var walk func(b impl.Book, now int64, left int)
	walk = func(b impl.Book, now int64, left int) {
		if left == 0 {
			return
		}
		for _, c := range steps {
			checkDid(t, b, c, now)
			askStored(t, b, c, now)
			after, _ := impl.DidBook(b, c, now)
			walk(after, now+1, left-1)
		}
	}
	walk(impl.NewBook(), 0, 3)
	walk(bookAt(1000000, plainItem("a")), 1, 2)
	walk(bookAt(2, impl.Item{Name: "a", Bytes: "5", Cas: 2, Until: 2}, impl.Item{Name: "b", Bytes: "6", Cas: 1, Until: 3}), 1, 2)
}

func TestStoreOk(t *testing.T) {
	for _, list := range givenBooks() {
		for _, next := range append([]int64{-1, 0, 1, 2, 999999, 1000000, 1000001}, wholeNumbers...) {
			b := impl.Book{Items: list, Next: next}
			if got, want := impl.StoreOk(b), next >= 1 && next <= 1000000; got != want {
				t.Errorf("StoreOk(%+v) = %v", b, got)
			}
			checkStore(t, b)
		}
	}
	for what, list := range wrongBooks() {
		for _, next := range []int64{0, 1, 1000000, 1000001} {
			if b := (impl.Book{Items: list, Next: next}); impl.StoreOk(b) {
				t.Errorf("%s, Next %d: StoreOk", what, next)
			}
		}
	}
	if impl.StoreOk(impl.Book{}) {
		t.Error("the zero Book is StoreOk")
	}
	if !impl.StoreOk(bookAt(5, impl.Item{Name: "a", Cas: 5}, impl.Item{Name: "b", Cas: 9}, impl.Item{Name: "c", Cas: 9})) {
		t.Error("Next is held against the Cas of the Items")
	}
}

func TestNewBook(t *testing.T) {
	one := impl.NewBook()
	if len(one.Items) != 0 || one.Next != 1 || !impl.StoreOk(one) {
		t.Errorf("NewBook() = %+v", one)
	}
	one.Items = append(one.Items, spareItem)
	one.Next = spare
	if two := impl.NewBook(); len(two.Items) != 0 || two.Next != 1 {
		t.Errorf("NewBook() a second time = %+v", two)
	}
}

// untilBook has one thing an Until, named by letters from a on.
func untilBook(next int64, untils ...int64) impl.Book {
	var list []impl.Item
	for place, until := range untils {
		list = append(list, impl.Item{Name: string(rune('a' + place)), Flags: int64(place), Bytes: strings.Repeat("b", place), Cas: int64(9 + place), Until: until})
	}
	return bookAt(next, list...)
}

func TestAged(t *testing.T) {
	for _, c := range []struct {
		what   string
		untils []int64
		now    int64
		gone   string
	}{
		{"nothing there", nil, 5, ""},
		{"all for ever", []int64{0, 0, 0}, 1000000, ""},
		{"none yet", []int64{6, 7, 1000000}, 5, ""},
		{"one before", []int64{5}, 4, ""},
		{"one at it", []int64{5}, 5, "a"},
		{"one behind", []int64{5}, 6, "a"},
		{"for ever, at 0", []int64{0}, 0, ""},
		{"1, at 0", []int64{1}, 0, ""},
		{"1, at 1", []int64{1}, 1, "a"},
		{"MaxTime, one before", []int64{1000000}, 999999, ""},
		{"MaxTime, at it", []int64{1000000}, 1000000, "a"},
		{"all over", []int64{3, 2, 1}, 5, "a b c"},
		{"some over", []int64{9, 1, 0, 5, 6}, 5, "b d"},
		{"the ends over", []int64{1, 9, 1}, 5, "a c"},
		{"the middle over", []int64{0, 5, 0}, 5, "b"},
		{"the soonest one last", []int64{4, 3, 2, 1, 9}, 4, "a b c d"},
	} {
		b := untilBook(77, c.untils...)
		got, gone := impl.Aged(b, c.now)
		if strings.Join(gone, " ") != c.gone || got.Next != 77 || len(got.Items)+len(gone) != len(b.Items) {
			t.Errorf("%s: Aged = %+v, %q, want %q", c.what, got, gone, c.gone)
		}
		for _, i := range got.Items {
			if slices.Contains(gone, i.Name) || !slices.Contains(b.Items, i) {
				t.Errorf("%s: Aged = %+v, %q", c.what, got, gone)
			}
		}
		checkAged(t, b, c.now)
	}
}

// TestAgedAll: books of all kinds at all kinds of moments, in range and out of it.
func TestAgedAll(t *testing.T) {
	for what, b := range storeKinds() {
		moments := slices.Concat(nowEdges, wholeNumbers)
		for _, i := range b.Items {
			moments = append(moments, i.Until-1, i.Until, i.Until+1)
		}
		for _, now := range moments {
			checkAged(t, b, now)
			got, gone := impl.Aged(b, now)
			if now < 0 || now > 1000000 {
				if !sameBook(got, impl.Book{}) || len(gone) != 0 {
					t.Errorf("%s: Aged at %d = %+v, %q", what, now, got, gone)
				}
				continue
			}
			if !impl.StoreOk(got) || !slices.IsSorted(gone) {
				t.Errorf("%s: Aged at %d = %+v, %q", what, now, got, gone)
			}
			if again, none := impl.Aged(got, now); !sameBook(again, got) || len(none) != 0 {
				t.Errorf("%s: Aged twice at %d = %+v, %q", what, now, again, none)
			}
		}
	}
}

func TestStamped(t *testing.T) {
	b, d, f := impl.Item{Name: "b", Flags: 1, Bytes: "B", Cas: 4, Until: 5}, impl.Item{Name: "d", Flags: 2, Bytes: "D", Cas: 5}, impl.Item{Name: "f", Cas: 3}
	for _, name := range []string{"a", "b", "c", "d", "e", "f", "g", "bb", "-", "0", "zzzzzzzzzzzz"} {
		i := impl.Item{Name: name, Flags: 9, Bytes: "new", Cas: 123, Until: 10}
		given := bookAt(6, b, d, f)
		got, ok := impl.Stamped(given, i)
		i.Cas = 6
		want := []impl.Item{i}
		for _, old := range []impl.Item{b, d, f} {
			if old.Name != name {
				want = append(want, old)
			}
		}
		slices.SortFunc(want, func(a, b impl.Item) int { return strings.Compare(a.Name, b.Name) })
		if !ok || got.Next != 7 || !slices.Equal(got.Items, want) {
			t.Errorf("Stamped by %q = %+v, %v, want %+v", name, got, ok, want)
		}
		checkStamped(t, given, i)
	}
}

func TestStampedNext(t *testing.T) {
	for next, behind := range map[int64]int64{1: 2, 2: 3, 65535: 65536, 999998: 999999, 999999: 1000000, 1000000: 1} {
		for _, name := range []string{"a", "b", "c"} {
			b := bookAt(next, impl.Item{Name: "b", Cas: 1})
			got, ok := impl.Stamped(b, impl.Item{Name: name})
			if place := impl.FindItem(got.Items, name); !ok || got.Next != behind || place == -1 || got.Items[place] != (impl.Item{Name: name, Cas: next}) {
				t.Errorf("Stamped by %q, Next %d = %+v, %v", name, next, got, ok)
			}
			checkStamped(t, b, impl.Item{Name: name})
		}
	}
	b := bookAt(999999)
	var all []int64
	for place, name := range []string{"a", "b", "c", "d"} {
		b, _ = impl.Stamped(b, impl.Item{Name: name})
		all = append(all, b.Items[place].Cas)
	}
	if !slices.Equal(all, []int64{999999, 1000000, 1, 2}) || b.Next != 3 {
		t.Errorf("four stamps from 999999 on: %d, Next %d", all, b.Next)
	}
}

// TestStampedCas: what the Item has for a Cas does not count.
func TestStampedCas(t *testing.T) {
	for _, cas := range append([]int64{0, 1, 7, 8, -1, 1000000, 1000001}, wholeNumbers...) {
		for _, name := range []string{"a", "b"} {
			given := bookAt(7, impl.Item{Name: "a", Bytes: "old", Cas: 3})
			got, ok := impl.Stamped(given, impl.Item{Name: name, Bytes: "new", Cas: cas})
			if place := impl.FindItem(got.Items, name); !ok || got.Next != 8 || place == -1 || got.Items[place] != (impl.Item{Name: name, Bytes: "new", Cas: 7}) {
				t.Errorf("Stamped of Cas %d = %+v, %v", cas, got, ok)
			}
			checkStamped(t, given, impl.Item{Name: name, Bytes: "new", Cas: cas})
		}
	}
}

// badThings are not right, whatever their Cas.
func badThings() map[string]impl.Item {
	bad := wrongItems()
	for what := range bad {
		if strings.HasPrefix(what, "Cas ") {
			delete(bad, what)
		}
	}
	for _, name := range oddNames() {
		if !wantedName(name) {
			bad[fmt.Sprintf("the name %q", name)] = impl.Item{Name: name, Cas: 1}
		}
	}
	return bad
}

// TestStampedBad: an Item that is not right changes nothing, also where one with its Name is there.
func TestStampedBad(t *testing.T) {
	for what, i := range badThings() {
		for _, b := range []impl.Book{impl.NewBook(), bookAt(5, plainItem("a")), bookAt(1000000, plainItem("a"), plainItem("zz")), mixedBook(19, 1), mixedBook(20, 9)} {
			for _, cas := range []int64{i.Cas, 1, 0, 5} {
				i.Cas = cas
				if got, ok := impl.Stamped(b, i); ok || !sameBook(got, b) {
					t.Errorf("%s: Stamped(%+v) = %+v, %v", what, b, got, ok)
				}
				checkStamped(t, b, i)
			}
		}
	}
}

// TestStampedFields: each field at its ends, one below and one above.
func TestStampedFields(t *testing.T) {
	for _, n := range append([]int64{-1, 0, 65535, 65536, 1000000, 1000001}, wholeNumbers...) {
		for _, i := range []impl.Item{{Name: "a", Flags: n}, {Name: "a", Until: n}, {Name: "a", Cas: n}, {Name: "b", Flags: n, Cas: n, Until: n}} {
			checkStamped(t, bookAt(3, plainItem("a")), i)
			checkStamped(t, impl.NewBook(), i)
		}
	}
	for size := range 70 {
		checkStamped(t, bookAt(3, plainItem("a")), impl.Item{Name: "a", Bytes: strings.Repeat("x", size)})
		checkStamped(t, bookAt(3, plainItem("a")), impl.Item{Name: strings.Repeat("n", size)})
	}
}

// TestStampedRoom: 0, 1, one less than MaxNames and MaxNames things, with a Name that is there and one that is new at each place.
func TestStampedRoom(t *testing.T) {
	for _, many := range []int{0, 1, 2, 18, 19, 20} {
		var list []impl.Item
		for place := range many {
			list = append(list, unevenItem(string(rune('b'+place)), place))
		}
		b := bookAt(5, list...)
		for place := range many {
			name := list[place].Name
			got, ok := impl.Stamped(b, impl.Item{Name: name})
			if !ok || len(got.Items) != many || got.Next != 6 || got.Items[place] != (impl.Item{Name: name, Cas: 5}) {
				t.Errorf("%d things, %q at %d: %+v, %v", many, name, place, got, ok)
			}
			checkStamped(t, b, impl.Item{Name: name})
		}
		for place := range many + 1 {
			name := string(rune('a'+place)) + "z"
			got, ok := impl.Stamped(b, impl.Item{Name: name})
			if ok != (many < 20) {
				t.Errorf("%d things, %q: %+v, %v", many, name, got, ok)
			}
			if ok && (len(got.Items) != many+1 || got.Items[place] != (impl.Item{Name: name, Cas: 5})) {
				t.Errorf("%d things, %q ahead of %d: %+v", many, name, place, got)
			}
			if !ok && !sameBook(got, b) {
				t.Errorf("%d things, %q: %+v was %+v", many, name, got, b)
			}
			checkStamped(t, b, impl.Item{Name: name})
		}
	}
}

// TestEachVerb: each Verb where the Name is there, is not there, and is there but over.
func TestEachVerb(t *testing.T) {
	a, z := impl.Item{Name: "a", Flags: 1, Bytes: "A", Cas: 2}, impl.Item{Name: "z", Flags: 3, Bytes: "Z", Cas: 4}
	m := impl.Item{Name: "m", Flags: 5, Bytes: "60", Cas: 6, Until: 10}
	fresh := impl.Item{Name: "m", Flags: 7, Bytes: "8", Cas: 50, Until: 99}
	changed := func(bytes string) *impl.Item {
		i := m
		i.Bytes, i.Cas = bytes, 50
		return &i
	}
	touched := m
	touched.Until = 99
	for _, c := range []struct {
		verb          int64
		there         *impl.Item
		toldThere     impl.Reply
		none          *impl.Item
		toldNone      int64
		stamps, makes bool
	}{
		{impl.VbGet, &m, impl.Reply{Kind: impl.RpValue, Name: "m", Flags: 5, Bytes: "60"}, nil, impl.RpMissing, false, false},
		{impl.VbGets, &m, impl.Reply{Kind: impl.RpValue, Name: "m", Flags: 5, Bytes: "60", Cas: 6}, nil, impl.RpMissing, false, false},
		{impl.VbSet, &fresh, impl.Reply{Kind: impl.RpStored}, &fresh, impl.RpStored, true, true},
		{impl.VbAdd, &m, impl.Reply{Kind: impl.RpNot}, &fresh, impl.RpStored, false, true},
		{impl.VbReplace, &fresh, impl.Reply{Kind: impl.RpStored}, nil, impl.RpNot, true, false},
		{impl.VbTail, changed("608"), impl.Reply{Kind: impl.RpStored}, nil, impl.RpNot, true, false},
		{impl.VbHead, changed("860"), impl.Reply{Kind: impl.RpStored}, nil, impl.RpNot, true, false},
		{impl.VbCas, &fresh, impl.Reply{Kind: impl.RpStored}, nil, impl.RpMissing, true, false},
		{impl.VbUp, changed("62"), impl.Reply{Kind: impl.RpNumber, Number: 62}, nil, impl.RpMissing, true, false},
		{impl.VbDown, changed("58"), impl.Reply{Kind: impl.RpNumber, Number: 58}, nil, impl.RpMissing, true, false},
		{impl.VbTouch, &touched, impl.Reply{Kind: impl.RpTouched}, nil, impl.RpMissing, false, false},
		{impl.VbCut, nil, impl.Reply{Kind: impl.RpCut}, nil, impl.RpMissing, false, false},
	} {
		between := func(i *impl.Item, stamps bool) impl.Book {
			next := int64(50)
			if stamps {
				next = 51
			}
			if i == nil {
				return bookAt(next, a, z)
			}
			return bookAt(next, a, *i, z)
		}
		for _, quiet := range []bool{false, true} {
			cmd := shaped(verbLineOf(c.verb), impl.Cmd{Name: "m", Flags: 7, Until: 99, Bytes: "8", Cas: 6, Delta: 2, Quiet: quiet})
			there, none := bookAt(50, a, m, z), bookAt(50, a, z)
			expectDid(t, "there", there, cmd, 9, between(c.there, c.stamps), c.toldThere)
			expectDid(t, "not there", none, cmd, 9, between(c.none, c.makes), impl.Reply{Kind: c.toldNone})
			expectDid(t, "over", there, cmd, 10, between(c.none, c.makes), impl.Reply{Kind: c.toldNone})
			expectDid(t, "long over", there, cmd, 1000000, between(c.none, c.makes), impl.Reply{Kind: c.toldNone})
		}
	}
}

// TestClear: none is left, and Next stays.
func TestClear(t *testing.T) {
	for what, b := range storeKinds() {
		for _, quiet := range []bool{false, true} {
			for _, now := range []int64{0, 5, 1000000} {
				expectDid(t, what, b, impl.Cmd{Verb: impl.VbClear, Quiet: quiet}, now, impl.Book{Next: b.Next}, impl.Reply{Kind: impl.RpCleared})
			}
		}
	}
}

// TestAgedAhead: what is over goes whatever is asked, also where the answer is no.
func TestAgedAhead(t *testing.T) {
	left := impl.Item{Name: "m", Bytes: "x", Cas: 3}
	b := bookAt(9, impl.Item{Name: "a", Cas: 1, Until: 4}, left, impl.Item{Name: "z", Cas: 2, Until: 5})
	for kind, c := range map[int64]impl.Cmd{
		impl.RpMissing: {Verb: impl.VbGet, Name: "nobody"},
		impl.RpNot:     {Verb: impl.VbAdd, Name: "m"},
		impl.RpExists:  {Verb: impl.VbCas, Name: "m", Cas: 1},
		impl.RpBad:     {Verb: impl.VbUp, Name: "m"},
		impl.RpBig:     {Verb: impl.VbHead, Name: "m", Bytes: strings.Repeat("y", 64)},
	} {
		expectDid(t, "all are over but one", b, c, 5, bookAt(9, left), impl.Reply{Kind: kind})
	}
	for _, verb := range []int64{impl.VbGet, impl.VbGets, impl.VbTouch, impl.VbCut} {
		c := impl.Cmd{Verb: verb, Name: "z"}
		expectDid(t, "over itself", b, c, 5, bookAt(9, left), impl.Reply{Kind: impl.RpMissing})
	}
	expectDid(t, "over, and stored anew", b, impl.Cmd{Verb: impl.VbAdd, Name: "z", Bytes: "new", Until: 7}, 5,
		bookAt(10, left, impl.Item{Name: "z", Bytes: "new", Cas: 9, Until: 7}), impl.Reply{Kind: impl.RpStored})
}

// TestFullBooks: where MaxNames things are there, a new one is told no, unless one of the others is over.
func TestFullBooks(t *testing.T) {
	for _, many := range []int{0, 1, 19, 20} {
		var list []impl.Item
		for place := range many {
			list = append(list, impl.Item{Name: string(rune('b' + place)), Bytes: "5", Cas: 7})
		}
		b := bookAt(3, list...)
		for _, name := range []string{"a", "bb", "kk", "zz"} {
			for _, verb := range []int64{impl.VbSet, impl.VbAdd} {
				i := impl.Item{Name: name, Flags: 1, Bytes: "6", Cas: 3, Until: 90}
				c := impl.Cmd{Verb: verb, Name: name, Flags: 1, Bytes: "6", Until: 90}
				s := shelfOf(b)
				if many == 20 {
					expectDid(t, "full", b, c, 5, b, impl.Reply{Kind: impl.RpNot})
					continue
				}
				s.things[name], s.next = i, 4
				expectDid(t, "room", b, c, 5, s.book(), impl.Reply{Kind: impl.RpStored})
			}
		}
		for _, i := range list {
			for _, c := range namedCmds(i.Name, 7) {
				checkDid(t, b, c, 5)
				askStored(t, b, c, 5)
			}
			expectDid(t, "there", b, impl.Cmd{Verb: impl.VbAdd, Name: i.Name}, 5, b, impl.Reply{Kind: impl.RpNot})
		}
	}
	full := bookAt(3, slices.Clone(bookOf(20))...)
	for place := range full.Items {
		full.Items[place].Until = 0
	}
	full.Items[4].Until = 8
	c := impl.Cmd{Verb: impl.VbSet, Name: "zz"}
	expectDid(t, "full", full, c, 7, full, impl.Reply{Kind: impl.RpNot})
	s := shelfOf(full)
	delete(s.things, full.Items[4].Name)
	s.stamp(impl.Item{Name: "zz"})
	expectDid(t, "one is over", full, c, 8, s.book(), impl.Reply{Kind: impl.RpStored})
}

// TestDidNext: the Cas goes round, by whichever Verb it is given.
func TestDidNext(t *testing.T) {
	for next, behind := range map[int64]int64{1: 2, 999998: 999999, 999999: 1000000, 1000000: 1} {
		b := bookAt(next, impl.Item{Name: "a", Bytes: "4", Cas: 44})
		for _, v := range verbLines {
			c := shaped(v, impl.Cmd{Name: "a", Bytes: "4", Cas: 44})
			after, r := impl.DidBook(b, c, 0)
			stamped := r.Kind == impl.RpStored || r.Kind == impl.RpNumber
			if stamped != strings.Contains("set replace tail head cas up down", v.word) {
				t.Errorf("%s: %+v", v.word, r)
			}
			if stamped && (after.Next != behind || after.Items[0].Cas != next) || !stamped && after.Next != next {
				t.Errorf("%s at Next %d: %+v", v.word, next, after)
			}
			checkDid(t, b, c, 0)
		}
	}
}

// TestBytesTogether: VbTail and VbHead up to MaxBytes, and where either is empty.
func TestBytesTogether(t *testing.T) {
	for _, old := range []int{0, 1, 2, 31, 32, 62, 63, 64} {
		for _, more := range []int{0, 1, 2, 31, 32, 33, 61, 62, 63, 64} {
			i := impl.Item{Name: "a", Flags: 6, Bytes: strings.Repeat("o", old), Cas: 5, Until: 70}
			bytes := strings.Repeat("m", more)
			b := bookAt(8, i, plainItem("b"))
			for verb, together := range map[int64]string{impl.VbTail: i.Bytes + bytes, impl.VbHead: bytes + i.Bytes} {
				want, kind := bookAt(9, impl.Item{Name: "a", Flags: 6, Bytes: together, Cas: 8, Until: 70}, plainItem("b")), int64(impl.RpStored)
				if old+more > 64 {
					want, kind = b, impl.RpBig
				}
				expectDid(t, fmt.Sprint(old, " and ", more), b, impl.Cmd{Verb: verb, Name: "a", Bytes: bytes}, 69, want, impl.Reply{Kind: kind})
				expectDid(t, "nobody", b, impl.Cmd{Verb: verb, Name: "c", Bytes: bytes}, 69, b, impl.Reply{Kind: impl.RpNot})
				expectDid(t, "over", b, impl.Cmd{Verb: verb, Name: "a", Bytes: bytes}, 70, bookAt(8, plainItem("b")), impl.Reply{Kind: impl.RpNot})
			}
		}
	}
	tail, _ := impl.DidBook(bookAt(1, impl.Item{Name: "a", Bytes: "2\n", Cas: 1}), impl.Cmd{Verb: impl.VbTail, Name: "a", Bytes: "\x00é"}, 0)
	head, _ := impl.DidBook(tail, impl.Cmd{Verb: impl.VbHead, Name: "a", Bytes: "1\xff"}, 0)
	if got := head.Items[0].Bytes; got != "1\xff2\n\x00é" {
		t.Errorf("ahead and behind: %q", got)
	}
}

// TestNumbers: VbUp and VbDown by what the Bytes are.
func TestNumbers(t *testing.T) {
	for _, c := range []struct {
		bytes           string
		delta, up, down int64
	}{
		{"0", 0, 0, 0}, {"0", 1, 1, 0}, {"0", 1000000, 1000000, 0},
		{"5", 0, 5, 5}, {"5", 4, 9, 1}, {"5", 5, 10, 0}, {"5", 6, 11, 0}, {"9", 1, 10, 8}, {"10", 1, 11, 9},
		{"999998", 999999, 1999997, 0}, {"999999", 999999, 1999998, 0}, {"1000000", 999999, 1999999, 1}, {"1000000", 1000000, 2000000, 0}, {"1000001", 1000000, 2000001, 1},
		{"999999998", 1, 999999999, 999999997}, {"999999998", 2, 0, 999999996}, {"999999998", 3, 1, 999999995},
		{"999999999", 0, 999999999, 999999999}, {"999999999", 1, 0, 999999998}, {"999999999", 2, 1, 999999997}, {"999999999", 1000000, 999999, 998999999},
		{"998999999", 1000000, 999999999, 997999999}, {"999000000", 1000000, 0, 998000000}, {"999000001", 1000000, 1, 998000001},
	} {
		i := impl.Item{Name: "a", Flags: 6, Bytes: c.bytes, Cas: 5, Until: 70}
		b := bookAt(1000000, i, plainItem("b"))
		for verb, n := range map[int64]int64{impl.VbUp: c.up, impl.VbDown: c.down} {
			want := bookAt(1, impl.Item{Name: "a", Flags: 6, Bytes: fmt.Sprint(n), Cas: 1000000, Until: 70}, plainItem("b"))
			expectDid(t, "a number", b, impl.Cmd{Verb: verb, Name: "a", Delta: c.delta}, 0, want, impl.Reply{Kind: impl.RpNumber, Number: n})
		}
	}
	others := []string{
		"1000000000", "9999999999", "0999999999", "10000000000", "00", "01", "007", "-0", "-1", "-5", "+0", "+1", " 1", "1 ", "1 0", "1\n", "\n1", "1\x00", "1x", "x", "x1", "1a", "1.0", "1e3", "0x1", "1_0", "١", "½", "\xff", strings.Repeat("1", 64), strings.Repeat("0", 64),
	}
	for _, bytes := range append(others, wrongNumbers...) {
		b := bookAt(9, impl.Item{Name: "a", Bytes: bytes[:min(len(bytes), 64)], Cas: 5})
		for _, verb := range []int64{impl.VbUp, impl.VbDown} {
			for _, delta := range []int64{0, 1, 1000000} {
				expectDid(t, "no number", b, impl.Cmd{Verb: verb, Name: "a", Delta: delta}, 0, b, impl.Reply{Kind: impl.RpBad})
			}
		}
	}
}

// TestEveryByteOfNumbers: each byte alone, ahead of a digit and behind one.
func TestEveryByteOfNumbers(t *testing.T) {
	for one := range 256 {
		for _, bytes := range []string{string([]byte{byte(one)}), string([]byte{byte(one), '5'}), string([]byte{'5', byte(one)}), string([]byte{'5', byte(one), '5'})} {
			for _, verb := range []int64{impl.VbUp, impl.VbDown} {
				checkDid(t, bookAt(9, impl.Item{Name: "a", Bytes: bytes, Cas: 5}), impl.Cmd{Verb: verb, Name: "a", Delta: 3}, 0)
			}
		}
	}
}

func TestCasNear(t *testing.T) {
	fresh := impl.Item{Name: "a", Flags: 3, Bytes: "new", Cas: 20, Until: 60}
	for _, cas := range []int64{1, 2, 19, 20, 21, 500000, 999999, 1000000} {
		b := bookAt(20, impl.Item{Name: "a", Flags: 2, Bytes: "old", Cas: cas, Until: 50})
		for _, asked := range []int64{cas, cas - 1, cas + 1, 1, 20, 1000000} {
			if asked < 1 || asked > 1000000 {
				continue
			}
			c := impl.Cmd{Verb: impl.VbCas, Name: "a", Flags: 3, Bytes: "new", Until: 60, Cas: asked}
			want, kind := b, int64(impl.RpExists)
			if asked == cas {
				want, kind = bookAt(21, fresh), impl.RpStored
			}
			expectDid(t, "there", b, c, 49, want, impl.Reply{Kind: kind})
			expectDid(t, "over", b, c, 50, bookAt(20), impl.Reply{Kind: impl.RpMissing})
			c.Name = "b"
			expectDid(t, "nobody", b, c, 49, b, impl.Reply{Kind: impl.RpMissing})
		}
	}
}

// TestCasByOthers: whatever stores makes the Cas that was known of no use; what does not leaves it.
func TestCasByOthers(t *testing.T) {
	for _, v := range verbLines {
		b, _ := impl.DidBook(impl.NewBook(), impl.Cmd{Verb: impl.VbSet, Name: "a", Bytes: "1"}, 0)
		b, _ = impl.DidBook(b, shaped(v, impl.Cmd{Name: "a", Bytes: "2", Cas: 1}), 0)
		_, r := impl.DidBook(b, impl.Cmd{Verb: impl.VbCas, Name: "a", Cas: 1}, 0)
		want := int64(impl.RpExists)
		switch v.word {
		case "get", "gets", "add", "touch":
			want = impl.RpStored
		case "cut", "clear":
			want = impl.RpMissing
		}
		if r != (impl.Reply{Kind: want}) {
			t.Errorf("behind %s: %+v", v.word, r)
		}
	}
}

func TestTouchUntil(t *testing.T) {
	i := impl.Item{Name: "b", Flags: 4, Bytes: "x", Cas: 6, Until: 50}
	for _, now := range []int64{0, 1, 48, 49} {
		for _, until := range []int64{0, 1, now, now + 1, 49, 50, 51, 999999, 1000000} {
			touched := i
			touched.Until = until
			b := bookAt(20, plainItem("a"), i, plainItem("c"))
			c := impl.Cmd{Verb: impl.VbTouch, Name: "b", Until: until}
			expectDid(t, "there", b, c, now, bookAt(20, plainItem("a"), touched, plainItem("c")), impl.Reply{Kind: impl.RpTouched})
			after, _ := impl.DidBook(b, c, now)
			told := impl.Reply{Kind: impl.RpValue, Name: "b", Flags: 4, Bytes: "x", Cas: 6}
			if until != 0 && until <= now {
				told = impl.Reply{Kind: impl.RpMissing}
			}
			if _, r := impl.DidBook(after, impl.Cmd{Verb: impl.VbGets, Name: "b"}, now); r != told {
				t.Errorf("touched at %d until %d: %+v", now, until, r)
			}
			c.Name = "bb"
			expectDid(t, "nobody", b, c, now, b, impl.Reply{Kind: impl.RpMissing})
		}
	}
	b := bookAt(20, i)
	expectDid(t, "over", b, impl.Cmd{Verb: impl.VbTouch, Name: "b"}, 50, bookAt(20), impl.Reply{Kind: impl.RpMissing})
}

// TestStoredOver: what is stored until now or before is stored, and gone by the next command.
func TestStoredOver(t *testing.T) {
	for _, until := range []int64{1, 8, 9} {
		c := impl.Cmd{Verb: impl.VbSet, Name: "a", Bytes: "x", Until: until}
		b := bookAt(4, impl.Item{Name: "a", Bytes: "old", Cas: 1})
		want := bookAt(5, impl.Item{Name: "a", Bytes: "x", Cas: 4, Until: until})
		expectDid(t, "stored", b, c, 9, want, impl.Reply{Kind: impl.RpStored})
		expectDid(t, "gone", want, impl.Cmd{Verb: impl.VbGet, Name: "a"}, 9, bookAt(5), impl.Reply{Kind: impl.RpMissing})
	}
}

// TestDidNow: moments in range and out of it, with right commands and wrong ones.
func TestDidNow(t *testing.T) {
	for what, b := range map[string]impl.Book{"new": impl.NewBook(), "some": untilBook(9, 0, 1, 2, 1000000, 999999), "full": mixedBook(20, 1000000)} {
		for _, now := range slices.Concat(nowEdges, wholeNumbers) {
			for _, c := range slices.Concat(namedCmds("a", 9), namedCmds("nobody", 1), wrongCmds()) {
				if now < 0 || now > 1000000 {
					expectDid(t, what, b, c, now, impl.Book{}, impl.Reply{Kind: impl.RpError})
				}
				checkDid(t, b, c, now)
			}
		}
	}
}

// wrongCmds are wrong in one thing each, of each Verb.
func wrongCmds() []impl.Cmd {
	list := []impl.Cmd{{}, {Name: "a"}, {Verb: -1, Name: "a"}, {Verb: 14, Name: "a"}, {Verb: 1 + 1<<32, Name: "a"}, {Verb: math.MinInt64}, {Verb: math.MaxInt64, Name: "a"}}
	for _, v := range verbLines {
		right := shaped(v, impl.Cmd{Name: "a", Bytes: "5", Cas: 1})
		for _, spoil := range []func(c *impl.Cmd){
			func(c *impl.Cmd) { c.Name = "" }, func(c *impl.Cmd) { c.Name = "A" }, func(c *impl.Cmd) { c.Name = "abcdefghijklm" }, func(c *impl.Cmd) { c.Name = "b" },
			func(c *impl.Cmd) { c.Flags = -1 }, func(c *impl.Cmd) { c.Flags = 65536 }, func(c *impl.Cmd) { c.Flags = 1 },
			func(c *impl.Cmd) { c.Until = -1 }, func(c *impl.Cmd) { c.Until = 1000001 }, func(c *impl.Cmd) { c.Until = 1 },
			func(c *impl.Cmd) { c.Bytes = strings.Repeat("x", 65) }, func(c *impl.Cmd) { c.Bytes = "x" },
			func(c *impl.Cmd) { c.Cas = 0 }, func(c *impl.Cmd) { c.Cas = -1 }, func(c *impl.Cmd) { c.Cas = 1000001 }, func(c *impl.Cmd) { c.Cas = 1 },
			func(c *impl.Cmd) { c.Delta = -1 }, func(c *impl.Cmd) { c.Delta = 1000001 }, func(c *impl.Cmd) { c.Delta = 1 }, func(c *impl.Cmd) { c.Quiet = true },
		} {
			c := right
			if spoil(&c); !wantedCmd(c) {
				list = append(list, c)
			}
		}
	}
	return list
}

// TestWrongAsked: a command that is not right changes nothing, what is over stays too.
func TestWrongAsked(t *testing.T) {
	wrong := wrongCmds()
	if len(wrong) < 100 {
		t.Fatalf("%d wrong commands", len(wrong))
	}
	for _, c := range wrong {
		for what, b := range map[string]impl.Book{"new": impl.NewBook(), "one": bookAt(5, impl.Item{Name: "a", Bytes: "5", Cas: 1}), "one over": untilBook(5, 1), "some over": untilBook(1000000, 0, 1, 9, 10), "full": mixedBook(20, 1)} {
			for _, now := range []int64{0, 1, 9, 1000000} {
				expectDid(t, what, b, c, now, b, impl.Reply{Kind: impl.RpError})
			}
		}
	}
}

// wrongStores are wrong in their Items or in Next.
func wrongStores() map[string]impl.Book {
	stores := map[string]impl.Book{"zero": {}, "both": {Items: make([]impl.Item, 30), Next: -1}}
	for what, list := range wrongBooks() {
		stores[what] = impl.Book{Items: list, Next: 5}
	}
	for _, next := range []int64{0, -1, 1000001, math.MinInt64, math.MaxInt64, 1<<32 + 1} {
		for _, many := range []int{0, 1, 5, 20} {
			stores[fmt.Sprint(many, " things, Next ", next)] = impl.Book{Items: bookOf(many), Next: next}
		}
	}
	return stores
}

func TestWrongStores(t *testing.T) {
	cmds := slices.Concat(namedCmds("a", 1), namedCmds("nobody", 1), wrongCmds())
	for what, b := range wrongStores() {
		if wantedStore(b) || impl.StoreOk(b) {
			t.Errorf("%s: StoreOk", what)
		}
		for _, now := range nowEdges {
			if got, gone := impl.Aged(b, now); !sameBook(got, impl.Book{}) || len(gone) != 0 {
				t.Errorf("%s: Aged at %d = %+v, %q", what, now, got, gone)
			}
			checkAged(t, b, now)
		}
		for _, i := range []impl.Item{plainItem("a"), plainItem("nobody"), {}, spareItem} {
			if got, ok := impl.Stamped(b, i); ok || !sameBook(got, impl.Book{}) {
				t.Errorf("%s: Stamped(%+v) = %+v, %v", what, i, got, ok)
			}
			checkStamped(t, b, i)
		}
		for _, c := range cmds {
			for _, now := range []int64{0, 1000000, -1, 1000001} {
				if got, r := impl.DidBook(b, c, now); r != (impl.Reply{Kind: impl.RpError}) || !sameBook(got, impl.Book{}) {
					t.Errorf("%s: DidBook(%+v, %d) = %+v, %+v", what, c, now, got, r)
				}
			}
			checkDid(t, b, c, 1)
		}
	}
}

// TestEmptyStores: an empty list and nil are the same.
func TestEmptyStores(t *testing.T) {
	for _, items := range [][]impl.Item{nil, {}, roomyBook(), bookOf(20)[:0], bookOf(8)[8:8]} {
		b := impl.Book{Items: items, Next: 5}
		checkStore(t, b)
		for _, now := range nowEdges {
			checkAged(t, b, now)
		}
		checkStamped(t, b, plainItem("a"))
		checkStamped(t, b, impl.Item{})
		for _, c := range slices.Concat(namedCmds("a", 1), wrongCmds()) {
			checkDid(t, b, c, 0)
			checkDid(t, b, c, -1)
		}
	}
}

// looseBook is b in memory of its own, with as much room behind it.
func looseBook(b impl.Book) impl.Book {
	return impl.Book{Items: wholeBook(b.Items)[:len(b.Items)], Next: b.Next}
}

// TestStoreNewMemory: the answer does not change where what was given is changed afterwards.
func TestStoreNewMemory(t *testing.T) {
	stores := storeKinds()
	for what, b := range wrongStores() {
		stores["wrong: "+what] = b
	}
	for what, b := range stores {
		for _, now := range []int64{0, 500000, 1000000, -1} {
			given := looseBook(b)
			got, gone := impl.Aged(given, now)
			before, names := copiedBook(got), slices.Clone(gone)
			spoilBook(given)
			if !sameBook(got, before) || !slices.Equal(gone, names) {
				t.Fatalf("%s: Aged at %d is %+v, %q, was %+v, %q", what, now, got, gone, before, names)
			}
		}
		for _, i := range []impl.Item{plainItem("a"), plainItem("zz"), {}} {
			given := looseBook(b)
			got, _ := impl.Stamped(given, i)
			before := copiedBook(got)
			spoilBook(given)
			if !sameBook(got, before) {
				t.Fatalf("%s: Stamped(%+v) is %+v, was %+v", what, i, got, before)
			}
		}
		for _, c := range append(namedCmds("a", 1), impl.Cmd{}) {
			given := looseBook(b)
			got, r := impl.DidBook(given, c, 0)
			before, told := copiedBook(got), r
			spoilBook(given)
			if !sameBook(got, before) || r != told {
				t.Fatalf("%s: DidBook(%+v) is %+v, was %+v", what, c, got, before)
			}
		}
	}
}

// TestStoreTwice: nothing is kept from call to call.
func TestStoreTwice(t *testing.T) {
	cmds := namedCmds("a", 1)
	b := mixedBook(7, 1000000)
	var books []impl.Book
	var replies []impl.Reply
	for round := range 3 {
		for place, c := range cmds {
			got, r := impl.DidBook(b, c, 3)
			if round == 0 {
				books, replies = append(books, copiedBook(got)), append(replies, r)
			} else if !sameBook(got, books[place]) || r != replies[place] {
				t.Fatalf("%+v again: %+v, %+v, was %+v, %+v", c, got, r, books[place], replies[place])
			}
			spoilBook(got)
			impl.DidBook(impl.Book{}, c, 3)
			impl.Stamped(mixedBook(20, 4), plainItem("a"))
			impl.Aged(mixedBook(20, 4), 1000000)
		}
	}
}
