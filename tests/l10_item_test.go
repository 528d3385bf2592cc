package tests

import (
	"fmt"
	"math"
	"slices"
	"strings"
	"testing"

	"loop.example/g00401/impl"
)

// spareItem fills the room behind a book; it is no thing itself.
var spareItem = impl.Item{Name: spareName, Flags: -spare, Bytes: "spare", Cas: -spare, Until: -spare}

// wholeNumbers are the ends and the turns of what an int64 holds.
var wholeNumbers = []int64{
	math.MinInt64, math.MinInt64 + 1, -1 << 32, -1 << 31, -1000001, -1000000, -65536, -2, -1, 0, 1, 2, 64, 65535, 65536, 999999, 1000000, 1000001,
	1 << 31, 1<<31 + 1, 1 << 32, 1<<32 + 1, 1 << 62, math.MaxInt64 - 1, math.MaxInt64,
}

// plainItem is right, whatever name it is given.
func plainItem(name string) impl.Item { return impl.Item{Name: name, Bytes: "x", Cas: 1} }

// unevenItem is right, and no two of 20 of these are of the same make.
func unevenItem(name string, number int) impl.Item {
	return impl.Item{
		Name: name, Flags: int64(number * 3449 % 65536), Bytes: strings.Repeat("\n", number*37%65), Cas: int64(1 + number*49999%1000000), Until: int64(number * 52631 % 1000001),
	}
}

// roomyBook has room behind it, with what is no thing in it.
func roomyBook(list ...impl.Item) []impl.Item {
	b := append(make([]impl.Item, 0, len(list)+4), list...)
	for i := len(list); i < cap(b); i++ {
		b[:cap(b)][i] = spareItem
	}
	return b
}

// wordBook takes one word a Name, in the order in which they come.
func wordBook(words string) []impl.Item {
	var list []impl.Item
	for _, name := range strings.Fields(words) {
		list = append(list, plainItem(name))
	}
	return roomyBook(list...)
}

// sortedNames are as many as asked for, in the order in which a book has them.
func sortedNames(many int) []string {
	list := manyNames(many)
	slices.Sort(list)
	return list
}

// bookOf is right where there are at most 20.
func bookOf(many int) []impl.Item {
	var list []impl.Item
	for number, name := range sortedNames(many) {
		list = append(list, unevenItem(name, number))
	}
	return roomyBook(list...)
}

// wholeBook reads a book with the room behind it.
func wholeBook(b []impl.Item) []impl.Item { return slices.Clone(b[:cap(b)]) }

// wantedItem takes the words of the document one by one.
func wantedItem(i impl.Item) bool {
	switch {
	case !wantedName(i.Name):
	case i.Flags < 0 || i.Flags > 65535:
	case len(i.Bytes) > 64:
	case i.Cas < 1 || i.Cas > 1000000:
	case i.Until < 0 || i.Until > 1000000:
	default:
		return true
	}
	return false
}

func wantedWeight(i impl.Item) int64 {
	if !wantedItem(i) {
		return -1
	}
	return int64(len(i.Name + i.Bytes + "12345678"))
}

func wantedOver(i impl.Item, now int64) bool { return !(i.Until == 0 || i.Until > now) }

// wantedBook goes by all pairs, not by neighbours.
func wantedBook(b []impl.Item) bool {
	for place, i := range b {
		if !wantedItem(i) {
			return false
		}
		for _, later := range b[place+1:] {
			if strings.Compare(i.Name, later.Name) != -1 {
				return false
			}
		}
	}
	return len(b) <= 20
}

func wantedFound(b []impl.Item, name string) int64 {
	return int64(slices.IndexFunc(b, func(i impl.Item) bool { return i.Name == name }))
}

func wantedHeavy(b []impl.Item) int64 {
	if !wantedBook(b) {
		return -1
	}
	text := ""
	for _, i := range b {
		text += i.Name + i.Bytes
	}
	return int64(len(text) + 8*len(b))
}

// checkItem asks all that can be asked of a thing, right or wrong, alone and in a book of one.
func checkItem(t *testing.T, i impl.Item) {
	t.Helper()
	if got, want := impl.ItemOk(i), wantedItem(i); got != want {
		t.Fatalf("ItemOk(%+v) = %v", i, got)
	}
	if got, want := impl.WeightOf(i), wantedWeight(i); got != want {
		t.Fatalf("WeightOf(%+v) = %d, want %d", i, got, want)
	}
	for _, now := range append([]int64{i.Until - 1, i.Until, i.Until + 1, -i.Until}, wholeNumbers...) {
		if got, want := impl.OverAt(i, now), wantedOver(i, now); got != want {
			t.Fatalf("OverAt(%+v, %d) = %v", i, now, got)
		}
	}
	checkBook(t, []impl.Item{i})
}

// checkBook asks all that can be asked of a book, right or wrong.
func checkBook(t *testing.T, b []impl.Item) {
	t.Helper()
	if got, want := impl.BookOk(b), wantedBook(b); got != want {
		t.Fatalf("BookOk(%+v) = %v", b, got)
	}
	if got, want := impl.Heavy(b), wantedHeavy(b); got != want {
		t.Fatalf("Heavy(%+v) = %d, want %d", b, got, want)
	}
	for _, name := range slices.Concat(namesIn(b), manyNames(21), oddNames()) {
		if got, want := impl.FindItem(b, name), wantedFound(b, name); got != want {
			t.Fatalf("FindItem(%+v, %q) = %d, want %d", b, name, got, want)
		}
	}
}

func namesIn(b []impl.Item) []string {
	var list []string
	for _, i := range b {
		list = append(list, i.Name)
	}
	return list
}

// askBook holds a right book against promise 10: each thing is found at its own number, nobody else, and Heavy is the sum.
func askBook(t *testing.T, b []impl.Item) {
	t.Helper()
	if !impl.BookOk(b) {
		t.Fatalf("BookOk(%+v) is false", b)
	}
	var sum int64
	for number, i := range b {
		if got := impl.FindItem(b, i.Name); got != int64(number) {
			t.Fatalf("FindItem(%+v, %q) = %d, want %d", b, i.Name, got, number)
		}
		weight := impl.WeightOf(i)
		if weight < 9 || weight > 84 {
			t.Fatalf("WeightOf(%+v) = %d", i, weight)
		}
		if sum += weight; impl.Heavy(b[:number+1]) != sum {
			t.Fatalf("Heavy(%+v) = %d, want %d", b[:number+1], impl.Heavy(b[:number+1]), sum)
		}
		for _, near := range nearNames(i.Name) {
			if got := impl.FindItem(b, near); got != -1 && !slices.Contains(namesIn(b), near) {
				t.Fatalf("FindItem(%+v, %q) = %d", b, near, got)
			}
		}
	}
	if got := impl.Heavy(b); got != sum {
		t.Fatalf("Heavy(%+v) = %d, want %d", b, got, sum)
	}
}

// nearNames are much like the name, and none of them is it.
func nearNames(name string) []string {
	return []string{
		name + "-", name + "a", name + " ", name + "\n", name + "\x00", " " + name, "-" + name, strings.ToUpper(name) + "A",
		name[:len(name)-1], name[1:] + "#", name[:len(name)-1] + "#", name[:len(name)-1] + "~", name + name,
	}
}

func TestPromise10(t *testing.T) {
	for many := 0; many <= 20; many++ {
		b := bookOf(many)
		askBook(t, b)
		for _, name := range append(oddNames(), "n", "n1", "nobody", "zz") {
			if got := impl.FindItem(b, name); got != -1 {
				t.Errorf("FindItem of %d things, %q = %d", many, name, got)
			}
		}
		for _, i := range bookOf(20) {
			if got := impl.FindItem(b, i.Name); (got == -1) == slices.Contains(namesIn(b), i.Name) {
				t.Errorf("FindItem of %d things, %q = %d", many, i.Name, got)
			}
		}
	}
}

// TestPromise10Left: when one goes, those behind it are found one number lower, and the sum is less by its weight.
func TestPromise10Left(t *testing.T) {
	for many := 1; many <= 20; many++ {
		b := bookOf(many)
		for out := range b {
			rest := slices.Concat(b[:out], b[out+1:])
			askBook(t, rest)
			if got := impl.FindItem(rest, b[out].Name); got != -1 {
				t.Errorf("%d things without %d: it is found at %d", many, out, got)
			}
			for number, i := range b {
				want := int64(number)
				if number > out {
					want--
				}
				if got := impl.FindItem(rest, i.Name); number != out && got != want {
					t.Errorf("%d things without %d: %d is found at %d", many, out, number, got)
				}
			}
			if got, want := impl.Heavy(rest), impl.Heavy(b)-impl.WeightOf(b[out]); got != want {
				t.Errorf("%d things without %d: Heavy %d, want %d", many, out, got, want)
			}
		}
	}
}

// TestPromise10Runs: books that grow and shrink, with things of all makes.
func TestPromise10Runs(t *testing.T) {
	roll := rolls(10)
	for range 40 {
		var b []impl.Item
		for range 60 {
			name := rolledName(roll)
			switch place := slices.Index(namesIn(b), name); {
			case place >= 0:
				b = slices.Delete(b, place, place+1)
			case len(b) == 20:
				place = int(roll(20))
				b = slices.Delete(b, place, place+1)
			default:
				b = append(b, rolledItem(name, roll))
				slices.SortFunc(b, func(a, b impl.Item) int { return strings.Compare(a.Name, b.Name) })
			}
			askBook(t, b)
			checkBook(t, b)
		}
	}
}

// rolledName is made of few letters: some are the beginning of others.
func rolledName(roll func(int) int64) string {
	name := ""
	for range 1 + roll(3)*roll(3)*roll(4) {
		name += string("-09az"[roll(5)])
	}
	return name[:min(len(name), 12)]
}

func rolledItem(name string, roll func(int) int64) impl.Item {
	var bytes []byte
	for range roll(65) {
		bytes = append(bytes, byte(roll(256)))
	}
	return impl.Item{Name: name, Flags: roll(65536), Bytes: string(bytes), Cas: 1 + roll(1000000), Until: roll(1000001) * roll(2)}
}

// TestHeaviestBook: things that are the least and the most that a thing can be.
func TestHeaviestBook(t *testing.T) {
	var low, high []impl.Item
	for place := range 20 {
		letter := string(rune('a' + place))
		low = append(low, impl.Item{Name: letter, Cas: 1})
		high = append(high, impl.Item{Name: strings.Repeat(letter, 12), Flags: 65535, Bytes: strings.Repeat("\xff", 64), Cas: 1000000, Until: 1000000})
		if got, want := impl.Heavy(low), int64(9*len(low)); got != want {
			t.Errorf("Heavy of %d of the lightest = %d, want %d", len(low), got, want)
		}
		if got, want := impl.Heavy(high), int64(84*len(high)); got != want {
			t.Errorf("Heavy of %d of the heaviest = %d, want %d", len(high), got, want)
		}
	}
	askBook(t, low)
	askBook(t, high)
}

func TestItemEdges(t *testing.T) {
	if impl.MaxBytes != 64 || impl.MaxCas != 1000000 || impl.MaxTime != 1000000 || impl.MaxNames != 20 {
		t.Error(impl.MaxBytes, impl.MaxCas, impl.MaxTime, impl.MaxNames)
	}
	for _, c := range []struct {
		what string
		item impl.Item
		want bool
	}{
		{"zero", impl.Item{}, false},
		{"name and Cas alone", impl.Item{Name: "a", Cas: 1}, true},
		{"no name", impl.Item{Cas: 1, Bytes: "x"}, false},
		{"1 byte", impl.Item{Name: "-", Cas: 1}, true},
		{"12 bytes", impl.Item{Name: "abcdefghijkl", Cas: 1}, true},
		{"13 bytes", impl.Item{Name: "abcdefghijklm", Cas: 1}, false},
		{"capital", impl.Item{Name: "Ab", Cas: 1}, false},
		{"blank behind", impl.Item{Name: "ab ", Cas: 1}, false},
		{"two bytes a letter", impl.Item{Name: "é", Cas: 1}, false},
		{"Flags -1", impl.Item{Name: "a", Flags: -1, Cas: 1}, false},
		{"Flags 0", impl.Item{Name: "a", Flags: 0, Cas: 1}, true},
		{"Flags 65535", impl.Item{Name: "a", Flags: 65535, Cas: 1}, true},
		{"Flags 65536", impl.Item{Name: "a", Flags: 65536, Cas: 1}, false},
		{"0 Bytes", impl.Item{Name: "a", Bytes: "", Cas: 1}, true},
		{"1 Byte", impl.Item{Name: "a", Bytes: "\x00", Cas: 1}, true},
		{"64 Bytes", impl.Item{Name: "a", Bytes: strings.Repeat("\n", 64), Cas: 1}, true},
		{"65 Bytes", impl.Item{Name: "a", Bytes: strings.Repeat("x", 65), Cas: 1}, false},
		{"32 letters, 64 Bytes", impl.Item{Name: "a", Bytes: strings.Repeat("é", 32), Cas: 1}, true},
		{"33 letters, 66 Bytes", impl.Item{Name: "a", Bytes: strings.Repeat("é", 33), Cas: 1}, false},
		{"Cas -1", impl.Item{Name: "a", Cas: -1}, false},
		{"Cas 0", impl.Item{Name: "a", Cas: 0}, false},
		{"Cas 1", impl.Item{Name: "a", Cas: 1}, true},
		{"Cas 1000000", impl.Item{Name: "a", Cas: 1000000}, true},
		{"Cas 1000001", impl.Item{Name: "a", Cas: 1000001}, false},
		{"Until -1", impl.Item{Name: "a", Cas: 1, Until: -1}, false},
		{"Until 0", impl.Item{Name: "a", Cas: 1, Until: 0}, true},
		{"Until 1", impl.Item{Name: "a", Cas: 1, Until: 1}, true},
		{"Until 1000000", impl.Item{Name: "a", Cas: 1, Until: 1000000}, true},
		{"Until 1000001", impl.Item{Name: "a", Cas: 1, Until: 1000001}, false},
		{"all at the top", impl.Item{Name: "zzzzzzzzzzzz", Flags: 65535, Bytes: strings.Repeat("z", 64), Cas: 1000000, Until: 1000000}, true},
	} {
		if got := impl.ItemOk(c.item); got != c.want {
			t.Errorf("%s: ItemOk %v", c.what, got)
		}
		if got := impl.BookOk([]impl.Item{c.item}); got != c.want {
			t.Errorf("%s: BookOk %v", c.what, got)
		}
		weight := int64(-1)
		if c.want {
			weight = int64(8 + len(c.item.Name) + len(c.item.Bytes))
		}
		if one, all := impl.WeightOf(c.item), impl.Heavy([]impl.Item{c.item}); one != weight || all != weight {
			t.Errorf("%s: WeightOf %d, Heavy %d, want %d", c.what, one, all, weight)
		}
		checkItem(t, c.item)
	}
}

// TestItemNumbers: each number that a field can be near, in each of the three fields, alone and together.
func TestItemNumbers(t *testing.T) {
	for _, n := range wholeNumbers {
		i := plainItem("a")
		i.Flags = n
		checkItem(t, i)
		i = plainItem("a")
		i.Cas = n
		checkItem(t, i)
		i = plainItem("a")
		i.Until = n
		checkItem(t, i)
		checkItem(t, impl.Item{Name: "a", Flags: n, Cas: n, Until: n})
	}
}

// TestItemNames: each byte alone, first, in the middle and last.
func TestItemNames(t *testing.T) {
	for b := range 256 {
		one := string([]byte{byte(b)})
		right := strings.Contains("abcdefghijklmnopqrstuvwxyz0123456789-", one)
		for _, name := range []string{one, one + "a", "a" + one + "b", "a" + one, "abcdefghijk" + one, one + "abcdefghijk"} {
			if got := impl.ItemOk(plainItem(name)); got != right {
				t.Errorf("ItemOk of %q: %v", name, got)
			}
			checkItem(t, plainItem(name))
		}
		if impl.ItemOk(plainItem("abcdefghijkl" + one)) {
			t.Errorf("ItemOk of 13 bytes, the last one %q", one)
		}
	}
	for _, name := range oddNames() {
		checkItem(t, plainItem(name))
	}
}

// TestItemBytes: whatever a byte is, it is one of the Bytes.
func TestItemBytes(t *testing.T) {
	for b := range 256 {
		for _, many := range []int{0, 1, 2, 63, 64, 65, 66, 1000} {
			i := impl.Item{Name: "a", Bytes: strings.Repeat(string([]byte{byte(b)}), many), Cas: 1}
			if got := impl.ItemOk(i); got != (many <= 64) {
				t.Errorf("ItemOk of %d Bytes %d: %v", many, b, got)
			}
			checkItem(t, i)
		}
	}
}

func TestWeightOf(t *testing.T) {
	for name := 1; name <= 12; name++ {
		for bytes := 0; bytes <= 64; bytes++ {
			i := impl.Item{Name: strings.Repeat("n", name), Flags: int64(bytes), Bytes: strings.Repeat("b", bytes), Cas: int64(name), Until: int64(bytes)}
			if got, want := impl.WeightOf(i), int64(name+bytes+8); got != want {
				t.Errorf("WeightOf of a name of %d and %d Bytes = %d", name, bytes, got)
			}
		}
	}
	for _, c := range []struct {
		item impl.Item
		want int64
	}{
		{impl.Item{Name: "a", Cas: 1}, 9},
		{impl.Item{Name: "ab", Bytes: "xyz", Cas: 1, Until: 5}, 13},
		{impl.Item{Name: "abcdefghijkl", Bytes: strings.Repeat("x", 64), Cas: 1}, 84},
		{impl.Item{Name: "a", Bytes: "é", Cas: 1}, 11},
		{impl.Item{Name: "a", Bytes: "\x00\n\xff", Cas: 1}, 12},
		{impl.Item{Name: "a", Flags: 65535, Cas: 1000000, Until: 1000000}, 9},
		{impl.Item{}, -1},
		{impl.Item{Name: "a"}, -1},
		{impl.Item{Name: "", Bytes: "x", Cas: 1}, -1},
	} {
		if got := impl.WeightOf(c.item); got != c.want {
			t.Errorf("WeightOf(%+v) = %d, want %d", c.item, got, c.want)
		}
	}
}

func TestOverAt(t *testing.T) {
	for _, now := range wholeNumbers {
		i := plainItem("a")
		if impl.OverAt(i, now) {
			t.Errorf("for ever is over at %d", now)
		}
	}
	for _, until := range []int64{1, 2, 3, 1000, 65536, 999999, 1000000} {
		i := plainItem("a")
		i.Until = until
		for now, want := range map[int64]bool{
			until - 1: false, until: true, until + 1: true, until + 2: true, 1000001: true, math.MaxInt64 - 1: true, math.MaxInt64: true, 1 << 32: true,
			0: false, -1: false, -2: false, -until: false, -1 << 32: false, math.MinInt64: false, math.MinInt64 + 1: false, math.MinInt64 + until: false, math.MaxInt64 - until: true,
		} {
			if got := impl.OverAt(i, now); got != want {
				t.Errorf("Until %d: OverAt %d is %v", until, now, got)
			}
		}
	}
	for until := int64(1); until <= 30; until++ {
		for now := int64(-5); now <= 35; now++ {
			if got := impl.OverAt(impl.Item{Name: "a", Cas: 1, Until: until}, now); got != (now >= until) {
				t.Errorf("Until %d: OverAt %d is %v", until, now, got)
			}
		}
	}
}

// TestOverForGood: once over, for good.
func TestOverForGood(t *testing.T) {
	for _, until := range wholeNumbers {
		i := plainItem("a")
		i.Until = until
		over := false
		for _, now := range wholeNumbers {
			if over && !impl.OverAt(i, now) {
				t.Errorf("Until %d: over ahead of %d, not at it", until, now)
			}
			over = impl.OverAt(i, now)
		}
	}
}

// TestOverAtGoesByUntil: the document asks for Until alone, also of what is not ItemOk.
func TestOverAtGoesByUntil(t *testing.T) {
	for _, until := range wholeNumbers {
		for _, now := range wholeNumbers {
			want := impl.OverAt(impl.Item{Name: "a", Cas: 1, Until: until}, now)
			if want != wantedOver(impl.Item{Until: until}, now) {
				t.Errorf("Until %d: OverAt %d is %v", until, now, want)
			}
			for what, i := range wrongItems() {
				if i.Until != 0 {
					continue
				}
				i.Until = until
				if got := impl.OverAt(i, now); got != want {
					t.Errorf("%s, Until %d: OverAt %d is %v", what, until, now, got)
				}
			}
		}
	}
}

// wrongItems are wrong in one field each, but for the last ones.
func wrongItems() map[string]impl.Item {
	long := strings.Repeat("x", 65)
	return map[string]impl.Item{
		"no name": {Cas: 1}, "13 bytes": {Name: "abcdefghijklm", Cas: 1}, "100 bytes": {Name: strings.Repeat("a", 100), Cas: 1}, "capital": {Name: "A", Cas: 1}, "blank": {Name: "a b", Cas: 1}, "blank ahead": {Name: " a", Cas: 1}, "lower line": {Name: "a_b", Cas: 1}, "new line": {Name: "a\n", Cas: 1}, "byte 0": {Name: "a\x00", Cas: 1}, "above 127": {Name: "a\x80", Cas: 1}, "two bytes": {Name: "aé", Cas: 1},
		"Flags -1": {Name: "a", Flags: -1, Cas: 1}, "Flags 65536": {Name: "a", Flags: 65536, Cas: 1}, "Flags low": {Name: "a", Flags: math.MinInt64, Cas: 1}, "Flags high": {Name: "a", Flags: math.MaxInt64, Cas: 1}, "Flags round": {Name: "a", Flags: 1 << 32, Cas: 1},
		"65 Bytes": {Name: "a", Bytes: long, Cas: 1}, "1000 Bytes": {Name: "a", Bytes: strings.Repeat("y", 1000), Cas: 1},
		"Cas 0": {Name: "a"}, "Cas -1": {Name: "a", Cas: -1}, "Cas 1000001": {Name: "a", Cas: 1000001}, "Cas low": {Name: "a", Cas: math.MinInt64}, "Cas high": {Name: "a", Cas: math.MaxInt64}, "Cas round": {Name: "a", Cas: 1<<32 + 1},
		"Until -1": {Name: "a", Cas: 1, Until: -1}, "Until 1000001": {Name: "a", Cas: 1, Until: 1000001}, "Until low": {Name: "a", Cas: 1, Until: math.MinInt64}, "Until high": {Name: "a", Cas: 1, Until: math.MaxInt64}, "Until round": {Name: "a", Cas: 1, Until: 1<<32 + 1},
		"zero": {}, "spare": spareItem, "all wrong": {Name: "A", Flags: -1, Bytes: long, Cas: 0, Until: -1},
	}
}

func TestWrongItems(t *testing.T) {
	for what, i := range wrongItems() {
		if wantedItem(i) || impl.ItemOk(i) || impl.WeightOf(i) != -1 {
			t.Errorf("%s: ItemOk %v, WeightOf %d", what, impl.ItemOk(i), impl.WeightOf(i))
		}
		b := []impl.Item{i}
		if impl.BookOk(b) || impl.Heavy(b) != -1 || impl.FindItem(b, i.Name) != 0 || impl.FindItem(b, "nobody") != -1 {
			t.Errorf("%s alone: BookOk %v, Heavy %d, FindItem %d, %d", what, impl.BookOk(b), impl.Heavy(b), impl.FindItem(b, i.Name), impl.FindItem(b, "nobody"))
		}
		checkItem(t, i)
	}
}

// TestOneWrongThing: one wrong thing at each place in turn, where its Name still stands in the order wherever it is a name.
func TestOneWrongThing(t *testing.T) {
	for _, many := range []int{1, 2, 3, 5, 19, 20} {
		for place := range many {
			for what, wrong := range wrongItems() {
				b := bookOf(many)
				if impl.NameOk(wrong.Name) {
					wrong.Name = b[place].Name
				}
				b[place] = wrong
				if impl.BookOk(b) || impl.Heavy(b) != -1 {
					t.Fatalf("%s at %d of %d: BookOk %v, Heavy %d", what, place, many, impl.BookOk(b), impl.Heavy(b))
				}
				for number, i := range b {
					if got := impl.FindItem(b, i.Name); got != int64(number) {
						t.Fatalf("%s at %d of %d: number %d is found at %d", what, place, many, number, got)
					}
				}
				if got := impl.FindItem(b, "nobody"); got != -1 {
					t.Fatalf("%s at %d of %d: nobody is found at %d", what, place, many, got)
				}
			}
		}
	}
}

func TestBookOk(t *testing.T) {
	for _, c := range []struct {
		words string
		want  bool
	}{
		{"", true}, {"a", true}, {"abcdefghijkl", true},
		{"a b", true}, {"b a", false}, {"a a", false},
		{"a ab", true}, {"ab a", false}, {"a a-", true}, {"a- a", false}, {"a a0 aa ab abc", true}, {"ab abc abcd", true}, {"abc ab abcd", false}, {"ab abc abb", false},
		{"aaaaaaaaaaa aaaaaaaaaaaa", true}, {"aaaaaaaaaaaa aaaaaaaaaaa", false}, {"aaaaaaaaaaaa aaaaaaaaaaaa", false}, {"aaaaaaaaaaaa b", true}, {"b aaaaaaaaaaaa", false},
		{"- 0 9 a z", true}, {"0 -", false}, {"a 0", false}, {"a -", false}, {"a 9", false}, {"9 z", true},
		{"n1 n10 n2", true}, {"n1 n2 n10", false}, {"10 9", true}, {"9 10", false},
		{"a b c d", true}, {"a b d c", false}, {"b a c d", false}, {"a c b d", false}, {"d c b a", false}, {"a b c c", false}, {"a a b c", false}, {"a b b c", false}, {"a b a c", false}, {"a b c a", false},
		{"a b c d e f g h i j k l m n o p q r s t", true}, {"a b c d e f g h i j k l m n o p q r s t u", false}, {"a b c d e f g h i j k l m n o p q r s s", false}, {"a b c d e f g h i j k l m n o p q r t s", false},
	} {
		b := wordBook(c.words)
		if got := impl.BookOk(b); got != c.want {
			t.Errorf("%s: BookOk %v", c.words, got)
		}
		if got := impl.Heavy(b); (got != -1) != c.want {
			t.Errorf("%s: Heavy %d", c.words, got)
		}
		checkBook(t, b)
	}
}

func TestBookSizes(t *testing.T) {
	for _, many := range []int{0, 1, 2, 18, 19, 20, 21, 22, 40, 1000} {
		b := bookOf(many)
		if got := impl.BookOk(b); got != (many <= 20) {
			t.Errorf("BookOk of %d things: %v", many, got)
		}
		if got := impl.Heavy(b); (got == -1) != (many > 20) {
			t.Errorf("Heavy of %d things: %d", many, got)
		}
		checkBook(t, b)
	}
}

// TestBookTwoOfOneName: the second one takes the name of the first, its other fields being its own; any two places.
func TestBookTwoOfOneName(t *testing.T) {
	for _, many := range []int{2, 3, 7, 19, 20} {
		for low := range many {
			for high := low + 1; high < many; high++ {
				b := bookOf(many)
				b[high].Name = b[low].Name
				if impl.BookOk(b) || impl.Heavy(b) != -1 {
					t.Errorf("%d things, %d named as %d: BookOk %v, Heavy %d", many, high, low, impl.BookOk(b), impl.Heavy(b))
				}
				if got := impl.FindItem(b, b[low].Name); got != int64(low) {
					t.Errorf("%d things, %d named as %d: it is found at %d", many, high, low, got)
				}
				b = bookOf(many)
				b[low], b[high] = b[high], b[low]
				if impl.BookOk(b) || impl.Heavy(b) != -1 {
					t.Errorf("%d things, %d and %d changed over: BookOk %v, Heavy %d", many, low, high, impl.BookOk(b), impl.Heavy(b))
				}
				for number, i := range b {
					if got := impl.FindItem(b, i.Name); got != int64(number) {
						t.Errorf("%d things, %d and %d changed over: %d is found at %d", many, low, high, number, got)
					}
				}
			}
		}
	}
}

// everyBook visits each list of at most so many of these things, whatever their order and however often each.
func everyBook(upTo int, things []impl.Item, visit func([]impl.Item)) int {
	seen := 1
	visit(nil)
	lists := [][]impl.Item{nil}
	for range upTo {
		var longer [][]impl.Item
		for _, list := range lists {
			for _, i := range things {
				longer = append(longer, slices.Concat(list, []impl.Item{i}))
			}
		}
		for _, list := range longer {
			visit(list)
		}
		seen += len(longer)
		lists = longer
	}
	return seen
}

func TestEveryBook(t *testing.T) {
	things := []impl.Item{plainItem("a"), plainItem("ab"), {Name: "b", Flags: 9, Cas: 2, Until: 3}, plainItem("b-"), {Name: "c"}, plainItem("")}
	right := map[int]int{}
	seen := everyBook(5, things, func(b []impl.Item) {
		checkBook(t, b)
		if impl.BookOk(b) {
			askBook(t, b)
			right[len(b)]++
		}
	})
	if seen != 1+6+36+216+1296+7776 {
		t.Errorf("%d books", seen)
	}
	for many, want := range []int{1, 4, 6, 4, 1, 0} {
		if right[many] != want {
			t.Errorf("%d right books of %d, want %d", right[many], many, want)
		}
	}
}

func TestFindItem(t *testing.T) {
	b := wordBook("b bb d dd f")
	for name, want := range map[string]int64{
		"b": 0, "bb": 1, "d": 2, "dd": 3, "f": 4,
		"a": -1, "-": -1, "0": -1, "ab": -1, "b-": -1, "b0": -1, "ba": -1, "bbb": -1, "bc": -1, "c": -1, "d-": -1, "ddd": -1, "e": -1, "ff": -1, "g": -1, "z": -1, "zzzzzzzzzzzz": -1,
		"": -1, " ": -1, "B": -1, "b ": -1, " b": -1, "b\n": -1, "b\x00": -1, "b bb": -1, "d\xff": -1, "é": -1, "abcdefghijklm": -1, spareName: -1, "x": -1,
	} {
		if got := impl.FindItem(b, name); got != want {
			t.Errorf("FindItem(%q) = %d, want %d", name, got, want)
		}
	}
	for many := 1; many <= 20; many++ {
		b := bookOf(many)
		last := int64(many - 1)
		for name, want := range map[string]int64{b[0].Name: 0, b[many/2].Name: int64(many / 2), b[last].Name: last, "": -1, "zz": -1, "!": -1, "-" + b[0].Name: -1, b[last].Name + "0": -1} {
			if got := impl.FindItem(b, name); got != want {
				t.Errorf("FindItem of %d things, %q = %d, want %d", many, name, got, want)
			}
		}
		for place := range b {
			between := b[place].Name + "-"
			if got := impl.FindItem(b, between); got != -1 {
				t.Errorf("FindItem of %d things, %q = %d", many, between, got)
			}
		}
	}
}

// TestFindItemByName: no other field counts, neither the Bytes nor what is over.
func TestFindItemByName(t *testing.T) {
	b := roomyBook(
		impl.Item{Name: "a", Bytes: "b", Cas: 2, Until: 1}, impl.Item{Name: "b", Bytes: "a", Cas: 1, Until: 1}, impl.Item{Name: "c", Bytes: "d", Cas: 1, Flags: 1}, impl.Item{Name: "e", Bytes: "e", Cas: 1},
	)
	for name, want := range map[string]int64{"a": 0, "b": 1, "c": 2, "d": -1, "e": 3, "1": -1} {
		if got := impl.FindItem(b, name); got != want {
			t.Errorf("FindItem(%q) = %d, want %d", name, got, want)
		}
	}
}

func TestEmptyBooks(t *testing.T) {
	for _, b := range [][]impl.Item{nil, {}, roomyBook(), bookOf(20)[:0], bookOf(8)[8:8]} {
		if !impl.BookOk(b) || impl.Heavy(b) != 0 {
			t.Errorf("BookOk %v, Heavy %d", impl.BookOk(b), impl.Heavy(b))
		}
		for _, name := range append(manyNames(21), oddNames()...) {
			if got := impl.FindItem(b, name); got != -1 {
				t.Errorf("FindItem(%q) = %d", name, got)
			}
		}
	}
}

// wrongBooks are wrong in one thing, in the order of the Names or in how many there are.
func wrongBooks() map[string][]impl.Item {
	books := map[string][]impl.Item{
		"twice": wordBook("a a"), "twice, apart": wordBook("a b c a"), "twice, behind": wordBook("a b b"), "all alike": slices.Repeat([]impl.Item{plainItem("a")}, 20),
		"falling": wordBook("b a"), "falling, last": wordBook("a b d c"), "falling, first": wordBook("b a c d"), "all falling": wordBook("d c b a"), "the longer one first": wordBook("ab a"),
		"21 things": bookOf(21), "22 things": bookOf(22), "1000 things": bookOf(1000), "zeros": make([]impl.Item, 5), "21 zeros": make([]impl.Item, 21),
		"with room read": append(wordBook("a b")[:2:6], spareItem),
	}
	for what, i := range wrongItems() {
		books[what+", alone"] = roomyBook(i)
		books[what+", behind"] = roomyBook(plainItem("-"), i)
		books[what+", ahead"] = roomyBook(i, plainItem("zz"))
	}
	return books
}

func TestWrongBooks(t *testing.T) {
	for what, b := range wrongBooks() {
		if wantedBook(b) || impl.BookOk(b) || impl.Heavy(b) != -1 {
			t.Errorf("%s: BookOk %v, Heavy %d", what, impl.BookOk(b), impl.Heavy(b))
		}
		checkBook(t, b)
	}
}

// TestFindItemGoesByNames: the document asks for the Name alone, also of what is not BookOk; of two it is the first.
func TestFindItemGoesByNames(t *testing.T) {
	for _, c := range []struct {
		words, name string
		want        int64
	}{
		{"a a", "a", 0}, {"b a", "a", 1}, {"b a", "b", 0}, {"c b a b", "b", 1}, {"c b a b", "c", 0}, {"c b a b", "a", 2}, {"c b a b", "d", -1}, {"d c b a", "a", 3}, {"B a", "B", 0}, {"a abcdefghijklm", "abcdefghijklm", 1},
	} {
		if got := impl.FindItem(wordBook(c.words), c.name); got != c.want {
			t.Errorf("FindItem(%s, %q) = %d, want %d", c.words, c.name, got, c.want)
		}
	}
	if got := impl.FindItem(make([]impl.Item, 3), ""); got != 0 {
		t.Errorf("FindItem of things with no name, of the empty text = %d", got)
	}
	many := bookOf(1000)
	for number, i := range many {
		if got := impl.FindItem(many, i.Name); got != int64(number) {
			t.Errorf("FindItem of 1000 things, %q = %d, want %d", i.Name, got, number)
		}
	}
}

// givenBooks are right ones, with and without room behind them.
func givenBooks() map[string][]impl.Item {
	given := map[string][]impl.Item{
		"nil": nil, "empty": {}, "room alone": roomyBook(), "one": wordBook("a"), "some": wordBook("a ab b c"),
		"no room behind": slices.Clip(slices.Clone(bookOf(3))), "a piece": bookOf(20)[2:7],
	}
	for many := 1; many <= 20; many++ {
		given[fmt.Sprint(many, " things")] = bookOf(many)
	}
	return given
}

// TestBookRoomIsNotRead: what stands behind the list does not count.
func TestBookRoomIsNotRead(t *testing.T) {
	for what, b := range givenBooks() {
		askBook(t, b)
		bare := slices.Clip(slices.Clone(b))
		if impl.BookOk(b) != impl.BookOk(bare) || impl.Heavy(b) != impl.Heavy(bare) {
			t.Errorf("%s: BookOk %v, %v, Heavy %d, %d", what, impl.BookOk(b), impl.BookOk(bare), impl.Heavy(b), impl.Heavy(bare))
		}
		for _, name := range append(manyNames(21), spareName) {
			if one, two := impl.FindItem(b, name), impl.FindItem(bare, name); one != two {
				t.Errorf("%s: FindItem(%q) = %d, %d", what, name, one, two)
			}
		}
	}
}

func TestBookArgumentsStay(t *testing.T) {
	books := wrongBooks()
	for what, b := range givenBooks() {
		books["given: "+what] = b
	}
	for what, b := range books {
		before := wholeBook(b)
		stays := func(call string) {
			if !slices.Equal(wholeBook(b), before) {
				t.Fatalf("%s, %s: %+v was %+v", what, call, wholeBook(b), before)
			}
		}
		impl.BookOk(b)
		stays("BookOk")
		impl.Heavy(b)
		stays("Heavy")
		for _, name := range slices.Concat(namesIn(b), oddNames()) {
			impl.FindItem(b, name)
			stays("FindItem")
		}
		for i := range b {
			impl.ItemOk(b[i])
			impl.WeightOf(b[i])
			impl.OverAt(b[i], b[i].Until)
			stays("ItemOk, WeightOf, OverAt")
		}
	}
}

// TestBookTwice: nothing is kept from call to call.
func TestBookTwice(t *testing.T) {
	for what, b := range givenBooks() {
		ok, heavy := impl.BookOk(b), impl.Heavy(b)
		for wrong, other := range wrongBooks() {
			impl.BookOk(other)
			impl.Heavy(other)
			impl.FindItem(other, "a")
			if impl.BookOk(b) != ok || impl.Heavy(b) != heavy {
				t.Fatalf("%s behind %s: BookOk %v, Heavy %d", what, wrong, impl.BookOk(b), impl.Heavy(b))
			}
		}
	}
}
