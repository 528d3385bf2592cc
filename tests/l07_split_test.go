package tests

import (
	"fmt"
	"math"
	"math/bits"
	"slices"
	"strconv"
	"testing"

	"loop.example/g00401/impl"
)

var splitSizes = []int64{1, 2, 4, 8, 16, 32, 64}

var wrongSizes = []int64{
	0, -1, -2, -4, -64, 3, 5, 6, 7, 9, 12, 24, 31, 33, 48, 63, 65, 66, 96, 127, 128, 256, 1024, 32768, 65536,
	1 << 32, 1<<32 + 1, 1 << 62, math.MinInt64, math.MinInt64 + 1, math.MaxInt64 - 1, math.MaxInt64,
}

// doorKey and thingKey are for 0 to 32767; they use nothing of the program's own.
func doorKey(b int64) int64 { return int64(bits.Reverse16(uint16(b))) }

func thingKey(h int64) int64 { return doorKey(h) + 1 }

// roomyNumbers has these numbers and room behind them.
func roomyNumbers(list ...int64) []int64 {
	out := append(make([]int64, 0, len(list)+5), list...)
	for i := len(list); i < cap(out); i++ {
		out[:cap(out)][i] = spare
	}
	return out
}

func splitOf(size int64, list ...int64) impl.Split {
	return impl.Split{Size: size, Keys: roomyNumbers(list...)}
}

// laid is a split with door 0, these doors and these things, in the order of their keys; parents are not laid with them.
func laid(size int64, doors, things []int64) impl.Split {
	list := []int64{0}
	for _, b := range doors {
		list = append(list, doorKey(b))
	}
	for _, h := range things {
		list = append(list, thingKey(h))
	}
	slices.Sort(list)
	return splitOf(size, slices.Compact(list)...)
}

// fullSplit has every door and every thing.
func fullSplit(size int64) impl.Split {
	var doors, things []int64
	for h := range int64(keys) {
		if things = append(things, h); h < size {
			doors = append(doors, h)
		}
	}
	return laid(size, doors, things)
}

func wholeSplit(s impl.Split) impl.Split {
	return impl.Split{Size: s.Size, Keys: slices.Clone(s.Keys[:cap(s.Keys)])}
}

func sameSplit(a, b impl.Split) bool { return a.Size == b.Size && slices.Equal(a.Keys, b.Keys) }

func isZeroSplit(s impl.Split) bool { return s.Size == 0 && len(s.Keys) == 0 }

func wantedSplitOk(s impl.Split) bool {
	if !slices.Contains(splitSizes, s.Size) || !rises(s.Keys) || !slices.Contains(s.Keys, 0) {
		return false
	}
	for _, key := range s.Keys {
		mark, thing := false, key%2 == 1 && key <= 65535
		for b := range s.Size {
			mark = mark || key == doorKey(b)
		}
		if !mark && !thing {
			return false
		}
	}
	return true
}

// withKeys is for splits that are right.
func withKeys(s impl.Split, more ...int64) impl.Split {
	list := slices.Concat(s.Keys, more)
	slices.Sort(list)
	return impl.Split{Size: s.Size, Keys: slices.Compact(list)}
}

// doorKeys are those of b and of what is left of it as its highest bits go, one by one.
func doorKeys(b int64) []int64 {
	list := []int64{doorKey(b)}
	for place := 15; place >= 0; place-- {
		b &^= 1 << place
		list = append(list, doorKey(b))
	}
	return list
}

func wantedOpened(s impl.Split, b int64) (impl.Split, bool) {
	switch {
	case !wantedSplitOk(s):
		return impl.Split{}, false
	case b < 0 || b > s.Size-1:
		return s, false
	}
	return withKeys(s, doorKeys(b)...), true
}

func wantedStored(s impl.Split, h int64) (impl.Split, bool) {
	switch {
	case !wantedSplitOk(s):
		return impl.Split{}, false
	case h < 0 || h > 32767 || slices.Contains(s.Keys, thingKey(h)):
		return s, false
	}
	return withKeys(s, append(doorKeys(h%s.Size), thingKey(h))...), true
}

func wantedDoubled(s impl.Split) (impl.Split, bool) {
	switch {
	case !wantedSplitOk(s):
		return impl.Split{}, false
	case s.Size > 32:
		return s, false
	}
	return impl.Split{Size: s.Size + s.Size, Keys: s.Keys}, true
}

// thingsIn are the numbers of all that is stored in a right split, in the order of their keys.
func thingsIn(s impl.Split) []int64 {
	var things []int64
	for _, key := range s.Keys {
		if key%2 == 1 {
			things = append(things, int64(bits.Reverse16(uint16(key-1))))
		}
	}
	return things
}

// wantedBehind goes by the promise, modulo Size, and not by where keys begin and end.
func wantedBehind(s impl.Split, b int64) []int64 {
	if !wantedSplitOk(s) {
		return nil
	}
	return slices.DeleteFunc(thingsIn(s), func(h int64) bool { return h%s.Size != b })
}

func wantedPassed(s impl.Split, h int64) int64 {
	if !wantedSplitOk(s) || h < 0 || h > 32767 || !slices.Contains(s.Keys, doorKey(h%s.Size)) {
		return -1
	}
	many := int64(0)
	for _, other := range wantedBehind(s, h%s.Size) {
		if thingKey(other) < thingKey(h) {
			many++
		}
	}
	return many
}

// askedDoors are all that there are, and those near the edges of what a door may be.
func askedDoors(s impl.Split) []int64 {
	list := slices.Concat(outside, []int64{s.Size, s.Size + 1, 2 * s.Size, 3*s.Size - 1, 127, 128, 32767, 32768})
	for b := range min(max(s.Size, 0), 65) {
		list = append(list, b)
	}
	return list
}

// askedHashes are what is stored, what is beside it or at other doors, and the edges of what a hash may be.
func askedHashes(s impl.Split) []int64 {
	list := slices.Concat(outside, []int64{0, 1, 2, 3, 62, 63, 64, 65, 16383, 16384, 32704, 32766, 32767, 32768, 32769, 65535})
	for _, h := range thingsIn(s) {
		list = append(list, h, h^1, h^64, h^16384)
	}
	slices.Sort(list)
	return slices.Compact(list)
}

func checkOpened(t *testing.T, s impl.Split, b int64) impl.Split {
	t.Helper()
	want, can := wantedOpened(s, b)
	got, ok := impl.Opened(s, b)
	if ok != can || !sameSplit(got, want) || ok && !impl.SplitOk(got) {
		t.Fatalf("Opened(%v, %d) = %v, %v, want %v, %v", s, b, got, ok, want, can)
	}
	return got
}

func checkStored(t *testing.T, s impl.Split, h int64) impl.Split {
	t.Helper()
	want, can := wantedStored(s, h)
	got, ok := impl.Stored(s, h)
	if ok != can || !sameSplit(got, want) || ok && !impl.SplitOk(got) {
		t.Fatalf("Stored(%v, %d) = %v, %v, want %v, %v", s, h, got, ok, want, can)
	}
	return got
}

func checkDoubled(t *testing.T, s impl.Split) impl.Split {
	t.Helper()
	want, can := wantedDoubled(s)
	got, ok := impl.Doubled(s)
	if ok != can || !sameSplit(got, want) || ok && !impl.SplitOk(got) {
		t.Fatalf("Doubled(%v) = %v, %v, want %v, %v", s, got, ok, want, can)
	}
	return got
}

func checkBehind(t *testing.T, s impl.Split, b int64) {
	t.Helper()
	if got, want := impl.Behind(s, b), wantedBehind(s, b); !slices.Equal(got, want) {
		t.Fatalf("Behind(%v, %d) = %v, want %v", s, b, got, want)
	}
}

func checkPassed(t *testing.T, s impl.Split, h int64) {
	t.Helper()
	if got, want := impl.Passed(s, h), wantedPassed(s, h); got != want {
		t.Fatalf("Passed(%v, %d) = %d, want %d", s, h, got, want)
	}
}

// checkHalves is the other half of promise 7: Doubled, no Key moves, and what was behind a door is split in two.
func checkHalves(t *testing.T, s impl.Split) {
	t.Helper()
	d, ok := impl.Doubled(s)
	if !ok {
		return
	}
	if d.Size != 2*s.Size || !slices.Equal(d.Keys, s.Keys) {
		t.Fatalf("Doubled(%v) = %v: something moved", s, d)
	}
	for b := range s.Size {
		low, high := impl.Behind(d, b), impl.Behind(d, b+s.Size)
		if got, want := slices.Concat(low, high), impl.Behind(s, b); !slices.Equal(got, want) {
			t.Fatalf("%v: behind %d and %d are %v and %v, were %v", d, b, b+s.Size, low, high, want)
		}
		for i, half := range [][]int64{low, high} {
			for _, h := range half {
				if h%d.Size != b+int64(i)*s.Size {
					t.Fatalf("%v: %d is behind %d", d, h, b+int64(i)*s.Size)
				}
			}
		}
	}
}

// checkSplit asks all that can be asked of a split, and what each call makes of it.
func checkSplit(t *testing.T, s impl.Split) {
	t.Helper()
	if got, want := impl.SplitOk(s), wantedSplitOk(s); got != want {
		t.Fatalf("SplitOk(%v) = %v", s, got)
	}
	checkDoubled(t, s)
	checkHalves(t, s)
	for _, b := range askedDoors(s) {
		checkOpened(t, s, b)
		checkBehind(t, s, b)
	}
	for _, h := range askedHashes(s) {
		checkStored(t, s, h)
		checkPassed(t, s, h)
	}
}

func TestNewSplitIsDoorNoughtAlone(t *testing.T) {
	s := impl.NewSplit()
	if !sameSplit(s, impl.Split{Size: 1, Keys: []int64{0}}) || !impl.SplitOk(s) {
		t.Fatal(s)
	}
	if l := impl.Behind(s, 0); len(l) != 0 {
		t.Fatal(l)
	}
	checkSplit(t, s)
}

func TestSplitOkSizes(t *testing.T) {
	for _, size := range splitSizes {
		for _, s := range []impl.Split{splitOf(size, 0), splitOf(size, 0, 1), laid(size, nil, []int64{0, 5, 32767}), fullSplit(size)} {
			if !impl.SplitOk(s) {
				t.Errorf("Size %d, %d keys: SplitOk says no", size, len(s.Keys))
			}
		}
	}
	for _, size := range wrongSizes {
		for _, s := range []impl.Split{splitOf(size, 0), splitOf(size, 0, 1), laid(size, []int64{1}, []int64{5}), splitOf(size), {Size: size}} {
			if impl.SplitOk(s) {
				t.Errorf("SplitOk(%v)", s)
			}
		}
	}
}

// TestSplitOkEachKey: ItemKeys are the odd numbers up to 65535; the MarkKeys of Size doors lie evenly far from each other.
func TestSplitOkEachKey(t *testing.T) {
	for _, size := range splitSizes {
		list := []int64{0, 0}
		for key := int64(1); key <= 70000; key++ {
			list[1] = key
			want := key <= 65535 && (key%2 == 1 || key%(65536/size) == 0)
			if got := impl.SplitOk(impl.Split{Size: size, Keys: list}); got != want {
				t.Fatalf("SplitOk({%d, %v}) = %v", size, list, got)
			}
		}
		for _, key := range outside {
			for _, s := range []impl.Split{splitOf(size, 0, key), splitOf(size, key, 0), splitOf(size, key), splitOf(size, 0, 1, key, 3)} {
				if impl.SplitOk(s) {
					t.Errorf("SplitOk(%v)", s)
				}
			}
		}
	}
}

// TestSplitOkDoorsPastSize: a door is right from the Size on that has it, and wrong at each one before.
func TestSplitOkDoorsPastSize(t *testing.T) {
	for _, size := range splitSizes {
		for b := range int64(200) {
			for _, s := range []impl.Split{laid(size, []int64{b}, nil), laid(size, []int64{b}, []int64{0, b, 32767})} {
				if got := impl.SplitOk(s); got != (b < size) {
					t.Errorf("door %d of %d: SplitOk(%v) = %v", b, size, s, got)
				}
			}
		}
	}
}

func TestSplitOkSmallLists(t *testing.T) {
	pool := []int64{-32768, -1, 0, 1, 2, 3, 1024, 1025, 2048, 16384, 16385, 32768, 49152, 65535, 65536, 65537}
	right := 0
	check := func(size int64, list []int64) {
		s := impl.Split{Size: size, Keys: list}
		got := impl.SplitOk(s)
		if got != wantedSplitOk(s) {
			t.Fatalf("SplitOk(%v) = %v", s, got)
		}
		if got {
			right++
		}
	}
	for _, size := range slices.Concat(splitSizes, []int64{0, 3, 128, -1}) {
		for _, a := range pool {
			check(size, []int64{a})
			for _, b := range pool {
				check(size, []int64{a, b})
				for _, c := range pool {
					check(size, []int64{a, b, c})
					check(size, []int64{0, a, b, c})
				}
			}
		}
	}
	if right < 500 {
		t.Errorf("only %d of them are right", right)
	}
}

// everySplit goes through all splits that come of a new one by these things, doors and doublings, in whatever order.
func everySplit(t *testing.T, things []int64, upTo int64, visit func(s impl.Split)) int {
	t.Helper()
	met, open := map[string]bool{}, []impl.Split{impl.NewSplit()}
	meet := func(s impl.Split) {
		if name := fmt.Sprint(s); !met[name] {
			met[name] = true
			open = append(open, s)
		}
	}
	for len(open) > 0 {
		s := open[len(open)-1]
		open = open[:len(open)-1]
		visit(s)
		for _, h := range things {
			meet(checkStored(t, s, h))
		}
		for b := range s.Size {
			meet(checkOpened(t, s, b))
		}
		if s.Size < upTo {
			meet(checkDoubled(t, s))
		}
	}
	return len(met)
}

// TestSplitInEveryOrder is promise 7, of each split that a few things and up to 8 doors can come to.
func TestSplitInEveryOrder(t *testing.T) {
	for _, c := range []struct {
		things []int64
		upTo   int64
	}{
		{[]int64{0, 1, 2, 3, 4, 5, 6, 7}, 2}, {[]int64{5, 2, 7, 4, 32767}, 4}, {[]int64{3, 7, 11, 32767}, 8}, {[]int64{0, 64, 16384}, 8},
	} {
		many := everySplit(t, c.things, c.upTo, func(s impl.Split) {
			if !impl.SplitOk(s) {
				t.Fatalf("SplitOk(%v) = false", s)
			}
			checkHalves(t, s)
			for b := int64(-1); b <= s.Size; b++ {
				checkBehind(t, s, b)
			}
			for _, h := range append([]int64{-1, 0, 1, 6, 13, 16383, 32766, 32768}, c.things...) {
				checkPassed(t, s, h)
			}
		})
		if many < 100 {
			t.Errorf("%v, up to %d doors: only %d splits", c.things, c.upTo, many)
		}
	}
}

// grownSplit keeps, beside the split, what was stored and which doors were asked for, as they came.
type grownSplit struct {
	split  impl.Split
	things []int64
	doors  []int64
}

func (g *grownSplit) store(t *testing.T, h int64) {
	t.Helper()
	next, ok := impl.Stored(g.split, h)
	if was := slices.Contains(g.things, h); ok == was {
		t.Fatalf("Stored(%v, %d): %v, was there: %v", g.split, h, ok, was)
	}
	if ok {
		g.things, g.doors = append(g.things, h), append(g.doors, h%g.split.Size)
	}
	g.goOn(t, next)
}

func (g *grownSplit) open(t *testing.T, b int64) {
	t.Helper()
	next, ok := impl.Opened(g.split, b)
	if !ok {
		t.Fatalf("Opened(%v, %d) says no", g.split, b)
	}
	g.doors = append(g.doors, b)
	g.goOn(t, next)
}

func (g *grownSplit) double(t *testing.T) {
	t.Helper()
	next, ok := impl.Doubled(g.split)
	if ok != (g.split.Size < 64) {
		t.Fatalf("Doubled(%v): %v", g.split, ok)
	}
	g.goOn(t, next)
}

// goOn asks promise 7 of what came of a call: the Keys are just those of what came, and no one that was there is gone.
func (g *grownSplit) goOn(t *testing.T, next impl.Split) {
	t.Helper()
	want := []int64{0}
	for _, b := range g.doors {
		want = append(want, doorKeys(b)...)
	}
	for _, h := range g.things {
		want = append(want, thingKey(h))
	}
	slices.Sort(want)
	if want = slices.Compact(want); !impl.SplitOk(next) || !rises(next.Keys) || !slices.Equal(next.Keys, want) {
		t.Fatalf("%v came to %v, want %v", g.split, next, want)
	}
	for _, key := range g.split.Keys {
		if _, there := slices.BinarySearch(next.Keys, key); !there {
			t.Fatalf("%v came to %v: %d is gone", g.split, next, key)
		}
	}
	g.split = next
}

// ask holds what is behind each door against what was stored.
func (g *grownSplit) ask(t *testing.T) {
	t.Helper()
	for b := range g.split.Size {
		want := slices.DeleteFunc(slices.Clone(g.things), func(h int64) bool { return h%g.split.Size != b })
		slices.SortFunc(want, func(h, other int64) int { return int(thingKey(h) - thingKey(other)) })
		if got := impl.Behind(g.split, b); !slices.Equal(got, want) {
			t.Fatalf("Behind(%v, %d) = %v, want %v", g.split, b, got, want)
		}
		for i, h := range want {
			passed := int64(i)
			if !slices.Contains(g.split.Keys, doorKey(b)) {
				passed = -1
			}
			if got := impl.Passed(g.split, h); got != passed {
				t.Fatalf("Passed(%v, %d) = %d, want %d", g.split, h, got, passed)
			}
		}
	}
	checkHalves(t, g.split)
}

// TestSplitInLongRuns is promise 7 of long runs, in which things, doors and doublings come more or less often.
func TestSplitInLongRuns(t *testing.T) {
	for seed := range uint64(60) {
		roll := rolls(seed)
		g := &grownSplit{split: impl.NewSplit()}
		below := []int{32768, 200, 64}[seed%3]
		doubles := []int{20, 8, 40, 3}[seed%4]
		for range 120 {
			switch n := roll(doubles + 10); {
			case n == 0:
				g.double(t)
			case n < 5:
				g.open(t, roll(int(g.split.Size)))
			default:
				g.store(t, roll(below))
			}
			g.ask(t)
		}
	}
}

// TestSplitSameInAnyOrder: whatever comes first, at one Size the same things and doors make the same split.
func TestSplitSameInAnyOrder(t *testing.T) {
	things, doors := []int64{0, 5, 2, 7, 4, 9, 63, 64, 16384, 32767}, []int64{0, 1, 6, 11, 15}
	for _, size := range []int64{16, 32, 64} {
		want := splitOf(size, 0)
		for _, h := range things {
			want, _ = impl.Stored(want, h)
		}
		for _, b := range doors {
			want, _ = impl.Opened(want, b)
		}
		for seed := range uint64(50) {
			roll, s, left := rolls(seed), splitOf(size, 0), slices.Concat(things, doors)
			doorsFrom := len(things)
			order := make([]int, len(left))
			for i := range order {
				order[i] = i
			}
			for i := range order {
				j := i + int(roll(len(order)-i))
				order[i], order[j] = order[j], order[i]
			}
			for _, i := range order {
				if i < doorsFrom {
					s, _ = impl.Stored(s, left[i])
				} else {
					s, _ = impl.Opened(s, left[i])
				}
			}
			if !sameSplit(s, want) {
				t.Fatalf("order %v: %v, want %v", order, s, want)
			}
		}
	}
}

// TestSplitStepByStep is in numbers alone.
func TestSplitStepByStep(t *testing.T) {
	s := impl.NewSplit()
	for _, c := range []struct {
		what string
		call func(impl.Split) (impl.Split, bool)
		ok   bool
		want impl.Split
	}{
		{"Stored 5", func(s impl.Split) (impl.Split, bool) { return impl.Stored(s, 5) }, true, splitOf(1, 0, 40961)},
		{"Stored 4", func(s impl.Split) (impl.Split, bool) { return impl.Stored(s, 4) }, true, splitOf(1, 0, 8193, 40961)},
		{"Stored 5 again", func(s impl.Split) (impl.Split, bool) { return impl.Stored(s, 5) }, false, splitOf(1, 0, 8193, 40961)},
		{"Opened 1 of 1", func(s impl.Split) (impl.Split, bool) { return impl.Opened(s, 1) }, false, splitOf(1, 0, 8193, 40961)},
		{"Doubled", impl.Doubled, true, splitOf(2, 0, 8193, 40961)},
		{"Stored 5 once more", func(s impl.Split) (impl.Split, bool) { return impl.Stored(s, 5) }, false, splitOf(2, 0, 8193, 40961)},
		{"Stored 7", func(s impl.Split) (impl.Split, bool) { return impl.Stored(s, 7) }, true, splitOf(2, 0, 8193, 32768, 40961, 57345)},
		{"Doubled", impl.Doubled, true, splitOf(4, 0, 8193, 32768, 40961, 57345)},
		{"Opened 3", func(s impl.Split) (impl.Split, bool) { return impl.Opened(s, 3) }, true, splitOf(4, 0, 8193, 32768, 40961, 49152, 57345)},
		{"Opened 3 again", func(s impl.Split) (impl.Split, bool) { return impl.Opened(s, 3) }, true, splitOf(4, 0, 8193, 32768, 40961, 49152, 57345)},
		{"Doubled", impl.Doubled, true, splitOf(8, 0, 8193, 32768, 40961, 49152, 57345)},
		{"Stored 6", func(s impl.Split) (impl.Split, bool) { return impl.Stored(s, 6) }, true, splitOf(8, 0, 8193, 16384, 24576, 24577, 32768, 40961, 49152, 57345)},
	} {
		next, ok := c.call(s)
		if ok != c.ok || !sameSplit(next, c.want) {
			t.Fatalf("%s: %v, %v, want %v, %v", c.what, next, ok, c.want, c.ok)
		}
		s = next
	}
	for b, want := range [][]int64{{}, {}, {}, {}, {4}, {5}, {6}, {7}} {
		if got := impl.Behind(s, int64(b)); !slices.Equal(got, want) {
			t.Errorf("Behind(%d) = %v, want %v", b, got, want)
		}
	}
}

func TestOpenedLaysParents(t *testing.T) {
	for _, c := range []struct {
		size, b int64
		want    []int64
	}{
		{1, 0, []int64{0}}, {2, 0, []int64{0}}, {2, 1, []int64{0, 32768}}, {4, 2, []int64{0, 16384}}, {4, 3, []int64{0, 32768, 49152}},
		{8, 4, []int64{0, 8192}}, {8, 5, []int64{0, 32768, 40960}}, {8, 6, []int64{0, 16384, 24576}}, {8, 7, []int64{0, 32768, 49152, 57344}},
		{64, 32, []int64{0, 1024}}, {64, 33, []int64{0, 32768, 33792}}, {64, 62, []int64{0, 16384, 24576, 28672, 30720, 31744}},
		{64, 63, []int64{0, 32768, 49152, 57344, 61440, 63488, 64512}}, {64, 1, []int64{0, 32768}}, {64, 0, []int64{0}},
	} {
		got, ok := impl.Opened(splitOf(c.size, 0), c.b)
		if !ok || got.Size != c.size || !slices.Equal(got.Keys, c.want) {
			t.Errorf("Opened(%d, %d) = %v, %v, want %v", c.size, c.b, got, ok, c.want)
		}
	}
	for _, size := range splitSizes {
		for b := range size {
			s := checkOpened(t, splitOf(size, 0), b)
			marks := []int64{}
			for door := b; door >= 0; door = impl.ParentOf(door) {
				marks = append(marks, impl.MarkKey(door))
			}
			slices.Sort(marks)
			if !slices.Equal(s.Keys, marks) {
				t.Errorf("Opened(%d, %d) = %v, want %v", size, b, s.Keys, marks)
			}
			if again, ok := impl.Opened(s, b); !ok || !sameSplit(again, s) {
				t.Errorf("Opened(%d, %d) again = %v, %v", size, b, again, ok)
			}
		}
	}
}

// TestOpenedWhereParentsAreMissing: a right split need not have them; who opens a door that is there lays them.
func TestOpenedWhereParentsAreMissing(t *testing.T) {
	for _, c := range []struct {
		given []int64
		b     int64
		want  []int64
	}{
		{[]int64{7}, 7, []int64{0, 1, 3, 7}}, {[]int64{7}, 3, []int64{0, 1, 3, 7}}, {[]int64{7}, 1, []int64{0, 1, 7}}, {[]int64{7}, 0, []int64{0, 7}},
		{[]int64{3, 7}, 7, []int64{0, 1, 3, 7}}, {[]int64{3}, 7, []int64{0, 1, 3, 7}}, {[]int64{1}, 7, []int64{0, 1, 3, 7}}, {[]int64{6}, 6, []int64{0, 2, 6}},
		{[]int64{1, 7}, 7, []int64{0, 1, 3, 7}}, {[]int64{63}, 63, []int64{0, 1, 3, 7, 15, 31, 63}}, {[]int64{15, 63}, 31, []int64{0, 1, 3, 7, 15, 31, 63}},
	} {
		got, ok := impl.Opened(laid(64, c.given, []int64{7, 32767}), c.b)
		if want := laid(64, c.want, []int64{7, 32767}); !ok || !sameSplit(got, want) {
			t.Errorf("doors %v, Opened(%d) = %v, %v, want %v", c.given, c.b, got, ok, want)
		}
	}
}

func TestOpenedDoorEdges(t *testing.T) {
	for _, size := range splitSizes {
		s := laid(size, nil, []int64{5, 2, 7, 4})
		for _, c := range []struct {
			b    int64
			want bool
		}{{-1, false}, {0, true}, {size - 1, true}, {size, false}, {size + 1, false}, {2 * size, false}, {64, false}, {32767, false}} {
			got, ok := impl.Opened(s, c.b)
			if ok != c.want || !ok && !sameSplit(got, s) || ok && !slices.Contains(got.Keys, impl.MarkKey(c.b)) {
				t.Errorf("Opened(%v, %d) = %v, %v", s, c.b, got, ok)
			}
			if behind := impl.Behind(s, c.b); !c.want && len(behind) != 0 {
				t.Errorf("Behind(%v, %d) = %v", s, c.b, behind)
			}
		}
	}
}

func TestStoredEdges(t *testing.T) {
	for _, size := range splitSizes {
		for _, h := range []int64{0, 1, 63, 64, 16384, 32766, 32767} {
			s, ok := impl.Stored(splitOf(size, 0), h)
			opened, _ := impl.Opened(splitOf(size, 0), h%size)
			if !ok || !sameSplit(s, withKeys(opened, impl.ItemKey(h))) {
				t.Errorf("Stored(%d, %d) = %v, %v", size, h, s, ok)
			}
			if again, ok := impl.Stored(s, h); ok || !sameSplit(again, s) {
				t.Errorf("Stored(%v, %d) again = %v, %v", s, h, again, ok)
			}
		}
		s := laid(size, nil, []int64{5, 2, 7, 4})
		for _, h := range append([]int64{32768, 32769, 32773, 65535}, outside...) {
			if got, ok := impl.Stored(s, h); ok || !sameSplit(got, s) {
				t.Errorf("Stored(%v, %d) = %v, %v", s, h, got, ok)
			}
			if got := impl.Passed(s, h); got != -1 {
				t.Errorf("Passed(%v, %d) = %d", s, h, got)
			}
		}
	}
	if s, _ := impl.Stored(splitOf(64, 0), 32767); !slices.Equal(s.Keys, []int64{0, 32768, 49152, 57344, 61440, 63488, 64512, 65535}) {
		t.Error(s)
	}
}

// TestStoredOpensNoDoorOfWhatIsThere: as it is, also where the door is not open, or has no parent.
func TestStoredOpensNoDoorOfWhatIsThere(t *testing.T) {
	for _, doors := range [][]int64{nil, {7}, {3}, {1}} {
		s := laid(8, doors, []int64{7, 15})
		if got, ok := impl.Stored(s, 7); ok || !sameSplit(got, s) {
			t.Errorf("Stored(%v, 7) = %v, %v", s, got, ok)
		}
		if got, ok := impl.Stored(s, 23); !ok || !sameSplit(got, laid(8, []int64{1, 3, 7}, []int64{7, 15, 23})) {
			t.Errorf("Stored(%v, 23) = %v, %v", s, got, ok)
		}
	}
}

func TestDoubledUpToMaxDoors(t *testing.T) {
	s := laid(1, nil, []int64{5, 2, 7, 4, 32767})
	list := slices.Clone(s.Keys)
	for _, size := range []int64{2, 4, 8, 16, 32, 64} {
		next, ok := impl.Doubled(s)
		if !ok || next.Size != size || !slices.Equal(next.Keys, list) {
			t.Fatalf("Doubled(%v) = %v, %v", s, next, ok)
		}
		s = next
	}
	for range 3 {
		next, ok := impl.Doubled(s)
		if ok || !sameSplit(next, impl.Split{Size: 64, Keys: list}) {
			t.Fatalf("Doubled(%v) = %v, %v", s, next, ok)
		}
		s = next
	}
	if impl.MaxDoors != 64 {
		t.Error(impl.MaxDoors)
	}
}

// TestBehindIsModuloSize: of all things there are, each is behind one door, opened or not.
func TestBehindIsModuloSize(t *testing.T) {
	for _, size := range splitSizes {
		full := fullSplit(size)
		bare := impl.Split{Size: size, Keys: slices.DeleteFunc(slices.Clone(full.Keys), func(key int64) bool { return key > 0 && key%2 == 0 })}
		for b := range size {
			got := impl.Behind(full, b)
			if !slices.Equal(got, impl.Behind(bare, b)) || int64(len(got)) != 32768/size || got[0] != b || got[len(got)-1] != 32768-size+b {
				t.Fatalf("Size %d, door %d: %d things", size, b, len(got))
			}
			for i, h := range got {
				if h%size != b || i > 0 && thingKey(got[i-1]) >= thingKey(h) {
					t.Fatalf("Size %d, door %d: %d at %d", size, b, h, i)
				}
			}
			if full, bare := impl.Passed(full, 32768-size+b), impl.Passed(bare, 32768-size+b); full != 32768/size-1 || b > 0 && bare != -1 {
				t.Fatalf("Size %d, door %d: the last one has passed %d, %d", size, b, full, bare)
			}
		}
		for _, b := range []int64{-1, size, size + 1, 64, 128, math.MinInt64, math.MaxInt64} {
			if got := impl.Behind(full, b); len(got) != 0 {
				t.Errorf("Size %d, Behind(%d): %d things", size, b, len(got))
			}
		}
		checkHalves(t, full)
	}
}

func TestPassed(t *testing.T) {
	things := []int64{5, 2, 7, 4, 13, 32767} // by their keys 4, 2, 5, 13, 7, 32767
	for _, c := range []struct {
		size  int64
		doors []int64
		h     int64
		want  int64
	}{
		{1, nil, 4, 0}, {1, nil, 2, 1}, {1, nil, 5, 2}, {1, nil, 13, 3}, {1, nil, 7, 4}, {1, nil, 32767, 5},
		{1, nil, 0, 0}, {1, nil, 16384, 0}, {1, nil, 6, 2}, {1, nil, 1, 2}, {1, nil, 3, 4}, {1, nil, 15, 5}, {1, nil, 16383, 5},
		{1, nil, -1, -1}, {1, nil, 32768, -1}, {1, nil, math.MinInt64, -1}, {1, nil, math.MaxInt64, -1},
		{2, nil, 4, 0}, {2, nil, 2, 1}, {2, nil, 6, 2}, {2, nil, 0, 0}, {2, nil, 5, -1}, {2, nil, 1, -1}, {2, nil, 32767, -1},
		{2, []int64{1}, 5, 0}, {2, []int64{1}, 13, 1}, {2, []int64{1}, 7, 2}, {2, []int64{1}, 32767, 3}, {2, []int64{1}, 1, 0}, {2, []int64{1}, 3, 2}, {2, []int64{1}, 2, 1},
		{4, []int64{1}, 7, -1}, {4, []int64{1}, 5, 0}, {4, []int64{1}, 13, 1}, {4, []int64{1}, 9, 0}, {4, []int64{1}, 29, 2}, {4, []int64{3}, 7, 0}, {4, []int64{3}, 32767, 1}, {4, []int64{3}, 5, -1},
		{4, []int64{1, 3}, 32767, 1}, {4, []int64{1, 2, 3}, 2, 0}, {4, []int64{1, 2, 3}, 6, 1}, {4, []int64{1, 2, 3}, 10, 1}, {4, []int64{1, 2, 3}, 4, 0}, {4, nil, 2, -1},
		{8, []int64{1, 3, 5, 7}, 13, 1}, {8, []int64{1, 3, 5, 7}, 7, 0}, {8, []int64{1, 3, 5, 7}, 32767, 1}, {8, []int64{1, 3, 5, 7}, 3, 0}, {8, []int64{1, 3, 5, 7}, 9, 0},
		{64, []int64{63}, 32767, 0}, {64, []int64{63}, 63, 0}, {64, []int64{63}, 7, -1}, {64, []int64{7}, 7, 0}, {64, []int64{7}, 71, 1}, {64, []int64{7}, 32711, 1},
	} {
		s := laid(c.size, c.doors, things)
		if got := impl.Passed(s, c.h); got != c.want {
			t.Errorf("Size %d, doors %v: Passed(%d) = %d, want %d", c.size, c.doors, c.h, got, c.want)
		}
		checkPassed(t, s, c.h)
	}
}

// TestPassedWhereAllAreThere: of the numbers between, each odd one is there.
func TestPassedWhereAllAreThere(t *testing.T) {
	for _, size := range splitSizes {
		full := fullSplit(size)
		for _, h := range []int64{0, 1, 5, 64, 100, 16383, 16384, 20000, 32766, 32767} {
			first := doorKey(h % size)
			if got, want := impl.Passed(full, h), (thingKey(h)-first-1)/2; got != want {
				t.Errorf("Size %d: Passed(%d) = %d, want %d", size, h, got, want)
			}
		}
	}
}

// givenSplits are right ones, many of which do not come of a new one: doors without parents, things without doors.
func givenSplits() map[string]impl.Split {
	given := map[string]impl.Split{
		"new":            impl.NewSplit(),
		"no room":        {Size: 1, Keys: []int64{0}},
		"64, bare":       splitOf(64, 0),
		"two doors":      splitOf(2, 0, 32768),
		"edges":          splitOf(64, 0, 1, 64512, 65535),
		"last door":      laid(64, []int64{63}, []int64{63, 32767, 0}),
		"things alone":   laid(8, nil, []int64{5, 2, 7, 4}),
		"at their doors": laid(8, []int64{1, 2, 3, 4, 5, 7}, []int64{5, 2, 7, 4, 13, 15}),
	}
	for _, size := range splitSizes {
		for seed := range uint64(6) {
			roll := rolls(seed)
			var doors, things []int64
			for b := range size {
				if roll(3) == 0 {
					doors = append(doors, b)
				}
			}
			for range roll(40) {
				things = append(things, roll([]int{32768, 128}[seed%2]))
			}
			given[strconv.FormatInt(size, 10)+" by "+strconv.FormatUint(seed, 10)] = laid(size, doors, things)
		}
	}
	return given
}

func TestGivenSplits(t *testing.T) {
	for name, s := range givenSplits() {
		if !impl.SplitOk(s) {
			t.Errorf("%s: %v is refused", name, s)
		}
		checkSplit(t, s)
	}
}

// wrongSplits are wrong in their Size, in their order, in a Key, or in what is missing.
func wrongSplits() map[string]impl.Split {
	wrong := map[string]impl.Split{
		"zero": {}, "nil": {Size: 1}, "empty": {Size: 1, Keys: []int64{}}, "room alone": splitOf(1), "nil, 64": {Size: 64},
		"no door 0": splitOf(2, 32768), "no door 0, a thing": splitOf(1, 1), "no door 0, both": splitOf(4, 8193, 16384, 32768),
		"door 0 last": splitOf(2, 1, 32768, 0), "door 0 twice": splitOf(1, 0, 0), "door 0 twice, a thing": splitOf(1, 0, 0, 1),
		"a door twice": splitOf(2, 0, 32768, 32768), "a thing twice": splitOf(1, 0, 5, 5), "first twice": splitOf(1, 0, 1, 1, 3), "last twice": splitOf(1, 0, 65535, 65535),
		"falling": splitOf(2, 0, 40961, 32768), "falling things": splitOf(1, 0, 3, 1), "all falling": splitOf(1, 5, 3, 1, 0), "falling in the midst": splitOf(4, 0, 1, 16385, 16384, 49152),
		"door 1 of 1": splitOf(1, 0, 32768), "door 2 of 2": splitOf(2, 0, 16384), "door 3 of 2": splitOf(2, 0, 32768, 49152), "door 64 of 64": splitOf(64, 0, 512), "door 127 of 64": splitOf(64, 0, 65024), "door 32767": splitOf(64, 0, 65534),
		"past the last": splitOf(1, 0, 65536), "past it, odd": splitOf(1, 0, 65537), "far past it": splitOf(1, 0, math.MaxInt64), "below 0": splitOf(1, -1, 0), "below 0, even": splitOf(1, -2, 0, 1), "far below 0": splitOf(1, math.MinInt64, 0), "below 0 alone": splitOf(1, -1), "-1 behind": splitOf(1, 0, -1),
	}
	for _, size := range wrongSizes {
		name := "Size " + strconv.FormatInt(size, 10)
		wrong[name], wrong[name+", things"], wrong[name+", nothing"] = splitOf(size, 0), splitOf(size, 0, 1, 40961), splitOf(size)
	}
	return wrong
}

func TestWrongSplits(t *testing.T) {
	numbers := append([]int64{0, 1, 2, 3, 5, 7, 63, 64, 65, 128, 16384, 32767, 32768}, outside...)
	for name, s := range wrongSplits() {
		if wantedSplitOk(s) || impl.SplitOk(s) {
			t.Errorf("%s: SplitOk %v", name, impl.SplitOk(s))
		}
		if got, ok := impl.Doubled(s); ok || !isZeroSplit(got) {
			t.Errorf("%s: Doubled = %v, %v", name, got, ok)
		}
		for _, n := range numbers {
			if got, ok := impl.Opened(s, n); ok || !isZeroSplit(got) {
				t.Errorf("%s: Opened(%d) = %v, %v", name, n, got, ok)
			}
			if got, ok := impl.Stored(s, n); ok || !isZeroSplit(got) {
				t.Errorf("%s: Stored(%d) = %v, %v", name, n, got, ok)
			}
			if got := impl.Behind(s, n); len(got) != 0 {
				t.Errorf("%s: Behind(%d) = %v", name, n, got)
			}
			if got := impl.Passed(s, n); got != -1 {
				t.Errorf("%s: Passed(%d) = %d", name, n, got)
			}
		}
	}
}

func TestSplitArgumentsStay(t *testing.T) {
	splits := wrongSplits()
	for name, s := range givenSplits() {
		splits["given: "+name] = s
	}
	for name, s := range splits {
		before := wholeSplit(s)
		impl.SplitOk(s)
		impl.Doubled(s)
		for _, n := range []int64{-1, 0, 1, 2, 5, 7, 31, 63, 64, 4096, 32766, 32767, 32768} {
			impl.Opened(s, n)
			impl.Stored(s, n)
			impl.Behind(s, n)
			impl.Passed(s, n)
			if !sameSplit(wholeSplit(s), before) {
				t.Fatalf("%s, %d: %v was %v", name, n, wholeSplit(s), before)
			}
		}
	}
}

// checkNewSplit: what the call answers shares nothing with what was given, nor with another answer.
func checkNewSplit(t *testing.T, what string, given impl.Split, call func(impl.Split) []int64) {
	t.Helper()
	before := wholeSplit(given)
	first, second := call(given), call(given)
	want := slices.Clone(second)
	if spoilNumbers(first); !sameSplit(wholeSplit(given), before) {
		t.Fatalf("%s: a change of the answer changes what was given", what)
	}
	if !slices.Equal(second, want) || !slices.Equal(call(given), want) {
		t.Fatalf("%s: a change of the answer changes another one", what)
	}
	if spoilNumbers(given.Keys); !slices.Equal(second, want) {
		t.Fatalf("%s: the answer changes with what was given", what)
	}
}

func TestSplitAnswersAreNewMemory(t *testing.T) {
	for name := range givenSplits() {
		for _, n := range []int64{-1, 0, 1, 2, 5, 7, 31, 63, 64, 4096, 32767, 32768} {
			what := name + ", " + strconv.FormatInt(n, 10)
			checkNewSplit(t, what+", Opened", givenSplits()[name], func(s impl.Split) []int64 { out, _ := impl.Opened(s, n); return out.Keys })
			checkNewSplit(t, what+", Stored", givenSplits()[name], func(s impl.Split) []int64 { out, _ := impl.Stored(s, n); return out.Keys })
			checkNewSplit(t, what+", Behind", givenSplits()[name], func(s impl.Split) []int64 { return impl.Behind(s, n) })
		}
		checkNewSplit(t, name+", Doubled", givenSplits()[name], func(s impl.Split) []int64 { out, _ := impl.Doubled(s); return out.Keys })
	}
	checkNewSplit(t, "NewSplit", impl.NewSplit(), func(impl.Split) []int64 { return impl.NewSplit().Keys })
}

// TestTwoOfOneSplit: what is stored into one of two that came of the same split is not in the other.
func TestTwoOfOneSplit(t *testing.T) {
	s, _ := impl.Stored(impl.NewSplit(), 5)
	one, _ := impl.Stored(s, 7)
	two, _ := impl.Stored(s, 9)
	three, _ := impl.Doubled(s)
	if !slices.Equal(impl.Behind(one, 0), []int64{5, 7}) || !slices.Equal(impl.Behind(two, 0), []int64{9, 5}) || !slices.Equal(impl.Behind(three, 1), []int64{5}) || !slices.Equal(impl.Behind(s, 0), []int64{5}) {
		t.Error(s, one, two, three)
	}
}
