package tests

import (
	"math"
	"slices"
	"testing"

	"loop.example/g00401/impl"
)

// marked is what fills the room behind a list of cells.
var marked = impl.Cell{Key: spare, Value: spare, Next: spare, Gone: true}

// roomy has these cells and room behind them.
func roomy(list ...impl.Cell) []impl.Cell {
	out := append(make([]impl.Cell, 0, len(list)+5), list...)
	for i := len(list); i < cap(out); i++ {
		out[:cap(out)][i] = marked
	}
	return out
}

// linked is many cells of which each leads to the one behind it.
func linked(many int) []impl.Cell {
	list := make([]impl.Cell, many)
	for i := range list {
		list[i] = impl.Cell{Key: int64(i), Value: int64(100 + i), Next: int64(i + 1)}
	}
	if many > 0 {
		list[many-1].Next = -1
	}
	return roomy(list...)
}

// several has cells that are Gone, two of the same Key, one that nothing leads to, Keys out of order and every kind of Value.
func several() []impl.Cell {
	return roomy(
		impl.Cell{Key: 0, Value: -4, Next: 3},
		impl.Cell{Key: 9, Value: math.MaxInt64, Next: -1},
		impl.Cell{Key: 6, Value: 0, Next: 1, Gone: true},
		impl.Cell{Key: 4, Value: math.MinInt64, Next: 2},
		impl.Cell{Key: 6, Value: 60, Next: 5},
		impl.Cell{Key: 65535, Value: 1, Next: -1},
		impl.Cell{Key: 1, Value: 11, Next: 4, Gone: true},
	)
}

// wantedHeap takes the words of the document one by one.
func wantedHeap(h []impl.Cell) bool {
	if len(h) < 1 || len(h) > 40 {
		return false
	}
	for i, c := range h {
		switch {
		case c.Key < 0 || c.Key > 65535, (i == 0) != (c.Key == 0), i == 0 && c.Gone:
			return false
		case c.Next < -1 || c.Next >= int64(len(h)), c.Next >= 0 && h[c.Next].Key <= c.Key:
			return false
		}
	}
	return true
}

func wantedFresh(h []impl.Cell, key, value, next int64) ([]impl.Cell, int64) {
	if !wantedHeap(h) {
		return nil, -1
	}
	out := slices.Concat(h, []impl.Cell{{Key: key, Value: value, Next: next}})
	if !wantedHeap(out) {
		return slices.Clone(h), -1
	}
	return out, int64(len(h))
}

func wantedSwapped(h []impl.Cell, at, next, to int64) ([]impl.Cell, bool) {
	if !wantedHeap(h) {
		return nil, false
	}
	out := slices.Clone(h)
	if at < 0 || at >= int64(len(h)) || h[at].Gone || h[at].Next != next {
		return out, false
	}
	out[at].Next = to
	if !wantedHeap(out) {
		return slices.Clone(h), false
	}
	return out, true
}

func wantedStruck(h []impl.Cell, at, next int64) ([]impl.Cell, bool) {
	if !wantedHeap(h) {
		return nil, false
	}
	out := slices.Clone(h)
	if at < 1 || at >= int64(len(h)) || h[at].Gone || h[at].Next != next {
		return out, false
	}
	out[at].Gone = true
	return out, true
}

func checkFresh(t *testing.T, h []impl.Cell, key, value, next int64) {
	t.Helper()
	want, place := wantedFresh(h, key, value, next)
	if got, at := impl.Fresh(h, key, value, next); at != place || !slices.Equal(got, want) {
		t.Fatalf("Fresh(%v, %d, %d, %d) = %v, %d, want %v, %d", h, key, value, next, got, at, want, place)
	}
}

func checkSwapped(t *testing.T, h []impl.Cell, at, next, to int64) {
	t.Helper()
	want, done := wantedSwapped(h, at, next, to)
	if got, ok := impl.Swapped(h, at, next, to); ok != done || !slices.Equal(got, want) {
		t.Fatalf("Swapped(%v, %d, %d, %d) = %v, %v, want %v, %v", h, at, next, to, got, ok, want, done)
	}
}

func checkStruck(t *testing.T, h []impl.Cell, at, next int64) {
	t.Helper()
	want, done := wantedStruck(h, at, next)
	if got, ok := impl.Struck(h, at, next); ok != done || !slices.Equal(got, want) {
		t.Fatalf("Struck(%v, %d, %d) = %v, %v, want %v, %v", h, at, next, got, ok, want, done)
	}
}

// around are the numbers of cells from 3 below the first one to 3 behind the last one, and far ones.
func around(h []impl.Cell) []int64 {
	out := []int64{math.MinInt64, math.MinInt64 + 1, -1 << 32, 1 << 32, 1<<32 + 1, math.MaxInt64 - 1, math.MaxInt64}
	for n := int64(-3); n < int64(len(h))+3; n++ {
		out = append(out, n)
	}
	return out
}

func TestNewHeapIsCellNoughtAlone(t *testing.T) {
	h := impl.NewHeap()
	if !slices.Equal(h, []impl.Cell{{Key: 0, Value: 0, Next: -1, Gone: false}}) || !impl.HeapOk(h) {
		t.Fatal(h)
	}
}

func TestHeapOkManyCells(t *testing.T) {
	for many := range 100 {
		if got, want := impl.HeapOk(linked(many)), many >= 1 && many <= 40; got != want {
			t.Errorf("%d cells: HeapOk = %v", many, got)
		}
	}
	if impl.HeapOk(nil) || impl.HeapOk([]impl.Cell{}) || impl.HeapOk(several()[:0]) || !impl.HeapOk(several()) {
		t.Error("no cell, or a right heap")
	}
}

func TestHeapOkKeys(t *testing.T) {
	for _, c := range []struct {
		key          int64
		first, other bool
	}{
		{0, true, false}, {1, false, true}, {2, false, true}, {65534, false, true}, {65535, false, true}, {65536, false, false}, {65537, false, false},
		{-1, false, false}, {-2, false, false}, {1 << 32, false, false}, {math.MinInt64, false, false}, {math.MaxInt64, false, false},
	} {
		if got := impl.HeapOk([]impl.Cell{{Key: c.key, Next: -1}}); got != c.first {
			t.Errorf("Key %d at cell 0: HeapOk = %v", c.key, got)
		}
		for at := 1; at < 40; at++ {
			h := make([]impl.Cell, 40)
			for i := range h {
				h[i] = impl.Cell{Key: int64(min(i, 1)), Next: -1}
			}
			h[at].Key = c.key
			if got := impl.HeapOk(h); got != c.other {
				t.Errorf("Key %d at cell %d: HeapOk = %v", c.key, at, got)
			}
		}
	}
}

func TestHeapOkNexts(t *testing.T) {
	for _, c := range []struct {
		what     string
		at, next int64
		want     bool
	}{
		{"none", 0, -1, true}, {"none", 2, -1, true}, {"none", 6, -1, true}, {"below none", 0, -2, false}, {"below none", 6, -2, false},
		{"itself", 0, 0, false}, {"itself", 2, 2, false}, {"itself", 6, 6, false},
		{"a smaller Key", 2, 3, false}, {"a smaller Key", 1, 0, false}, {"a smaller Key", 5, 1, false}, {"the first", 6, 0, false},
		{"an equal Key", 2, 4, false}, {"an equal Key", 4, 2, false}, {"a greater Key", 0, 6, true}, {"a greater Key", 3, 4, true}, {"a greater Key", 6, 1, true},
		{"one that is Gone", 0, 2, true}, {"the last", 0, 6, true}, {"one more", 0, 7, false}, {"two more", 0, 8, false}, {"one more", 6, 7, false},
		{"the least", 0, math.MinInt64, false}, {"the greatest", 0, math.MaxInt64, false}, {"far", 0, 1 << 32, false}, {"far", 6, math.MaxInt64, false},
	} {
		h := several()
		h[c.at].Next = c.next
		if got := impl.HeapOk(h); got != c.want {
			t.Errorf("cell %d leads to %s (%d): HeapOk = %v", c.at, c.what, c.next, got)
		}
	}
}

func TestHeapOkGone(t *testing.T) {
	for at := range several() {
		for _, gone := range []bool{false, true} {
			h := several()
			h[at].Gone = gone
			if got := impl.HeapOk(h); got != (at > 0 || !gone) {
				t.Errorf("cell %d Gone %v: HeapOk = %v", at, gone, got)
			}
		}
	}
	if impl.HeapOk([]impl.Cell{{Next: -1, Gone: true}}) {
		t.Error("cell 0 alone, Gone: HeapOk")
	}
}

func TestHeapOkAnyValue(t *testing.T) {
	for _, value := range []int64{0, 1, -1, 65536, math.MinInt64, math.MaxInt64} {
		if !impl.HeapOk([]impl.Cell{{Value: value, Next: 1}, {Key: 1, Value: value, Next: -1}}) {
			t.Errorf("Value %d: not HeapOk", value)
		}
	}
}

// smallHeaps goes through all lists of up to 3 cells with these Keys, Nexts and flags, right or not.
func smallHeaps(visit func([]impl.Cell)) {
	var kinds []impl.Cell
	for _, key := range []int64{-1, 0, 1, 2} {
		for next := int64(-2); next <= 3; next++ {
			kinds = append(kinds, impl.Cell{Key: key, Value: key * next, Next: next}, impl.Cell{Key: key, Value: -5, Next: next, Gone: true})
		}
	}
	for _, a := range kinds {
		visit([]impl.Cell{a})
		for _, b := range kinds {
			visit([]impl.Cell{a, b})
			for _, c := range kinds {
				visit([]impl.Cell{a, b, c})
			}
		}
	}
}

// TestSmallHeaps is promise 3 on every small heap and at every number near it: what is Swapped or Struck was as told, and all else stays.
func TestSmallHeaps(t *testing.T) {
	right := 0
	smallHeaps(func(h []impl.Cell) {
		if got, want := impl.HeapOk(h), wantedHeap(h); got != want {
			t.Fatalf("HeapOk(%v) = %v", h, got)
		}
		if !wantedHeap(h) {
			return
		}
		right++
		for at := int64(-2); at <= 4; at++ {
			for next := int64(-2); next <= 4; next++ {
				checkStruck(t, h, at, next)
				checkFresh(t, h, at, 7, next)
				for to := int64(-2); to <= 4; to++ {
					checkSwapped(t, h, at, next, to)
				}
			}
		}
	})
	if right != 1+8+72 {
		t.Fatalf("%d right heaps", right)
	}
}

// TestMovesAtEachCell is promise 3 on greater heaps: each cell, with the Next that is told and with others.
func TestMovesAtEachCell(t *testing.T) {
	for _, h := range [][]impl.Cell{impl.NewHeap(), several(), linked(2), linked(12), linked(40)} {
		for _, at := range around(h) {
			for _, next := range around(h) {
				checkStruck(t, h, at, next)
				for _, to := range []int64{-2, -1, 0, at, at + 1, next, int64(len(h)) - 1, int64(len(h)), math.MinInt64, math.MaxInt64} {
					checkSwapped(t, h, at, next, to)
				}
			}
			if at >= 0 && at < int64(len(h)) {
				for _, to := range around(h) {
					checkSwapped(t, h, at, h[at].Next, to)
				}
			}
		}
	}
}

func TestSwapped(t *testing.T) {
	for _, c := range []struct {
		what         string
		at, next, to int64
		want         bool
	}{
		{"to a greater Key", 0, 3, 6, true}, {"to the same", 0, 3, 3, true}, {"to none", 0, 3, -1, true}, {"from none", 1, -1, 5, true},
		{"none to none", 5, -1, -1, true}, {"to one that is Gone", 0, 3, 2, true}, {"at one that nothing leads to", 4, 5, 1, true},
		{"another Next", 0, 2, 6, false}, {"another Next", 0, -1, 6, false}, {"another Next", 1, 5, 5, false}, {"another Next", 3, 4, 1, false},
		{"at one that is Gone", 2, 1, 5, false}, {"at one that is Gone", 2, 1, 1, false}, {"at one that is Gone", 6, 4, -1, false},
		{"to itself", 3, 2, 3, false}, {"to a smaller Key", 4, 5, 3, false}, {"to an equal Key", 4, 5, 2, false}, {"to the first", 3, 2, 0, false},
		{"to one too many", 0, 3, 7, false}, {"to -2", 0, 3, -2, false}, {"to the least", 0, 3, math.MinInt64, false}, {"to the greatest", 0, 3, math.MaxInt64, false},
		{"at -1", -1, 3, 6, false}, {"at one too many", 7, -1, -1, false}, {"at the room behind", 7, spare, -1, false},
		{"at the least", math.MinInt64, -1, -1, false}, {"at the greatest", math.MaxInt64, -1, -1, false},
		{"next the least", 0, math.MinInt64, 3, false}, {"next the greatest", 0, math.MaxInt64, 3, false}, {"next is the number of cells", 0, 7, 3, false},
	} {
		want := slices.Clone(several())
		if c.want {
			want[c.at].Next = c.to
		}
		if got, ok := impl.Swapped(several(), c.at, c.next, c.to); ok != c.want || !slices.Equal(got, want) {
			t.Errorf("%s: Swapped(%d, %d, %d) = %v, %v", c.what, c.at, c.next, c.to, got, ok)
		}
	}
}

func TestStruck(t *testing.T) {
	for _, c := range []struct {
		what     string
		at, next int64
		want     bool
	}{
		{"in the chain", 3, 2, true}, {"without a Next", 1, -1, true}, {"that nothing leads to", 4, 5, true}, {"of MaxKey", 5, -1, true},
		{"the first", 0, 3, false}, {"the first", 0, -1, false}, {"one that is Gone", 2, 1, false}, {"one that is Gone", 6, 4, false},
		{"another Next", 3, 1, false}, {"another Next", 3, -1, false}, {"another Next", 1, 5, false}, {"next itself", 3, 3, false},
		{"next -2", 1, -2, false}, {"next the number of cells", 1, 7, false}, {"next the least", 1, math.MinInt64, false}, {"next the greatest", 1, math.MaxInt64, false},
		{"at -1", -1, -1, false}, {"at one too many", 7, -1, false}, {"at the least", math.MinInt64, -1, false}, {"at the greatest", math.MaxInt64, -1, false},
	} {
		want := slices.Clone(several())
		if c.want {
			want[c.at].Gone = true
		}
		if got, ok := impl.Struck(several(), c.at, c.next); ok != c.want || !slices.Equal(got, want) {
			t.Errorf("%s: Struck(%d, %d) = %v, %v", c.what, c.at, c.next, got, ok)
		}
	}
	h := impl.NewHeap()
	if got, ok := impl.Struck(h, 0, -1); ok || !slices.Equal(got, h) {
		t.Errorf("the first alone: Struck = %v, %v", got, ok)
	}
}

// TestStruckOnce: of two that saw the same Next one alone strikes, and who struck keeps others from swapping.
func TestStruckOnce(t *testing.T) {
	h := linked(4)
	h, one := impl.Struck(h, 2, 3)
	h, two := impl.Struck(h, 2, 3)
	h, three := impl.Swapped(h, 2, 3, -1)
	h, four := impl.Swapped(h, 1, 2, 3)
	h, five := impl.Swapped(h, 1, 2, 3)
	want := []impl.Cell{{Next: 1, Value: 100}, {Key: 1, Value: 101, Next: 3}, {Key: 2, Value: 102, Next: 3, Gone: true}, {Key: 3, Value: 103, Next: -1}}
	if !one || two || three || !four || five || !slices.Equal(h, want) {
		t.Fatal(one, two, three, four, five, h)
	}
}

func TestFresh(t *testing.T) {
	for _, c := range []struct {
		what             string
		key, value, next int64
		want             bool
	}{
		{"ordinary", 5, 50, 2, true}, {"no Next", 5, 50, -1, true}, {"of Key 1", 1, 0, 3, true}, {"of MaxKey", 65535, -1, -1, true}, {"below MaxKey", 65534, -1, 5, true},
		{"of a Key that is there", 6, 1, 5, true}, {"the least Value", 2, math.MinInt64, -1, true}, {"the greatest Value", 2, math.MaxInt64, 1, true},
		{"to one that is Gone", 5, 5, 2, true}, {"Key 0", 0, 0, -1, false}, {"Key 0 and a Next", 0, 0, 1, false}, {"Key -1", -1, 0, -1, false}, {"past MaxKey", 65536, 0, -1, false},
		{"the least Key", math.MinInt64, 0, -1, false}, {"the greatest Key", math.MaxInt64, 0, -1, false},
		{"to -2", 5, 0, -2, false}, {"to itself", 5, 0, 7, false}, {"behind itself", 5, 0, 8, false}, {"to the first", 5, 0, 0, false},
		{"to a smaller Key", 5, 0, 3, false}, {"to an equal Key", 6, 0, 2, false}, {"to the least", 5, 0, math.MinInt64, false}, {"to the greatest", 5, 0, math.MaxInt64, false},
	} {
		want, place := slices.Clone(several()), int64(-1)
		if c.want {
			want, place = append(want, impl.Cell{Key: c.key, Value: c.value, Next: c.next}), 7
		}
		if got, at := impl.Fresh(several(), c.key, c.value, c.next); at != place || !slices.Equal(got, want) {
			t.Errorf("%s: Fresh(%d, %d, %d) = %v, %d", c.what, c.key, c.value, c.next, got, at)
		}
	}
}

func TestFreshUpToMaxCells(t *testing.T) {
	h := impl.NewHeap()
	for many := int64(1); many < 40; many++ {
		var at int64
		if h, at = impl.Fresh(h, many, -many, -1); at != many || len(h) != int(many)+1 || !impl.HeapOk(h) {
			t.Fatalf("into %d cells: %d, %v", many, at, h)
		}
	}
	for many := 38; many <= 40; many++ {
		for _, next := range []int64{-1, 39, 40} {
			checkFresh(t, linked(many), 3, 30, next)
		}
	}
	if got, at := impl.Fresh(linked(40), 50, 0, -1); at != -1 || !slices.Equal(got, linked(40)) {
		t.Fatalf("into MaxCells: %d, %v", at, got)
	}
	if got, at := impl.Fresh(linked(39), 50, 0, -1); at != 39 || len(got) != 40 || got[39].Gone {
		t.Fatalf("into MaxCells less 1: %d, %v", at, got)
	}
}

// wrongHeaps are each wrong in one thing.
func wrongHeaps() map[string][]impl.Cell {
	wrong := map[string][]impl.Cell{
		"nil": nil, "empty": {}, "room alone": several()[:0], "41 cells": linked(41), "1000 cells": linked(1000), "cell 0 cut off": several()[1:],
	}
	for name, spoilt := range map[string]impl.Cell{
		"Key -1": {Key: -1, Next: -1}, "Key past MaxKey": {Key: 65536, Next: -1}, "Next -2": {Key: 8, Next: -2}, "Next itself": {Key: 8, Next: 4},
		"Next smaller": {Key: 8, Next: 3}, "Next equal": {Key: 9, Next: 1}, "Next too many": {Key: 8, Next: 7}, "Key 0 again": {Key: 0, Next: -1},
		"least Key": {Key: math.MinInt64, Next: -1}, "greatest Next": {Key: 8, Next: math.MaxInt64}, "least Next": {Key: 8, Next: math.MinInt64},
		"Gone and Next equal": {Key: 9, Next: 1, Gone: true},
	} {
		wrong[name] = several()
		wrong[name][4] = spoilt
	}
	for name, spoilt := range map[string]impl.Cell{
		"cell 0 Gone": {Next: 3, Gone: true}, "cell 0 with Key 1": {Key: 1, Next: 3}, "cell 0 with Key -1": {Key: -1, Next: 3}, "cell 0 leads to itself": {Next: 0}, "cell 0 leads too far": {Next: 7},
	} {
		wrong[name] = several()
		wrong[name][0] = spoilt
	}
	return wrong
}

func TestWrongHeaps(t *testing.T) {
	for name, h := range wrongHeaps() {
		if impl.HeapOk(h) {
			t.Errorf("%s: HeapOk", name)
		}
		if got, at := impl.Fresh(h, 5, 50, -1); len(got) != 0 || at != -1 {
			t.Errorf("%s: Fresh = %v, %d", name, got, at)
		}
		for _, at := range around(h) {
			for _, next := range []int64{-2, -1, 0, 1, 2, 3, 5, int64(len(h)), math.MinInt64, math.MaxInt64} {
				if got, ok := impl.Swapped(h, at, next, -1); len(got) != 0 || ok {
					t.Fatalf("%s: Swapped(%d, %d, -1) = %v, %v", name, at, next, got, ok)
				}
				if got, ok := impl.Struck(h, at, next); len(got) != 0 || ok {
					t.Fatalf("%s: Struck(%d, %d) = %v, %v", name, at, next, got, ok)
				}
			}
		}
	}
	// A move that would mend a wrong heap is refused too.
	h := linked(3)
	h[1].Next = 1
	if got, ok := impl.Swapped(h, 1, 1, 2); len(got) != 0 || ok {
		t.Errorf("mended: %v, %v", got, ok)
	}
}

// heapMoves are the calls that answer a heap, done and refused, each on several().
var heapMoves = map[string]func([]impl.Cell) []impl.Cell{
	"Fresh":           func(h []impl.Cell) []impl.Cell { out, _ := impl.Fresh(h, 5, 50, 2); return out },
	"Fresh refused":   func(h []impl.Cell) []impl.Cell { out, _ := impl.Fresh(h, 0, 50, 2); return out },
	"Fresh too far":   func(h []impl.Cell) []impl.Cell { out, _ := impl.Fresh(h, 5, 50, 7); return out },
	"Swapped":         func(h []impl.Cell) []impl.Cell { out, _ := impl.Swapped(h, 0, 3, 6); return out },
	"Swapped not":     func(h []impl.Cell) []impl.Cell { out, _ := impl.Swapped(h, 0, 2, 6); return out },
	"Swapped refused": func(h []impl.Cell) []impl.Cell { out, _ := impl.Swapped(h, 3, 2, 3); return out },
	"Struck":          func(h []impl.Cell) []impl.Cell { out, _ := impl.Struck(h, 3, 2); return out },
	"Struck not":      func(h []impl.Cell) []impl.Cell { out, _ := impl.Struck(h, 3, 1); return out },
	"Struck refused":  func(h []impl.Cell) []impl.Cell { out, _ := impl.Struck(h, 0, 3); return out },
}

// wholeHeap reads cells with the room behind them.
func wholeHeap(h []impl.Cell) []impl.Cell { return slices.Clone(h[:cap(h)]) }

// spoilHeap writes over all cells and into the room behind them.
func spoilHeap(h []impl.Cell) {
	for i := range h[:cap(h)] {
		h[:cap(h)][i] = impl.Cell{Key: -spare, Value: -spare, Next: -spare, Gone: true}
	}
}

func TestHeapArgumentsStay(t *testing.T) {
	heaps := wrongHeaps()
	heaps["several"], heaps["one"], heaps["39"], heaps["40"] = several(), linked(1), linked(39), linked(40)
	for name, h := range heaps {
		before := wholeHeap(h)
		impl.HeapOk(h)
		for move, do := range heapMoves {
			do(h)
			if !slices.Equal(wholeHeap(h), before) {
				t.Fatalf("%s, %s: %v was %v", name, move, wholeHeap(h), before)
			}
		}
		for _, at := range around(h) {
			impl.Fresh(h, 3, at, -1)
			impl.Swapped(h, at, at+1, -1)
			impl.Struck(h, at, at+1)
		}
		if !slices.Equal(wholeHeap(h), before) {
			t.Fatalf("%s: %v was %v", name, wholeHeap(h), before)
		}
	}
}

func TestHeapAnswersAreNewMemory(t *testing.T) {
	for move, do := range heapMoves {
		given := several()
		before := wholeHeap(given)
		first, second := do(given), do(given)
		want := slices.Clone(second)
		spoilHeap(first)
		if !slices.Equal(wholeHeap(given), before) {
			t.Errorf("%s: a change of the answer changes what was given", move)
		}
		if !slices.Equal(second, want) {
			t.Errorf("%s: a change of the answer changes another one", move)
		}
		spoilHeap(given)
		if !slices.Equal(second, want) {
			t.Errorf("%s: the answer changes with what was given", move)
		}
	}
	first, second := impl.NewHeap(), impl.NewHeap()
	spoilHeap(first)
	if !slices.Equal(second, []impl.Cell{{Next: -1}}) || !slices.Equal(impl.NewHeap(), second) {
		t.Error("new heaps share memory")
	}
}

// TestTwoFreshOfOneAnswer: an answer may have room behind it, in which two that grow from it must not meet.
func TestTwoFreshOfOneAnswer(t *testing.T) {
	h := impl.NewHeap()
	for key := int64(1); key < 40; key++ {
		one, _ := impl.Fresh(h, key, 1, -1)
		two, _ := impl.Fresh(h, key, 2, -1)
		if one[key].Value != 1 || two[key].Value != 2 {
			t.Fatalf("cell %d: %v, %v", key, one[key], two[key])
		}
		h = one
	}
}
