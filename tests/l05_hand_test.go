package tests

import (
	"math"
	"slices"
	"testing"

	"loop.example/g00401/impl"
)

// newHand is a hand as NewHand tells it, made without it.
func newHand(kind, key, value int64) impl.Hand {
	return impl.Hand{Kind: kind, Key: key, Value: value, Left: -1, Here: -1, Own: -1}
}

// handAt is that hand at another step.
func handAt(w impl.Hand, step, left, here, own int64) impl.Hand {
	w.Step, w.Left, w.Here, w.Own = step, left, here, own
	return w
}

// handDone is that hand in SpDone.
func handDone(w impl.Hand, own, told int64) impl.Hand {
	w = handAt(w, impl.SpDone, -1, -1, own)
	w.Told = told
	return w
}

// meeting has Gone cells ahead of Key 5, with it and behind it in the Chain 0, 1, 2, 3, 4, 5, and outside it cells for each kind of Own, Left and Here.
func meeting() []impl.Cell {
	return roomy(
		impl.Cell{Key: 0, Next: 1},
		impl.Cell{Key: 2, Value: 20, Next: 2},
		impl.Cell{Key: 3, Value: 30, Next: 3, Gone: true},
		impl.Cell{Key: 5, Value: 50, Next: 4, Gone: true},
		impl.Cell{Key: 6, Value: 60, Next: 5, Gone: true},
		impl.Cell{Key: 8, Value: 80, Next: -1},
		impl.Cell{Key: 5, Value: 51, Next: 5},              // 6: may be the Own of one that puts 5 and 51
		impl.Cell{Key: 5, Value: 51, Next: 8, Gone: true},  // 7: the same, Gone
		impl.Cell{Key: 7, Value: 70, Next: -1, Gone: true}, // 8: Gone, greater
		impl.Cell{Key: 4, Value: 40, Next: 5, Gone: true},  // 9: Gone, lesser
		impl.Cell{Key: 4, Value: 41, Next: 5},              // 10: lesser, neither in the Chain nor Gone
		impl.Cell{Key: 9, Value: 90, Next: -1},             // 11: greater, neither in the Chain nor Gone
		impl.Cell{Key: 5, Value: 51, Next: -1},             // 12: may be an Own that leads nowhere
	)
}

// wantedStand says whether at is a cell in the Chain, or a Gone one.
func wantedStand(h []impl.Cell, at int64) bool {
	return at >= 0 && at < int64(len(h)) && (h[at].Gone || slices.Contains(wantedChain(h), at))
}

func wantedHere(h []impl.Cell, w impl.Hand) bool {
	if w.Here == -1 {
		return w.Step != impl.SpMark
	}
	if !wantedStand(h, w.Here) || w.Here == 0 {
		return false
	}
	key := h[w.Here].Key
	return !(w.Step == impl.SpAct && key < w.Key || w.Step == impl.SpLink && key <= w.Key || w.Step == impl.SpMark && key != w.Key)
}

func wantedOwn(h []impl.Cell, w impl.Hand) bool {
	if w.Own == -1 {
		return w.Step != impl.SpLink
	}
	if w.Kind != impl.HnPut || w.Own < 0 || w.Own >= int64(len(h)) || h[w.Own].Key != w.Key || h[w.Own].Value != w.Value {
		return false
	}
	if w.Step == impl.SpLink && h[w.Own].Next != w.Here {
		return false
	}
	return w.Step == impl.SpDone || !wantedStand(h, w.Own)
}

// wantedHand takes the words of the document one by one.
func wantedHand(h []impl.Cell, w impl.Hand) bool {
	resting := w.Step == 0 || w.Step == 5
	switch {
	case !wantedHeap(h), w.Kind < 1, w.Kind > 3, w.Key < 1, w.Key > 65535, w.Step < 0, w.Step > 5:
		return false
	case w.Step == 3 && w.Kind != 1, w.Step == 4 && w.Kind != 2:
		return false
	case w.Step < 5 && w.Told != 0, w.Step == 5 && w.Told != 1 && w.Told != 2:
		return false
	case resting && (w.Left != -1 || w.Here != -1):
		return false
	case !resting && (!wantedStand(h, w.Left) || h[w.Left].Key >= w.Key || !wantedHere(h, w)):
		return false
	}
	return wantedOwn(h, w)
}

func wantedWalk(h []impl.Cell, w impl.Hand) ([]impl.Cell, impl.Hand) {
	back := handAt(w, impl.SpStart, -1, -1, w.Own)
	if w.Here == -1 || !h[w.Here].Gone && h[w.Here].Key >= w.Key {
		return h, handAt(w, impl.SpAct, w.Left, w.Here, w.Own)
	}
	next := h[w.Here].Next
	if h[w.Here].Gone {
		out, done := wantedSwapped(h, w.Left, w.Here, next)
		if !done {
			return h, back
		}
		return out, handAt(w, impl.SpWalk, w.Left, next, w.Own)
	}
	left := w.Here
	if h[left].Gone { // the words ask it, though one that is Gone was met above
		return h, back
	}
	return h, handAt(w, impl.SpWalk, left, next, w.Own)
}

func wantedAct(h []impl.Cell, w impl.Hand) ([]impl.Cell, impl.Hand) {
	found := w.Here != -1 && h[w.Here].Key == w.Key
	yes, no := handDone(w, w.Own, 1), handDone(w, w.Own, 2)
	switch {
	case w.Kind == impl.HnLook && found:
		return h, yes
	case w.Kind == impl.HnLook, w.Kind == impl.HnPut && found, w.Kind == impl.HnTake && !found:
		return h, no
	case w.Kind == impl.HnTake:
		return h, handAt(w, impl.SpMark, w.Left, w.Here, -1)
	case w.Own != -1:
		out := slices.Clone(h)
		out[w.Own].Next = w.Here
		return out, handAt(w, impl.SpLink, w.Left, w.Here, w.Own)
	}
	out, own := wantedFresh(h, w.Key, w.Value, w.Here)
	if own == -1 {
		return h, no
	}
	return out, handAt(w, impl.SpLink, w.Left, w.Here, own)
}

// wantedMoved takes the words of the document step by step.
func wantedMoved(h []impl.Cell, w impl.Hand) ([]impl.Cell, impl.Hand) {
	if !wantedHand(h, w) {
		return nil, impl.Hand{}
	}
	var out []impl.Cell
	var done bool
	switch w.Step {
	case impl.SpStart:
		return h, handAt(w, impl.SpWalk, 0, h[0].Next, w.Own)
	case impl.SpWalk:
		return wantedWalk(h, w)
	case impl.SpAct:
		return wantedAct(h, w)
	case impl.SpLink:
		out, done = wantedSwapped(h, w.Left, w.Here, w.Own)
	case impl.SpMark:
		out, done = wantedStruck(h, w.Here, h[w.Here].Next)
	case impl.SpDone:
		return h, w
	}
	if !done {
		return h, handAt(w, impl.SpStart, -1, -1, w.Own)
	}
	return out, handDone(w, w.Own, 1)
}

// wantedAlone goes on by the model until the hand is done.
func wantedAlone(h []impl.Cell, w impl.Hand) ([]impl.Cell, impl.Hand) {
	h, w = wantedMoved(h, w)
	for moves := 1; moves < 400 && len(h) > 0 && w.Step != impl.SpDone; moves++ {
		h, w = wantedMoved(h, w)
	}
	return h, w
}

func checkMoved(t *testing.T, h []impl.Cell, w impl.Hand) {
	t.Helper()
	want, hand := wantedMoved(h, w)
	got, moved := impl.Moved(h, w)
	if moved != hand || !slices.Equal(got, want) {
		t.Fatalf("Moved(%v, %+v) = %v, %+v, want %v, %+v", h, w, got, moved, want, hand)
	}
	if len(got) > 0 && !impl.HandOk(got, moved) {
		t.Fatalf("Moved(%v, %+v) = %v, %+v, which is not HandOk", h, w, got, moved)
	}
}

func checkAlone(t *testing.T, h []impl.Cell, w impl.Hand) {
	t.Helper()
	want, hand := wantedAlone(h, w)
	if got, done := impl.Alone(h, w); done != hand || !slices.Equal(got, want) {
		t.Fatalf("Alone(%v, %+v) = %v, %+v, want %v, %+v", h, w, got, done, want, hand)
	}
}

// nearHands goes through all hands of these Kinds, Keys and Values whose other numbers lie near h, right or not.
func nearHands(h []impl.Cell, kinds, keys, values []int64, visit func(impl.Hand)) {
	last := int64(len(h))
	for _, kind := range kinds {
		for _, key := range keys {
			for _, value := range values {
				for step := int64(0); step <= 5; step++ {
					for left := int64(-1); left < last; left++ {
						for here := int64(-1); here < last; here++ {
							for own := int64(-1); own < last; own++ {
								w := handAt(newHand(kind, key, value), step, left, here, own)
								if w.Step == impl.SpDone {
									w.Told = 1 + (left+here+own+3)%2
								}
								visit(w)
							}
						}
					}
				}
			}
		}
	}
}

// crossings are all heaps of 4 cells with these Keys, Nexts and flags; Value 0 everywhere.
func crossings(visit func([]impl.Cell)) {
	var others []impl.Cell
	for _, key := range []int64{1, 2, 3} {
		for next := int64(-1); next <= 3; next++ {
			others = append(others, impl.Cell{Key: key, Next: next}, impl.Cell{Key: key, Next: next, Gone: true})
		}
	}
	for first := int64(-1); first <= 3; first++ {
		for _, a := range others {
			for _, b := range others {
				for _, c := range others {
					if h := []impl.Cell{{Next: first}, a, b, c}; wantedHeap(h) {
						visit(h)
					}
				}
			}
		}
	}
}

func TestNewHand(t *testing.T) {
	for _, value := range []int64{0, 1, -1, 50, 65536, math.MinInt64, math.MaxInt64} {
		for _, kind := range append([]int64{0, 1, 2, 3, 4}, outside...) {
			for _, key := range append([]int64{0, 1, 2, 5, 65534, 65535, 65536}, outside...) {
				want, right := impl.Hand{}, kind >= 1 && kind <= 3 && key >= 1 && key <= 65535
				if right {
					want = newHand(kind, key, value)
				}
				got, ok := impl.NewHand(kind, key, value)
				if got != want || ok != right {
					t.Fatalf("NewHand(%d, %d, %d) = %+v, %v", kind, key, value, got, ok)
				}
				for _, h := range [][]impl.Cell{impl.NewHeap(), meeting(), linked(40)} {
					if impl.HandOk(h, got) != right {
						t.Fatalf("%+v at %v: HandOk is not %v", got, h, right)
					}
				}
			}
		}
	}
	if impl.HandOk(impl.NewHeap(), impl.Hand{}) {
		t.Error("the zero Hand is HandOk")
	}
}

func TestHandOkKindKeyStepTold(t *testing.T) {
	put, take, look := newHand(impl.HnPut, 5, 51), newHand(impl.HnTake, 5, 0), newHand(impl.HnLook, 5, 0)
	with := func(w impl.Hand, change func(*impl.Hand)) impl.Hand { change(&w); return w }
	for _, c := range []struct {
		what string
		hand impl.Hand
		want bool
	}{
		{"Kind 0", newHand(0, 5, 51), false}, {"Kind 1", put, true}, {"Kind 3", look, true}, {"Kind 4", newHand(4, 5, 51), false},
		{"Key -1", newHand(1, -1, 0), false}, {"Key 0", newHand(1, 0, 0), false}, {"Key 1", newHand(1, 1, 0), true}, {"MaxKey", newHand(3, 65535, 0), true}, {"past MaxKey", newHand(3, 65536, 0), false},
		{"Step -1", handAt(put, -1, -1, -1, -1), false}, {"Step -1, walking", handAt(put, -1, 0, -1, -1), false},
		{"Step 6", handAt(put, 6, -1, -1, -1), false}, {"Step 6, told", with(handDone(put, -1, 1), func(w *impl.Hand) { w.Step = 6 }), false}, {"Step 6, walking", handAt(put, 6, 0, -1, -1), false},
		{"SpDone, Told -1", handDone(look, -1, -1), false}, {"SpDone, Told 0", handDone(look, -1, 0), false}, {"SpDone, yes", handDone(look, -1, 1), true}, {"SpDone, no", handDone(look, -1, 2), true}, {"SpDone, Told 3", handDone(look, -1, 3), false},
		{"SpLink of HnPut", handAt(put, impl.SpLink, 1, 5, 6), true}, {"SpLink of HnTake", handAt(take, impl.SpLink, 1, 5, -1), false}, {"SpLink of HnLook", handAt(look, impl.SpLink, 1, 5, -1), false},
		{"SpMark of HnTake", handAt(take, impl.SpMark, 1, 3, -1), true}, {"SpMark of HnPut", handAt(put, impl.SpMark, 1, 3, -1), false}, {"SpMark of HnLook", handAt(look, impl.SpMark, 1, 3, -1), false},
	} {
		if got := impl.HandOk(meeting(), c.hand); got != c.want {
			t.Errorf("%s: HandOk(%+v) = %v", c.what, c.hand, got)
		}
	}
	for _, w := range []impl.Hand{put, handAt(put, impl.SpWalk, 1, 2, -1), handAt(look, impl.SpAct, 1, 5, -1), handAt(put, impl.SpLink, 1, 5, 6), handAt(take, impl.SpMark, 1, 3, -1)} {
		for _, told := range append([]int64{0, 1, 2, 3}, outside...) {
			w.Told = told
			if got := impl.HandOk(meeting(), w); got != (told == 0) {
				t.Errorf("Told before SpDone: HandOk(%+v) = %v", w, got)
			}
		}
	}
}

// TestHandOkPlaces is Left and Here of Key 5 at every cell of meeting and around it, by what each of them is there.
func TestHandOkPlaces(t *testing.T) {
	h := meeting()
	lefts := []int64{0, 1, 2, 9}
	heres := map[int64][]int64{
		impl.SpWalk: {-1, 1, 2, 3, 4, 5, 7, 8, 9},
		impl.SpAct:  {-1, 3, 4, 5, 7, 8},
		impl.SpMark: {3, 7},
		impl.SpLink: {-1, 4, 5, 8},
	}
	for step := int64(0); step <= 5; step++ {
		resting := step == impl.SpStart || step == impl.SpDone
		for _, left := range around(h) {
			for _, here := range around(h) {
				w := handAt(newHand(impl.HnTake, 5, 0), step, left, here, -1)
				if resting {
					w.Told = step / 5
				}
				given := h
				if step == impl.SpLink {
					w.Kind, w.Value, w.Own = impl.HnPut, 51, 12
					given = meeting()
					if slices.Contains(heres[step], here) {
						given[12].Next = here
					}
				}
				want := slices.Contains(lefts, left) && slices.Contains(heres[step], here)
				if resting {
					want = left == -1 && here == -1
				}
				if got := impl.HandOk(given, w); got != want {
					t.Errorf("HandOk(%+v) = %v", w, got)
				}
			}
		}
	}
}

// TestHandOkOwn is the Own of one that puts 5 and 51, at every cell of meeting and around it.
func TestHandOkOwn(t *testing.T) {
	linkedIn := meeting() // here cell 6 is in the Chain
	linkedIn[1].Next = 6
	for _, c := range []struct {
		what string
		heap []impl.Cell
		hand impl.Hand
		owns []int64
	}{
		{"SpStart", meeting(), handAt(newHand(1, 5, 51), impl.SpStart, -1, -1, -1), []int64{-1, 6, 12}},
		{"SpWalk", meeting(), handAt(newHand(1, 5, 51), impl.SpWalk, 1, 2, -1), []int64{-1, 6, 12}},
		{"SpAct", meeting(), handAt(newHand(1, 5, 51), impl.SpAct, 1, 5, -1), []int64{-1, 6, 12}},
		{"SpLink to 5", meeting(), handAt(newHand(1, 5, 51), impl.SpLink, 1, 5, -1), []int64{6}},
		{"SpLink to none", meeting(), handAt(newHand(1, 5, 51), impl.SpLink, 1, -1, -1), []int64{12}},
		{"SpLink to another", meeting(), handAt(newHand(1, 5, 51), impl.SpLink, 1, 4, -1), nil},
		{"SpDone", meeting(), handDone(newHand(1, 5, 51), -1, 1), []int64{-1, 6, 7, 12}},
		{"SpDone, no", meeting(), handDone(newHand(1, 5, 51), -1, 2), []int64{-1, 6, 7, 12}},
		{"in the Chain", linkedIn, handAt(newHand(1, 5, 51), impl.SpWalk, 1, 6, -1), []int64{-1, 12}},
		{"in the Chain, SpLink", linkedIn, handAt(newHand(1, 5, 51), impl.SpLink, 1, 5, -1), nil},
		{"in the Chain, SpDone", linkedIn, handDone(newHand(1, 5, 51), -1, 1), []int64{-1, 6, 7, 12}},
		{"another Value", meeting(), handAt(newHand(1, 5, 52), impl.SpWalk, 1, 2, -1), []int64{-1}},
		{"another Value, SpDone", meeting(), handDone(newHand(1, 5, 52), -1, 1), []int64{-1}},
		{"another Key", meeting(), handAt(newHand(1, 7, 51), impl.SpWalk, 1, 2, -1), []int64{-1}},
		{"another Key, SpDone", meeting(), handDone(newHand(1, 7, 51), -1, 1), []int64{-1}},
		{"HnTake", meeting(), handAt(newHand(2, 5, 51), impl.SpWalk, 1, 2, -1), []int64{-1}},
		{"HnTake, SpMark", meeting(), handAt(newHand(2, 5, 51), impl.SpMark, 1, 3, -1), []int64{-1}},
		{"HnLook, SpDone", meeting(), handDone(newHand(3, 5, 51), -1, 1), []int64{-1}},
	} {
		for _, own := range around(c.heap) {
			w := c.hand
			w.Own = own
			if got, want := impl.HandOk(c.heap, w), slices.Contains(c.owns, own); got != want {
				t.Errorf("%s: Own %d: HandOk = %v", c.what, own, got)
			}
		}
	}
}

// TestHandOkSmall is HandOk at every list of up to 3 cells: one hand where it is no heap, all hands near it where it is one.
func TestHandOkSmall(t *testing.T) {
	right := 0
	smallHeaps(func(h []impl.Cell) {
		if !wantedHeap(h) {
			if impl.HandOk(h, newHand(impl.HnLook, 1, 0)) {
				t.Fatalf("no heap, but HandOk: %v", h)
			}
			return
		}
		nearHands(h, []int64{0, 1, 2, 3, 4}, []int64{0, 1, 2, 3}, []int64{-1, -5}, func(w impl.Hand) {
			want := wantedHand(h, w)
			if got := impl.HandOk(h, w); got != want {
				t.Fatalf("HandOk(%v, %+v) = %v", h, w, got)
			}
			if want {
				right++
			}
		})
	})
	if right < 1000 {
		t.Fatalf("%d right hands", right)
	}
}

// TestMovedSmall is each move of each Kind, and what comes of it Alone, at the small heaps of up to 3 cells, and of Key 2 at all crossings (Alone there in SpWalk and SpLink).
func TestMovedSmall(t *testing.T) {
	var right [4][6]int
	smallHeaps(func(h []impl.Cell) {
		if wantedHeap(h) {
			nearHands(h, []int64{1, 2, 3}, []int64{1, 2, 3}, []int64{-1, -5}, func(w impl.Hand) {
				checkMoved(t, h, w)
				checkAlone(t, h, w)
			})
		}
	})
	crossings(func(h []impl.Cell) {
		nearHands(h, []int64{1, 2, 3}, []int64{2}, []int64{0}, func(w impl.Hand) {
			if !wantedHand(h, w) {
				return
			}
			right[w.Kind][w.Step]++
			checkMoved(t, h, w)
			if w.Step == impl.SpWalk || w.Step == impl.SpLink {
				checkAlone(t, h, w)
			}
		})
	})
	for kind := 1; kind <= 3; kind++ {
		for step, many := range right[kind] {
			if never := step == impl.SpLink && kind != impl.HnPut || step == impl.SpMark && kind != impl.HnTake; (many == 0) != never {
				t.Errorf("Kind %d, Step %d: %d hands", kind, step, many)
			}
		}
	}
}

// move is one small move at meeting, with cells changed ahead of it (set) and by it (becomes).
type move struct {
	what    string
	set     map[int]impl.Cell
	hand    impl.Hand
	moved   impl.Hand
	becomes map[int]impl.Cell
}

func (m move) check(t *testing.T) {
	t.Helper()
	h := meeting()
	for at, c := range m.set {
		h[at] = c
	}
	want := slices.Clone(h)
	for at, c := range m.becomes {
		if at == len(want) {
			want = append(want, c)
		}
		want[at] = c
	}
	if got, moved := impl.Moved(h, m.hand); moved != m.moved || !slices.Equal(got, want) {
		t.Errorf("%s: Moved(%+v) = %v, %+v, want %v, %+v", m.what, m.hand, got, moved, want, m.moved)
	}
}

func TestMovedFromStart(t *testing.T) {
	for kind := int64(1); kind <= 3; kind++ {
		w := newHand(kind, 5, 51)
		move{"from the start", nil, w, handAt(w, impl.SpWalk, 0, 1, -1), nil}.check(t)
		h, moved := impl.Moved(impl.NewHeap(), w)
		if moved != handAt(w, impl.SpWalk, 0, -1, -1) || !slices.Equal(h, impl.NewHeap()) {
			t.Errorf("cell 0 alone: %v, %+v", h, moved)
		}
	}
	w := handAt(newHand(impl.HnPut, 5, 51), impl.SpStart, -1, -1, 6)
	move{"with an Own", nil, w, handAt(w, impl.SpWalk, 0, 1, 6), nil}.check(t)
}

func TestMovedInWalk(t *testing.T) {
	for kind := int64(1); kind <= 3; kind++ {
		w := newHand(kind, 5, 51)
		at := func(step, left, here int64) impl.Hand { return handAt(w, step, left, here, -1) }
		cut := map[int]impl.Cell{1: {Key: 2, Value: 20, Next: 3}}
		for _, m := range []move{
			{"at the end", nil, at(impl.SpWalk, 1, -1), at(impl.SpAct, 1, -1), nil},
			{"at the end, Left Gone", nil, at(impl.SpWalk, 9, -1), at(impl.SpAct, 9, -1), nil},
			{"at a greater Key", nil, at(impl.SpWalk, 1, 5), at(impl.SpAct, 1, 5), nil},
			{"at a greater Key, Left Gone", nil, at(impl.SpWalk, 2, 5), at(impl.SpAct, 2, 5), nil},
			{"at that Key", map[int]impl.Cell{3: {Key: 5, Value: 50, Next: 4}}, at(impl.SpWalk, 1, 3), at(impl.SpAct, 1, 3), nil},
			{"on from cell 0", nil, at(impl.SpWalk, 0, 1), at(impl.SpWalk, 1, 2), nil},
			{"on to one that is Gone", map[int]impl.Cell{0: {Next: 2}, 2: {Key: 3, Next: 3}}, at(impl.SpWalk, 0, 2), at(impl.SpWalk, 2, 3), nil},
			{"on to the end", map[int]impl.Cell{1: {Key: 2, Next: -1}}, at(impl.SpWalk, 0, 1), at(impl.SpWalk, 1, -1), nil},
			{"on from a Left that is Gone and outside", nil, at(impl.SpWalk, 9, 1), at(impl.SpWalk, 1, 2), nil},
			{"on from a Left that is Gone and leads there", map[int]impl.Cell{1: {Key: 2, Next: 2, Gone: true}, 2: {Key: 3, Next: 3}}, at(impl.SpWalk, 1, 2), at(impl.SpWalk, 2, 3), nil},
			{"on from a Left that is Gone to the end", map[int]impl.Cell{1: {Key: 2, Next: -1}}, at(impl.SpWalk, 9, 1), at(impl.SpWalk, 1, -1), nil},
			{"a Left that leads elsewhere, Here lesser", map[int]impl.Cell{2: {Key: 3, Next: 3}}, at(impl.SpWalk, 0, 2), at(impl.SpWalk, 2, 3), nil},
			{"Here is Gone, lesser", nil, at(impl.SpWalk, 1, 2), at(impl.SpWalk, 1, 3), cut},
			{"Here is Gone, that Key", cut, at(impl.SpWalk, 1, 3), at(impl.SpWalk, 1, 4), map[int]impl.Cell{1: {Key: 2, Value: 20, Next: 4}}},
			{"Here is Gone, greater", map[int]impl.Cell{1: {Key: 2, Next: 4}}, at(impl.SpWalk, 1, 4), at(impl.SpWalk, 1, 5), map[int]impl.Cell{1: {Key: 2, Next: 5}}},
			{"Here is Gone and the last", map[int]impl.Cell{0: {Next: 8}}, at(impl.SpWalk, 0, 8), at(impl.SpWalk, 0, -1), map[int]impl.Cell{0: {Next: -1}}},
			{"Here is Gone, Left too", nil, at(impl.SpWalk, 2, 3), at(impl.SpStart, -1, -1), nil},
			{"Here is Gone, Left leads elsewhere", nil, at(impl.SpWalk, 1, 3), at(impl.SpStart, -1, -1), nil},
			{"Here is Gone and outside, Left leads elsewhere", nil, at(impl.SpWalk, 0, 9), at(impl.SpStart, -1, -1), nil},
		} {
			m.check(t)
		}
	}
	w := handAt(newHand(impl.HnPut, 5, 51), impl.SpWalk, 2, 3, 6)
	move{"back, with an Own", nil, w, handAt(w, impl.SpStart, -1, -1, 6), nil}.check(t)
	w = handAt(newHand(impl.HnPut, 5, 51), impl.SpWalk, 9, 1, 6)
	move{"on from a Left that is Gone, with an Own", nil, w, handAt(w, impl.SpWalk, 1, 2, 6), nil}.check(t)
}

func TestMovedInAct(t *testing.T) {
	put, take, look := newHand(impl.HnPut, 5, 51), newHand(impl.HnTake, 5, 0), newHand(impl.HnLook, 5, 0)
	there := map[int]impl.Cell{3: {Key: 5, Value: 50, Next: 4}}
	fresh := func(next int64) map[int]impl.Cell { return map[int]impl.Cell{13: {Key: 5, Value: 51, Next: next}} }
	for _, m := range []move{
		{"look, found", there, handAt(look, impl.SpAct, 1, 3, -1), handDone(look, -1, 1), nil},
		{"look, found, Gone by now", nil, handAt(look, impl.SpAct, 1, 3, -1), handDone(look, -1, 1), nil},
		{"look, another", nil, handAt(look, impl.SpAct, 1, 5, -1), handDone(look, -1, 2), nil},
		{"look, none", nil, handAt(look, impl.SpAct, 1, -1, -1), handDone(look, -1, 2), nil},
		{"take, found", there, handAt(take, impl.SpAct, 1, 3, -1), handAt(take, impl.SpMark, 1, 3, -1), nil},
		{"take, found, Gone by now", nil, handAt(take, impl.SpAct, 2, 3, -1), handAt(take, impl.SpMark, 2, 3, -1), nil},
		{"take, another", nil, handAt(take, impl.SpAct, 1, 5, -1), handDone(take, -1, 2), nil},
		{"take, none", nil, handAt(take, impl.SpAct, 1, -1, -1), handDone(take, -1, 2), nil},
		{"put, found", there, handAt(put, impl.SpAct, 1, 3, -1), handDone(put, -1, 2), nil},
		{"put, found, Gone by now", nil, handAt(put, impl.SpAct, 1, 3, -1), handDone(put, -1, 2), nil},
		{"put, found, with an Own", nil, handAt(put, impl.SpAct, 1, 3, 6), handDone(put, 6, 2), nil},
		{"put, another", nil, handAt(put, impl.SpAct, 1, 5, -1), handAt(put, impl.SpLink, 1, 5, 13), fresh(5)},
		{"put, another, Gone by now", nil, handAt(put, impl.SpAct, 2, 4, -1), handAt(put, impl.SpLink, 2, 4, 13), fresh(4)},
		{"put, none", nil, handAt(put, impl.SpAct, 0, -1, -1), handAt(put, impl.SpLink, 0, -1, 13), fresh(-1)},
		{"put, an Own that leads there", nil, handAt(put, impl.SpAct, 1, 5, 6), handAt(put, impl.SpLink, 1, 5, 6), nil},
		{"put, an Own that leads elsewhere", nil, handAt(put, impl.SpAct, 1, 8, 6), handAt(put, impl.SpLink, 1, 8, 6), map[int]impl.Cell{6: {Key: 5, Value: 51, Next: 8}}},
		{"put, an Own that leads nowhere", nil, handAt(put, impl.SpAct, 1, 5, 12), handAt(put, impl.SpLink, 1, 5, 12), map[int]impl.Cell{12: {Key: 5, Value: 51, Next: 5}}},
		{"put, an Own, none", nil, handAt(put, impl.SpAct, 1, -1, 6), handAt(put, impl.SpLink, 1, -1, 6), map[int]impl.Cell{6: {Key: 5, Value: 51, Next: -1}}},
	} {
		m.check(t)
	}
}

func TestMovedInLinkMarkDone(t *testing.T) {
	put, take := newHand(impl.HnPut, 5, 51), newHand(impl.HnTake, 5, 0)
	leadsTo := func(next int64) map[int]impl.Cell {
		return map[int]impl.Cell{1: {Key: 2, Value: 20, Next: next}}
	}
	there := map[int]impl.Cell{3: {Key: 5, Value: 50, Next: 4}}
	for _, m := range []move{
		{"linked", leadsTo(5), handAt(put, impl.SpLink, 1, 5, 6), handDone(put, 6, 1), leadsTo(6)},
		{"linked at the end", leadsTo(-1), handAt(put, impl.SpLink, 1, -1, 12), handDone(put, 12, 1), leadsTo(12)},
		{"linked ahead of one that is Gone by now", map[int]impl.Cell{1: {Key: 2, Value: 20, Next: 4}, 6: {Key: 5, Value: 51, Next: 4}}, handAt(put, impl.SpLink, 1, 4, 6), handDone(put, 6, 1), leadsTo(6)},
		{"Left leads elsewhere", nil, handAt(put, impl.SpLink, 1, 5, 6), handAt(put, impl.SpStart, -1, -1, 6), nil},
		{"Left leads elsewhere, not to the end", nil, handAt(put, impl.SpLink, 1, -1, 12), handAt(put, impl.SpStart, -1, -1, 12), nil},
		{"Left is Gone", nil, handAt(put, impl.SpLink, 9, 5, 6), handAt(put, impl.SpStart, -1, -1, 6), nil},
		{"struck", there, handAt(take, impl.SpMark, 2, 3, -1), handDone(take, -1, 1), map[int]impl.Cell{3: {Key: 5, Value: 50, Next: 4, Gone: true}}},
		{"struck, Left leads elsewhere", there, handAt(take, impl.SpMark, 0, 3, -1), handDone(take, -1, 1), map[int]impl.Cell{3: {Key: 5, Value: 50, Next: 4, Gone: true}}},
		{"struck, the last", map[int]impl.Cell{3: {Key: 5, Value: 50, Next: -1}}, handAt(take, impl.SpMark, 1, 3, -1), handDone(take, -1, 1), map[int]impl.Cell{3: {Key: 5, Value: 50, Next: -1, Gone: true}}},
		{"Gone ahead of the mark", nil, handAt(take, impl.SpMark, 1, 3, -1), handAt(take, impl.SpStart, -1, -1, -1), nil},
		{"Gone and out of the Chain ahead of the mark", nil, handAt(take, impl.SpMark, 1, 7, -1), handAt(take, impl.SpStart, -1, -1, -1), nil},
		{"done", nil, handDone(put, 6, 1), handDone(put, 6, 1), nil},
		{"done, the Own Gone by now", nil, handDone(put, 7, 1), handDone(put, 7, 1), nil},
		{"done, no", nil, handDone(take, -1, 2), handDone(take, -1, 2), nil},
		{"done, looked", nil, handDone(newHand(impl.HnLook, 5, 9), -1, 1), handDone(newHand(impl.HnLook, 5, 9), -1, 1), nil},
	} {
		m.check(t)
	}
}

// TestNoRoomForAnOwn: in MaxCells cells nothing is put but by a hand that has its Own already.
func TestNoRoomForAnOwn(t *testing.T) {
	for many := 38; many <= 40; many++ {
		h := linked(many)
		w := handAt(newHand(impl.HnPut, 65535, 7), impl.SpAct, int64(many-1), -1, -1)
		want, hand := append(slices.Clone(h), impl.Cell{Key: 65535, Value: 7, Next: -1}), handAt(w, impl.SpLink, w.Left, -1, int64(many))
		if many == 40 {
			want, hand = linked(40), handDone(w, -1, 2)
		}
		if got, moved := impl.Moved(h, w); moved != hand || !slices.Equal(got, want) {
			t.Errorf("%d cells: Moved = %v, %+v", many, got, moved)
		}
		h, w = impl.Alone(linked(many), newHand(impl.HnPut, 65535, 7))
		if _, is := impl.ValueAt(h, 65535); is != (many < 40) || w.Told != 1+int64(many)/40 || len(h) != min(many+1, 40) {
			t.Errorf("%d cells: Alone = %v, %+v", many, h, w)
		}
	}
	h := linked(40) // cell 39 is out of the Chain: an Own
	h[38].Next = -1
	got, w := impl.Alone(h, handAt(newHand(impl.HnPut, 39, 139), impl.SpStart, -1, -1, 39))
	if w != handDone(newHand(impl.HnPut, 39, 139), 39, 1) || !slices.Equal(got, linked(40)) {
		t.Errorf("with an Own in MaxCells: %v, %+v", got, w)
	}
	got, w = impl.Alone(linked(40), newHand(impl.HnPut, 39, 7))
	if w != handDone(newHand(impl.HnPut, 39, 7), -1, 2) || !slices.Equal(got, linked(40)) {
		t.Errorf("what is there, in MaxCells: %v, %+v", got, w)
	}
}

// checkPromise is promise 5, held against the answers of chapter 4 alone.
func checkPromise(t *testing.T, h []impl.Cell, kind, key, value int64) {
	t.Helper()
	w, ok := impl.NewHand(kind, key, value)
	got, done := impl.Alone(h, w)
	if !ok || !impl.HeapOk(got) || !impl.HandOk(got, done) || done.Step != impl.SpDone {
		t.Fatalf("Alone(%v, %+v) = %v, %+v", h, w, got, done)
	}
	before, held := impl.Living(h), int64(0)
	place, is := slices.BinarySearch(before, key)
	want, told := slices.Clone(before), int64(2)
	switch {
	case kind == impl.HnPut && !is && len(h) < 40:
		want, told, held = slices.Insert(want, place, key), 1, value
	case kind == impl.HnTake && is:
		want, told = slices.Delete(want, place, place+1), 1
	case kind == impl.HnLook && is:
		told = 1
	}
	if living := impl.Living(got); done.Told != told || !slices.Equal(living, want) {
		t.Fatalf("Alone(%v, %+v): Told %d, Living %v, want %d, %v", h, w, done.Told, living, told, want)
	}
	if v, _ := impl.ValueAt(got, key); told == 1 && kind != impl.HnLook && v != held {
		t.Fatalf("Alone(%v, %+v): ValueAt = %d, want %d", h, w, v, held)
	}
	for _, other := range before {
		old, _ := impl.ValueAt(h, other)
		if v, _ := impl.ValueAt(got, other); v != old && !(other == key && kind == impl.HnTake) {
			t.Fatalf("Alone(%v, %+v): ValueAt(%d) = %d, was %d", h, w, other, v, old)
		}
	}
}

// TestAloneOfGivenHeaps is promise 5 where Gone cells stand ahead of the Key, behind it and with that very Key.
func TestAloneOfGivenHeaps(t *testing.T) {
	both := meeting() // in the Chain 2, 5 and 8 live, and between them 3 and 6 are Gone
	both[3].Gone = false
	heaps := [][]impl.Cell{
		impl.NewHeap(), meeting(), both, several(), linked(2), linked(39), linked(40), backward(12), backward(40),
		struckAll(linked(2)), struckAll(linked(39)), struckAll(linked(40)), struckAll(backward(39)), struckAll(meeting()),
	}
	for _, h := range heaps {
		for _, key := range askedKeys(h) {
			if key >= 1 && key <= 65535 {
				for kind := int64(1); kind <= 3; kind++ {
					for _, value := range []int64{0, 77, math.MinInt64, math.MaxInt64} {
						checkPromise(t, h, kind, key, value)
						checkAlone(t, h, newHand(kind, key, value))
					}
				}
			}
		}
	}
}

// TestAloneOfManyHeaps is promise 5 on heaps of every size, and counts how Gone cells stood in the way.
func TestAloneOfManyHeaps(t *testing.T) {
	var ahead, same, behind, living, missing int
	for many := 1; many <= 40; many++ {
		for seed := range uint64(12) {
			h := shuffled(many, seed*53+uint64(many))
			for key := int64(1); key <= int64(3*many)+1; key++ {
				for kind := int64(1); kind <= 3; kind++ {
					checkPromise(t, h, kind, key, 100+key)
				}
				if _, is := impl.ValueAt(h, key); is {
					living++
				} else {
					missing++
				}
				for _, at := range impl.Chain(h) {
					switch c := h[at]; {
					case c.Gone && c.Key < key:
						ahead++
					case c.Gone && c.Key == key:
						same++
					case c.Gone:
						behind++
					}
				}
			}
		}
	}
	if min(ahead, same, behind, living, missing) < 300 {
		t.Fatalf("Gone cells ahead %d, with that Key %d, behind %d; Living %d, not %d", ahead, same, behind, living, missing)
	}
}

// TestAloneOfMeeting tells the whole heap: what is Gone on the way is taken out of the Chain.
func TestAloneOfMeeting(t *testing.T) {
	cut, put := meeting()[:13:13], meeting()[:13:13]
	cut[1].Next = 5
	put[1].Next = 13
	put = append(put, impl.Cell{Key: 5, Value: 51, Next: 5})
	struck := meeting()
	struck[0].Next = 1
	struck[1].Gone = true
	for _, c := range []struct {
		hand, done impl.Hand
		want       []impl.Cell
	}{
		{newHand(impl.HnPut, 5, 51), handDone(newHand(impl.HnPut, 5, 51), 13, 1), put},
		{newHand(impl.HnTake, 5, 0), handDone(newHand(impl.HnTake, 5, 0), -1, 2), cut},
		{newHand(impl.HnLook, 5, 0), handDone(newHand(impl.HnLook, 5, 0), -1, 2), cut},
		{newHand(impl.HnLook, 8, 0), handDone(newHand(impl.HnLook, 8, 0), -1, 1), cut},
		{newHand(impl.HnTake, 2, 0), handDone(newHand(impl.HnTake, 2, 0), -1, 1), struck},
		{newHand(impl.HnPut, 2, 9), handDone(newHand(impl.HnPut, 2, 9), -1, 2), meeting()},
		{newHand(impl.HnLook, 1, 0), handDone(newHand(impl.HnLook, 1, 0), -1, 2), meeting()},
	} {
		if got, done := impl.Alone(meeting(), c.hand); done != c.done || !slices.Equal(got, c.want) {
			t.Errorf("Alone(%+v) = %v, %+v, want %v, %+v", c.hand, got, done, c.want, c.done)
		}
	}
}

// TestAloneFromAGoneLeft: a hand whose Left was struck goes on from where it is, so the Gone cell behind it stays in the Chain; only what must swap at that Left begins again.
func TestAloneFromAGoneLeft(t *testing.T) {
	first, last := impl.Cell{Next: 1}, impl.Cell{Key: 7, Value: 70, Next: -1}
	gone, mid := impl.Cell{Key: 1, Value: 10, Next: 2, Gone: true}, impl.Cell{Key: 3, Value: 30, Next: 3}
	struck, led := impl.Cell{Key: 3, Value: 30, Next: 3, Gone: true}, impl.Cell{Key: 3, Value: 30, Next: 4}
	fresh := impl.Cell{Key: 5, Value: 50, Next: 3}
	for _, c := range []struct {
		what string
		hand impl.Hand
		own  int64
		told int64
		want []impl.Cell
	}{
		{"looks, there", handAt(newHand(impl.HnLook, 7, 0), impl.SpWalk, 1, 2, -1), -1, 1, []impl.Cell{first, gone, mid, last}},
		{"looks, not there", handAt(newHand(impl.HnLook, 5, 0), impl.SpWalk, 1, 2, -1), -1, 2, []impl.Cell{first, gone, mid, last}},
		{"puts, not there", handAt(newHand(impl.HnPut, 5, 50), impl.SpWalk, 1, 2, -1), 4, 1, []impl.Cell{first, gone, led, last, fresh}},
		{"puts, there", handAt(newHand(impl.HnPut, 7, 0), impl.SpWalk, 1, 2, -1), -1, 2, []impl.Cell{first, gone, mid, last}},
		{"takes, there", handAt(newHand(impl.HnTake, 7, 0), impl.SpWalk, 1, 2, -1), -1, 1, []impl.Cell{first, gone, mid, {Key: 7, Value: 70, Next: -1, Gone: true}}},
		{"takes, not there", handAt(newHand(impl.HnTake, 5, 0), impl.SpWalk, 1, 2, -1), -1, 2, []impl.Cell{first, gone, mid, last}},
		{"takes what it looks at", handAt(newHand(impl.HnTake, 3, 0), impl.SpWalk, 1, 2, -1), -1, 1, []impl.Cell{first, gone, struck, last}},
		{"puts ahead of what it looks at", handAt(newHand(impl.HnPut, 2, 20), impl.SpWalk, 1, 2, -1), 4, 1, []impl.Cell{{Next: 4}, gone, mid, last, {Key: 2, Value: 20, Next: 2}}},
	} {
		h := []impl.Cell{first, gone, mid, last}
		if !impl.HandOk(h, c.hand) {
			t.Errorf("%s: not HandOk", c.what)
		}
		if got, done := impl.Alone(h, c.hand); done != handDone(c.hand, c.own, c.told) || !slices.Equal(got, c.want) {
			t.Errorf("%s: Alone = %v, %+v, want %v", c.what, got, done, c.want)
		}
	}
}

// TestAloneFromEachStep: Alone is Moved again and again, from wherever the hand is.
func TestAloneFromEachStep(t *testing.T) {
	for _, h := range [][]impl.Cell{meeting(), linked(40), struckAll(linked(40)), struckAll(backward(39)), several()} {
		for kind := int64(1); kind <= 3; kind++ {
			for _, key := range []int64{1, 2, 5, 6, 39, 40, 65535} {
				heap, w := h, newHand(kind, key, 51)
				for steps := 0; w.Step != impl.SpDone; steps++ {
					checkAlone(t, heap, w)
					checkMoved(t, heap, w)
					if heap, w = impl.Moved(heap, w); steps > 100 || len(heap) == 0 {
						t.Fatalf("Kind %d, Key %d: not done in %d moves: %v, %+v", kind, key, steps, heap, w)
					}
				}
				got, done := impl.Alone(h, newHand(kind, key, 51))
				if done != w || !slices.Equal(got, heap) {
					t.Fatalf("Kind %d, Key %d: Alone = %v, %+v, Moved %v, %+v", kind, key, got, done, heap, w)
				}
			}
		}
	}
	w := handDone(newHand(impl.HnPut, 5, 51), 6, 2)
	if got, done := impl.Alone(meeting(), w); done != w || !slices.Equal(got, meeting()) {
		t.Errorf("done already: %v, %+v", got, done)
	}
}

// TestTwoInOnesWay: a hand that comes second goes back, uses its Own again, and tells what is so then.
func TestTwoInOnesWay(t *testing.T) {
	h, first, second := impl.NewHeap(), newHand(impl.HnPut, 4, 40), newHand(impl.HnPut, 6, 60)
	for range 3 {
		h, first = impl.Moved(h, first)
		h, second = impl.Moved(h, second)
	}
	h, first = impl.Moved(h, first)
	h, second = impl.Moved(h, second)
	if first.Told != 1 || second != handAt(newHand(impl.HnPut, 6, 60), impl.SpStart, -1, -1, 2) || len(h) != 3 {
		t.Fatalf("%v, %+v, %+v", h, first, second)
	}
	h, second = impl.Alone(h, second)
	want := []impl.Cell{{Next: 1}, {Key: 4, Value: 40, Next: 2}, {Key: 6, Value: 60, Next: -1}}
	if second != handDone(newHand(impl.HnPut, 6, 60), 2, 1) || !slices.Equal(h, want) {
		t.Fatalf("%v, %+v", h, second)
	}
}

func TestHandsWithWrongHeaps(t *testing.T) {
	hands := []impl.Hand{
		newHand(impl.HnPut, 5, 50), newHand(impl.HnTake, 4, 0), newHand(impl.HnLook, 9, 0), handAt(newHand(impl.HnPut, 5, 50), impl.SpWalk, 0, -1, -1),
		handAt(newHand(impl.HnLook, 5, 50), impl.SpAct, 0, 1, -1), handAt(newHand(impl.HnTake, 9, 0), impl.SpMark, 3, 1, -1), handDone(newHand(impl.HnLook, 9, 0), -1, 1), {},
	}
	for name, h := range wrongHeaps() {
		for _, w := range hands {
			if impl.HandOk(h, w) {
				t.Errorf("%s: HandOk(%+v)", name, w)
			}
			if got, moved := impl.Moved(h, w); len(got) != 0 || moved != (impl.Hand{}) {
				t.Errorf("%s: Moved(%+v) = %v, %+v", name, w, got, moved)
			}
			if got, done := impl.Alone(h, w); len(got) != 0 || done != (impl.Hand{}) {
				t.Errorf("%s: Alone(%+v) = %v, %+v", name, w, got, done)
			}
		}
	}
}

// wrongHands are each wrong in one number, which is far off or just past its end.
func wrongHands() []impl.Hand {
	var wrong []impl.Hand
	far := append([]int64{-2, 13, 14}, outside...)
	right := []impl.Hand{
		newHand(impl.HnPut, 5, 51), handAt(newHand(impl.HnPut, 5, 51), impl.SpWalk, 1, 2, 6), handAt(newHand(impl.HnLook, 5, 0), impl.SpAct, 1, 5, -1),
		handAt(newHand(impl.HnPut, 5, 51), impl.SpLink, 1, 5, 6), handAt(newHand(impl.HnTake, 5, 0), impl.SpMark, 1, 3, -1), handDone(newHand(impl.HnPut, 5, 51), 6, 1),
	}
	for _, w := range right {
		for _, n := range far {
			for field := range 7 {
				spoilt := w
				*[]*int64{&spoilt.Kind, &spoilt.Key, &spoilt.Step, &spoilt.Left, &spoilt.Here, &spoilt.Own, &spoilt.Told}[field] = n
				if !wantedHand(meeting(), spoilt) {
					wrong = append(wrong, spoilt)
				}
			}
		}
	}
	return append(wrong,
		impl.Hand{}, newHand(0, 5, 0), newHand(4, 5, 0), newHand(1, 0, 0), newHand(1, 65536, 0), handAt(newHand(1, 5, 51), impl.SpLink, 1, 5, -1), handAt(newHand(1, 5, 51), impl.SpLink, 1, 5, 12),
		handAt(newHand(2, 5, 0), impl.SpMark, 1, -1, -1), handAt(newHand(2, 5, 0), impl.SpMark, 1, 5, -1), handAt(newHand(3, 5, 0), impl.SpAct, 1, 2, -1), handAt(newHand(3, 5, 0), impl.SpWalk, 10, 5, -1),
		handAt(newHand(3, 5, 0), impl.SpWalk, 1, 11, -1), handAt(newHand(3, 5, 0), impl.SpWalk, 3, 5, -1), handAt(newHand(3, 5, 0), impl.SpWalk, 0, 0, -1), handAt(newHand(3, 5, 0), impl.SpWalk, -1, 1, -1),
		handDone(newHand(3, 5, 0), -1, 0), handDone(newHand(3, 5, 0), -1, 3), handDone(newHand(2, 5, 51), 6, 1), handAt(newHand(1, 5, 51), impl.SpStart, -1, -1, 7))
}

func TestWrongHands(t *testing.T) {
	wrong := wrongHands()
	if len(wrong) < 500 {
		t.Fatalf("%d wrong hands", len(wrong))
	}
	for _, w := range wrong {
		if impl.HandOk(meeting(), w) {
			t.Errorf("HandOk(%+v)", w)
		}
		if got, moved := impl.Moved(meeting(), w); len(got) != 0 || moved != (impl.Hand{}) {
			t.Errorf("Moved(%+v) = %v, %+v", w, got, moved)
		}
		if got, done := impl.Alone(meeting(), w); len(got) != 0 || done != (impl.Hand{}) {
			t.Errorf("Alone(%+v) = %v, %+v", w, got, done)
		}
	}
}

// handsAtMeeting is a right hand for each move that meeting allows.
func handsAtMeeting() []impl.Hand {
	var right []impl.Hand
	nearHands(meeting(), []int64{1, 2, 3}, []int64{5}, []int64{51}, func(w impl.Hand) {
		if wantedHand(meeting(), w) {
			right = append(right, w)
		}
	})
	return right
}

// TestHandsAtMeeting is each right hand at a heap with every kind of cell.
func TestHandsAtMeeting(t *testing.T) {
	for _, w := range handsAtMeeting() {
		checkMoved(t, meeting(), w)
		checkAlone(t, meeting(), w)
	}
}

func TestHandArgumentsStay(t *testing.T) {
	heaps := wrongHeaps()
	heaps["several"], heaps["one"], heaps["39"], heaps["40"], heaps["all Gone"], heaps["meeting"] = several(), linked(1), linked(39), linked(40), struckAll(linked(12)), meeting()
	for name, h := range heaps {
		before := wholeHeap(h)
		for _, w := range append(handsAtMeeting(), wrongHands()...) {
			impl.HandOk(h, w)
			impl.Moved(h, w)
			impl.Alone(h, w)
		}
		for kind := int64(1); kind <= 3; kind++ {
			for key := int64(1); key <= 41; key++ {
				impl.Alone(h, newHand(kind, key, 7))
			}
		}
		if !slices.Equal(wholeHeap(h), before) {
			t.Fatalf("%s: %v was %v", name, wholeHeap(h), before)
		}
	}
}

func TestHandAnswersAreNewMemory(t *testing.T) {
	for name, call := range map[string]func([]impl.Cell, impl.Hand) ([]impl.Cell, impl.Hand){"Moved": impl.Moved, "Alone": impl.Alone} {
		for _, w := range handsAtMeeting() {
			given := meeting()
			before := wholeHeap(given)
			first, _ := call(given, w)
			second, _ := call(given, w)
			want := slices.Clone(second)
			spoilHeap(first)
			if !slices.Equal(wholeHeap(given), before) {
				t.Fatalf("%s(%+v): a change of the answer changes what was given", name, w)
			}
			if !slices.Equal(second, want) {
				t.Fatalf("%s(%+v): a change of the answer changes another one", name, w)
			}
			spoilHeap(given)
			if !slices.Equal(second, want) {
				t.Fatalf("%s(%+v): the answer changes with what was given", name, w)
			}
		}
	}
}
