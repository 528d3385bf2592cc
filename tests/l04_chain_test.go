package tests

import (
	"math"
	"slices"
	"testing"

	"loop.example/g00401/impl"
)

// wantedChain goes on by as many steps as there are cells, not until there is no Next.
func wantedChain(h []impl.Cell) []int64 {
	if !wantedHeap(h) {
		return nil
	}
	out := []int64{0}
	for range h {
		if next := h[out[len(out)-1]].Next; next != -1 {
			out = append(out, next)
		}
	}
	return out
}

func wantedLiving(h []impl.Cell) []int64 {
	var out []int64
	for _, at := range wantedChain(h) {
		if at > 0 && !h[at].Gone {
			out = append(out, h[at].Key)
		}
	}
	return out
}

// wantedValueAt looks over all cells and asks of each whether it is in the Chain.
func wantedValueAt(h []impl.Cell, key int64) (int64, bool) {
	chain := wantedChain(h)
	for at, c := range h {
		if at > 0 && c.Key == key && !c.Gone && slices.Contains(chain, int64(at)) {
			return c.Value, true
		}
	}
	return 0, false
}

func wantedGone(h []impl.Cell) int64 {
	if !wantedHeap(h) {
		return -1
	}
	many := int64(0)
	for _, at := range wantedChain(h) {
		if h[at].Gone {
			many++
		}
	}
	return many
}

// rises says whether no one is less than, or like, the one ahead of it.
func rises(list []int64) bool {
	return slices.IsSorted(list) && len(slices.Compact(slices.Clone(list))) == len(list)
}

// askedKeys are the Keys of all cells, those one beside them, and the edges of what a Key may be.
func askedKeys(h []impl.Cell) []int64 {
	out := []int64{math.MinInt64, -65536, -2, -1, 0, 1, 2, 65534, 65535, 65536, 65537, 1 << 32, math.MaxInt64}
	for _, c := range h {
		out = append(out, c.Key)
		if c.Key > math.MinInt64 && c.Key < math.MaxInt64 {
			out = append(out, c.Key-1, c.Key+1)
		}
	}
	return out
}

// checkChain holds all four answers against the words of the document.
func checkChain(t *testing.T, h []impl.Cell) {
	t.Helper()
	if got, want := impl.Chain(h), wantedChain(h); !slices.Equal(got, want) {
		t.Fatalf("Chain(%v) = %v, want %v", h, got, want)
	}
	if got, want := impl.Living(h), wantedLiving(h); !slices.Equal(got, want) {
		t.Fatalf("Living(%v) = %v, want %v", h, got, want)
	}
	if got, want := impl.Gone(h), wantedGone(h); got != want {
		t.Fatalf("Gone(%v) = %d, want %d", h, got, want)
	}
	for _, key := range askedKeys(h) {
		want, there := wantedValueAt(h, key)
		if got, ok := impl.ValueAt(h, key); got != want || ok != there {
			t.Fatalf("ValueAt(%v, %d) = %d, %v, want %d, %v", h, key, got, ok, want, there)
		}
	}
}

// checkRises is promise 4, with the answers held against each other alone.
func checkRises(t *testing.T, h []impl.Cell) {
	t.Helper()
	chain, living := impl.Chain(h), impl.Living(h)
	var keys []int64
	for _, at := range chain {
		keys = append(keys, h[at].Key)
	}
	if !rises(keys) || !rises(living) {
		t.Fatalf("%v: Keys %v of the Chain, Living %v: not rising", h, keys, living)
	}
	if len(chain) != 1+len(living)+int(impl.Gone(h)) {
		t.Fatalf("%v: Chain %v, Living %v, Gone %d", h, chain, living, impl.Gone(h))
	}
	for _, key := range askedKeys(h) {
		if _, ok := impl.ValueAt(h, key); ok != slices.Contains(living, key) {
			t.Fatalf("%v: Living %v, ValueAt(%d) says %v", h, living, key, ok)
		}
	}
	for _, key := range living {
		at := slices.IndexFunc(chain, func(at int64) bool { return h[at].Key == key })
		if value, _ := impl.ValueAt(h, key); at < 1 || h[chain[at]].Gone || value != h[chain[at]].Value {
			t.Fatalf("%v: ValueAt(%d) = %d", h, key, value)
		}
	}
}

// shuffled is a heap of many cells whose Keys, Nexts and flags hang on seed; Keys may be there twice.
func shuffled(many int, seed uint64) []impl.Cell {
	roll := func(below int) int64 {
		seed = seed*6364136223846793005 + 1442695040888963407
		return int64(seed>>33) % int64(below)
	}
	list := make([]impl.Cell, many)
	for i := 1; i < many; i++ {
		list[i] = impl.Cell{Key: 1 + roll(3*many), Value: roll(5) - 2, Gone: roll(3) == 0}
	}
	for i := range list {
		list[i].Next = -1
		for range 6 {
			to := roll(many)
			nearer := list[i].Next == -1 || list[to].Key < list[list[i].Next].Key
			if list[to].Key > list[i].Key && nearer {
				list[i].Next = to
			}
		}
	}
	return roomy(list...)
}

// backward is many cells in one chain that goes from the first to the last and then down by number.
func backward(many int) []impl.Cell {
	list := make([]impl.Cell, many)
	for i := range list {
		list[i] = impl.Cell{Key: int64(many - i), Value: int64(i), Next: int64(i - 1)}
	}
	list[0] = impl.Cell{Next: int64(many - 1)}
	if many > 1 {
		list[1].Next = -1
	} else {
		list[0].Next = -1
	}
	return roomy(list...)
}

// struckAll has every cell but cell 0 Gone.
func struckAll(h []impl.Cell) []impl.Cell {
	for i := 1; i < len(h); i++ {
		h[i].Gone = true
	}
	return h
}

// TestChainOfSmallHeaps is chapter 4 on every list of up to 3 cells, right or not.
func TestChainOfSmallHeaps(t *testing.T) {
	smallHeaps(func(h []impl.Cell) {
		checkChain(t, h)
		if wantedHeap(h) {
			checkRises(t, h)
		}
	})
}

// TestLivingRises is promise 4 on heaps of every size, with Chains that pass by cells and go through Gone ones.
func TestLivingRises(t *testing.T) {
	passing, through := 0, 0
	for many := 1; many <= 40; many++ {
		for seed := range uint64(60) {
			h := shuffled(many, seed*41+uint64(many))
			if !impl.HeapOk(h) {
				t.Fatalf("not HeapOk: %v", h)
			}
			checkChain(t, h)
			checkRises(t, h)
			if len(impl.Chain(h)) < many {
				passing++
			}
			if impl.Gone(h) > 0 && len(impl.Living(h)) > 1 {
				through++
			}
		}
	}
	if passing < 1000 || through < 1000 {
		t.Fatalf("%d Chains pass by cells, %d go through Gone ones", passing, through)
	}
}

func TestChainOfSeveral(t *testing.T) {
	h := several() // cell 2, Key 6, is Gone in the Chain; cell 4, Key 6, cell 5, MaxKey, and cell 6, Gone, Key 1, are outside
	if got := impl.Chain(h); !slices.Equal(got, []int64{0, 3, 2, 1}) {
		t.Errorf("Chain = %v", got)
	}
	if got := impl.Living(h); !slices.Equal(got, []int64{4, 9}) {
		t.Errorf("Living = %v", got)
	}
	if got := impl.Gone(h); got != 1 {
		t.Errorf("Gone = %d", got)
	}
	for _, c := range []struct {
		what       string
		key, value int64
		want       bool
	}{
		{"the least Value", 4, math.MinInt64, true}, {"the greatest Value", 9, math.MaxInt64, true},
		{"Gone in the Chain, outside not", 6, 0, false}, {"outside", 65535, 0, false}, {"outside and Gone", 1, 0, false},
		{"cell 0", 0, 0, false}, {"no Key", -1, 0, false}, {"past MaxKey", 65536, 0, false}, {"not there", 5, 0, false},
		{"the least", math.MinInt64, 0, false}, {"the greatest", math.MaxInt64, 0, false}, {"4 but for high bits", 1<<32 + 4, 0, false},
	} {
		if value, ok := impl.ValueAt(h, c.key); value != c.value || ok != c.want {
			t.Errorf("%s: ValueAt(%d) = %d, %v", c.what, c.key, value, ok)
		}
	}
}

// TestChainOfCellNoughtAlone: alone, or with others that nothing leads to.
func TestChainOfCellNoughtAlone(t *testing.T) {
	outside := roomy(impl.Cell{Value: 8, Next: -1}, impl.Cell{Key: 3, Value: 30, Next: 2}, impl.Cell{Key: 4, Value: 40, Next: -1, Gone: true})
	for _, h := range [][]impl.Cell{impl.NewHeap(), roomy(impl.Cell{Value: 8, Next: -1}), outside} {
		if got := impl.Chain(h); !slices.Equal(got, []int64{0}) {
			t.Errorf("Chain(%v) = %v", h, got)
		}
		if got := impl.Living(h); len(got) != 0 || impl.Gone(h) != 0 {
			t.Errorf("%v: Living %v, Gone %d", h, got, impl.Gone(h))
		}
		for _, key := range askedKeys(h) {
			if value, ok := impl.ValueAt(h, key); value != 0 || ok {
				t.Errorf("ValueAt(%v, %d) = %d, %v", h, key, value, ok)
			}
		}
	}
}

func TestChainOfManyCells(t *testing.T) {
	for many := 1; many <= 42; many++ {
		for _, h := range [][]impl.Cell{linked(many), backward(many), struckAll(linked(many)), struckAll(backward(many))} {
			checkChain(t, h)
		}
	}
	h := backward(40)
	chain, living := impl.Chain(h), impl.Living(h)
	if len(chain) != 40 || chain[1] != 39 || chain[39] != 1 || len(living) != 39 || living[0] != 1 || living[38] != 39 || impl.Gone(h) != 0 {
		t.Errorf("MaxCells: Chain %v, Living %v, Gone %d", chain, living, impl.Gone(h))
	}
	if value, ok := impl.ValueAt(h, 39); value != 1 || !ok {
		t.Errorf("the last of MaxCells: ValueAt = %d, %v", value, ok)
	}
	if chain := impl.Chain(linked(41)); len(chain) != 0 || impl.Gone(linked(41)) != -1 {
		t.Errorf("one more than MaxCells: Chain %v, Gone %d", chain, impl.Gone(linked(41)))
	}
}

func TestChainAllGone(t *testing.T) {
	for _, h := range [][]impl.Cell{struckAll(linked(2)), struckAll(linked(40)), struckAll(backward(40))} {
		if len(impl.Chain(h)) != len(h) || len(impl.Living(h)) != 0 || impl.Gone(h) != int64(len(h)-1) {
			t.Errorf("Chain %v, Living %v, Gone %d of %d", impl.Chain(h), impl.Living(h), impl.Gone(h), len(h))
		}
		for key := range int64(41) {
			if value, ok := impl.ValueAt(h, key); value != 0 || ok {
				t.Errorf("ValueAt(%d) = %d, %v", key, value, ok)
			}
		}
	}
}

// TestValueAtEdges: Key 1 and MaxKey in the Chain, Value 0, and the same Key once in the Chain and once outside.
func TestValueAtEdges(t *testing.T) {
	h := []impl.Cell{
		{Value: 9, Next: 4}, {Key: 65535, Value: 7, Next: -1}, {Key: 20, Value: 200, Next: 1}, {Key: 20, Value: 0, Next: 1},
		{Key: 1, Value: -1, Next: 3}, {Key: 1, Value: 5, Next: -1, Gone: true}, {Key: 30, Value: 300, Next: 1},
	}
	if got := impl.Living(h); !slices.Equal(got, []int64{1, 20, 65535}) || impl.Gone(h) != 0 {
		t.Errorf("Living = %v, Gone %d", got, impl.Gone(h))
	}
	for _, c := range []struct {
		key, value int64
		want       bool
	}{{-1, 0, false}, {0, 0, false}, {1, -1, true}, {2, 0, false}, {20, 0, true}, {30, 0, false}, {65534, 0, false}, {65535, 7, true}, {65536, 0, false}} {
		if value, ok := impl.ValueAt(h, c.key); value != c.value || ok != c.want {
			t.Errorf("ValueAt(%d) = %d, %v", c.key, value, ok)
		}
	}
	h[3].Gone = true
	if value, ok := impl.ValueAt(h, 20); value != 0 || ok || impl.Gone(h) != 1 {
		t.Errorf("behind the strike: ValueAt(20) = %d, %v, Gone %d", value, ok, impl.Gone(h))
	}
}

// TestChainBehindMoves follows one cell: made, linked, struck, swapped out.
func TestChainBehindMoves(t *testing.T) {
	h := linked(3)
	for _, move := range []struct {
		what   string
		do     func([]impl.Cell) []impl.Cell
		chain  []int64
		living []int64
		gone   int64
	}{
		{"made", func(h []impl.Cell) []impl.Cell { h, _ = impl.Fresh(h, 9, 90, -1); return h }, []int64{0, 1, 2}, []int64{1, 2}, 0},
		{"linked", func(h []impl.Cell) []impl.Cell { h, _ = impl.Swapped(h, 2, -1, 3); return h }, []int64{0, 1, 2, 3}, []int64{1, 2, 9}, 0},
		{"struck", func(h []impl.Cell) []impl.Cell { h, _ = impl.Struck(h, 2, 3); return h }, []int64{0, 1, 2, 3}, []int64{1, 9}, 1},
		{"swapped out", func(h []impl.Cell) []impl.Cell { h, _ = impl.Swapped(h, 1, 2, 3); return h }, []int64{0, 1, 3}, []int64{1, 9}, 0},
	} {
		h = move.do(h)
		if !slices.Equal(impl.Chain(h), move.chain) || !slices.Equal(impl.Living(h), move.living) || impl.Gone(h) != move.gone {
			t.Fatalf("%s: Chain %v, Living %v, Gone %d", move.what, impl.Chain(h), impl.Living(h), impl.Gone(h))
		}
		checkChain(t, h)
		checkRises(t, h)
	}
}

func TestChainOfWrongHeaps(t *testing.T) {
	wrong := wrongHeaps()
	wrong["round and round"] = roomy(impl.Cell{Next: 1}, impl.Cell{Key: 1, Next: 2}, impl.Cell{Key: 2, Next: 1})
	wrong["back to cell 0"] = roomy(impl.Cell{Next: 1}, impl.Cell{Key: 1, Next: 0})
	wrong["wrong outside the Chain"] = roomy(impl.Cell{Next: 1}, impl.Cell{Key: 1, Value: 5, Next: -1}, impl.Cell{Key: 65536, Next: -1, Gone: true})
	for name, h := range wrong {
		if got := impl.Chain(h); len(got) != 0 {
			t.Errorf("%s: Chain = %v", name, got)
		}
		if got := impl.Living(h); len(got) != 0 {
			t.Errorf("%s: Living = %v", name, got)
		}
		if got := impl.Gone(h); got != -1 {
			t.Errorf("%s: Gone = %d", name, got)
		}
		for _, key := range askedKeys(h) {
			if value, ok := impl.ValueAt(h, key); value != 0 || ok {
				t.Errorf("%s: ValueAt(%d) = %d, %v", name, key, value, ok)
			}
		}
	}
}

func TestChainArgumentsStay(t *testing.T) {
	heaps := wrongHeaps()
	heaps["several"], heaps["one"], heaps["40"], heaps["all Gone"] = several(), linked(1), linked(40), struckAll(linked(12))
	for name, h := range heaps {
		before := wholeHeap(h)
		for call, do := range map[string]func(){
			"Chain": func() { impl.Chain(h) }, "Living": func() { impl.Living(h) }, "Gone": func() { impl.Gone(h) },
			"ValueAt": func() {
				for _, key := range askedKeys(h) {
					impl.ValueAt(h, key)
				}
			},
		} {
			if do(); !slices.Equal(wholeHeap(h), before) {
				t.Fatalf("%s, %s: %v was %v", name, call, wholeHeap(h), before)
			}
		}
	}
}

// spoilNumbers writes over all of a list and into the room behind it.
func spoilNumbers(list []int64) {
	for i := range list[:cap(list)] {
		list[:cap(list)][i] = -spare
	}
}

func TestChainAnswersAreNewMemory(t *testing.T) {
	for _, c := range []struct {
		what string
		call func([]impl.Cell) []int64
		want []int64
	}{{"Chain", impl.Chain, []int64{0, 3, 2, 1}}, {"Living", impl.Living, []int64{4, 9}}} {
		given := several()
		before := wholeHeap(given)
		first, second := c.call(given), c.call(given)
		spoilNumbers(first)
		if !slices.Equal(wholeHeap(given), before) {
			t.Errorf("%s: a change of the answer changes what was given", c.what)
		}
		if !slices.Equal(second, c.want) || !slices.Equal(c.call(given), c.want) {
			t.Errorf("%s: a change of the answer changes another one", c.what)
		}
		spoilHeap(given)
		if !slices.Equal(second, c.want) {
			t.Errorf("%s: the answer changes with what was given", c.what)
		}
	}
}
