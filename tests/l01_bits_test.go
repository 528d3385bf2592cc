package tests

import (
	"math"
	"math/big"
	"strconv"
	"strings"
	"testing"

	"loop.example/g00401/impl"
)

const keys = 32768 // how many hashes, and doors, have a key

// outside are numbers that are wrong wherever the document wants one from 0 to at most 65535.
var outside = []int64{
	math.MinInt64, math.MinInt64 + 1, -1 << 32, -65536, -32768, -32767, -2, -1,
	65536, 1 << 31, 1 << 32, 1<<32 + 1, 1 << 62, math.MaxInt64 - 1, math.MaxInt64,
}

// mirrored turns n round by way of its digits, with nothing of the program's own arithmetic.
func mirrored(t *testing.T, n, bits int64) int64 {
	t.Helper()
	digits := strconv.FormatInt(n, 2)
	digits = strings.Repeat("0", int(bits)-len(digits)) + digits
	var turned strings.Builder
	for i := len(digits) - 1; i >= 0; i-- {
		turned.WriteByte(digits[i])
	}
	m, err := strconv.ParseInt(turned.String(), 2, 64)
	if err != nil {
		t.Fatal(err)
	}
	return m
}

func TestTurnedTwiceIsTheNumber(t *testing.T) {
	for bits := int64(1); bits <= 16; bits++ {
		for n := int64(0); n < 1<<bits; n++ {
			once := impl.Turned(n, bits)
			if once < 0 || once >= 1<<bits {
				t.Fatalf("Turned(%d, %d) = %d, out of its width", n, bits, once)
			}
			if twice := impl.Turned(once, bits); twice != n {
				t.Fatalf("Turned(Turned(%d, %d)) = %d", n, bits, twice)
			}
		}
	}
}

func TestTurnedIsTheOtherOrder(t *testing.T) {
	for bits := int64(1); bits <= 16; bits++ {
		for n := int64(0); n < 1<<bits; n++ {
			if got, want := impl.Turned(n, bits), mirrored(t, n, bits); got != want {
				t.Fatalf("Turned(%d, %d) = %d, want %d", n, bits, got, want)
			}
		}
	}
}

func TestTurnedEdges(t *testing.T) {
	for _, c := range []struct{ n, bits, want int64 }{
		{0, 1, 0}, {1, 1, 1}, {2, 1, -1},
		{0, 2, 0}, {1, 2, 2}, {2, 2, 1}, {3, 2, 3}, {4, 2, -1},
		{1, 4, 8}, {6, 4, 6}, {11, 4, 13}, {15, 4, 15}, {16, 4, -1},
		{1, 15, 16384}, {32767, 15, 32767}, {32768, 15, -1},
		{0, 16, 0}, {1, 16, 32768}, {32768, 16, 1}, {65534, 16, 32767}, {65535, 16, 65535}, {65536, 16, -1},
		{0, 0, -1}, {1, 0, -1}, {0, 17, -1}, {1, 17, -1}, {65536, 17, -1}, {131071, 17, -1},
		{-1, 1, -1}, {-1, 16, -1}, {-1, 0, -1}, {-1, 17, -1},
	} {
		if got := impl.Turned(c.n, c.bits); got != c.want {
			t.Errorf("Turned(%d, %d) = %d, want %d", c.n, c.bits, got, c.want)
		}
	}
}

func TestTurnedRefusesWrongNumbers(t *testing.T) {
	for _, wrong := range outside {
		for bits := int64(-1); bits <= 18; bits++ {
			if got := impl.Turned(wrong, bits); got != -1 {
				t.Errorf("Turned(%d, %d) = %d, want -1", wrong, bits, got)
			}
		}
		for _, n := range []int64{0, 1, 65535} {
			if got := impl.Turned(n, wrong); got != -1 {
				t.Errorf("Turned(%d, %d) = %d, want -1", n, wrong, got)
			}
		}
		for _, other := range outside {
			if got := impl.Turned(wrong, other); got != -1 {
				t.Errorf("Turned(%d, %d) = %d, want -1", wrong, other, got)
			}
		}
	}
	for _, bits := range []int64{63, 64, 65, 128, 256, 257, 65537} { // as many bits as an int64 has, and what a narrower number would wrap
		if got := impl.Turned(0, bits); got != -1 {
			t.Errorf("Turned(0, %d) = %d, want -1", bits, got)
		}
	}
}

func TestMarkKeysAreEvenItemKeysOdd(t *testing.T) {
	seen := make([]bool, 2*keys)
	for n := int64(0); n < keys; n++ {
		mark, item := impl.MarkKey(n), impl.ItemKey(n)
		if mark < 0 || mark >= 2*keys || mark%2 != 0 {
			t.Fatalf("MarkKey(%d) = %d, no even key", n, mark)
		}
		if item < 0 || item >= 2*keys || item%2 != 1 {
			t.Fatalf("ItemKey(%d) = %d, no odd key", n, item)
		}
		if want := 2 * mirrored(t, n, 15); mark != want || item != want+1 {
			t.Fatalf("MarkKey(%d), ItemKey(%d) = %d, %d, want %d, %d", n, n, mark, item, want, want+1)
		}
		if seen[mark] || seen[item] {
			t.Fatalf("%d has a key that another one has", n)
		}
		seen[mark], seen[item] = true, true
	}
}

func TestKeyEdges(t *testing.T) {
	for _, c := range []struct{ n, mark, item int64 }{
		{0, 0, 1}, {1, 32768, 32769}, {2, 16384, 16385}, {3, 49152, 49153},
		{16384, 2, 3}, {32766, 32766, 32767}, {32767, 65534, 65535},
		{32768, -1, -1}, {32769, -1, -1}, {65535, -1, -1}, {-1, -1, -1},
	} {
		if got := impl.MarkKey(c.n); got != c.mark {
			t.Errorf("MarkKey(%d) = %d, want %d", c.n, got, c.mark)
		}
		if got := impl.ItemKey(c.n); got != c.item {
			t.Errorf("ItemKey(%d) = %d, want %d", c.n, got, c.item)
		}
	}
	for _, wrong := range outside {
		if mark, item := impl.MarkKey(wrong), impl.ItemKey(wrong); mark != -1 || item != -1 {
			t.Errorf("MarkKey, ItemKey of %d = %d, %d, want -1, -1", wrong, mark, item)
		}
	}
}

func TestParentOf(t *testing.T) {
	for b := int64(1); b < keys; b++ {
		want, err := strconv.ParseInt("0"+strconv.FormatInt(b, 2)[1:], 2, 64)
		if err != nil {
			t.Fatal(err)
		}
		if got := impl.ParentOf(b); got != want {
			t.Fatalf("ParentOf(%d) = %d, want %d", b, got, want)
		}
	}
}

func TestParentOfEdges(t *testing.T) {
	for _, c := range []struct{ b, want int64 }{
		{1, 0}, {2, 0}, {3, 1}, {6, 2}, {7, 3}, {16384, 0}, {16385, 1}, {32766, 16382}, {32767, 16383},
		{0, -1}, {32768, -1}, {32769, -1}, {65535, -1}, {-1, -1},
	} {
		if got := impl.ParentOf(c.b); got != c.want {
			t.Errorf("ParentOf(%d) = %d, want %d", c.b, got, c.want)
		}
	}
	for _, wrong := range outside {
		if got := impl.ParentOf(wrong); got != -1 {
			t.Errorf("ParentOf(%d) = %d, want -1", wrong, got)
		}
	}
}

func TestHashOfGivenTexts(t *testing.T) {
	for _, c := range []struct {
		text string
		want int64
	}{
		{"", 5}, {"a", 1383}, {"ab", 27925},
		{"\x00", 1286}, {"\x7f", 1413}, {"\x80", 1414}, {"\xff", 1541},
		{"\x00\x00", 2898}, {"\xff\xff", 3167}, {"\u00e9", 20414}, {"ba", 28181},
	} {
		if got := impl.Hash(c.text); got != c.want {
			t.Errorf("Hash(%q) = %d, want %d", c.text, got, c.want)
		}
	}
}

// summed is the same sum with one modulo at the end, over numbers that have no greatest one.
func summed(text string) int64 {
	h := big.NewInt(5)
	for _, b := range []byte(text) {
		h.Mul(h, big.NewInt(257))
		h.Add(h, big.NewInt(int64(b)+1))
	}
	h.Mod(h, big.NewInt(65521))
	return h.Int64() % 32768
}

func TestHashOfAllBytesAndLongTexts(t *testing.T) {
	var texts []string
	for b := range 256 {
		one := string([]byte{byte(b)})
		texts = append(texts, one, one+"x", "x"+one, strings.Repeat(one, 3), strings.Repeat(one, 100))
	}
	texts = append(texts, strings.Repeat("larder", 500), "a b\nc", "\xc3", "\u65e5\u672c")
	for _, s := range texts {
		got := impl.Hash(s)
		if got != summed(s) {
			t.Fatalf("Hash(%q) = %d, want %d", s, got, summed(s))
		}
		if impl.ItemKey(got) == -1 {
			t.Fatalf("Hash(%q) = %d has no ItemKey", s, got)
		}
	}
}
