package tests

import (
	"math"
	"reflect"
	"strconv"
	"strings"
	"testing"

	"loop.example/g00401/impl"
)

const spare = 77 // fills the room behind a list, where nothing may be written

// sketchKeys have empty ones, long ones, bytes above 127 and byte 0 among them; "a" and "q" share all their places, "a" and "b" some.
var sketchKeys = []string{
	"", "a", "b", "q", "gjx", "larder", "\x00", "\x7f", "\x80", "\xff", "\xc3\xa9", "a b\nc", strings.Repeat("k", 1000),
}

// placed is the place by the sum that has one modulo at its end, with nothing of the program's own.
func placed(key string, row int) int64 {
	return summed(key+string([]byte{"abcd"[row]})) % 16
}

// filled has count everywhere, in lists with room behind them, and so has its list of rows.
func filled(count, adds int64) impl.Sketch {
	rows := make([][]int64, 6)
	for i := range rows {
		rows[i] = make([]int64, 20)
		for j := range rows[i] {
			rows[i][j] = spare
		}
		for j := range 16 {
			rows[i][j] = count
		}
		rows[i] = rows[i][:16]
	}
	return impl.Sketch{Rows: rows[:4], Adds: adds}
}

// uneven has every count from 0 to 15 in each row, at other places in each.
func uneven(adds int64) impl.Sketch {
	s := filled(0, adds)
	for i, row := range s.Rows {
		for j := range row {
			row[j] = int64((5*j + 3*i) % 16)
		}
	}
	return s
}

// whole reads a sketch with the room behind its lists.
func whole(s impl.Sketch) impl.Sketch {
	out := impl.Sketch{Adds: s.Adds}
	for _, row := range s.Rows[:cap(s.Rows)] {
		out.Rows = append(out.Rows, append([]int64{}, row[:cap(row)]...))
	}
	return out
}

// wantedAdded works on a sketch as the document tells it, row by row.
func wantedAdded(s impl.Sketch, key string) impl.Sketch {
	out := impl.Sketch{Adds: s.Adds + 1}
	halves := out.Adds == 160
	if halves {
		out.Adds = 0
	}
	for i, row := range s.Rows {
		counts := append([]int64{}, row...)
		if at := placed(key, i); counts[at] < 15 {
			counts[at]++
		}
		for j := range counts {
			if halves {
				counts[j] = (counts[j] - counts[j]%2) / 2
			}
		}
		out.Rows = append(out.Rows, counts)
	}
	return out
}

func isZeroSketch(s impl.Sketch) bool { return len(s.Rows) == 0 && s.Adds == 0 }

func TestNewSketchIsAllNought(t *testing.T) {
	s := impl.NewSketch()
	nought := [][]int64{make([]int64, 16), make([]int64, 16), make([]int64, 16), make([]int64, 16)}
	if !impl.SketchOk(s) || !reflect.DeepEqual(s, impl.Sketch{Rows: nought}) {
		t.Fatal(s)
	}
	for _, key := range sketchKeys {
		if got := impl.Estimate(s, key); got != 0 {
			t.Errorf("Estimate(%q) of a new sketch = %d", key, got)
		}
	}
}

func TestSketchOkEdges(t *testing.T) {
	for _, c := range []struct {
		adds int64
		want bool
	}{
		{0, true}, {1, true}, {80, true}, {158, true}, {159, true}, {160, false}, {161, false}, {-1, false}, {-159, false},
		{math.MinInt64, false}, {math.MaxInt64, false}, {1 << 32, false}, {256, false},
	} {
		for _, s := range []impl.Sketch{filled(0, c.adds), filled(15, c.adds), uneven(c.adds)} {
			if got := impl.SketchOk(s); got != c.want {
				t.Errorf("SketchOk with Adds %d = %v", c.adds, got)
			}
		}
	}
	for _, c := range []struct {
		count int64
		want  bool
	}{
		{0, true}, {1, true}, {14, true}, {15, true}, {16, false}, {17, false}, {-1, false}, {-15, false},
		{math.MinInt64, false}, {math.MaxInt64, false}, {1 << 32, false}, {256, false},
	} {
		for place := range 64 {
			s := uneven(0)
			s.Rows[place/16][place%16] = c.count
			if got := impl.SketchOk(s); got != c.want {
				t.Errorf("SketchOk with a count %d in row %d at %d = %v", c.count, place/16, place%16, got)
			}
		}
	}
}

func TestSketchOkAsksForRowsAndCounts(t *testing.T) {
	if !impl.SketchOk(uneven(3)) {
		t.Fatal("a right sketch is refused")
	}
	for name, s := range misshapen() {
		if impl.SketchOk(s) {
			t.Errorf("%s: SketchOk", name)
		}
	}
}

// misshapen are wrong only in how many rows, or counts in a row, they have.
func misshapen() map[string]impl.Sketch {
	wrong := map[string]impl.Sketch{
		"zero":       {},
		"empty rows": {Rows: [][]int64{}},
		"3 rows":     {Rows: filled(0, 0).Rows[:3]},
		"5 rows":     {Rows: filled(0, 0).Rows[:5]},
		"nil in 4":   {Rows: make([][]int64, 4)},
		"nil in 1":   {Rows: make([][]int64, 1)},
	}
	for row := range 4 {
		for _, many := range []int{0, 1, 15, 17, 20} {
			s := filled(0, 0)
			s.Rows[row] = make([]int64, many)
			wrong[strconv.Itoa(many)+" counts in row "+strconv.Itoa(row)] = s
		}
		s := filled(0, 0)
		s.Rows[row] = nil
		wrong["no row "+strconv.Itoa(row)] = s
	}
	return wrong
}

func TestPlaceOf(t *testing.T) {
	for _, c := range []struct {
		key  string
		want [4]int64
	}{
		{"", [4]int64{7, 8, 9, 10}}, {"a", [4]int64{4, 5, 6, 7}}, {"b", [4]int64{5, 6, 7, 8}}, {"q", [4]int64{4, 5, 6, 7}},
		{"larder", [4]int64{14, 15, 0, 1}}, {"gjx", [4]int64{14, 15, 0, 0}}, {"\x00", [4]int64{3, 4, 5, 6}},
		{"\x7f", [4]int64{2, 3, 4, 5}}, {"\x80", [4]int64{3, 4, 5, 6}}, {"\xff", [4]int64{1, 2, 3, 4}},
		{"\xc3\xa9", [4]int64{0, 1, 2, 3}}, {"a b\nc", [4]int64{0, 1, 2, 3}}, {strings.Repeat("k", 1000), [4]int64{13, 14, 15, 0}},
	} {
		for row, want := range c.want {
			if got := impl.PlaceOf(c.key, int64(row)); got != want {
				t.Errorf("PlaceOf(%.20q, %d) = %d, want %d", c.key, row, got, want)
			}
		}
		for _, row := range append([]int64{4, 5, -1, 255, 256, 259}, outside...) {
			if got := impl.PlaceOf(c.key, row); got != -1 {
				t.Errorf("PlaceOf(%.20q, %d) = %d, want -1", c.key, row, got)
			}
		}
	}
	for n := range 3000 {
		key := "n" + strconv.Itoa(n)
		for row := range 4 {
			if got := impl.PlaceOf(key, int64(row)); got != placed(key, row) {
				t.Fatalf("PlaceOf(%q, %d) = %d, want %d", key, row, got, placed(key, row))
			}
		}
	}
}

func TestAddedRaisesOneCountARow(t *testing.T) {
	for _, key := range sketchKeys {
		for _, s := range []impl.Sketch{impl.NewSketch(), filled(0, 0), filled(7, 80), filled(14, 157), filled(15, 158), uneven(0), uneven(158)} {
			if got, want := impl.Added(s, key), wantedAdded(s, key); !reflect.DeepEqual(got, want) {
				t.Errorf("Added(%v, %.20q) = %v, want %v", s, key, got, want)
			}
		}
	}
	s := impl.Added(impl.NewSketch(), "a")
	if s.Adds != 1 || s.Rows[0][4] != 1 || s.Rows[1][5] != 1 || s.Rows[2][6] != 1 || s.Rows[3][7] != 1 || s.Rows[0][5] != 0 {
		t.Error(s)
	}
}

func TestAddedHalvesAtMaxAdds(t *testing.T) {
	for _, c := range []struct{ count, elsewhere, here int64 }{
		{0, 0, 0}, {1, 0, 1}, {2, 1, 1}, {7, 3, 4}, {13, 6, 7}, {14, 7, 7}, {15, 7, 7},
	} {
		s := impl.Added(filled(c.count, 159), "a")
		if !impl.SketchOk(s) || s.Adds != 0 || impl.Estimate(s, "a") != c.here {
			t.Fatalf("Added to %d at 159 = %v", c.count, s)
		}
		for i, row := range s.Rows {
			for j, got := range row {
				if want := c.elsewhere; j != 4+i && got != want {
					t.Errorf("%d at 159: row %d, %d = %d, want %d", c.count, i, j, got, want)
				}
			}
			if row[4+i] != c.here {
				t.Errorf("%d at 159: row %d at its place = %d, want %d", c.count, i, row[4+i], c.here)
			}
		}
	}
	for _, key := range sketchKeys {
		if got, want := impl.Added(uneven(159), key), wantedAdded(uneven(159), key); !reflect.DeepEqual(got, want) {
			t.Errorf("Added(%.20q) at 159 = %v, want %v", key, got, want)
		}
		if before := impl.Added(filled(15, 158), key); before.Adds != 159 || impl.Estimate(before, key) != 15 {
			t.Errorf("Added(%.20q) at 158 = %v", key, before)
		}
	}
}

func TestEstimateIsTheLeast(t *testing.T) {
	for low := range 4 {
		s := filled(9, 5)
		s.Rows[low][4+low] = 2 // one of the places of "a"
		if got := impl.Estimate(s, "a"); got != 2 {
			t.Errorf("the least in row %d: Estimate = %d", low, got)
		}
		s.Rows[low][4+low] = 0
		if got := impl.Estimate(s, "a"); got != 0 {
			t.Errorf("nought in row %d: Estimate = %d", low, got)
		}
		if got := impl.Estimate(s, "larder"); got != 9 {
			t.Errorf("elsewhere: Estimate = %d", got)
		}
	}
	if got := impl.Estimate(filled(15, 159), "a"); got != 15 {
		t.Errorf("all at MaxCount: Estimate = %d", got)
	}
	for _, key := range sketchKeys {
		least := int64(15)
		for row := range 4 {
			least = min(least, uneven(0).Rows[row][placed(key, row)])
		}
		if got := impl.Estimate(uneven(0), key); got != least {
			t.Errorf("Estimate(%.20q) = %d, want %d", key, got, least)
		}
	}
}

// TestEstimateIsNoLessThanAdded is promise 2: turn says which key is Added n-th, over more than three halvings.
func TestEstimateIsNoLessThanAdded(t *testing.T) {
	for name, turn := range map[string]func(n int) string{
		"one alone":     func(int) string { return "a" },
		"one by one":    func(n int) string { return sketchKeys[n%len(sketchKeys)] },
		"one often":     func(n int) string { return sketchKeys[(n%5)*(n%3)%len(sketchKeys)] },
		"in stretches":  func(n int) string { return sketchKeys[n/17%len(sketchKeys)] },
		"always others": func(n int) string { return strconv.Itoa(n) },
	} {
		s, since := impl.NewSketch(), map[string]int64{}
		for n := range 500 {
			key := turn(n)
			s = impl.Added(s, key)
			since[key]++
			if (n+1)%160 == 0 {
				clear(since)
			}
			if !impl.SketchOk(s) || s.Adds != int64((n+1)%160) {
				t.Fatalf("%s: behind %d: %v", name, n+1, s)
			}
			for key, often := range since {
				if got := impl.Estimate(s, key); got < min(often, 15) || got > 15 {
					t.Fatalf("%s: behind %d: Estimate(%.20q) = %d, Added %d times", name, n+1, key, got, often)
				}
			}
		}
	}
}

func TestEstimateOfOneAlone(t *testing.T) {
	s := impl.NewSketch()
	for n := int64(1); n < 160; n++ {
		s = impl.Added(s, "a")
		if got := impl.Estimate(s, "a"); got != min(n, 15) {
			t.Fatalf("Added %d times: Estimate = %d", n, got)
		}
		if got := impl.Estimate(s, "b"); got != 0 {
			t.Fatalf("never Added: Estimate = %d", got)
		}
	}
	for n := int64(0); n < 20; n++ {
		s = impl.Added(s, "a")
		if got := impl.Estimate(s, "a"); got != min(7+n, 15) || s.Adds != n {
			t.Fatalf("%d behind the halving: Estimate = %d, Adds %d", n, got, s.Adds)
		}
	}
}

func TestWrongSketches(t *testing.T) {
	wrong := misshapen()
	for _, adds := range []int64{-1, 160, 161, math.MinInt64, math.MaxInt64} {
		wrong["Adds "+strconv.FormatInt(adds, 10)] = uneven(adds)
	}
	for _, count := range []int64{-1, 16, math.MinInt64, math.MaxInt64} {
		for _, adds := range []int64{0, 159} {
			s := filled(3, adds)
			s.Rows[3][15] = count
			wrong["count "+strconv.FormatInt(count, 10)+" at "+strconv.FormatInt(adds, 10)] = s
		}
		wrong["all "+strconv.FormatInt(count, 10)] = filled(count, 0)
	}
	for name, s := range wrong {
		for _, key := range sketchKeys {
			if got := impl.Added(s, key); !isZeroSketch(got) {
				t.Errorf("%s: Added(%.20q) = %v, want the zero Sketch", name, key, got)
			}
			if got := impl.Estimate(s, key); got != -1 {
				t.Errorf("%s: Estimate(%.20q) = %d, want -1", name, key, got)
			}
		}
	}
}

func TestSketchArgumentsStay(t *testing.T) {
	broken := filled(3, 0)
	broken.Rows[3][15] = 16
	for _, s := range []impl.Sketch{uneven(0), uneven(159), filled(15, 100), broken, {Rows: filled(0, 0).Rows[:5]}} {
		before := whole(s)
		for _, key := range sketchKeys {
			impl.SketchOk(s)
			impl.Estimate(s, key)
			impl.Added(s, key)
			if !reflect.DeepEqual(whole(s), before) {
				t.Fatalf("%.20q: %v was %v", key, whole(s), before)
			}
		}
	}
}

// spoil writes over all of a sketch and into the room behind its lists.
func spoil(s impl.Sketch) {
	for _, row := range s.Rows[:cap(s.Rows)] {
		for j := range row[:cap(row)] {
			row[:cap(row)][j] = -spare
		}
	}
	for i := range s.Rows[:cap(s.Rows)] {
		s.Rows[:cap(s.Rows)][i] = nil
	}
}

func TestSketchAnswersAreNewMemory(t *testing.T) {
	for _, adds := range []int64{0, 5, 159} {
		given := uneven(adds)
		before := whole(given)
		spoil(impl.Added(given, "a"))
		if !reflect.DeepEqual(whole(given), before) {
			t.Fatalf("Adds %d: a change of the answer changes what was given", adds)
		}
		first, second := impl.Added(given, "a"), impl.Added(given, "a")
		spoil(first)
		spoil(given)
		if want := wantedAdded(uneven(adds), "a"); !reflect.DeepEqual(second, want) {
			t.Fatalf("Adds %d: an answer changes with another one: %v", adds, second)
		}
	}
	first, second := impl.NewSketch(), impl.NewSketch()
	spoil(first)
	if !reflect.DeepEqual(second, impl.NewSketch()) || !impl.SketchOk(second) {
		t.Fatal("new sketches share memory")
	}
}

func TestRowsOfASketchShareNothing(t *testing.T) {
	one := make([]int64, 16)
	shared := impl.Sketch{Rows: [][]int64{one, one, one, one}} // what is given may share, what is answered not
	for name, s := range map[string]impl.Sketch{
		"new": impl.NewSketch(), "added": impl.Added(impl.NewSketch(), "a"), "halved": impl.Added(filled(0, 159), "a"), "of shared rows": impl.Added(shared, "a"),
	} {
		for i, row := range s.Rows {
			before := whole(s)
			for j := range row[:cap(row)] {
				row[:cap(row)][j] = int64(100 + i)
			}
			for k, other := range s.Rows {
				if k != i && !reflect.DeepEqual(other, before.Rows[k][:16]) {
					t.Fatalf("%s: row %d changes with row %d", name, k, i)
				}
			}
		}
	}
	if got, want := impl.Added(shared, "a"), wantedAdded(shared, "a"); !reflect.DeepEqual(got, want) {
		t.Fatalf("Added to a sketch whose rows are one list = %v, want %v", got, want)
	}
}
