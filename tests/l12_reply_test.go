package tests

import (
	"fmt"
	"math"
	"regexp"
	"slices"
	"strconv"
	"strings"
	"testing"
	"unsafe"

	"loop.example/g00401/impl"
)

// bareWords are the words of the replies that tell their Kind alone.
var bareWords = map[int64]string{
	1: "stored", 2: "not", 3: "exists", 4: "missing", 7: "touched", 8: "cut", 9: "cleared", 10: "error", 11: "bad", 12: "big",
}

const (
	valueKind  = 5
	numberKind = 6
)

// replyPattern is how a reply begins, whatever its numbers come to; a Cas has no form that tells 0.
var replyPattern = regexp.MustCompile(`\A(?:(stored|not|exists|missing|touched|cut|cleared|error|bad|big)|number ` + numberPattern + `|value ` + namePattern + ` ` + numberPattern + ` ` + numberPattern + `(?: ([1-9][0-9]{0,8}))?)\n`)

func bareKind(word string) int64 {
	for kind, one := range bareWords {
		if one == word {
			return kind
		}
	}
	return 0
}

// wantedReply takes the words of the document one by one; a word that is not there counts as 0.
func wantedReply(s string, at int64) (impl.Reply, int64) {
	none := impl.Reply{}
	if at < 0 || at > int64(len(s)) {
		return none, -1
	}
	words := replyPattern.FindStringSubmatch(s[at:])
	if words == nil {
		return none, -1
	}
	behind := at + int64(len(words[0]))
	number := func(place int) int64 {
		n, _ := strconv.ParseInt(words[place], 10, 64)
		return n
	}
	switch {
	case words[1] != "":
		return impl.Reply{Kind: bareKind(words[1])}, behind
	case words[2] != "":
		return impl.Reply{Kind: numberKind, Number: number(2)}, behind
	}
	end := behind + number(5)
	if number(4) > 65535 || number(5) > 64 || number(6) > 1000000 || end >= int64(len(s)) || s[end] != 10 {
		return none, -1
	}
	return impl.Reply{Kind: valueKind, Name: words[3], Flags: number(4), Bytes: s[behind:end], Cas: number(6)}, end + 1
}

// wantedReplyOk: what is told is right, all else is zero.
func wantedReplyOk(r impl.Reply) bool {
	switch {
	case bareWords[r.Kind] != "":
		return r == impl.Reply{Kind: r.Kind}
	case r.Kind == numberKind:
		return r == impl.Reply{Kind: numberKind, Number: r.Number} && r.Number >= 0 && r.Number <= 999999999
	case r.Kind == valueKind:
		return wantedName(r.Name) && r.Flags >= 0 && r.Flags <= 65535 && len(r.Bytes) <= 64 && r.Cas >= 0 && r.Cas <= 1000000 && r.Number == 0
	}
	return false
}

func wantedShowReply(r impl.Reply) string {
	switch {
	case !wantedReplyOk(r):
		return ""
	case r.Kind == numberKind:
		return fmt.Sprintf("number %d\n", r.Number)
	case r.Kind == valueKind && r.Cas == 0:
		return fmt.Sprintf("value %s %d %d\n%s\n", r.Name, r.Flags, len(r.Bytes), r.Bytes)
	case r.Kind == valueKind:
		return fmt.Sprintf("value %s %d %d %d\n%s\n", r.Name, r.Flags, len(r.Bytes), r.Cas, r.Bytes)
	}
	return bareWords[r.Kind] + "\n"
}

// checkReply asks all that can be asked of a reply, right or wrong.
func checkReply(t *testing.T, r impl.Reply) {
	t.Helper()
	if got, want := impl.ReplyOk(r), wantedReplyOk(r); got != want {
		t.Fatalf("ReplyOk(%+v) = %v", r, got)
	}
	if got, want := impl.ShowReply(r), wantedShowReply(r); got != want {
		t.Fatalf("ShowReply(%+v) = %q, want %q", r, got, want)
	}
}

// checkReplyAt also holds what is told against ShowReply: a reply stands there in no other form.
func checkReplyAt(t *testing.T, s string, at int64) {
	t.Helper()
	before := strings.Clone(s)
	r, next := impl.ReplyAt(s, at)
	if s != before {
		t.Fatalf("ReplyAt(%q, %d): the text is %q", before, at, s)
	}
	if want, place := wantedReply(s, at); r != want || next != place {
		t.Fatalf("ReplyAt(%q, %d) = %+v, %d, want %+v, %d", s, at, r, next, want, place)
	}
	if next == -1 {
		if r != (impl.Reply{}) {
			t.Fatalf("ReplyAt(%q, %d) = %+v, %d", s, at, r, next)
		}
		return
	}
	if !impl.ReplyOk(r) || impl.ShowReply(r) != s[at:next] {
		t.Fatalf("ReplyAt(%q, %d) = %+v, to %d: ShowReply %q", s, at, r, next, impl.ShowReply(r))
	}
}

func expectNoReplyAt(t *testing.T, s string, at int64) {
	t.Helper()
	if r, next := impl.ReplyAt(s, at); r != (impl.Reply{}) || next != -1 {
		t.Errorf("ReplyAt(%q, %d) = %+v, %d", s, at, r, next)
	}
	checkReplyAt(t, s, at)
}

// expectNoReply is for the beginning of a text that is no reply, whatever stands ahead of it and behind it.
func expectNoReply(t *testing.T, s string) {
	t.Helper()
	for _, behind := range []string{"", "\n", "x", "not\n", "x\n", strings.Repeat("\n", 200), strings.Repeat("x", 200)} {
		for _, ahead := range []string{"", "\n", "not\n", "value a 0 9\n"} {
			expectNoReplyAt(t, ahead+s+behind, int64(len(ahead)))
		}
	}
}

// expectReply is for a text that is a reply, whole.
func expectReply(t *testing.T, s string, want impl.Reply) {
	t.Helper()
	if r, next := impl.ReplyAt(s, 0); r != want || next != int64(len(s)) {
		t.Errorf("ReplyAt(%q) = %+v, %d, want %+v", s, r, next, want)
	}
	if !impl.ReplyOk(want) || impl.ShowReply(want) != s {
		t.Errorf("ShowReply(%+v) = %q, want %q", want, impl.ShowReply(want), s)
	}
	askShownReply(t, want)
}

// askShownReply holds a right reply against promise 12, whatever stands ahead of it and behind it.
func askShownReply(t *testing.T, r impl.Reply) {
	t.Helper()
	checkReply(t, r)
	shown := impl.ShowReply(r)
	if shown == "" || !strings.HasSuffix(shown, "\n") {
		t.Fatalf("ShowReply(%+v) = %q", r, shown)
	}
	for _, ahead := range []string{"", "x", "\n", " ", "not\n", "value a 0 3\nx", "\xff\x00\r", shown, strings.Repeat("z", 150)} {
		for _, behind := range []string{"", "x", "\n", " ", " 1\n", "1", "not\n", "\x00\r\xff", shown, strings.Repeat("z", 150)} {
			got, next := impl.ReplyAt(ahead+shown+behind, int64(len(ahead)))
			if got != r || next != int64(len(ahead)+len(shown)) {
				t.Fatalf("ReplyAt(%q, %d) = %+v, %d, want %+v", ahead+shown+behind, len(ahead), got, next, r)
			}
		}
		for short := range len(shown) {
			got, next := impl.ReplyAt(ahead+shown[:short], int64(len(ahead)))
			if got != (impl.Reply{}) || next != -1 {
				t.Fatalf("ReplyAt(%q, %d) = %+v, %d, of %q", ahead+shown[:short], len(ahead), got, next, shown)
			}
		}
	}
}

// replyBytes are what may be taken for ends of lines, for words, and for replies.
var replyBytes = append([]string{" ", "a b", " x ", "not\n", "not", "number 1\n", "stored\nnot\n", "value a 0 1\nx\n", "value a 0 64 1\n", "\nvalue a 0 0\n\n"}, cmdBytes...)

// edgeReplies are right ones of every Kind, all at the least and at the most, each once.
func edgeReplies() []impl.Reply {
	var list []impl.Reply
	for kind := range int64(13) {
		if bareWords[kind] != "" {
			list = append(list, impl.Reply{Kind: kind})
		}
	}
	for _, n := range []int64{0, 1, 9, 10, 64, 999999998, 999999999} {
		list = append(list, impl.Reply{Kind: numberKind, Number: n})
	}
	for mask := range 8 {
		r := impl.Reply{Kind: valueKind, Name: "a"}
		pick(mask, 0, &r.Name, "abcdefghijkl")
		pick(mask, 1, &r.Flags, 65535)
		pick(mask, 2, &r.Bytes, strings.Repeat("z", 64))
		for _, cas := range []int64{0, 1, 1000000} {
			r.Cas = cas
			list = append(list, r)
		}
	}
	for _, cas := range []int64{0, 7} {
		for _, name := range append([]string{"not", "value", "number"}, cmdNames[1:]...) {
			list = append(list, impl.Reply{Kind: valueKind, Name: name, Bytes: "b", Cas: cas})
		}
		for _, bytes := range replyBytes {
			list = append(list, impl.Reply{Kind: valueKind, Name: "v", Bytes: bytes, Cas: cas})
		}
	}
	return list
}

// rolledReply is right; every second one is a value.
func rolledReply(roll func(int) int64) impl.Reply {
	kind := 1 + roll(12)
	if roll(2) == 0 {
		kind = valueKind
	}
	switch kind {
	case numberKind:
		return impl.Reply{Kind: kind, Number: roll(1000000000) >> roll(30)}
	case valueKind:
		i := rolledItem(rolledName(roll), roll)
		if roll(3) == 0 {
			i.Bytes = replyBytes[roll(len(replyBytes))]
		}
		return impl.Reply{Kind: kind, Name: i.Name, Flags: i.Flags, Bytes: i.Bytes, Cas: i.Cas * roll(2)}
	}
	return impl.Reply{Kind: kind}
}

func TestPromise12Shown(t *testing.T) {
	count := map[int64]int{}
	for _, r := range edgeReplies() {
		askShownReply(t, r)
		count[r.Kind]++
	}
	roll := rolls(12)
	for range 2000 {
		askShownReply(t, rolledReply(roll))
	}
	for kind := int64(1); kind <= 12; kind++ {
		if count[kind] == 0 {
			t.Errorf("no reply of Kind %d", kind)
		}
	}
}

// TestPromise12Unlike: no two replies are written alike, nor is one the beginning of another.
func TestPromise12Unlike(t *testing.T) {
	list := edgeReplies()
	roll := rolls(121)
	for range 1000 {
		list = append(list, rolledReply(roll))
	}
	var shown []string
	whose := map[string]impl.Reply{}
	for _, r := range list {
		s := impl.ShowReply(r)
		if other, ok := whose[s]; ok && other != r {
			t.Fatalf("%+v and %+v are both %q", other, r, s)
		}
		whose[s] = r
		shown = append(shown, s)
	}
	slices.Sort(shown)
	shown = slices.Compact(shown)
	for i := 1; i < len(shown); i++ {
		if strings.HasPrefix(shown[i], shown[i-1]) {
			t.Errorf("%q begins with %q", shown[i], shown[i-1])
		}
	}
}

// askReplies reads replies one by one, each from the place behind the one before.
func askReplies(t *testing.T, ahead string, list []impl.Reply, behind string) {
	t.Helper()
	text := ahead
	for _, r := range list {
		text += impl.ShowReply(r)
	}
	text += behind
	at := int64(len(ahead))
	for number, want := range list {
		r, next := impl.ReplyAt(text, at)
		if r != want || next != at+int64(len(wantedShowReply(want))) {
			t.Fatalf("reply %d of %q, at %d: %+v, %d, want %+v", number, text, at, r, next, want)
		}
		at = next
	}
	if text[at:] != behind {
		t.Fatalf("%q: %q is left, not %q", text, text[at:], behind)
	}
	checkReplyAt(t, text, at)
}

func TestPromise12InOrder(t *testing.T) {
	askReplies(t, "", edgeReplies(), "")
	for _, one := range edgeReplies() {
		for _, two := range edgeReplies() {
			askReplies(t, "", []impl.Reply{one, two}, "")
		}
	}
	roll := rolls(122)
	for range 300 {
		var list []impl.Reply
		for range roll(12) {
			list = append(list, rolledReply(roll))
		}
		for _, ahead := range []string{"", "\n", "no", "value a 0 64\n"} {
			for _, behind := range []string{"", "n", "\n", "value a 0 3\nxyz", strings.Repeat("x", 150)} {
				askReplies(t, ahead, list, behind)
			}
		}
	}
}

// replyTexts are short texts of replies, of other lines, and of neither.
var replyTexts = []string{
	"", "\n", "\n\n\n", " ", " \n", "not\n", "not", "not\nnot\nstored\n", "stored 1\n", "number 12\nnumber 012\nnumber\nnumber 1 2\n", "value a 3 3 7\nx\ny\n", "value a 3 3\nx\ny\nvalue a 3 3 0\nx\ny\n", "value a 0 0\n\nvalue a 0 0\nx", "value a 0 4\nnot\n\nvalue a 0 3\nnot\n",
	"value a 0 64\n" + strings.Repeat("x", 64) + "\nnot\n", "value a 0 65\n" + strings.Repeat("x", 65) + "\nnot\n", "value a 0 64 1\n" + strings.Repeat("x", 65) + "\nnot\n", "value value 5 12 5\nvalue v 0 0\n\n\n",
	strings.Repeat("x", 150) + "\nbig\n", "number " + strings.Repeat("0", 150) + "\n", "value " + strings.Repeat("a", 150) + " 0 0\n\n", "value a 0 0" + strings.Repeat(" 1", 100) + "\n\n",
	"Not\nNOT\n not\nnot \nnot\r\n", "not\x00\n\xff\nnot\xff\n", "get a\nset a 0 0 1\nx\nclear\ncut a\ncut\n", string(make([]byte, 101)), "é\nvalue é 0 2\né\nvalue e 0 2\né\n", "error\nbad\nbig\nexists\nmissing\ntouched\ncut\ncleared\n",
}

// rolledTold is a reply, nearly one, another line, or bytes of all kinds.
func rolledTold(roll func(int) int64) string {
	shown := impl.ShowReply(rolledReply(roll))
	place := int(roll(len(shown)))
	switch roll(10) {
	case 0:
		return shown[:place]
	case 1:
		return shown[place:]
	case 2:
		return shown[:place] + string([]byte{byte(roll(256))}) + shown[place:]
	case 3:
		return shown[:place] + string([]byte{byte(roll(256))}) + shown[place+1:]
	case 4:
		return shown[:place] + "\n" + shown[place:]
	case 5:
		return rolledReplyLine(roll)
	case 6:
		return rolledBytes(roll, int(roll(130)))
	}
	return shown
}

// rolledReplyLine is made of the words of replies, in no order.
func rolledReplyLine(roll func(int) int64) string {
	firsts := []string{"value", "value a", "value a 0", "value a 0 1", "number", "not", "stored", "big", "what", ""}
	words := []string{"a", "", "0", "1", "2", "64", "65", "65535", "65536", "1000000", "1000001", "-1", "00", "value", "x\ny"}
	line := []string{firsts[roll(len(firsts))]}
	for range roll(5) {
		line = append(line, words[roll(len(words))])
	}
	return strings.Join(line, " ") + "\n"
}

// TestPromise12Texts: texts of all kinds, at every place.
func TestPromise12Texts(t *testing.T) {
	everyPlace := func(s string) {
		for at := int64(-2); at <= int64(len(s))+2; at++ {
			checkReplyAt(t, s, at)
		}
	}
	for _, s := range replyTexts {
		everyPlace(s)
	}
	for _, s := range cmdTexts {
		everyPlace(s)
	}
	roll := rolls(123)
	for range 3000 {
		text := ""
		for range 1 + roll(6) {
			text += rolledTold(roll)
		}
		everyPlace(text)
	}
}

// TestEveryReplyText: all texts of up to six of these words and bytes.
func TestEveryReplyText(t *testing.T) {
	for _, pieces := range [][]string{
		{"value a", " ", "0", "1", "\n"}, {"value a 0", " 0", " 1", "\n", "x"}, {"value", " ", "a", " 0", "\n"}, {"value a 1 1", " 1", "0", "\n", "-"}, {"number", " ", "0", "7", "\n"}, {"number ", "9", "99999999", "0", "\n"},
		{"not", " ", "\n", "\r", "big"}, {"cut", "cleared", "\n", " ", "\x00"},
	} {
		everyText(pieces, 6, "", func(s string) { checkReplyAt(t, s, 0) })
	}
}

func TestReplyConstants(t *testing.T) {
	kinds := []int64{
		impl.RpStored, impl.RpNot, impl.RpExists, impl.RpMissing, impl.RpValue, impl.RpNumber, impl.RpTouched, impl.RpCut, impl.RpCleared, impl.RpError, impl.RpBad, impl.RpBig,
	}
	for i, kind := range kinds {
		if kind != int64(i+1) {
			t.Errorf("kind %d is %d", i+1, kind)
		}
	}
}

func TestShowReply(t *testing.T) {
	x64 := strings.Repeat("x", 64)
	for s, r := range map[string]impl.Reply{
		"stored\n": {Kind: 1}, "not\n": {Kind: 2}, "exists\n": {Kind: 3}, "missing\n": {Kind: 4}, "touched\n": {Kind: 7},
		"cut\n": {Kind: 8}, "cleared\n": {Kind: 9}, "error\n": {Kind: 10}, "bad\n": {Kind: 11}, "big\n": {Kind: 12},
		"number 0\n":            {Kind: 6},
		"number 1\n":            {Kind: 6, Number: 1},
		"number 10\n":           {Kind: 6, Number: 10},
		"number 999999999\n":    {Kind: 6, Number: 999999999},
		"value a 0 0\n\n":       {Kind: 5, Name: "a"},
		"value a 0 0 1\n\n":     {Kind: 5, Name: "a", Cas: 1},
		"value a 3 3 7\nx\ny\n": {Kind: 5, Name: "a", Flags: 3, Bytes: "x\ny", Cas: 7},
		"value a 3 3\nx y\n":    {Kind: 5, Name: "a", Flags: 3, Bytes: "x y"},
		"value abcdefghijkl 65535 64 1000000\n" + x64 + "\n": {Kind: 5, Name: "abcdefghijkl", Flags: 65535, Bytes: x64, Cas: 1000000},
		"value - 10 1 20\n\n\n":                              {Kind: 5, Name: "-", Flags: 10, Bytes: "\n", Cas: 20},
		"value 0 0 1\n0\n":                                   {Kind: 5, Name: "0", Bytes: "0"},
		"value not 0 4\nnot\n\n":                             {Kind: 5, Name: "not", Bytes: "not\n"},
		"value value 0 14 2\nvalue a 0 1\nx\n\n":             {Kind: 5, Name: "value", Bytes: "value a 0 1\nx\n", Cas: 2},
		"value v 0 3\n\x00\r\xff\n":                          {Kind: 5, Name: "v", Bytes: "\x00\r\xff"},
	} {
		expectReply(t, s, r)
	}
}

// replyFields are how each field is set to what is not zero, but right where it is told.
var replyFields = []struct {
	name string
	to   func(*impl.Reply)
}{
	{"Name", func(r *impl.Reply) { r.Name = "b" }}, {"Flags", func(r *impl.Reply) { r.Flags = 1 }}, {"Bytes", func(r *impl.Reply) { r.Bytes = "b" }},
	{"Cas", func(r *impl.Reply) { r.Cas = 1 }}, {"Number", func(r *impl.Reply) { r.Number = 1 }},
}

// plainReply is right, and tells as little as can be.
func plainReply(kind int64) impl.Reply {
	if kind == valueKind {
		return impl.Reply{Kind: kind, Name: "a"}
	}
	return impl.Reply{Kind: kind}
}

// TestReplyUntold: what is not told of a Kind and is not zero, field by field and two by two.
func TestReplyUntold(t *testing.T) {
	tells := func(kind int64, field string) bool {
		return kind == numberKind && field == "Number" || kind == valueKind && field != "Number"
	}
	for kind := int64(1); kind <= 12; kind++ {
		if r := plainReply(kind); !impl.ReplyOk(r) {
			t.Errorf("ReplyOk(%+v) is false", r)
		}
		for _, one := range replyFields {
			for _, two := range replyFields {
				r := plainReply(kind)
				one.to(&r)
				two.to(&r)
				want := tells(kind, one.name) && tells(kind, two.name)
				if got := impl.ReplyOk(r); got != want {
					t.Errorf("ReplyOk(%+v) = %v", r, got)
				}
				if (impl.ShowReply(r) != "") != want {
					t.Errorf("ShowReply(%+v) = %q", r, impl.ShowReply(r))
				}
				checkReply(t, r)
			}
		}
		for _, n := range wholeNumbers {
			for _, to := range []func(*impl.Reply){
				func(r *impl.Reply) { r.Flags = n }, func(r *impl.Reply) { r.Cas = n }, func(r *impl.Reply) { r.Number = n },
			} {
				r := plainReply(kind)
				to(&r)
				checkReply(t, r)
			}
		}
	}
}

// TestReplyLimits: each part at its ends, one below and one above, and far off.
func TestReplyLimits(t *testing.T) {
	expect := func(r impl.Reply, want bool) {
		t.Helper()
		if got := impl.ReplyOk(r); got != want {
			t.Errorf("ReplyOk(%+v) = %v", r, got)
		}
		if (impl.ShowReply(r) != "") != want {
			t.Errorf("ShowReply(%+v) = %q", r, impl.ShowReply(r))
		}
		checkReply(t, r)
	}
	numbers := append([]int64{-1, 0, 1, 65534, 65535, 65536, 999999, 1000000, 1000001, 999999998, 999999999, 1000000000, 1<<32 + 5}, wholeNumbers...)
	for _, n := range numbers {
		expect(impl.Reply{Kind: valueKind, Name: "a", Flags: n, Bytes: "b", Cas: 1}, n >= 0 && n <= 65535)
		expect(impl.Reply{Kind: valueKind, Name: "a", Bytes: "b", Cas: n}, n >= 0 && n <= impl.MaxCas)
		expect(impl.Reply{Kind: numberKind, Number: n}, n >= 0 && n <= 999999999)
	}
	for _, size := range []int{0, 1, 2, 63, 64, 65, 66, 1000} {
		for _, one := range []string{"x", "\n", "\x00", "\xff"} {
			expect(impl.Reply{Kind: valueKind, Name: "a", Bytes: strings.Repeat(one, size)}, size <= 64)
		}
	}
	for size := range 15 {
		expect(impl.Reply{Kind: valueKind, Name: strings.Repeat("a", size)}, size >= 1 && size <= 12)
	}
	for _, name := range append(oddNames(), cmdNames...) {
		expect(impl.Reply{Kind: valueKind, Name: name, Bytes: "b", Cas: 1}, wantedName(name))
		expect(impl.Reply{Kind: numberKind, Name: name}, name == "")
		expect(impl.Reply{Kind: impl.RpNot, Name: name}, name == "")
	}
}

// TestWrongKinds: nothing is right of what is no Kind, nor is anything shown.
func TestWrongKinds(t *testing.T) {
	for _, kind := range append([]int64{0, 13, 14, -1, -5, -12, 12 + 1<<32, 1 - 1<<32, 1 << 8, 257, 256 + 5}, wholeNumbers...) {
		if kind >= 1 && kind <= 12 {
			continue
		}
		for _, r := range append(edgeReplies(), impl.Reply{}) {
			r.Kind = kind
			if impl.ReplyOk(r) || impl.ShowReply(r) != "" {
				t.Errorf("ReplyOk(%+v) = %v, ShowReply %q", r, impl.ReplyOk(r), impl.ShowReply(r))
			}
		}
	}
}

// TestReplyNumbers: each number of each line, in wrong forms, at its ends and past them.
func TestReplyNumbers(t *testing.T) {
	for _, place := range []struct {
		form      string
		low, high int64
	}{
		{"number #\n", 0, 999999999}, {"value a # 0\n\n", 0, 65535}, {"value a # 0 1\n\n", 0, 65535}, {"value a 0 0 #\n\n", 1, 1000000}, {"value a 1 2 #\nxy\n", 1, 1000000},
	} {
		for _, word := range wrongNumbers {
			expectNoReply(t, strings.Replace(place.form, "#", word, 1))
		}
		for _, n := range append([]int64{place.low - 1, place.low, place.low + 1, 9, 10, 99, 100, place.high - 1, place.high, place.high + 1}, wholeNumbers...) {
			s := strings.Replace(place.form, "#", strconv.FormatInt(n, 10), 1)
			if n < place.low || n > place.high {
				expectNoReply(t, s)
				continue
			}
			r, next := impl.ReplyAt(s, 0)
			if next != int64(len(s)) || impl.ShowReply(r) != s {
				t.Errorf("ReplyAt(%q) = %+v, %d", s, r, next)
			}
			checkReplyAt(t, s, 0)
		}
	}
}

// TestNoughtCas: no word is shown for it, so a line that has one is no reply.
func TestNoughtCas(t *testing.T) {
	for _, bytes := range replyBytes {
		r := impl.Reply{Kind: valueKind, Name: "a", Flags: 5, Bytes: bytes}
		expectReply(t, fmt.Sprintf("value a 5 %d\n%s\n", len(bytes), bytes), r)
		for _, word := range []string{"0", "00", "-0", "+0", ""} {
			expectNoReply(t, fmt.Sprintf("value a 5 %d %s\n%s\n", len(bytes), word, bytes))
		}
		r.Cas = 1
		expectReply(t, fmt.Sprintf("value a 5 %d 1\n%s\n", len(bytes), bytes), r)
	}
}

// replySizes are the lines of a value with the size left out.
var replySizes = []string{"value a 0 #\n", "value a 0 # 1\n", "value abcdefghijkl 65535 # 1000000\n"}

func TestReplySizes(t *testing.T) {
	for _, form := range replySizes {
		for _, word := range append(wrongNumbers, "65", "66", "99", "100", "640", "1000", "65536", "999999999") {
			line := strings.Replace(form, "#", word, 1)
			expectNoReply(t, line)
			for _, many := range []int{0, 1, 64, 65, 66, 99, 100, 640, 1000} {
				expectNoReplyAt(t, line+strings.Repeat("x", many)+"\n", 0)
				expectNoReplyAt(t, line+strings.Repeat("\n", many)+"\n", 0)
			}
		}
		for size := range 65 {
			line := strings.Replace(form, "#", strconv.Itoa(size), 1)
			for _, one := range []string{"x", "\n", "\x00", "\xff"} {
				bytes := strings.Repeat(one, size)
				for short := range size + 1 {
					expectNoReplyAt(t, line+bytes[:short], 0)
				}
				for _, behind := range []string{"", "\n", "x", "not\n"} {
					s := line + bytes + "\n" + behind
					if r, next := impl.ReplyAt(s, 0); r.Bytes != bytes || next != int64(len(s)-len(behind)) {
						t.Errorf("ReplyAt(%q) = %+v, %d", s, r, next)
					}
					checkReplyAt(t, s, 0)
				}
			}
		}
		for told := range 65 {
			line := strings.Replace(form, "#", strconv.Itoa(told), 1)
			for follow := range 70 {
				s := line + strings.Repeat("x", follow) + "\n"
				if told != follow {
					expectNoReplyAt(t, s, 0)
				}
				checkReplyAt(t, s, 0)
				// What follows may still end the Bytes: told bytes are not ends of lines.
				checkReplyAt(t, s+"stored\n", 0)
			}
		}
	}
}

// TestReplyByteBehind: whatever stands where the byte 10 should be.
func TestReplyByteBehind(t *testing.T) {
	for _, form := range replySizes {
		for _, size := range []int{0, 1, 2, 10, 63, 64} {
			line := strings.Replace(form, "#", strconv.Itoa(size), 1)
			for b := range 256 {
				for _, more := range []string{"", "\n", "x"} {
					s := line + strings.Repeat("y", size) + string([]byte{byte(b)}) + more
					if b != 10 {
						expectNoReplyAt(t, s, 0)
					} else if _, next := impl.ReplyAt(s, 0); next != int64(len(s)-len(more)) {
						t.Errorf("ReplyAt(%q): %d", s, next)
					}
					checkReplyAt(t, s, 0)
				}
			}
			expectNoReplyAt(t, line+strings.Repeat("y", size), 0)
		}
	}
}

func TestReplyBlanks(t *testing.T) {
	for _, line := range []string{
		"", " ", "  ", "value  a 0 0", "value a  0 0", "value a 0  0", "value a 0 0  1", "value a 0 0 ", "value a 0 0 1 ", " value a 0 0", "  value a 0 0 1", "valuea 0 0", "value a0 0", "value a 00", "value a 0 01", "value a 0 0-1", "value", "value ", "value  ", "value a ", "value a 0 ",
		"number  1", "number 1 ", " number 1", "number1", "number", "number ", "number  ", "number 1  ", "number 1 2",
		"value\ta 0 0", "value a\t0 0", "value a 0\t0", "value a 0 0\t1", "value a 0 0\r", "value a 0 0 1\r", "number\t1", "number 1\r", "number 1\x00", "number\xa01", "number\xc2\xa01", "\tnumber 1", "\rnumber 1",
	} {
		expectNoReply(t, line+"\n")
		expectNoReply(t, line+"\n\n")
	}
	for _, word := range bareWords {
		for _, line := range []string{" " + word, "  " + word, word + " ", word + "  ", word + "\t", word + "\r", "\t" + word, word + "\x00", word + "\xff", word + "\v", word + "\xc2\xa0"} {
			expectNoReply(t, line+"\n")
		}
	}
}

func TestReplyTooFewTooMany(t *testing.T) {
	for _, more := range []string{"0", "1", "a", "-", "not", "quiet", "1 1", "value a 0 0"} {
		for _, word := range bareWords {
			expectNoReply(t, word+" "+more+"\n")
			expectNoReply(t, word+" "+more+"\n\n")
		}
		expectNoReply(t, "number 1 "+more+"\n")
		expectNoReply(t, "value a 0 0 1 "+more+"\n\n")
		expectNoReply(t, "value a 0 1 1 "+more+"\nx\n")
	}
	for _, line := range []string{"number", "value", "value a", "value a 0", "value 0", "value 0 0", "value 0 0 ", "a 0 0", "0", "1"} {
		expectNoReply(t, line+"\n")
		expectNoReply(t, line+"\n\n")
		expectNoReply(t, line+"\nx\n")
	}
}

// TestReplyNames: a value whose Name is none is none.
func TestReplyNames(t *testing.T) {
	for _, name := range append(oddNames(), "abcdefghijklm", "a\x00", "\r", "a\xff", "Value", "ä", "a.b", "a/b", strings.Repeat("a", 200)) {
		for _, form := range []string{"value # 0 0\n\n", "value # 0 1 1\nx\n"} {
			s := strings.Replace(form, "#", name, 1)
			if wantedName(name) {
				checkReplyAt(t, s, 0)
			} else {
				expectNoReply(t, s)
			}
		}
	}
}

// TestReplyFirstWords: right lines but for the first word.
func TestReplyFirstWords(t *testing.T) {
	for kind := int64(1); kind <= 12; kind++ {
		s := impl.ShowReply(plainReply(kind))
		word := s[:strings.IndexAny(s, " \n")]
		rest := s[len(word):]
		for _, other := range []string{
			strings.ToUpper(word), strings.ToUpper(word[:1]) + word[1:], word[:len(word)-1] + strings.ToUpper(word[len(word)-1:]), word + word, word[1:], word[:len(word)-1], word + "x", "x" + word, word + "s", "-" + word, word + ":", "\xef\xbb\xbf" + word, word + "é", "", "\x00" + word,
		} {
			expectNoReply(t, other+rest)
		}
	}
	for _, word := range []string{"what", "a", "0", "1", "5", "12", "-", "get", "set", "clear", "touch", "quiet", "values", "numbers", "deleted", "end", "ok", "server_error", "é", "\xff", "\x00", "\r", "\t", "not_stored", "nOt"} {
		for _, rest := range []string{"", " ", " 1", " a 0 0", " a 0 0 1", " not"} {
			expectNoReply(t, word+rest+"\n")
			expectNoReply(t, word+rest+"\n\n")
		}
	}
}

func TestReplyPlaces(t *testing.T) {
	s := "not\nvalue b 1 4 9\nbad\n\nnumber 12\n"
	for at, want := range map[int64]int64{
		0: 4, 1: -1, 3: -1, 4: 23, 5: -1, 17: -1, 18: 22, 19: -1, 21: -1, 22: -1, 23: 33, 24: -1, 32: -1, 33: -1, 34: -1, 35: -1, -1: -1, -2: -1, -33: -1,
		1 << 32: -1, 1<<32 + 4: -1, -1 << 32: -1, 4 - 1<<32: -1, math.MaxInt64: -1, math.MinInt64: -1, math.MinInt64 + 4: -1,
	} {
		if _, next := impl.ReplyAt(s, at); next != want {
			t.Errorf("ReplyAt(%q, %d): %d, want %d", s, at, next, want)
		}
		checkReplyAt(t, s, at)
	}
	for _, s := range replyTexts {
		for _, at := range append(wholeNumbers, -int64(len(s)), int64(len(s))+1<<32) {
			checkReplyAt(t, s, at)
		}
		for _, at := range []int64{int64(len(s)), int64(len(s)) + 1, -1} {
			expectNoReplyAt(t, s, at)
		}
	}
}

func TestReplyEmptyText(t *testing.T) {
	expectNoReplyAt(t, "", 0)
	for _, at := range wholeNumbers {
		expectNoReplyAt(t, "", at)
	}
	if impl.ReplyOk(impl.Reply{}) || impl.ShowReply(impl.Reply{}) != "" {
		t.Errorf("ReplyOk %v, ShowReply %q", impl.ReplyOk(impl.Reply{}), impl.ShowReply(impl.Reply{}))
	}
	nameless := impl.Reply{Kind: valueKind, Bytes: "x", Cas: 1}
	if impl.ReplyOk(nameless) || impl.ShowReply(nameless) != "" {
		t.Errorf("ReplyOk %v, ShowReply %q", impl.ReplyOk(nameless), impl.ShowReply(nameless))
	}
	expectReply(t, "value a 0 0 1\n\n", impl.Reply{Kind: valueKind, Name: "a", Cas: 1})
}

// TestReplyEveryByte: each byte alone, ahead of a reply, behind it, and in each place of it.
func TestReplyEveryByte(t *testing.T) {
	var shown []string
	for kind := int64(1); kind <= 12; kind++ {
		shown = append(shown, impl.ShowReply(plainReply(kind)))
	}
	shown = append(shown, "number 120\n", "value ab 10 3\nxyz\n", "value ab 10 3 20\nxyz\n")
	for b := range 256 {
		one := string([]byte{byte(b)})
		expectNoReply(t, one+"\n")
		for _, s := range []string{one, one + one, strings.Repeat(one, 100), strings.Repeat(one, 101), strings.Repeat(one, 300)} {
			expectNoReplyAt(t, s, 0)
		}
		for _, s := range shown {
			for place := range len(s) + 1 {
				checkReplyAt(t, s[:place]+one+s[place:], 0)
				checkReplyAt(t, s[:place]+one+s[place:], 1)
				if place < len(s) {
					checkReplyAt(t, s[:place]+one+s[place+1:], 0)
				}
			}
		}
	}
}

// TestReplyLongTexts: what is far too long for a line is no reply, nor does it keep one from being read.
func TestReplyLongTexts(t *testing.T) {
	long := strings.Repeat("9", 1<<20)
	for _, s := range []string{long, "number " + long + "\n", "value " + long + "\n", "value a 0 " + long + "\n\n", "value a 0 0 " + long + "\n\n", "not" + long + "\n", strings.Repeat(" ", 1<<20) + "\n", "value" + strings.Repeat(" 1", 1<<19) + "\n"} {
		expectNoReplyAt(t, s, 0)
	}
	if r, next := impl.ReplyAt(long+"number 7\n"+long, 1<<20); r != (impl.Reply{Kind: numberKind, Number: 7}) || next != 1<<20+9 {
		t.Errorf("%+v, %d", r, next)
	}
	most := impl.Reply{Kind: valueKind, Name: "abcdefghijkl", Flags: 65535, Bytes: strings.Repeat("\n", 64), Cas: 1000000}
	if r, next := impl.ReplyAt(long+impl.ShowReply(most)+long, 1<<20); r != most || next != 1<<20+101 {
		t.Errorf("%+v, %d", r, next)
	}
}

// TestReplyNewMemory: no answer lies in what was given.
func TestReplyNewMemory(t *testing.T) {
	for _, r := range edgeReplies() {
		shown := impl.ShowReply(r)
		if sharesText(shown, r.Name) || sharesText(shown, r.Bytes) {
			t.Fatalf("ShowReply(%+v) lies in its argument", r)
		}
		text := shown + shown
		for _, at := range []int{0, len(shown)} {
			got, _ := impl.ReplyAt(text, int64(at))
			if got != r || sharesText(got.Name, text) || sharesText(got.Bytes, text) || sharesText(got.Name, got.Bytes) {
				t.Fatalf("ReplyAt(%q, %d) lies in its argument", text, at)
			}
		}
	}
}

// TestReplyArgumentsStay: what was given, and what stands around it in the same memory, reads as before.
func TestReplyArgumentsStay(t *testing.T) {
	texts := slices.Clone(replyTexts)
	for _, r := range edgeReplies() {
		texts = append(texts, impl.ShowReply(r), r.Name, r.Bytes)
	}
	for _, s := range texts {
		memory := []byte("<<<<" + s + ">>>>")
		before := string(memory)
		given := unsafe.String(&memory[4], len(s))
		stays := func(call string) {
			if string(memory) != before {
				t.Fatalf("%s of %q: %q was %q", call, s, memory, before)
			}
		}
		for at := int64(-1); at <= int64(len(s))+1; at++ {
			impl.ReplyAt(given, at)
			stays("ReplyAt")
		}
		for kind := int64(-1); kind <= 14; kind++ {
			for _, r := range []impl.Reply{{Kind: kind, Name: given, Bytes: given}, {Kind: kind, Name: "a", Bytes: given, Cas: 1}, {Kind: kind, Name: given}} {
				impl.ReplyOk(r)
				impl.ShowReply(r)
				stays("ReplyOk, ShowReply")
			}
		}
	}
	for _, r := range edgeReplies() {
		before := r
		impl.ReplyOk(r)
		impl.ShowReply(r)
		if r != before {
			t.Fatalf("%+v was %+v", r, before)
		}
	}
}

// TestReplyTwice: nothing is kept from call to call.
func TestReplyTwice(t *testing.T) {
	for _, s := range replyTexts {
		r, next := impl.ReplyAt(s, 0)
		for _, other := range replyTexts {
			impl.ReplyAt(other, 0)
			impl.ShowReply(r)
			if again, place := impl.ReplyAt(s, 0); again != r || place != next {
				t.Fatalf("ReplyAt(%q) behind %q: %+v, %d", s, other, again, place)
			}
		}
	}
}
