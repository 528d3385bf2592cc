package tests

import (
	"fmt"
	"math"
	"regexp"
	"slices"
	"strconv"
	"strings"
	"testing"
	"unsafe"

	"loop.example/g00401/impl"
)

// verbLine is how a Verb is written, and what is told of it, a letter each: Name, Flags, Until, Bytes, Cas, Delta, Quiet.
type verbLine struct {
	verb int64
	word string
	told string
}

var verbLines = []verbLine{
	{1, "get", "N"}, {2, "gets", "N"}, {3, "set", "NFUBQ"}, {4, "add", "NFUBQ"}, {5, "replace", "NFUBQ"}, {6, "tail", "NBQ"}, {7, "head", "NBQ"},
	{8, "cas", "NFUBCQ"}, {9, "up", "NDQ"}, {10, "down", "NDQ"}, {11, "touch", "NUQ"}, {12, "cut", "NQ"}, {13, "clear", "Q"},
}

func (v verbLine) tells(letter string) bool { return strings.Contains(v.told, letter) }

// verbLineOf is empty of what is no Verb.
func verbLineOf(verb int64) verbLine {
	for _, v := range verbLines {
		if v.verb == verb {
			return v
		}
	}
	return verbLine{}
}

const (
	namePattern   = `([a-z0-9-]{1,12})`
	numberPattern = `(0|[1-9][0-9]{0,8})`
	quietPattern  = `( quiet)?`
)

// linePatterns are the lines of commands, whatever their numbers come to.
var linePatterns = []*regexp.Regexp{
	regexp.MustCompile(`\A(get|gets) ` + namePattern + `\z`),
	regexp.MustCompile(`\A(set|add|replace) ` + namePattern + ` ` + numberPattern + ` ` + numberPattern + ` ` + numberPattern + quietPattern + `\z`),
	regexp.MustCompile(`\A(tail|head) ` + namePattern + ` ` + numberPattern + quietPattern + `\z`),
	regexp.MustCompile(`\A(cas) ` + namePattern + ` ` + numberPattern + ` ` + numberPattern + ` ` + numberPattern + ` ` + numberPattern + quietPattern + `\z`),
	regexp.MustCompile(`\A(up|down) ` + namePattern + ` ` + numberPattern + quietPattern + `\z`),
	regexp.MustCompile(`\A(touch) ` + namePattern + ` ` + numberPattern + quietPattern + `\z`),
	regexp.MustCompile(`\A(cut) ` + namePattern + quietPattern + `\z`),
	regexp.MustCompile(`\A(clear)` + quietPattern + `\z`),
}

// firstWord is all that stands ahead of the first blank.
var firstWord = regexp.MustCompile(`\A(?:get|gets|set|add|replace|tail|head|cas|up|down|touch|cut|clear)(?: |\z)`)

// cmdLimits are the ends of what each number of a command can be.
var cmdLimits = map[string][2]int64{"F": {0, 65535}, "U": {0, 1000000}, "B": {0, 64}, "C": {1, 1000000}, "D": {0, 1000000}}

func inLimits(letter string, n int64) bool {
	return n >= cmdLimits[letter][0] && n <= cmdLimits[letter][1]
}

// wantedLine is the command of a line, without its Bytes; size is -1 where none is told.
func wantedLine(line string) (c impl.Cmd, size int64, ok bool) {
	for _, pattern := range linePatterns {
		words := pattern.FindStringSubmatch(line)
		if words == nil {
			continue
		}
		v := verbLines[slices.IndexFunc(verbLines, func(v verbLine) bool { return v.word == words[1] })]
		c, size, ok = impl.Cmd{Verb: v.verb}, -1, true
		for place, letter := range strings.Split(v.told, "") {
			word := words[2+place]
			n, _ := strconv.ParseInt(word, 10, 64)
			switch letter {
			case "N":
				c.Name = word
				continue
			case "Q":
				c.Quiet = word != ""
				continue
			case "F":
				c.Flags = n
			case "U":
				c.Until = n
			case "B":
				size = n
			case "C":
				c.Cas = n
			case "D":
				c.Delta = n
			}
			ok = ok && inLimits(letter, n)
		}
		return c, size, ok
	}
	return impl.Cmd{}, -1, false
}

// wantedAt takes the words of the document one by one.
func wantedAt(s string, at int64) (impl.Cmd, int64, int64) {
	none := impl.Cmd{}
	if at < 0 || at > int64(len(s)) {
		return none, -1, -1
	}
	rest := s[at:]
	length := int64(strings.IndexByte(rest, 10))
	switch {
	case length < 0 && len(rest) <= 100:
		return none, at, 1
	case length < 0 || length > 100:
		return none, at + 101, 3
	}
	line, follows := rest[:length], rest[length+1:]
	behind := at + length + 1
	c, size, ok := wantedLine(line)
	switch {
	case ok && size < 0:
		return c, behind, 0
	case ok && int64(len(follows)) < size+1:
		return none, at, 1
	case !firstWord.MatchString(line):
		return none, behind, 2
	case !ok || follows[size] != 10:
		return none, behind, 3
	}
	c.Bytes = follows[:size]
	return c, behind + size + 1, 0
}

func wantedCmds(s string) (list []impl.Cmd, codes []int64, taken int64) {
	for {
		c, next, code := wantedAt(s, taken)
		switch code {
		case 1:
			return list, codes, taken
		case 0:
			list = append(list, c)
		}
		codes = append(codes, code)
		taken = next
	}
}

// wantedCmd: what is told is right, all else is zero.
func wantedCmd(c impl.Cmd) bool {
	v := verbLineOf(c.Verb)
	rest := c
	rest.Verb = 0
	for _, letter := range v.told {
		switch letter {
		case 'N':
			rest.Name = ""
		case 'F':
			rest.Flags = 0
		case 'U':
			rest.Until = 0
		case 'B':
			rest.Bytes = ""
		case 'C':
			rest.Cas = 0
		case 'D':
			rest.Delta = 0
		case 'Q':
			rest.Quiet = false
		}
	}
	switch {
	case v.verb == 0 || rest != impl.Cmd{}:
	case v.tells("N") && !wantedName(c.Name):
	case !inLimits("F", c.Flags), !inLimits("U", c.Until), !inLimits("B", int64(len(c.Bytes))), !inLimits("D", c.Delta):
	case v.tells("C") && !inLimits("C", c.Cas):
	default:
		return true
	}
	return false
}

func wantedShow(c impl.Cmd) string {
	if !wantedCmd(c) {
		return ""
	}
	quiet := map[bool]string{true: " quiet"}[c.Quiet]
	word := verbLineOf(c.Verb).word
	switch c.Verb {
	case impl.VbGet, impl.VbGets:
		return fmt.Sprintf("%s %s\n", word, c.Name)
	case impl.VbSet, impl.VbAdd, impl.VbReplace:
		return fmt.Sprintf("%s %s %d %d %d%s\n%s\n", word, c.Name, c.Flags, c.Until, len(c.Bytes), quiet, c.Bytes)
	case impl.VbTail, impl.VbHead:
		return fmt.Sprintf("%s %s %d%s\n%s\n", word, c.Name, len(c.Bytes), quiet, c.Bytes)
	case impl.VbCas:
		return fmt.Sprintf("%s %s %d %d %d %d%s\n%s\n", word, c.Name, c.Flags, c.Until, len(c.Bytes), c.Cas, quiet, c.Bytes)
	case impl.VbUp, impl.VbDown:
		return fmt.Sprintf("%s %s %d%s\n", word, c.Name, c.Delta, quiet)
	case impl.VbTouch:
		return fmt.Sprintf("%s %s %d%s\n", word, c.Name, c.Until, quiet)
	case impl.VbCut:
		return fmt.Sprintf("%s %s%s\n", word, c.Name, quiet)
	}
	return fmt.Sprintf("%s%s\n", word, quiet)
}

// checkCmd asks all that can be asked of a command, right or wrong.
func checkCmd(t *testing.T, c impl.Cmd) {
	t.Helper()
	if got, want := impl.CmdOk(c), wantedCmd(c); got != want {
		t.Fatalf("CmdOk(%+v) = %v", c, got)
	}
	if got, want := impl.ShowCmd(c), wantedShow(c); got != want {
		t.Fatalf("ShowCmd(%+v) = %q, want %q", c, got, want)
	}
}

// checkAt also holds what is told against ShowCmd: a command stands there in no other form.
func checkAt(t *testing.T, s string, at int64) {
	t.Helper()
	before := strings.Clone(s)
	c, next, code := impl.CmdAt(s, at)
	if s != before {
		t.Fatalf("CmdAt(%q, %d): the text is %q", before, at, s)
	}
	if want, place, kind := wantedAt(s, at); c != want || next != place || code != kind {
		t.Fatalf("CmdAt(%q, %d) = %+v, %d, %d, want %+v, %d, %d", s, at, c, next, code, want, place, kind)
	}
	switch code {
	case impl.AtCmd:
		if !impl.CmdOk(c) || impl.ShowCmd(c) != s[at:next] {
			t.Fatalf("CmdAt(%q, %d) = %+v, to %d: ShowCmd %q", s, at, c, next, impl.ShowCmd(c))
		}
	default:
		if c != (impl.Cmd{}) {
			t.Fatalf("CmdAt(%q, %d) = %+v, %d, %d", s, at, c, next, code)
		}
	}
}

func checkCmds(t *testing.T, s string) {
	t.Helper()
	before := strings.Clone(s)
	list, codes, taken := impl.Cmds(s)
	if s != before {
		t.Fatalf("Cmds(%q): the text is %q", before, s)
	}
	if want, kinds, many := wantedCmds(s); !slices.Equal(list, want) || !slices.Equal(codes, kinds) || taken != many {
		t.Fatalf("Cmds(%q) = %+v, %d, %d, want %+v, %d, %d", s, list, codes, taken, want, kinds, many)
	}
	if taken < 0 || taken > int64(len(s)) || !slices.Equal(kept(codes, impl.AtCmd), make([]int64, len(list))) || slices.Contains(codes, impl.AtMore) {
		t.Fatalf("Cmds(%q) = %+v, %d, %d", s, list, codes, taken)
	}
}

func kept(list []int64, one int64) []int64 {
	return slices.DeleteFunc(slices.Clone(list), func(n int64) bool { return n != one })
}

// expectAt is for what the document's words say of one text.
func expectAt(t *testing.T, s string, at, place, code int64) {
	t.Helper()
	if _, next, got := impl.CmdAt(s, at); next != place || got != code {
		t.Errorf("CmdAt(%q, %d) = %d, %d, want %d, %d", s, at, next, got, place, code)
	}
	checkAt(t, s, at)
}

// expectLine is for a line that is no command, with nothing behind it and with much.
func expectLine(t *testing.T, line string, code int64) {
	t.Helper()
	for _, behind := range []string{"", "\n", "x", "get a\n", strings.Repeat("\n", 200), strings.Repeat("x", 200)} {
		for _, ahead := range []string{"", "\n", "set a 0 0 9\n"} {
			expectAt(t, ahead+line+"\n"+behind, int64(len(ahead)), int64(len(ahead)+len(line)+1), code)
		}
	}
	expectAt(t, line, 0, 0, impl.AtMore)
}

// expectCmd is for a text that is a command, whole.
func expectCmd(t *testing.T, s string, want impl.Cmd) {
	t.Helper()
	if c, next, code := impl.CmdAt(s, 0); c != want || next != int64(len(s)) || code != impl.AtCmd {
		t.Errorf("CmdAt(%q) = %+v, %d, %d, want %+v", s, c, next, code, want)
	}
	if !impl.CmdOk(want) || impl.ShowCmd(want) != s {
		t.Errorf("ShowCmd(%+v) = %q, want %q", want, impl.ShowCmd(want), s)
	}
	askShown(t, want)
}

// askShown holds a right command against promise 11, whatever stands ahead of it and behind it.
func askShown(t *testing.T, c impl.Cmd) {
	t.Helper()
	checkCmd(t, c)
	shown := impl.ShowCmd(c)
	if shown == "" || !strings.HasSuffix(shown, "\n") {
		t.Fatalf("ShowCmd(%+v) = %q", c, shown)
	}
	for _, ahead := range []string{"", "x", "\n", " ", "get a\n", "set a 0 0 3\nx", "\xff\x00\r", shown, strings.Repeat("z", 150)} {
		for _, behind := range []string{"", "x", "\n", " ", " quiet\n", "quiet", "get a\n", "\x00\r\xff", shown, strings.Repeat("z", 150)} {
			got, next, code := impl.CmdAt(ahead+shown+behind, int64(len(ahead)))
			if got != c || next != int64(len(ahead)+len(shown)) || code != impl.AtCmd {
				t.Fatalf("CmdAt(%q, %d) = %+v, %d, %d, want %+v", ahead+shown+behind, len(ahead), got, next, code, c)
			}
		}
		for short := range len(shown) {
			got, next, code := impl.CmdAt(ahead+shown[:short], int64(len(ahead)))
			if got != (impl.Cmd{}) || next != int64(len(ahead)) || code != impl.AtMore {
				t.Fatalf("CmdAt(%q, %d) = %+v, %d, %d, of %q", ahead+shown[:short], len(ahead), got, next, code, shown)
			}
		}
	}
	if list, codes, taken := impl.Cmds(shown); len(list) != 1 || list[0] != c || !slices.Equal(codes, []int64{impl.AtCmd}) || taken != int64(len(shown)) {
		t.Fatalf("Cmds(%q) = %+v, %d, %d", shown, list, codes, taken)
	}
}

// shaped leaves out of c what is not told of the Verb.
func shaped(v verbLine, c impl.Cmd) impl.Cmd {
	out := impl.Cmd{Verb: v.verb}
	if v.tells("N") {
		out.Name = c.Name
	}
	if v.tells("F") {
		out.Flags = c.Flags
	}
	if v.tells("U") {
		out.Until = c.Until
	}
	if v.tells("B") {
		out.Bytes = c.Bytes
	}
	if v.tells("C") {
		out.Cas = c.Cas
	}
	if v.tells("D") {
		out.Delta = c.Delta
	}
	out.Quiet = v.tells("Q") && c.Quiet
	return out
}

// cmdNames are names that may be taken for other words, and the shortest and the longest.
var cmdNames = []string{"a", "abcdefghijkl", "quiet", "get", "clear", "cut", "0", "64", "-", "-1", "------------", "999999999999"}

// cmdBytes are what may be taken for ends of lines, for words, and for commands.
var cmdBytes = []string{"", "\n", "x", "\n\n", "x\ny", " quiet", "quiet\n", "get a\n", "\x00\r\xff", "é", strings.Repeat("x", 64), strings.Repeat("\n", 64), strings.Repeat("\xff", 63)}

// edgeCmds are right ones of every Verb, all at the least and at the most, Quiet and not, each once.
func edgeCmds() []impl.Cmd {
	seen := map[impl.Cmd]bool{}
	var list []impl.Cmd
	add := func(c impl.Cmd) {
		for _, v := range verbLines {
			for _, quiet := range []bool{false, true} {
				c.Quiet = quiet
				if one := shaped(v, c); !seen[one] {
					seen[one] = true
					list = append(list, one)
				}
			}
		}
	}
	least := impl.Cmd{Name: "a", Cas: 1}
	most := impl.Cmd{Name: "abcdefghijkl", Flags: 65535, Until: 1000000, Bytes: strings.Repeat("z", 64), Cas: 1000000, Delta: 1000000}
	for mask := range 64 {
		c := least
		pick(mask, 0, &c.Name, most.Name)
		pick(mask, 1, &c.Flags, most.Flags)
		pick(mask, 2, &c.Until, most.Until)
		pick(mask, 3, &c.Bytes, most.Bytes)
		pick(mask, 4, &c.Cas, most.Cas)
		pick(mask, 5, &c.Delta, most.Delta)
		add(c)
	}
	for _, name := range cmdNames {
		c := least
		c.Name = name
		add(c)
	}
	for _, bytes := range cmdBytes {
		c := least
		c.Bytes = bytes
		add(c)
	}
	return list
}

func pick[T any](mask, bit int, to *T, value T) {
	if mask>>bit&1 == 1 {
		*to = value
	}
}

// rolledCmd is right, of any Verb.
func rolledCmd(roll func(int) int64) impl.Cmd {
	i := rolledItem(rolledName(roll), roll)
	if roll(3) == 0 {
		i.Name = cmdNames[roll(len(cmdNames))]
	}
	if roll(3) == 0 {
		i.Bytes = cmdBytes[roll(len(cmdBytes))]
	}
	c := impl.Cmd{Name: i.Name, Flags: i.Flags, Until: i.Until, Bytes: i.Bytes, Cas: i.Cas, Delta: roll(1000001), Quiet: roll(2) == 0}
	return shaped(verbLines[roll(len(verbLines))], c)
}

func TestPromise11Shown(t *testing.T) {
	count := map[int64]int{}
	for _, c := range edgeCmds() {
		askShown(t, c)
		count[c.Verb]++
	}
	for _, v := range verbLines {
		if count[v.verb] < 2 {
			t.Errorf("%d commands of %s", count[v.verb], v.word)
		}
	}
	roll := rolls(11)
	for range 2000 {
		askShown(t, rolledCmd(roll))
	}
}

// TestPromise11Unlike: no two commands are written alike, nor is one the beginning of another.
func TestPromise11Unlike(t *testing.T) {
	list := edgeCmds()
	roll := rolls(111)
	for range 1000 {
		list = append(list, rolledCmd(roll))
	}
	var shown []string
	whose := map[string]impl.Cmd{}
	for _, c := range list {
		s := impl.ShowCmd(c)
		if other, ok := whose[s]; ok && other != c {
			t.Fatalf("%+v and %+v are both %q", other, c, s)
		}
		whose[s] = c
		shown = append(shown, s)
	}
	slices.Sort(shown)
	shown = slices.Compact(shown)
	for i := 1; i < len(shown); i++ {
		if strings.HasPrefix(shown[i], shown[i-1]) {
			t.Errorf("%q begins with %q", shown[i], shown[i-1])
		}
	}
}

// cmdHistory is what Cmds told of one piece after the other.
type cmdHistory struct {
	list  []impl.Cmd
	codes []int64
	taken int64
	rest  string
}

func (h *cmdHistory) feed(piece string) {
	text := h.rest + piece
	list, codes, taken := impl.Cmds(text)
	h.list, h.codes, h.taken, h.rest = append(h.list, list...), append(h.codes, codes...), h.taken+taken, text[taken:]
}

func askPieces(t *testing.T, pieces ...string) {
	t.Helper()
	var h cmdHistory
	for _, piece := range pieces {
		h.feed(piece)
	}
	list, codes, taken := impl.Cmds(strings.Join(pieces, ""))
	if !slices.Equal(h.list, list) || !slices.Equal(h.codes, codes) || h.taken != taken {
		t.Fatalf("%q: %+v, %d, %d, all at once %+v, %d, %d", pieces, h.list, h.codes, h.taken, list, codes, taken)
	}
}

// askCuts cuts a text at every place, and byte by byte.
func askCuts(t *testing.T, s string) {
	t.Helper()
	checkCmds(t, s)
	for cut := range len(s) + 1 {
		askPieces(t, s[:cut], s[cut:])
	}
	var single []string
	for i := range len(s) {
		single = append(single, s[i:i+1])
	}
	askPieces(t, single...)
}

// cmdTexts are short texts of commands, of other lines, and of neither.
var cmdTexts = []string{
	"", "\n", "\n\n\n", " ", " \n", "get a\n", "get a", "get a\nget b\ngets c\n", "get a\nwhat\nset a 0 0 1\nxx\nget b\nge",
	"set a 1 2 3\nx\ny\nget a\n", "set a 1 2 3 quiet\n\n\n\n\n\n", "set a 0 0 0\n\nset a 0 0 0\nx", "tail a 5\nget b\nhead a 6\nget b\n\nget c\n",
	"set a 0 0 65\n" + strings.Repeat("x", 65) + "\nget a\n", "set a 0 0 64\n" + strings.Repeat("x", 64) + "\nget a\n", "set a 0 0 64\n" + strings.Repeat("x", 65) + "\nget a\n",
	strings.Repeat("x", 99) + "\nget a\n", strings.Repeat("x", 100) + "\nget a\n", strings.Repeat("x", 101) + "\nget a\n", strings.Repeat("x", 102) + "\nget a\n", strings.Repeat("x", 101) + "get a\n",
	strings.Repeat("x", 202) + "get a\n", strings.Repeat("x", 203) + "get a\n", strings.Repeat("x", 303), "get " + strings.Repeat("a", 96) + "\nget a\n", "get " + strings.Repeat("a", 97) + "\nget a\n",
	"cut quiet\ncut quiet quiet\ncut quiet quiet quiet\ncut\nclear quiet\nclear\nclear a\n", "up a 1\ndown a 2 quiet\ntouch a 3\ntouch a x\n", "cas a 3 9 3 7 quiet\nx\nycas a 3 9 3 7 quiet\nx\ny\n",
	"get a\r\n\r\n\x00\n\xff\n", "GET a\nGet a\n get a\nget  a\nget a \n", string(make([]byte, 101)), string(make([]byte, 250)), "é\nget é\nset é 0 0 2\né\n",
}

func TestPromise11Cuts(t *testing.T) {
	for _, s := range cmdTexts {
		askCuts(t, s)
	}
	for _, c := range edgeCmds() {
		askCuts(t, impl.ShowCmd(c)+"get a\n")
	}
	roll := rolls(1111)
	for range 250 {
		text := ""
		for range 1 + roll(7) {
			text += rolledPiece(roll)
		}
		askCuts(t, text)
	}
}

// TestPromise11Pieces: more cuts than one, at all places of short texts and at some of long ones.
func TestPromise11Pieces(t *testing.T) {
	for _, s := range cmdTexts {
		for one := 0; one <= len(s) && len(s) <= 80; one++ {
			for two := one; two <= len(s); two++ {
				askPieces(t, s[:one], s[one:two], s[two:])
			}
		}
	}
	roll := rolls(11111)
	for range 400 {
		text := ""
		for range 30 {
			text += rolledPiece(roll)
		}
		checkCmds(t, text)
		var pieces []string
		for len(text) > 0 {
			size := min(len(text), int(roll(60)*roll(4)))
			pieces = append(pieces, text[:size])
			text = text[size:]
		}
		askPieces(t, pieces...)
	}
}

// rolledPiece is a command, nearly one, another line, or bytes of all kinds.
func rolledPiece(roll func(int) int64) string {
	shown := impl.ShowCmd(rolledCmd(roll))
	place := int(roll(len(shown)))
	switch roll(10) {
	case 0:
		return shown[:place]
	case 1:
		return shown[place:]
	case 2:
		return shown[:place] + string([]byte{byte(roll(256))}) + shown[place:]
	case 3:
		return shown[:place] + string([]byte{byte(roll(256))}) + shown[place+1:]
	case 4:
		return shown[:place] + "\n" + shown[place:]
	case 5:
		return rolledLine(roll)
	case 6:
		return rolledBytes(roll, int(roll(130)))
	}
	return shown
}

// rolledLine is made of the words of commands, in no order.
func rolledLine(roll func(int) int64) string {
	words := []string{"quiet", "a", "", "0", "1", "64", "65", "65535", "65536", "1000000", "1000001", "-1", "00", "get", "x\ny"}
	line := []string{verbLines[roll(len(verbLines))].word}
	for range roll(8) {
		line = append(line, words[roll(len(words))])
	}
	return strings.Join(line, " ") + "\n"
}

func rolledBytes(roll func(int) int64, many int) string {
	var bytes []byte
	for range many {
		bytes = append(bytes, byte(roll(256)))
	}
	return string(bytes)
}

// TestEveryWordLine: all texts of up to six of these words and bytes.
func TestEveryWordLine(t *testing.T) {
	for _, pieces := range [][]string{
		{"cut", "quiet", " ", "a", "\n"}, {"clear", " ", "quiet", "\n", "\r"}, {"tail a", " 1", " quiet", "\n", "x"}, {"get", "s", " ", "\n", "b"}, {"up b", " ", "0", "7", "\n", "quiet"},
		{"set a 0 0", " 0", "1", "\n", " quiet"}, {"cas a 0 0", " 1", "0", "\n", " quiet"}, {"touch", " ", "quiet", "5", "\n"},
	} {
		everyText(pieces, 6, "", func(s string) {
			checkAt(t, s, 0)
			checkCmds(t, s)
		})
	}
}

func everyText(pieces []string, upTo int, begin string, visit func(string)) {
	visit(begin)
	if upTo == 0 {
		return
	}
	for _, piece := range pieces {
		everyText(pieces, upTo-1, begin+piece, visit)
	}
}

func TestCmdConstants(t *testing.T) {
	verbs := []int64{
		impl.VbGet, impl.VbGets, impl.VbSet, impl.VbAdd, impl.VbReplace, impl.VbTail, impl.VbHead, impl.VbCas, impl.VbUp, impl.VbDown, impl.VbTouch, impl.VbCut, impl.VbClear,
	}
	for i, verb := range verbs {
		if verb != int64(i+1) {
			t.Errorf("verb %d is %d", i+1, verb)
		}
	}
	if impl.AtCmd != 0 || impl.AtMore != 1 || impl.AtError != 2 || impl.AtBad != 3 || impl.MaxLine != 100 {
		t.Error(impl.AtCmd, impl.AtMore, impl.AtError, impl.AtBad, impl.MaxLine)
	}
}

func TestShowCmd(t *testing.T) {
	x64 := strings.Repeat("x", 64)
	for s, c := range map[string]impl.Cmd{
		"get a\n":                                 {Verb: 1, Name: "a"},
		"gets abcdefghijkl\n":                     {Verb: 2, Name: "abcdefghijkl"},
		"set a 0 0 0\n\n":                         {Verb: 3, Name: "a"},
		"set a 65535 1000000 3 quiet\nx\ny\n":     {Verb: 3, Name: "a", Flags: 65535, Until: 1000000, Bytes: "x\ny", Quiet: true},
		"add a-b 1 2 1\n\n\n":                     {Verb: 4, Name: "a-b", Flags: 1, Until: 2, Bytes: "\n"},
		"add get 1 2 6 quiet\nget a\n\n":          {Verb: 4, Name: "get", Flags: 1, Until: 2, Bytes: "get a\n", Quiet: true},
		"replace - 10 20 64\n" + x64 + "\n":       {Verb: 5, Name: "-", Flags: 10, Until: 20, Bytes: x64},
		"replace 0 10 20 2 quiet\né\n":            {Verb: 5, Name: "0", Flags: 10, Until: 20, Bytes: "é", Quiet: true},
		"tail a 1\nx\n":                           {Verb: 6, Name: "a", Bytes: "x"},
		"tail quiet 0 quiet\n\n":                  {Verb: 6, Name: "quiet", Quiet: true},
		"head a 64\n" + x64 + "\n":                {Verb: 7, Name: "a", Bytes: x64},
		"head 64 3 quiet\n\x00\r\xff\n":           {Verb: 7, Name: "64", Bytes: "\x00\r\xff", Quiet: true},
		"cas a 3 9 3 7 quiet\nx\ny\n":             {Verb: 8, Name: "a", Flags: 3, Until: 9, Bytes: "x\ny", Cas: 7, Quiet: true},
		"cas quiet 0 0 0 1\n\n":                   {Verb: 8, Name: "quiet", Cas: 1},
		"cas a 65535 1000000 2 1000000\nab\n":     {Verb: 8, Name: "a", Flags: 65535, Until: 1000000, Bytes: "ab", Cas: 1000000},
		"up a 0\n":                                {Verb: 9, Name: "a"},
		"up a 1000000 quiet\n":                    {Verb: 9, Name: "a", Delta: 1000000, Quiet: true},
		"down a 10\n":                             {Verb: 10, Name: "a", Delta: 10},
		"down quiet 0 quiet\n":                    {Verb: 10, Name: "quiet", Quiet: true},
		"touch a 0\n":                             {Verb: 11, Name: "a"},
		"touch 1 1000000 quiet\n":                 {Verb: 11, Name: "1", Until: 1000000, Quiet: true},
		"cut a\n":                                 {Verb: 12, Name: "a"},
		"cut a quiet\n":                           {Verb: 12, Name: "a", Quiet: true},
		"cut quiet\n":                             {Verb: 12, Name: "quiet"},
		"cut quiet quiet\n":                       {Verb: 12, Name: "quiet", Quiet: true},
		"get quiet\n":                             {Verb: 1, Name: "quiet"},
		"gets quiet\n":                            {Verb: 2, Name: "quiet"},
		"set quiet 0 0 5 quiet\nquiet\n":          {Verb: 3, Name: "quiet", Bytes: "quiet", Quiet: true},
		"up quiet 5\n":                            {Verb: 9, Name: "quiet", Delta: 5},
		"touch quiet 5\n":                         {Verb: 11, Name: "quiet", Until: 5},
		"clear\n":                                 {Verb: 13},
		"clear quiet\n":                           {Verb: 13, Quiet: true},
		"set clear 0 0 12 quiet\nset a 0 0 1\n\n": {Verb: 3, Name: "clear", Bytes: "set a 0 0 1\n", Quiet: true},
	} {
		expectCmd(t, s, c)
	}
}

// TestCmdLimits: each part of each Verb at its ends, one below and one above, and far off.
func TestCmdLimits(t *testing.T) {
	for _, v := range verbLines {
		base := shaped(v, impl.Cmd{Name: "a", Bytes: "b", Cas: 1})
		for letter, to := range map[string]func(*impl.Cmd, int64){
			"F": func(c *impl.Cmd, n int64) { c.Flags = n }, "U": func(c *impl.Cmd, n int64) { c.Until = n },
			"C": func(c *impl.Cmd, n int64) { c.Cas = n }, "D": func(c *impl.Cmd, n int64) { c.Delta = n },
		} {
			ends := cmdLimits[letter]
			for _, n := range append([]int64{ends[0] - 1, ends[0], ends[0] + 1, ends[1] - 1, ends[1], ends[1] + 1}, wholeNumbers...) {
				c := base
				to(&c, n)
				want := n == 0
				if v.tells(letter) {
					want = inLimits(letter, n)
				}
				if got := impl.CmdOk(c); got != want {
					t.Errorf("CmdOk(%+v) = %v", c, got)
				}
				if (impl.ShowCmd(c) != "") != want {
					t.Errorf("ShowCmd(%+v) = %q", c, impl.ShowCmd(c))
				}
				checkCmd(t, c)
			}
		}
		for _, size := range []int{0, 1, 2, 63, 64, 65, 66, 1000} {
			c := base
			c.Bytes = strings.Repeat("\n", size)
			if got, want := impl.CmdOk(c), size == 0 || v.tells("B") && size <= 64; got != want {
				t.Errorf("CmdOk(%+v) = %v", c, got)
			}
			checkCmd(t, c)
		}
		for size := range 15 {
			c := base
			c.Name = strings.Repeat("a", size)
			if got, want := impl.CmdOk(c), size == 0 && !v.tells("N") || v.tells("N") && size >= 1 && size <= 12; got != want {
				t.Errorf("CmdOk(%+v) = %v", c, got)
			}
			checkCmd(t, c)
		}
		for _, quiet := range []bool{false, true} {
			c := base
			c.Quiet = quiet
			if got, want := impl.CmdOk(c), !quiet || v.verb > 2; got != want {
				t.Errorf("CmdOk(%+v) = %v", c, got)
			}
			checkCmd(t, c)
		}
		for _, name := range append(oddNames(), cmdNames...) {
			c := base
			c.Name = name
			checkCmd(t, c)
		}
	}
}

// TestCmdUntold: what is not told of a Verb and is not zero, field by field and two by two.
func TestCmdUntold(t *testing.T) {
	set := []struct {
		letter string
		to     func(*impl.Cmd)
	}{
		{"N", func(c *impl.Cmd) { c.Name = "b" }}, {"F", func(c *impl.Cmd) { c.Flags = 1 }}, {"U", func(c *impl.Cmd) { c.Until = 1 }}, {"B", func(c *impl.Cmd) { c.Bytes = "b" }},
		{"C", func(c *impl.Cmd) { c.Cas = 2 }}, {"D", func(c *impl.Cmd) { c.Delta = 1 }}, {"Q", func(c *impl.Cmd) { c.Quiet = true }},
	}
	for _, v := range verbLines {
		base := shaped(v, impl.Cmd{Name: "a", Cas: 1})
		for _, one := range set {
			for _, two := range set {
				c := base
				one.to(&c)
				two.to(&c)
				want := v.tells(one.letter) && v.tells(two.letter)
				if got := impl.CmdOk(c); got != want {
					t.Errorf("CmdOk(%+v) = %v", c, got)
				}
				if (impl.ShowCmd(c) != "") != want {
					t.Errorf("ShowCmd(%+v) = %q", c, impl.ShowCmd(c))
				}
				checkCmd(t, c)
			}
		}
	}
}

// TestWrongVerbs: nothing is right of what is no Verb, nor is anything shown.
func TestWrongVerbs(t *testing.T) {
	for _, verb := range append([]int64{0, 14, 15, -1, -13, 13 + 1<<32, 1 - 1<<32, 1 << 8, 257, 256 + 13}, wholeNumbers...) {
		if verb >= 1 && verb <= 13 {
			continue
		}
		for _, c := range append(edgeCmds(), impl.Cmd{}) {
			c.Verb = verb
			if impl.CmdOk(c) || impl.ShowCmd(c) != "" {
				t.Errorf("CmdOk(%+v) = %v, ShowCmd %q", c, impl.CmdOk(c), impl.ShowCmd(c))
			}
		}
	}
}

// wrongNumbers are in no form of a number, or of one that has too many digits.
var wrongNumbers = []string{
	"", "00", "01", "007", "+0", "+1", "-0", "-1", "-01", "--1", "-", "+", "x", "1x", "x1", "1.0", "1.", ".1", "1e3", "0x1", "0b1", "0o1", "1_0", "_1", "1,000", "½", "١", "\x001", "1\x00", "1\r", "1\t", "1\xff", "/", ":", "quiet",
	"1000000000", "0000000001", "9999999999", "4294967296", "4294967297", "18446744073709551616", "18446744073709551617", "9223372036854775808", "-9223372036854775808", "1" + strings.Repeat("0", 40), strings.Repeat("0", 40), strings.Repeat("9", 50),
}

// numberPlaces are the lines of commands with one number left out.
func numberPlaces() map[string]string {
	return map[string]string{
		"set a # 0 0\n\n": "F", "set a 0 # 0\n\n": "U", "add a # 0 0 quiet\n\n": "F", "add a 0 # 0 quiet\n\n": "U", "replace a # 0 0\n\n": "F", "replace a 0 # 0\n\n": "U",
		"cas a # 0 0 1\n\n": "F", "cas a 0 # 0 1\n\n": "U", "cas a 0 0 0 #\n\n": "C", "cas a 0 0 0 # quiet\n\n": "C",
		"up a #\n": "D", "up a # quiet\n": "D", "down a #\n": "D", "down a # quiet\n": "D", "touch a #\n": "U", "touch a # quiet\n": "U",
	}
}

// sizePlaces are the lines of commands with the size left out.
var sizePlaces = []string{"set a 0 0 #\n", "set a 0 0 # quiet\n", "add a 0 0 #\n", "replace a 0 0 #\n", "tail a #\n", "tail a # quiet\n", "head a #\n", "cas a 0 0 # 1\n", "cas a 0 0 # 1 quiet\n"}

func TestCmdNumbers(t *testing.T) {
	for form, letter := range numberPlaces() {
		line := form[:strings.IndexByte(form, '\n')]
		for _, word := range wrongNumbers {
			expectLine(t, strings.Replace(line, "#", word, 1), impl.AtBad)
		}
		ends := cmdLimits[letter]
		for _, n := range append([]int64{ends[0] - 1, ends[0], ends[0] + 1, ends[1] - 1, ends[1], ends[1] + 1}, wholeNumbers...) {
			word := strconv.FormatInt(n, 10)
			if !inLimits(letter, n) {
				expectLine(t, strings.Replace(line, "#", word, 1), impl.AtBad)
				continue
			}
			s := strings.Replace(form, "#", word, 1)
			expectAt(t, s, 0, int64(len(s)), impl.AtCmd)
			if c, _, _ := impl.CmdAt(s, 0); impl.ShowCmd(c) != s {
				t.Errorf("%q reads as %+v", s, c)
			}
		}
	}
}

func TestCmdSizes(t *testing.T) {
	for _, form := range sizePlaces {
		for _, word := range append(wrongNumbers, "65", "66", "99", "100", "640", "1000", "65536", "999999999") {
			expectLine(t, strings.TrimSuffix(strings.Replace(form, "#", word, 1), "\n"), impl.AtBad)
		}
		for size := range 65 {
			line := strings.Replace(form, "#", strconv.Itoa(size), 1)
			for _, one := range []string{"x", "\n", "\x00", "\xff"} {
				bytes := strings.Repeat(one, size)
				for short := range size + 1 {
					expectAt(t, line+bytes[:short], 0, 0, impl.AtMore)
				}
				for _, behind := range []string{"", "\n", "x", "get a\n"} {
					s := line + bytes + "\n" + behind
					expectAt(t, s, 0, int64(len(s)-len(behind)), impl.AtCmd)
				}
			}
		}
	}
}

// TestByteBehind: whatever stands where the byte 10 should be, one less or one more of the told ones, the line alone is passed over.
func TestByteBehind(t *testing.T) {
	for _, form := range sizePlaces {
		for _, size := range []int{0, 1, 2, 10, 63, 64} {
			line := strings.Replace(form, "#", strconv.Itoa(size), 1)
			for b := range 256 {
				behind := string([]byte{byte(b)})
				for _, more := range []string{"", "\n", "x"} {
					s := line + strings.Repeat("y", size) + behind + more
					if b == 10 {
						expectAt(t, s, 0, int64(len(s)-len(more)), impl.AtCmd)
					} else {
						expectAt(t, s, 0, int64(len(line)), impl.AtBad)
					}
				}
			}
		}
	}
	list, codes, taken := impl.Cmds("set a 0 0 3\nxxxx\nset a 0 0 3\nxx\nget b\n")
	if len(list) != 1 || list[0] != (impl.Cmd{Verb: impl.VbGet, Name: "b"}) || !slices.Equal(codes, []int64{3, 2, 3, 2, 0}) || taken != 38 {
		t.Errorf("%+v, %d, %d", list, codes, taken)
	}
}

func TestBlanks(t *testing.T) {
	for _, line := range []string{
		"get  a", "get a ", "get  ", "get ", "gets  a", "gets a ", "set  a 0 0 0", "set a  0 0 0", "set a 0  0 0", "set a 0 0  0", "set a 0 0 0 ", "set a 0 0 0  quiet", "set a 0 0 0 quiet ",
		"cas a 0 0 0  1", "cas a 0 0 0 1 ", "tail a  0", "head a 0 ", "up a  1", "up a 1 ", "down  a 1", "touch a  1", "touch a 1 quiet ", "cut  a", "cut a ", "cut a  quiet", "cut a quiet ", "cut  quiet", "cut ", "cut  ", "clear ", "clear  ", "clear  quiet", "clear quiet ",
		"get a\tb", "get a\r", "cut a quiet\r", "set a 0 0 0\r", "set a 0 0\t0", "get \ta", "get a\x00", "get a\xa0",
	} {
		expectLine(t, line, impl.AtBad)
	}
	for _, line := range []string{
		" get a", "  get a", " clear", " cut quiet", " set a 0 0 1", "", " ", "  ", "geta", "get\ta", "get\ra", "clear\r", "clearquiet", "cutquiet", "cut-a", "up\x001", "\tget a", "\x00get a", "get\xc2\xa0a",
	} {
		expectLine(t, line, impl.AtError)
	}
}

func TestTooFewTooMany(t *testing.T) {
	for _, v := range verbLines {
		words := []string{v.word}
		for _, letter := range v.told {
			if letter != 'Q' {
				words = append(words, map[rune]string{'N': "a", 'F': "1", 'U': "2", 'B': "3", 'C': "4", 'D': "5"}[letter])
			}
		}
		for few := 1; few < len(words); few++ {
			line := strings.Join(words[:few], " ")
			expectLine(t, line, impl.AtBad)
			if few > 1 {
				expectLine(t, line+" quiet", impl.AtBad)
			}
		}
		line := strings.Join(words, " ")
		if _, next, code := impl.CmdAt(line+"\nzzz\n", 0); code != impl.AtCmd {
			t.Errorf("CmdAt(%q) = %d, %d", line, next, code)
		}
		for _, more := range []string{"1", "a", "Quiet", "QUIET", "quie", "quiett", "0", "-", "get", "quiet quiet", "quiet 1", "1 quiet", "quiet a"} {
			expectLine(t, line+" "+more, impl.AtBad)
			expectLine(t, line+" quiet "+more, impl.AtBad)
		}
		if v.verb <= 2 {
			expectLine(t, line+" quiet", impl.AtBad)
		}
	}
	for _, line := range []string{"get", "gets", "set", "add", "replace", "tail", "head", "cas", "up", "down", "touch", "cut"} {
		expectLine(t, line, impl.AtBad)
	}
}

// TestQuietNames: only behind cut can one quiet be taken for the other.
func TestQuietNames(t *testing.T) {
	for _, line := range []string{
		"get quiet quiet", "gets quiet quiet", "get a quiet", "cut quiet quiet quiet", "clear quiet quiet", "clear a", "clear a quiet", "up quiet", "up quiet quiet", "up quiet 1 quiet quiet", "touch quiet", "touch quiet quiet", "tail quiet", "tail quiet quiet", "set quiet", "set quiet quiet",
		"cut Quiet quiet", "cut quiet Quiet", "cut a a", "cut quiet a", "cas quiet 0 0 0 quiet", "cas a 0 0 0 quiet", "set a 0 0 quiet", "set a 0 quiet", "set a quiet", "set quiet 0 0 quiet", "set a quiet 0 0 0", "cut a quiet quiet",
	} {
		expectLine(t, line, impl.AtBad)
	}
	for _, quiet := range []bool{false, true} {
		for _, v := range verbLines {
			c := shaped(v, impl.Cmd{Name: "quiet", Bytes: " quiet\nquiet", Cas: 1, Quiet: quiet})
			expectCmd(t, wantedShow(c), c)
		}
	}
}

// TestFirstWords: right lines but for the first word.
func TestFirstWords(t *testing.T) {
	for _, v := range verbLines {
		rest := strings.TrimSuffix(strings.SplitAfterN(impl.ShowCmd(shaped(v, impl.Cmd{Name: "a", Cas: 1})), "\n", 2)[0], "\n")[len(v.word):]
		for _, word := range []string{
			strings.ToUpper(v.word), strings.ToUpper(v.word[:1]) + v.word[1:], v.word[:len(v.word)-1] + strings.ToUpper(v.word[len(v.word)-1:]), v.word + v.word, v.word[1:], v.word + "x", "x" + v.word, v.word + "\x00", v.word + "\r", "-" + v.word, v.word + ":", "\xef\xbb\xbf" + v.word, v.word + "é",
		} {
			expectLine(t, word+rest, impl.AtError)
			expectLine(t, word, impl.AtError)
		}
	}
	for _, word := range []string{"", "quiet", "what", "a", "0", "1", "13", "-", "g", "ge", "getss", "prepend", "append", "incr", "decr", "delete", "flush_all", "stored", "error", "é", "\xff", "\x00", "\r", "\t", "GETS", "gEt"} {
		for _, rest := range []string{"", " ", " a", " a 0 0 1", " quiet", " get a"} {
			expectLine(t, word+rest, impl.AtError)
		}
	}
}

// TestLongLines: a byte 10 counts where it stands behind at most 100 others.
func TestLongLines(t *testing.T) {
	for _, c := range []struct {
		word string
		code int64
	}{{"", impl.AtError}, {"get ", impl.AtBad}, {"clear ", impl.AtBad}, {"set a 0 0 1 ", impl.AtBad}, {"getget ", impl.AtError}, {" ", impl.AtError}} {
		for _, ahead := range []string{"", "\n", "x\ny"} {
			at := int64(len(ahead))
			for size := len(c.word); size <= 210; size++ {
				line := ahead + c.word + strings.Repeat("z", size-len(c.word))
				code, place := c.code, at+int64(size)+1
				if size > 100 {
					code, place = impl.AtBad, at+101
				}
				if c.word == "get " && size > 4 && size <= 16 {
					code = impl.AtCmd
				}
				for _, behind := range []string{"", "\n", "get a\n", strings.Repeat("x", 120)} {
					expectAt(t, line+"\n"+behind, at, place, code)
				}
				if size <= 100 {
					expectAt(t, line, at, at, impl.AtMore)
				} else {
					expectAt(t, line, at, at+101, impl.AtBad)
				}
			}
		}
	}
	for size, want := range map[int][]int64{99: {2}, 100: {2}, 101: {3, 2}, 102: {3, 2}, 201: {3, 2}, 202: {3, 3, 2}, 203: {3, 3, 2}} {
		_, codes, taken := impl.Cmds(strings.Repeat("x", size) + "\n")
		if !slices.Equal(codes, want) || taken != int64(size)+1 {
			t.Errorf("a line of %d bytes: %d, %d", size, codes, taken)
		}
	}
	for size, want := range map[int]int64{0: 0, 1: 0, 99: 0, 100: 0, 101: 101, 102: 101, 201: 101, 202: 202, 303: 303, 400: 303} {
		list, codes, taken := impl.Cmds(strings.Repeat("x", size))
		if len(list) != 0 || int64(len(codes)) != want/101 || taken != want {
			t.Errorf("%d bytes with no end: %+v, %d, %d", size, list, codes, taken)
		}
	}
}

// TestLongBytes: the line is short enough, what follows it may reach further.
func TestLongBytes(t *testing.T) {
	c := impl.Cmd{Verb: impl.VbCas, Name: "abcdefghijkl", Flags: 65535, Until: 1000000, Bytes: strings.Repeat("z", 64), Cas: 1000000, Quiet: true}
	s := impl.ShowCmd(c)
	if len(s) != 113 {
		t.Errorf("%q has %d bytes", s, len(s))
	}
	expectCmd(t, s, c)
	for short := range len(s) {
		expectAt(t, s[:short], 0, 0, impl.AtMore)
	}
}

func TestAtPlaces(t *testing.T) {
	s := "get a\nset b 1 2 3\nx\ny\nwhat\n"
	for at, want := range map[int64][2]int64{
		0: {6, 0}, 1: {6, 2}, 3: {6, 2}, 4: {6, 2}, 5: {6, 2}, 6: {22, 0}, 7: {18, 2}, 17: {18, 2}, 18: {20, 2}, 19: {20, 2}, 20: {22, 2}, 21: {22, 2}, 22: {27, 2}, 26: {27, 2}, 27: {27, 1},
		28: {-1, -1}, 29: {-1, -1}, -1: {-1, -1}, -2: {-1, -1}, -27: {-1, -1}, 1 << 32: {-1, -1}, 1<<32 + 6: {-1, -1}, -1 << 32: {-1, -1}, math.MaxInt64: {-1, -1}, math.MinInt64: {-1, -1}, math.MinInt64 + 6: {-1, -1},
	} {
		expectAt(t, s, at, want[0], want[1])
	}
	for _, s := range cmdTexts {
		for at := int64(-3); at <= int64(len(s))+3; at++ {
			checkAt(t, s, at)
		}
		for _, at := range append(wholeNumbers, -int64(len(s)), int64(len(s))+1<<32) {
			checkAt(t, s, at)
		}
		expectAt(t, s, int64(len(s)), int64(len(s)), impl.AtMore)
		expectAt(t, s, int64(len(s))+1, -1, -1)
		expectAt(t, s, -1, -1, -1)
	}
}

func TestEmptyText(t *testing.T) {
	expectAt(t, "", 0, 0, impl.AtMore)
	for _, at := range wholeNumbers {
		if at != 0 {
			expectAt(t, "", at, -1, -1)
		}
	}
	if list, codes, taken := impl.Cmds(""); len(list) != 0 || len(codes) != 0 || taken != 0 {
		t.Errorf("%+v, %d, %d", list, codes, taken)
	}
	if impl.CmdOk(impl.Cmd{}) || impl.ShowCmd(impl.Cmd{}) != "" {
		t.Errorf("CmdOk %v, ShowCmd %q", impl.CmdOk(impl.Cmd{}), impl.ShowCmd(impl.Cmd{}))
	}
	for _, v := range verbLines {
		c := impl.Cmd{Verb: v.verb}
		if got := impl.CmdOk(c); got != (v.word == "clear") {
			t.Errorf("CmdOk(%+v) = %v", c, got)
		}
	}
}

// TestEveryByte: each byte alone, ahead of a command, behind it, and in each place of it.
func TestEveryByte(t *testing.T) {
	var shown []string
	for _, v := range verbLines {
		for _, quiet := range []bool{false, true} {
			shown = append(shown, impl.ShowCmd(shaped(v, impl.Cmd{Name: "ab", Flags: 10, Until: 20, Bytes: "xyz", Cas: 30, Delta: 40, Quiet: quiet})))
		}
	}
	for b := range 256 {
		one := string([]byte{byte(b)})
		for _, s := range []string{one, one + "\n", one + one, strings.Repeat(one, 100), strings.Repeat(one, 101), strings.Repeat(one, 300)} {
			checkAt(t, s, 0)
			checkCmds(t, s)
		}
		if b != 10 {
			expectLine(t, one, impl.AtError)
		}
		for _, s := range shown {
			for place := range len(s) + 1 {
				checkCmds(t, s[:place]+one+s[place:])
				checkAt(t, s[:place]+one+s[place:], 0)
				if place < len(s) {
					checkCmds(t, s[:place]+one+s[place+1:])
				}
			}
		}
	}
}

// TestCmdsInOrder: one after the other, whatever is between them.
func TestCmdsInOrder(t *testing.T) {
	roll := rolls(5)
	between := map[string]int64{"": -1, "what\n": 2, "\n": 2, "get\n": 3, "set a 0 0 65\n": 3, strings.Repeat("x", 101): 3, " get a\n": 2, "clear  \n": 3, "\xff\x00\n": 2}
	var others []string
	for other := range between {
		others = append(others, other)
	}
	slices.Sort(others)
	for range 300 {
		text := ""
		var list []impl.Cmd
		var codes []int64
		for range roll(12) {
			other := others[roll(len(others))]
			if between[other] >= 0 {
				codes = append(codes, between[other])
			}
			c := rolledCmd(roll)
			text += other + impl.ShowCmd(c)
			list, codes = append(list, c), append(codes, 0)
		}
		for _, end := range []string{"", "g", "get a", "set a 0 0 3\nxyz", strings.Repeat("x", 100)} {
			got, kinds, taken := impl.Cmds(text + end)
			if !slices.Equal(got, list) || !slices.Equal(kinds, codes) || taken != int64(len(text)) {
				t.Fatalf("Cmds(%q) = %+v, %d, %d, want %+v, %d, %d", text+end, got, kinds, taken, list, codes, len(text))
			}
		}
	}
}

// sharesText is whether two texts lie in the same memory, at least with one byte.
func sharesText(a, b string) bool {
	if a == "" || b == "" {
		return false
	}
	from, begin := uintptr(unsafe.Pointer(unsafe.StringData(a))), uintptr(unsafe.Pointer(unsafe.StringData(b)))
	return from < begin+uintptr(len(b)) && begin < from+uintptr(len(a))
}

// TestCmdNewMemory: no answer lies in what was given, and what is done to one is not seen in the next.
func TestCmdNewMemory(t *testing.T) {
	for _, c := range edgeCmds() {
		shown := impl.ShowCmd(c)
		if sharesText(shown, c.Name) || sharesText(shown, c.Bytes) {
			t.Fatalf("ShowCmd(%+v) lies in its argument", c)
		}
		got, _, _ := impl.CmdAt(shown, 0)
		if sharesText(got.Name, shown) || sharesText(got.Bytes, shown) {
			t.Fatalf("CmdAt(%q) lies in its argument", shown)
		}
	}
	for _, s := range cmdTexts {
		list, codes, taken := impl.Cmds(s)
		wantList, wantCodes := slices.Clone(list), slices.Clone(codes)
		for i := range list[:cap(list)] {
			list[:cap(list)][i] = impl.Cmd{Verb: spare, Name: spareName}
		}
		for i := range codes[:cap(codes)] {
			codes[:cap(codes)][i] = spare
		}
		again, kinds, many := impl.Cmds(s)
		if !slices.Equal(again, wantList) || !slices.Equal(kinds, wantCodes) || many != taken {
			t.Errorf("Cmds(%q) twice: %+v, %d, %d", s, again, kinds, many)
		}
		for _, c := range again {
			if sharesText(c.Name, s) || sharesText(c.Bytes, s) {
				t.Errorf("Cmds(%q) lies in its argument", s)
			}
		}
	}
}

// TestCmdArgumentsStay: what was given, and what stands around it in the same memory, reads as before.
func TestCmdArgumentsStay(t *testing.T) {
	for _, s := range cmdTexts {
		memory := []byte("<<<<" + s + ">>>>")
		before := string(memory)
		given := unsafe.String(&memory[4], len(s))
		stays := func(call string) {
			if string(memory) != before {
				t.Fatalf("%s of %q: %q was %q", call, s, memory, before)
			}
		}
		impl.Cmds(given)
		stays("Cmds")
		for at := int64(-1); at <= int64(len(s))+1; at++ {
			impl.CmdAt(given, at)
			stays("CmdAt")
		}
		for _, v := range verbLines {
			c := shaped(v, impl.Cmd{Name: given, Bytes: given, Cas: 1})
			impl.CmdOk(c)
			impl.ShowCmd(c)
			stays("CmdOk, ShowCmd")
		}
	}
	for _, c := range edgeCmds() {
		before := c
		impl.CmdOk(c)
		impl.ShowCmd(c)
		if c != before {
			t.Fatalf("%+v was %+v", c, before)
		}
	}
}

// TestCmdTwice: nothing is kept from call to call.
func TestCmdTwice(t *testing.T) {
	for _, s := range cmdTexts {
		c, next, code := impl.CmdAt(s, 0)
		list, codes, taken := impl.Cmds(s)
		for _, other := range cmdTexts {
			impl.CmdAt(other, 0)
			impl.Cmds(other)
			if again, place, kind := impl.CmdAt(s, 0); again != c || place != next || kind != code {
				t.Fatalf("CmdAt(%q) behind %q: %+v, %d, %d", s, other, again, place, kind)
			}
			if again, kinds, many := impl.Cmds(s); !slices.Equal(again, list) || !slices.Equal(kinds, codes) || many != taken {
				t.Fatalf("Cmds(%q) behind %q: %+v, %d, %d", s, other, again, kinds, many)
			}
		}
	}
}
