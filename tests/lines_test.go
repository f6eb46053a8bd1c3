package tests

import (
	"fmt"
	"math/rand"
	"slices"
	"strings"
	"testing"
	"unsafe"

	"loop.example/paling/impl"
)

// linesMax is how many bytes of lines are done.
const linesMax = 800

// spoken are lines, each with its newline.
func spoken(lines ...string) string {
	out := ""
	for _, line := range lines {
		out += line + "\n"
	}
	return out
}

// volume is the line of a volume with these texts, and with empty ones behind them.
func volume(name string, texts ...string) string {
	blocks := append(slices.Clone(texts), make([]string, impl.BlockMax-len(texts))...)
	return name + ": [" + strings.Join(blocks, "] [") + "]"
}

// isAnswered asks for what is told of a text.
func isAnswered(t *testing.T, disks int, text string, want string) {
	t.Helper()
	if got := impl.LinesRun(disks, text); got != want {
		t.Errorf("%d disks: %q:\n%q, not\n%q", disks, text, got, want)
	}
}

// areAnswered asks for the lines that are told of lines, in every pool.
func areAnswered(t *testing.T, lines []string, want ...string) {
	t.Helper()
	for _, disks := range pools() {
		isAnswered(t, disks, spoken(lines...), spoken(want...))
	}
}

// theSame asks that two texts are told the same.
func theSame(t *testing.T, disks int, text string, other string) {
	t.Helper()
	isAnswered(t, disks, other, impl.LinesRun(disks, text))
}

// wordsSaid are the words of a line as the document says them, written out; as many empty ones behind as may be asked for.
func wordsSaid(line string) []string {
	var words []string
	word := ""
	for i := range len(line) {
		if line[i] == ' ' {
			words, word = append(words, word), ""
		} else {
			word += line[i : i+1]
		}
	}
	words = append(words, word)
	return append(words, "", "", "", "")
}

// numberSaid is the number of a word as the document says it, written out.
func numberSaid(word string) int {
	number := 0
	for i := range len(word) {
		if word[i] < '0' || word[i] > '9' {
			return -1
		}
		number = 10*number + int(word[i]-'0')
	}
	if len(word) < 1 || len(word) > 12 {
		return -1
	}
	return number
}

// nowSaid is how a model is told as the document says it, written out.
func nowSaid(m impl.Model) string {
	told := ""
	for _, s := range m.Shelves {
		told += s.Name + ":"
		for _, text := range s.Blocks {
			told += " [" + text + "]"
		}
		told += "\n"
	}
	return told
}

// eventSaid is the event of words as the document says it, written out; of no kind, if there is none.
func eventSaid(words []string) impl.Event {
	switch words[0] {
	case "make":
		return makes(words[1]).event()
	case "drop":
		return drops(words[1]).event()
	case "copy":
		return copies(words[1], words[2]).event()
	case "write":
		return writes(words[1], numberSaid(words[2]), words[3]).event()
	case "lose":
		return loses(numberSaid(words[1])).event()
	case "fresh":
		return freshens(numberSaid(words[1])).event()
	case "commit", "crash", "open", "scrub", "settle":
		return whole{kind: words[0]}.event()
	}
	return impl.Event{}
}

// followedSaid is what is told while lines are done in a world, and the world behind them, as the document says it, written out.
func followedSaid(w impl.World, text string) (string, impl.World) {
	told := ""
	for {
		line, rest, found := strings.Cut(text, "\n")
		if !found {
			return told, w
		}
		text = rest
		words := wordsSaid(line)
		e := eventSaid(words)
		switch {
		case e.Kind > 0:
			w = worldSaid(w, e)
		case words[0] != "see":
			told += "what\n"
		case w.Pool.Open:
			told += nowSaid(w.Now)
		default:
			told += "shut\n"
		}
	}
}

// worldBehind is the world behind lines.
func worldBehind(t *testing.T, disks int, text string) impl.World {
	t.Helper()
	_, w := followedSaid(newWorld(t, disks), text)
	return w
}

// openBehind says whether the pool is open behind lines.
func openBehind(t *testing.T, disks int, text string) bool {
	t.Helper()
	return worldBehind(t, disks, text).Pool.Open
}

// runSaid is LinesRun as the document says it, written out.
func runSaid(t *testing.T, disks int, text string) string {
	t.Helper()
	if disks < 3 || disks > 4 {
		return "no pool\n"
	}
	if len(text) > 800 {
		return "too long\n"
	}
	told, w := followedSaid(newWorld(t, disks), text)
	if !w.Pool.Open {
		w = openedSaid(w)
	}
	return told + nowSaid(w.Now) + "end\n"
}

// anyWordText is any text that may be a word.
func anyWordText(r *rand.Rand, size int) string {
	out := []byte(anyText(r, size))
	for i := range out {
		if out[i] == ' ' || out[i] == '\n' {
			out[i] = "[]\t\x00:"[r.Intn(5)]
		}
	}
	return string(out)
}

// anyNumber is any word where a number should stand; most are such.
func anyNumber(r *rand.Rand) string {
	if r.Intn(8) > 0 {
		return fmt.Sprint(r.Intn(4))
	}
	odd := noNumbers()
	return append(odd, "00", "01", "000000000002", "3", "999999999999")[r.Intn(len(odd)+5)]
}

// anySaid is any line that means an event; of most it can be.
func anySaid(r *rand.Rand, disks int) string {
	names := []string{"a", "b", "c", "zz"}
	name, other := names[r.Intn(4)], names[r.Intn(4)]
	switch at := r.Intn(40); {
	case at < 7:
		return "make " + name
	case at < 8:
		return "drop " + name
	case at < 12:
		return "copy " + name + " " + other
	case at < 21:
		return "write " + name + " " + anyNumber(r) + " " + anyWordText(r, r.Intn(longest(disks)+2))
	case at < 24:
		return "lose " + anyNumber(r)
	case at < 26:
		return "fresh " + anyNumber(r)
	case at < 28:
		return "crash"
	case at < 32:
		return "open"
	}
	return []string{"commit", "scrub", "settle", "see"}[r.Intn(4)]
}

// withBlank is a line with a blank more, beside one that is there, or, behind the last one, anywhere.
func withBlank(r *rand.Rand, line string) string {
	at := r.Intn(len(line))
	if next := strings.IndexByte(line[at:], ' '); next >= 0 {
		at += next
	}
	return line[:at] + " " + line[at:]
}

// anyLine is any line; most mean something.
func anyLine(r *rand.Rand, disks int) string {
	line := anySaid(r, disks)
	switch r.Intn(30) {
	case 0:
		return anyWordText(r, r.Intn(9))
	case 1:
		return withBlank(r, line)
	case 2:
		return strings.Repeat(" ", r.Intn(3)) + line + " "
	case 3:
		return line + " more " + anyWordText(r, 3)
	case 4:
		return line[:r.Intn(len(line)+1)]
	case 5:
		return changed(line, r.Intn(len(line)), 0x20)
	}
	return line
}

// anyLines is a text of any lines, of at most so many bytes; some have something behind the last newline.
func anyLines(r *rand.Rand, disks int, size int) string {
	text := ""
	for count := r.Intn(70); count > 0; count-- {
		line := spoken(anyLine(r, disks))
		if len(text)+len(line) > size {
			break
		}
		text += line
	}
	return text
}

// textsOfLines are texts of any lines, so many for each pool, with room for more behind them.
func textsOfLines(seed int64, count int) map[int][]string {
	r := rand.New(rand.NewSource(seed))
	out := map[int][]string{}
	for _, disks := range pools() {
		out[disks] = []string{"", "see\n", "crash\n", "make a\n", "make a\ncrash\n"}
		for range count {
			out[disks] = append(out[disks], anyLines(r, disks, linesMax-40))
		}
	}
	return out
}

// eachText does something with each text of any lines.
func eachText(t *testing.T, seed int64, count int, do func(disks int, text string)) {
	t.Helper()
	for disks, texts := range textsOfLines(seed, count) {
		for _, text := range texts {
			do(disks, text)
			stops(t)
		}
	}
}

// Promise 87.
func TestP87EachLineHasANewlineAndTheLastOneIsEnd(t *testing.T) {
	r := rand.New(rand.NewSource(870))
	eachText(t, 871, 250, func(disks int, text string) {
		for _, text := range []string{text, text + "see", text + anyWordText(r, 40), anyText(r, r.Intn(linesMax+1))} {
			told := impl.LinesRun(disks, text)
			lines := strings.Split(told, "\n")
			if len(lines) < 2 || lines[len(lines)-1] != "" || lines[len(lines)-2] != "end" || slices.Contains(lines[:len(lines)-1], "") {
				t.Errorf("%d disks: %q: %q", disks, text, told)
			}
		}
	})
}

// Promise 87.
func TestP87OfNoPool(t *testing.T) {
	for _, disks := range noPools() {
		for _, text := range []string{"", "see\n", "make a\nsee\n", "what", strings.Repeat("\n", linesMax), strings.Repeat("\n", linesMax+1), strings.Repeat("see ", 10000)} {
			isAnswered(t, disks, text, "no pool\n")
		}
	}
}

// Promise 87.
func TestP87OfTextsAsLongAsTheyMayBe(t *testing.T) {
	for _, disks := range pools() {
		for _, c := range []struct{ text, want string }{
			{strings.Repeat("\n", 800), strings.Repeat("what\n", 800) + "end\n"},
			{strings.Repeat("x", 800), "end\n"},
			{strings.Repeat("x", 799) + "\n", "what\nend\n"},
			{strings.Repeat("see\n", 200), "end\n"},
			{strings.Repeat("é", 400), "end\n"},
			{strings.Repeat(" ", 793) + "make a\n", "what\nend\n"},
			{"make" + strings.Repeat(" ", 794) + "a\n", "end\n"},
			{"make a" + strings.Repeat(" ", 793) + "\n", volume("a") + "\nend\n"},
			{"make a\n" + strings.Repeat(" ", 793), volume("a") + "\nend\n"},
			{"make a\nwrite a 0 " + strings.Repeat("x", 782) + "\n", volume("a") + "\nend\n"},
		} {
			if len(c.text) != 800 {
				t.Fatalf("%d bytes: %q", len(c.text), c.text)
			}
			isAnswered(t, disks, c.text, c.want)
			for _, more := range []string{"\n", "x", " ", "\x00", "see\n", c.text} {
				isAnswered(t, disks, c.text+more, "too long\n")
				isAnswered(t, disks, more+c.text, "too long\n")
			}
			isAnswered(t, disks, c.text[1:]+"\x00", runSaid(t, disks, c.text[1:]+"\x00"))
		}
		// It is bytes that count, not runes.
		isAnswered(t, disks, strings.Repeat("é", 401), "too long\n")
		isAnswered(t, disks, strings.Repeat("x", 100000), "too long\n")
	}
}

// Promise 88.
func TestP88KeptAndFallenAllIsToldAsItWas(t *testing.T) {
	count := kinds{}
	eachText(t, 880, 250, func(disks int, text string) {
		open := openBehind(t, disks, text)
		if count[fmt.Sprint("open ", open)]++; open {
			theSame(t, disks, text, text+"commit\ncrash\n")
			theSame(t, disks, text, text+"commit\ncrash\nopen\ncommit\ncrash\ncrash\n")
			theSame(t, disks, text, text+"commit\n")
		}
	})
	count.atLeast(t, 50, "open true", "open false")
	// What was not kept is not found.
	areAnswered(t, []string{"make a", "commit", "make b", "crash"}, volume("a"), "end")
	areAnswered(t, []string{"make a", "crash", "commit"}, "end")
}

// Promise 89.
func TestP89SeeTellsOnceMoreWhatIsToldInTheEnd(t *testing.T) {
	r := rand.New(rand.NewSource(890))
	count := kinds{}
	eachText(t, 891, 250, func(disks int, text string) {
		told, w := followedSaid(newWorld(t, disks), text)
		now := strings.TrimPrefix(strings.TrimSuffix(impl.LinesRun(disks, text), "end\n"), told)
		more := now
		if !w.Pool.Open {
			more = "shut\n"
		}
		count[fmt.Sprint("open ", w.Pool.Open, ", empty ", now == "")]++
		isAnswered(t, disks, text+"see\n", told+more+now+"end\n")
		isAnswered(t, disks, text+"see  more see\nsee see\n", told+more+more+now+"end\n")
		isAnswered(t, disks, text+" see\n", told+"what\n"+now+"end\n")
		other := noWords()[r.Intn(len(noWords()))]
		isAnswered(t, disks, text+other+"\n", told+"what\n"+now+"end\n")
	})
	count.atLeast(t, 20, "open true, empty true", "open true, empty false", "open false, empty false", "open false, empty true")
}

// Promise 90.
func TestP90OfNoLinesItIsEnd(t *testing.T) {
	for _, disks := range pools() {
		for _, text := range []string{"", "x", "make a", "see", " ", strings.Repeat("make a ", 100)} {
			isAnswered(t, disks, text, "end\n")
		}
		isAnswered(t, disks, "make a\n", "a: [] [] []\nend\n")
		isAnswered(t, disks, "make zzz\n", "zzz: [] [] []\nend\n")
		isAnswered(t, disks, "make a\nmake b", "a: [] [] []\nend\n")
	}
}

// Promise 91.
func TestP91OpenedMendedAndWithADiskLostAllIsToldAsItWas(t *testing.T) {
	count := kinds{}
	eachText(t, 910, 120, func(disks int, text string) {
		w := worldBehind(t, disks, text)
		count[fmt.Sprint("open ", w.Pool.Open, ", harmed ", len(impl.PoolHarm(w.Pool)))]++
		for disk := range disks {
			lose := fmt.Sprintf("lose %d\n", disk)
			theSame(t, disks, text, text+"open\nscrub\nsettle\n"+lose)
			theSame(t, disks, text, text+lose)
		}
		for _, more := range []string{"open\n", "scrub\n", "settle\n", "open\nscrub\n", "open\nsettle\n"} {
			theSame(t, disks, text, text+more)
		}
	})
	count.atLeast(t, 10, "open true, harmed 0", "open true, harmed 1", "open false, harmed 0", "open false, harmed 1")
}

// Each word of an event, with all that belongs to it, with a word too few, and with further ones.
func TestEachWordOfAnEvent(t *testing.T) {
	start := []string{"make a", "write a 1 to", "commit", "write a 1 go"}
	seen, kept := volume("a", "", "go"), volume("a", "", "to")
	for _, c := range []struct {
		line string
		want []string
	}{
		{"make b", []string{seen, volume("b")}}, {"make b more", []string{seen, volume("b")}}, {"make", []string{seen}}, {"make ", []string{seen}}, {"make a", []string{seen}},
		{"drop a", nil}, {"drop a more", nil}, {"drop", []string{seen}}, {"drop b", []string{seen}}, {"drop b a", []string{seen}},
		{"copy a b", []string{seen, volume("b", "", "go")}}, {"copy a b c", []string{seen, volume("b", "", "go")}}, {"copy a", []string{seen}}, {"copy", []string{seen}}, {"copy b a", []string{seen}}, {"copy b c", []string{seen}}, {"copy a a", []string{seen}},
		{"write a 2 x", []string{volume("a", "", "go", "x")}}, {"write a 0 x y", []string{volume("a", "x", "go")}}, {"write a 1 x", []string{volume("a", "", "x")}}, {"write a 1", []string{volume("a")}}, {"write a 0", []string{seen}},
		{"write a", []string{seen}}, {"write", []string{seen}}, {"write b 0 x", []string{seen}}, {"write 0 a x", []string{seen}}, {"write a x 1", []string{seen}},
		{"commit", []string{seen}}, {"commit more", []string{seen}},
		{"crash", []string{kept}}, {"crash more", []string{kept}}, {"crash 7 7 7", []string{kept}},
		{"open", []string{seen}}, {"open more", []string{seen}},
		{"lose 0", []string{seen}}, {"lose 2 1", []string{seen}}, {"lose", []string{seen}},
		{"fresh 0", []string{seen}}, {"fresh 0 1", []string{seen}}, {"fresh", []string{seen}},
		{"scrub", []string{seen}}, {"scrub more", []string{seen}},
		{"settle", []string{seen}}, {"settle more", []string{seen}},
	} {
		areAnswered(t, append(slices.Clone(start), c.line), append(slices.Clone(c.want), "end")...)
	}
}

func TestBlanksBehindWhatIsNeeded(t *testing.T) {
	start, want := []string{"make a", "write a 1 to"}, volume("a", "", "to")
	areAnswered(t, []string{"make a ", "write a 1 to "}, want, "end")
	areAnswered(t, []string{"make a     ", "write a 1 to     "}, want, "end")
	areAnswered(t, []string{"make a  b", "write a 1 to  go "}, want, "end")
	areAnswered(t, append(slices.Clone(start), "copy a b  ", "drop a "), volume("b", "", "to"), "end")
	areAnswered(t, append(slices.Clone(start), "commit ", "crash  ", "see ", "open ", "lose 1  ", "see  see", "fresh 1 ", "scrub ", "settle  "), "shut", want, want, "end")
	areAnswered(t, append(slices.Clone(start), "what ", "see   "), "what", want, want, "end")
}

// At each blank a line is cut, so between two of them, and ahead of one at its beginning, there is a word, which is empty.
func TestBlanksSideBySide(t *testing.T) {
	start := []string{"make a", "write a 0 x", "write a 1 to", "commit"}
	seen := volume("a", "x", "to")
	for _, c := range []struct {
		line string
		want []string
	}{
		{"make  b", []string{seen}}, {"make   b", []string{seen}}, {"make  b c", []string{seen}},
		{"drop  a", []string{seen}}, {"drop   a", []string{seen}}, {"drop  a a", []string{seen}},
		{"copy  a b", []string{seen}}, {"copy a  b", []string{seen}}, {"copy  a  b", []string{seen}}, {"copy   a b", []string{seen}},
		{"write  a 0 go", []string{seen}}, {"write a  0 go", []string{seen}}, {"write  0 go", []string{seen}}, {"write a  0", []string{seen}}, {"write  a   ", []string{seen}},
		{"write a 0  go", []string{volume("a", "", "to")}}, {"write a 1  go", []string{volume("a", "x")}}, {"write a 1   go", []string{volume("a", "x")}}, {"write a 1  ", []string{volume("a", "x")}}, {"write a 1 ", []string{volume("a", "x")}}, {"write a 2  go", []string{seen}},
		{"commit  more", []string{seen}}, {"crash  7", []string{seen}}, {"open  more", []string{seen}}, {"scrub  more", []string{seen}}, {"settle  more", []string{seen}},
		{"make ", []string{seen}}, {"make  ", []string{seen}}, {"drop ", []string{seen}}, {"copy a ", []string{seen}}, {"lose ", []string{seen}}, {"lose  0", []string{seen}}, {"fresh  ", []string{seen}}, {"fresh  0", []string{seen}},
	} {
		areAnswered(t, append(slices.Clone(start), c.line), append(slices.Clone(c.want), "end")...)
	}
	// The same in a row: what is not made, or not made as another one, is not written to.
	areAnswered(t, []string{"make  a", "write a 1 to", "make b", "copy  b a", "write a 1 to"}, volume("b"), "end")
	areAnswered(t, []string{"make a", "write a 1 to", "write a 1  go", "write a 2 go  to"}, volume("a", "", "", "go"), "end")
}

func TestBlanksAheadOfALine(t *testing.T) {
	for _, word := range append(eventWords(), "see", "what", "") {
		for _, blanks := range []string{" ", "  ", "     "} {
			for _, more := range []string{"", " ", " a", " a b", " a 0 x", " 0"} {
				line := blanks + word + more
				areAnswered(t, []string{line}, "what", "end")
				areAnswered(t, []string{"make a", "write a 0 y", line, "see"}, "what", volume("a", "y"), volume("a", "y"), "end")
				areAnswered(t, []string{"make a", "crash", line, "see"}, "what", "shut", "end")
			}
		}
	}
	// The first word of a line without any is empty, too.
	areAnswered(t, []string{"", "make a", "", " ", "  ", "make b"}, "what", "what", "what", "what", volume("a"), volume("b"), "end")
}

func TestWordsThatAreCut(t *testing.T) {
	areAnswered(t, []string{"ma ke a", "m ake a", "s ee"}, "what", "what", "what", "end")
	areAnswered(t, []string{"makea", "seesee", "lose0"}, "what", "what", "what", "end")
	areAnswered(t, []string{"see  see", "see"}, "end")
	areAnswered(t, []string{"crash", "  see ", "see  see"}, "what", "shut", "end")
}

func TestNewlinesOfLines(t *testing.T) {
	for _, disks := range pools() {
		isAnswered(t, disks, "\n", "what\nend\n")
		isAnswered(t, disks, "\n\n", "what\nwhat\nend\n")
		isAnswered(t, disks, "\nmake a\n", "what\n"+volume("a")+"\nend\n")
		isAnswered(t, disks, "make a\n\nsee\n", "what\n"+volume("a")+"\n"+volume("a")+"\nend\n")
		isAnswered(t, disks, "make a\ndrop a", volume("a")+"\nend\n")
		isAnswered(t, disks, "make a\nwhat", volume("a")+"\nend\n")
		isAnswered(t, disks, "make a\n ", volume("a")+"\nend\n")
		// No other byte ends a line, and no other one cuts words.
		isAnswered(t, disks, "make a\rsee\n", "end\n")
		isAnswered(t, disks, "make a\r\n", "end\n")
		isAnswered(t, disks, "see\r\n", "what\nend\n")
		isAnswered(t, disks, "see\u2028see\u0085\n", "what\nend\n")
	}
}

// noWords are lines whose first word is none of an event, nor `see`.
func noWords() []string {
	out := []string{
		"", " ", "what", "shut", "end", "no pool", "too long", "world", "cut 1", "spoil 0 0 0 1", "calm", "none", "a", "0", "-", "end make a", "a make", "-see",
		"\t", "\x00", "\xff", "\r", "\u00a0see", "see\t", "\tsee", "see\x00", "\x00see", "see\r", "see\u00a0", "see:", "\"see\"", "sеe", "make\ta", "make\x00a", "\x00make a", "make\x00 a", "crash\t", "lose\t0", "make,a",
		"makes a", "mak a", "mke a", "amake a", "maker a", "dropp a", "dro a", "copies a b", "cop a b", "writes a 0 x", "writ a 0 x", "commits", "commi", "crashes", "cras", "opens", "ope", "loses 0", "los 0", "lost 0", "freshens 0", "fres 0", "scrubs", "scru", "settles", "settl", "sees", "se", "s", "seen",
	}
	for _, word := range eventWords() {
		out = append(out, strings.ToUpper(word)+" a b", strings.ToUpper(word[:1])+word[1:]+" a", word[:len(word)-1]+strings.ToUpper(word[len(word)-1:]), word+word, word+"a", word+"\x00", word+"\t")
	}
	return append(out, "See", "SEE", "seE", "sEe")
}

// eventWords are the first words of events.
func eventWords() []string {
	return []string{"make", "drop", "copy", "write", "commit", "crash", "open", "lose", "fresh", "scrub", "settle"}
}

func TestWordsThatAreNone(t *testing.T) {
	for _, line := range noWords() {
		areAnswered(t, []string{line}, "what", "end")
		areAnswered(t, []string{"make a", "write a 0 x", line, "see"}, "what", volume("a", "x"), volume("a", "x"), "end")
		areAnswered(t, []string{"make a", "crash", line, "see"}, "what", "shut", "end")
	}
	for _, word := range append(eventWords(), "see") {
		areAnswered(t, []string{word}, "end")
	}
	r := rand.New(rand.NewSource(311))
	for range 300 {
		if line := anyWordText(r, 1+r.Intn(7)); !slices.Contains(append(eventWords(), "see"), line) {
			areAnswered(t, []string{line}, "what", "end")
		}
	}
}

func TestNamesThatAreNoneInLines(t *testing.T) {
	for _, name := range noNames() {
		if strings.ContainsAny(name, " \n") || len(name) > 100 {
			continue
		}
		areAnswered(t, []string{"make " + name, "make b", "copy b " + name, "drop " + name, "write " + name + " 0 x", "copy " + name + " c"}, volume("b"), "end")
	}
	areAnswered(t, []string{"make a", "make b", "make c", "make d", "make e", "copy a f", "drop b", "copy a f"}, volume("a"), volume("c"), volume("d"), volume("f"), "end")
}

// noNumbers are words that are no number.
func noNumbers() []string {
	return []string{"+0", "-0", "+1", "-1", "0x1", "1x", "x1", "1.", "1.0", "1e0", "0b1", "1_0", "0_1", "_", "-", "+", "a", "one", "0,", "0000000000000", "0000000000001", "1000000000000", "9999999999999", "18446744073709551616", "18446744073709551617", "4294967296", "\x00", "0\x00", "1\t", "\t1", "１", "٠", "①", "1\r", "\xff", "0\xff", strings.Repeat("0", 100)}
}

func TestNumbersInLines(t *testing.T) {
	for number, words := range [][]string{{"0", "00", "000", "00000000000", "000000000000"}, {"1", "01", "00000000001", "000000000001"}, {"2", "02", "000000000002"}} {
		texts := make([]string, impl.BlockMax)
		texts[number] = "x"
		other := fmt.Sprint((number + 1) % 3)
		for _, word := range words {
			areAnswered(t, []string{"make a", "write a " + word + " x"}, volume("a", texts...), "end")
			areAnswered(t, []string{"make a", "write a " + word + " x", "lose " + word, "lose " + other, "fresh " + word, "scrub", "settle", "lose " + other}, volume("a", texts...), "end")
		}
	}
	for _, word := range append(noNumbers(), "", "3", "003", "4", "10", "12", "999999999999", "100000000000", "000000000003") {
		areAnswered(t, []string{"make a", "write a 0 x", "write a " + word + " y", "write a " + word}, volume("a", "x"), "end")
	}
}

func TestDisksInLinesThatThereAreNoneOf(t *testing.T) {
	for _, disks := range pools() {
		for _, word := range append(noNumbers(), "", fmt.Sprint(disks), fmt.Sprint(disks+1), fmt.Sprintf("%012d", disks), "10", "12", "999999999999") {
			for _, line := range []string{"lose " + word, "fresh " + word, "lose 0\nfresh " + word} {
				start := spoken("make a", "write a 0 one", "commit", line)
				isAnswered(t, disks, start+"lose 1\nwrite a 1 two\nsee\ncrash\n", spoken(volume("a", "one", "two"), volume("a", "one"), "end"))
				isAnswered(t, disks, start+"crash\nlose 1\n"+line+"\nsee\n", spoken("shut", volume("a", "one"), "end"))
			}
		}
	}
}

// crowd are lines that fill all places of a pool.
func crowd(disks int) []string {
	lines := []string{"make a", "make b", "make c", "make d"}
	for i := range impl.SlotMax {
		lines = append(lines, fmt.Sprintf("write %c %d %s", 'a'+i/3, i%3, strings.Repeat("x", longest(disks))))
	}
	return lines
}

func TestLinesInAPoolWithoutRoom(t *testing.T) {
	for _, disks := range pools() {
		full, long := spoken(crowd(disks)...), strings.Repeat("x", longest(disks))
		others := spoken(volume("b", long, long, long), volume("c", long, long, long), volume("d", long, long, long))
		all := spoken(volume("a", long, long, long)) + others
		isAnswered(t, disks, full, all+"end\n")
		// There is no room for one more, whether all is kept or not.
		isAnswered(t, disks, full+"write a 0 y\n", all+"end\n")
		isAnswered(t, disks, full+"commit\nwrite a 0 y\nsee\ncrash\n", all+all+"end\n")
		// A text that is not seen any more has its places as long as it is kept.
		gone := spoken(volume("a", "", long, long)) + others
		isAnswered(t, disks, full+"commit\nwrite a 0\nwrite a 0 y\nsee\ncrash\n", gone+all+"end\n")
		isAnswered(t, disks, full+"commit\nwrite a 0\ncommit\nwrite a 0 y\nsee\ncrash\n", spoken(volume("a", "y", long, long))+others+gone+"end\n")
	}
}

func TestMoreLinesThanAPlayMayHaveEvents(t *testing.T) {
	for _, count := range []int{impl.PlayMax - 1, impl.PlayMax, impl.PlayMax + 1, 2 * impl.PlayMax, 100} {
		for _, disks := range pools() {
			text := strings.Repeat("open\n", count)
			isAnswered(t, disks, text+"make a\n", spoken(volume("a"), "end"))
			isAnswered(t, disks, "make a\n"+strings.Repeat("commit\n", min(count, 100))+"write a 0 x\n", spoken(volume("a", "x"), "end"))
			isAnswered(t, disks, "make a\n"+strings.Repeat("see\n", count), strings.Repeat(spoken(volume("a")), count+1)+"end\n")
			isAnswered(t, disks, "crash\n"+strings.Repeat("see\n", count)+"open\nmake a\n", strings.Repeat("shut\n", count)+spoken(volume("a"), "end"))
			isAnswered(t, disks, strings.Repeat("\n", count)+"make a\n", strings.Repeat("what\n", count)+spoken(volume("a"), "end"))
		}
	}
	var lines []string
	for i := range 70 {
		lines = append(lines, []string{"make a", "drop a"}[i%2])
	}
	areAnswered(t, lines, "end")
	areAnswered(t, append(lines, "make a"), volume("a"), "end")
}

func TestSeeInAPoolThatIsOpenAndInOneThatIsShut(t *testing.T) {
	a, b := volume("a", "x"), volume("b")
	areAnswered(t, []string{"see"}, "end")
	areAnswered(t, []string{"crash", "see"}, "shut", "end")
	areAnswered(t, []string{"crash", "open", "see"}, "end")
	areAnswered(t, []string{"make a", "write a 0 x", "see", "make b", "see more", "see"}, a, a, b, a, b, a, b, "end")
	areAnswered(t, []string{"make a", "write a 0 x", "commit", "make b", "crash", "see", "see more", "make b", "see", "open", "see"}, "shut", "shut", "shut", a, a, "end")
	areAnswered(t, []string{"make a", "write a 0 x", "commit", "crash", "crash", "see", "lose 0", "see", "fresh 0", "see", "settle", "scrub", "commit", "see"}, "shut", "shut", "shut", "shut", a, "end")
}

func TestFallsInLines(t *testing.T) {
	start := []string{"make a", "write a 0 one", "commit", "write a 0 two", "make b", "copy a c"}
	kept, seen := volume("a", "one"), []string{volume("a", "two"), volume("b"), volume("c", "two")}
	on := func(lines ...string) []string { return append(slices.Clone(start), lines...) }
	areAnswered(t, on(), append(slices.Clone(seen), "end")...)
	areAnswered(t, on("crash"), kept, "end")
	areAnswered(t, on("crash", "see"), "shut", kept, "end")
	areAnswered(t, on("crash", "open", "see"), kept, kept, "end")
	areAnswered(t, on("settle", "crash"), kept, "end")
	areAnswered(t, on("scrub", "crash"), kept, "end")
	areAnswered(t, on("commit", "crash", "open", "see"), append(slices.Concat(seen, seen), "end")...)
	// Of a pool that is shut nothing is changed, until it is opened.
	areAnswered(t, on("crash", "make d", "drop a", "write a 0 three", "copy a d", "commit"), kept, "end")
	areAnswered(t, on("crash", "make d", "open", "make e", "write e 2 x"), kept, volume("e", "", "", "x"), "end")
	areAnswered(t, on("crash", "open", "make e", "crash", "open", "make f", "commit", "crash"), kept, volume("f"), "end")
	areAnswered(t, on("drop a", "drop b", "drop c", "commit", "crash", "see"), "shut", "end")
}

func TestDisksLostOneBehindTheOther(t *testing.T) {
	start := []string{"make a", "write a 0 one", "write a 1 two", "commit", "write a 2 six"}
	kept, seen := volume("a", "one", "two"), volume("a", "one", "two", "six")
	on := func(lines ...string) []string { return append(slices.Clone(start), lines...) }
	for first := range 3 {
		for second := range 3 {
			one, two, fresh := fmt.Sprint("lose ", first), fmt.Sprint("lose ", second), fmt.Sprint("fresh ", first)
			// At once the second one is not lost, as the first one still is; mended, it may be.
			areAnswered(t, on(one, two, "see"), seen, seen, "end")
			areAnswered(t, on(one, fresh, two, "see"), seen, seen, "end")
			areAnswered(t, on(one, fresh, "scrub", "settle", two, "see"), seen, seen, "end")
			areAnswered(t, on(one, fresh, "scrub", "settle", two, "crash", "see"), "shut", kept, "end")
			areAnswered(t, on("crash", one, two, "see"), "shut", kept, "end")
			areAnswered(t, on("crash", one, fresh, "open", "scrub", "settle", two, "see", "commit", "crash"), kept, kept, "end")
			areAnswered(t, on(one, "commit", fresh, "scrub", "settle", "crash", two), seen, "end")
		}
	}
}

// Lines do not spoil, and no two disks are harmed at once by them: there are none behind which the pool cannot be opened.
func TestNoLinesLeadToAPoolThatCannotBeOpened(t *testing.T) {
	lines := []string{"write a 0 more", "drop a", "commit", "crash", "open", "lose 0", "lose 1", "fresh 0", "fresh 1", "scrub", "settle"}
	for _, disks := range pools() {
		var goesOn func(text string, w impl.World, more int)
		goesOn = func(text string, w impl.World, more int) {
			out := w
			if !w.Pool.Open {
				out = impl.WorldDo(w, opens().event())
			}
			if !out.Pool.Open || out.Wrong {
				t.Fatalf("%q: %v", text, out)
			}
			isAnswered(t, disks, text, nowSaid(out.Now)+"end\n")
			stops(t)
			for _, line := range lines {
				if next := impl.WorldDo(w, eventSaid(wordsSaid(line))); more > 0 && !worldSame(next, w) {
					goesOn(text+spoken(line), next, more-1)
				}
			}
		}
		start := spoken("make a", "write a 0 older", "commit", "write a 0 newer")
		goesOn(start, worldBehind(t, disks, start), 4)
	}
}

func TestVolumesWithTextsAndWithout(t *testing.T) {
	areAnswered(t, []string{"make a"}, "a: [] [] []", "end")
	areAnswered(t, []string{"make a", "write a 0 x"}, "a: [x] [] []", "end")
	areAnswered(t, []string{"make a", "write a 1 x"}, "a: [] [x] []", "end")
	areAnswered(t, []string{"make a", "write a 2 x"}, "a: [] [] [x]", "end")
	areAnswered(t, []string{"make a", "write a 2 z", "write a 0 x", "write a 1 y"}, "a: [x] [y] [z]", "end")
	areAnswered(t, []string{"make a", "write a 0 x", "make ccc", "make bb", "copy a d"}, "a: [x] [] []", "ccc: [] [] []", "bb: [] [] []", "d: [x] [] []", "end")
	areAnswered(t, []string{"make a", "write a 0 x", "write a 0"}, "a: [] [] []", "end")
	areAnswered(t, []string{"make a", "write a 0 123456"}, "a: [123456] [] []", "end")
	isAnswered(t, 3, "make a\nwrite a 0 1234567\n", "a: [] [] []\nend\n")
	isAnswered(t, 4, "make a\nwrite a 0 123456789\n", "a: [123456789] [] []\nend\n")
	isAnswered(t, 4, "make a\nwrite a 0 1234567890\n", "a: [] [] []\nend\n")
	// Whatever is in a text is told as it is.
	for _, text := range []string{"[", "]", "[]", "][", "] [", "a]:[", "[[x]]", ":", "a:", "\x00", "x\x00", "\x00\x00x", "\t", "a\tb", "\r", "\xff\xfe", "é", "ä[", "what", "end", "see", "0", "-1", "\"", "\\n"} {
		want := text
		if word, _, cut := strings.Cut(text, " "); cut {
			want = word
		}
		areAnswered(t, []string{"make a", "write a 1 " + text, "commit", "crash", "see"}, "shut", "a: [] ["+want+"] []", "end")
	}
	for by := range 256 {
		if b := byte(by); b != ' ' && b != '\n' {
			areAnswered(t, []string{"make a", "write a 0 " + string([]byte{b, 'x', b})}, "a: ["+string([]byte{b, 'x', b})+"] [] []", "end")
		}
	}
}

func TestLinesAreAsSaid(t *testing.T) {
	r := rand.New(rand.NewSource(312))
	count := kinds{}
	eachText(t, 313, 500, func(disks int, text string) {
		for _, text := range []string{text, text + anyLine(r, disks)} {
			want := runSaid(t, disks, text)
			isAnswered(t, disks, text, want)
			for _, line := range strings.Split(want, "\n") {
				if count[line]++; strings.HasSuffix(line, "]") {
					count["volume"]++
				}
			}
		}
		count[fmt.Sprint("long ", strings.Count(text, "\n") > impl.PlayMax/2)]++
	})
	count.atLeast(t, 100, "what", "shut", "volume", "long true", "long false")
	for range 300 {
		disks, text := r.Intn(7), anyText(r, r.Intn(820))
		isAnswered(t, disks, text, runSaid(t, disks, text))
	}
}

// The whole of what the document says of lines, one behind the other.
func TestLinesWrittenOut(t *testing.T) {
	areAnswered(t, []string{
		"make a", "see", "write a 1 to", "commit", "copy a b", "write a 1 go", "see", "crash", "see", "make c", "lose 0", "open", "see", "make c", "write c 0 x", "fresh 0", "scrub", "settle", "lose 2", "see", "commit", "crash", "see", "what", "fresh 2", "open", "scrub", "settle", "drop a", "see",
	},
		volume("a"),
		volume("a", "", "go"), volume("b", "", "to"),
		"shut",
		volume("a", "", "to"),
		volume("a", "", "to"), volume("c", "x"),
		"shut",
		"what",
		volume("c", "x"),
		volume("c", "x"), "end")
}

func TestLinesAnswersAreNewMemory(t *testing.T) {
	eachText(t, 314, 40, func(disks int, text string) {
		for _, text := range []string{text, "no pool\n", "end\n", strings.Repeat("too long\n", 100)} {
			given := strings.Clone(text)
			for _, disks := range []int{disks, 0} {
				one, other := impl.LinesRun(disks, given), impl.LinesRun(disks, given)
				apart(t, text, []span{textSpan(one)}, []span{textSpan(given)})
				apart(t, text, []span{textSpan(one), textSpan(other)}, nil)
			}
		}
	})
}

func TestLinesArgumentsStay(t *testing.T) {
	eachText(t, 315, 40, func(disks int, text string) {
		for _, text := range []string{text, text + "see", strings.Repeat(text, 9)} {
			// The text lies in a list with something behind its end; what was told stays, though that is changed then.
			bytes := append([]byte(text), "spare room"...)
			given := unsafe.String(&bytes[0], len(text))
			told := impl.LinesRun(disks, given)
			before := strings.Clone(told)
			if string(bytes) != text+"spare room" {
				t.Errorf("%q is now %q", text, bytes)
			}
			clear(bytes)
			if told != before {
				t.Errorf("%q: told %q, then %q", text, before, told)
			}
		}
	})
}

func TestLinesAnswersAreTheSameEachTime(t *testing.T) {
	eachText(t, 316, 10, func(disks int, text string) {
		isToldTheSame(t, func() string { return impl.LinesRun(disks, text) + impl.LinesRun(disks+2, text) })
	})
}
