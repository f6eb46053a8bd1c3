package tests

import (
	"fmt"
	"math"
	"math/rand"
	"slices"
	"strings"
	"testing"
	"unsafe"

	"loop.example/paling/impl"
)

// textMax is how many bytes a text that can be split may have.
const textMax = impl.SecLen * impl.ColMax

// noughts is a text of so many noughts.
func noughts(size int) string {
	return strings.Repeat("\x00", size)
}

// anyText is a text of so many bytes, any of them.
func anyText(r *rand.Rand, size int) string {
	out := make([]byte, size)
	for i := range out {
		out[i] = byte(r.Intn(256))
	}
	return string(out)
}

// textsOfSize are texts of so many bytes: plain ones, noughts, such that end in noughts, no UTF-8, and any.
func textsOfSize(size int) []string {
	out := []string{
		"abcdefghijklmnopqrstuvwxyz"[:size],
		noughts(size),
		strings.Repeat("\xff", size),
		strings.Repeat("\n", size),
	}
	for cut := 1; cut < size; cut++ {
		out = append(out, strings.Repeat("z", size-cut)+noughts(cut), noughts(size-cut)+strings.Repeat("\x80", cut))
	}
	r := rand.New(rand.NewSource(int64(size)))
	for range 30 {
		out = append(out, anyText(r, size))
	}
	return out
}

// splitTexts are texts of every size that can be split.
func splitTexts() []string {
	var out []string
	for size := 1; size <= textMax; size++ {
		out = append(out, textsOfSize(size)...)
	}
	return out
}

// colLists are lists of 1 to ColMax columns.
func colLists() [][]string {
	out := [][]string{
		{"abc"}, {noughts(3)}, {"\xff\xfe\x80"},
		{"abc", "abc"}, {"abc", noughts(3)}, {noughts(3), "d\x00\x00"},
		{"abc", "def", "ghi"}, {"abc", "def", "g\x00\x00"}, {"abc", noughts(3), noughts(3)}, {"abc", "abc", "abc"},
	}
	r := rand.New(rand.NewSource(7))
	for count := 1; count <= impl.ColMax; count++ {
		for range 40 {
			out = append(out, anyCols(r, count))
		}
	}
	return out
}

// anyCols is so many columns, of any bytes.
func anyCols(r *rand.Rand, count int) []string {
	var cols []string
	for range count {
		cols = append(cols, anyText(r, impl.SecLen))
	}
	return cols
}

// wrongLists are lists that are not 1 to ColMax columns.
func wrongLists() [][]string {
	return [][]string{
		nil, {}, {""}, {"a"}, {"ab"}, {"abcd"}, {noughts(2)}, {noughts(4)}, {"abcdef"},
		{"", "abc"}, {"abc", ""}, {"ab", "abc"}, {"abc", "de"}, {"abcd", "ef"}, {"abc", "defg"},
		{"abc", "def", "gh"}, {"abc", "def", "ghij"}, {"abc", "de", "ghi"}, {"ab", "cdef", "ghi"}, {"abc", "def", ""},
		{"abc", "def", "ghi", "jkl"}, {"abc", "def", "ghi", ""}, {"a", "b", "c", "d"}, {noughts(3), noughts(3), noughts(3), noughts(3)},
		slices.Repeat([]string{"abc"}, 100),
	}
}

// farNumbers are sizes and places far from any that there is.
func farNumbers() []int {
	return []int{math.MinInt, math.MinInt + 1, -1000, 1000, math.MaxInt - 2, math.MaxInt - 1, math.MaxInt}
}

// with is a list with another text at one place.
func with(cols []string, at int, text string) []string {
	out := slices.Clone(cols)
	out[at] = text
	return out
}

// changed is a text with other bits of one byte.
func changed(text string, at int, by byte) string {
	out := []byte(text)
	out[at] ^= by
	return string(out)
}

// sumSaid is the sum as the document says it, written out.
func sumSaid(text string) int {
	sum := 0
	for i := 0; i < len(text) && i < 9; i++ {
		sum += int(text[i])*65536 + int(text[i])*(i+1)
	}
	return sum
}

func TestColumnLimits(t *testing.T) {
	if impl.SecLen != 3 || impl.ColMax != 3 || impl.SumMax != 1000000000 {
		t.Error(impl.SecLen, impl.ColMax, impl.SumMax)
	}
}

func TestSumIsAsSaid(t *testing.T) {
	known := map[string]int{
		"":                        0,
		"\x00":                    0,
		"\x01":                    65537,
		"\x00\x01":                65538,
		"a":                       97 * 65537,
		"ab":                      97*65537 + 98*65538,
		noughts(8) + "\x01":       65545,
		noughts(9) + "\x01":       0,
		strings.Repeat("\xff", 9): 255 * (9*65536 + 45),
	}
	for text, want := range known {
		if got := impl.SumOf(text); got != want {
			t.Errorf("%q: %d, not %d", text, got, want)
		}
	}
	for size := 0; size <= textMax+3; size++ {
		for _, text := range textsOfSize(size) {
			if got, want := impl.SumOf(text), sumSaid(text); got != want {
				t.Errorf("%q: %d, not %d", text, got, want)
			}
		}
	}
}

// Promise 1: of texts that differ in two bytes at most no two have the same sum. All values of each two places are tried.
func TestP01SumFindsOneOrTwoBytes(t *testing.T) {
	for _, size := range []int{1, 2, textMax} {
		for i := 0; i < size; i++ {
			for j := i; j < size; j++ {
				sumsDiffer(t, "qwertzuio"[:size], i, j)
			}
		}
	}
}

// sumsDiffer gives two bytes of a text all values there are, and looks for a sum that comes twice.
func sumsDiffer(t *testing.T, text string, i int, j int) {
	t.Helper()
	bytes := []byte(text)
	var sums []int
	for a := range 256 {
		bytes[i] = byte(a)
		for b := range 256 {
			if i == j && b > 0 {
				break
			}
			if i != j {
				bytes[j] = byte(b)
			}
			sums = append(sums, impl.SumOf(string(bytes)))
		}
	}
	slices.Sort(sums)
	if len(slices.Compact(sums)) != len(sums) {
		t.Errorf("%d bytes, places %d and %d: a sum comes twice", len(text), i, j)
	}
}

// Promise 2.
func TestP02SumIsWithinItsLimit(t *testing.T) {
	if impl.SumOf("") != 0 {
		t.Error("the sum of nothing")
	}
	for size := 0; size <= textMax+3; size++ {
		for _, text := range textsOfSize(size) {
			last := 0
			for end := 0; end <= len(text); end++ {
				sum := impl.SumOf(text[:end])
				if sum < last || sum > impl.SumMax {
					t.Errorf("%q: %d behind %d", text[:end], sum, last)
				}
				last = sum
			}
		}
	}
	if long := strings.Repeat("\xff", 5000); impl.SumOf(long) != impl.SumOf(long[:textMax]) {
		t.Error("more than the first bytes count")
	}
}

func TestXorIsAsSaid(t *testing.T) {
	for _, c := range []struct{ a, b, want string }{
		{"", "", ""},
		{"ab", "a", "\x00b"},
		{"a", "ab", "\x00b"},
		{"abc", "", "abc"},
		{"", "abc", "abc"},
		{"a", noughts(4), "a\x00\x00\x00"},
		{"\x0f\xf0\xff", "\xff\xff\xff", "\xf0\x0f\x00"},
		{"\x55", "\x0f", "\x5a"},
		{"é", "\x01\x80", "\xc2\x29"},
	} {
		if got := impl.XorOf(c.a, c.b); got != c.want {
			t.Errorf("%q, %q: %q, not %q", c.a, c.b, got, c.want)
		}
	}
	for a := range 256 {
		for b := range 256 {
			if got := impl.XorOf(string([]byte{byte(a)}), string([]byte{byte(b)})); got != string([]byte{byte(a ^ b)}) {
				t.Fatalf("%d, %d: %q", a, b, got)
			}
		}
	}
	if long := strings.Repeat("ab", 5000); impl.XorOf(long, "a") != "\x00"+long[1:] {
		t.Error("a long text")
	}
}

// Promise 3.
func TestP03XorTwiceIsTheText(t *testing.T) {
	for a := 0; a <= textMax+1; a++ {
		for b := 0; b <= textMax+1; b++ {
			for i, one := range textsOfSize(a) {
				texts := textsOfSize(b)
				other := texts[(i*7+3)%len(texts)]
				xor := impl.XorOf(one, other)
				if len(xor) != max(a, b) {
					t.Fatalf("%q, %q: %q", one, other, xor)
				}
				if impl.XorOf(xor, other) != one+noughts(max(a, b)-a) {
					t.Fatalf("%q, %q: not led back", one, other)
				}
				if impl.XorOf(other, one) != xor {
					t.Fatalf("%q, %q: the order matters", one, other)
				}
				if impl.XorOf(one, one) != noughts(a) {
					t.Fatalf("%q: with itself not noughts", one)
				}
			}
		}
	}
}

// Promise 4.
func TestP04XorOfThreeTakenTogether(t *testing.T) {
	r := rand.New(rand.NewSource(4))
	for size := 0; size <= textMax+1; size++ {
		for range 50 {
			a, b, c := anyText(r, size), anyText(r, size), anyText(r, size)
			left, right, outer := impl.XorOf(impl.XorOf(a, b), c), impl.XorOf(a, impl.XorOf(b, c)), impl.XorOf(impl.XorOf(a, c), b)
			if left != right || left != outer || len(left) != size {
				t.Fatalf("%q, %q, %q: %q, %q, %q", a, b, c, left, right, outer)
			}
		}
	}
}

func TestColsAreAsSaid(t *testing.T) {
	for _, c := range []struct {
		text string
		want []string
	}{
		{"a", []string{"a\x00\x00"}},
		{"ab", []string{"ab\x00"}},
		{"abc", []string{"abc"}},
		{"abcd", []string{"abc", "d\x00\x00"}},
		{"abcde", []string{"abc", "de\x00"}},
		{"abcdef", []string{"abc", "def"}},
		{"abcdefg", []string{"abc", "def", "g\x00\x00"}},
		{"abcdefgh", []string{"abc", "def", "gh\x00"}},
		{"abcdefghi", []string{"abc", "def", "ghi"}},
		{"\x00", []string{"\x00\x00\x00"}},
		{"abc\x00", []string{"abc", "\x00\x00\x00"}},
		{"\xff\n\x80\xc3", []string{"\xff\n\x80", "\xc3\x00\x00"}},
	} {
		if got := impl.ColsOf(c.text); !slices.Equal(got, c.want) {
			t.Errorf("%q: %q, not %q", c.text, got, c.want)
		}
	}
}

func TestColsOfWhatCannotBeSplit(t *testing.T) {
	for _, text := range []string{"", "abcdefghij", noughts(textMax + 1), strings.Repeat("a", 5000)} {
		if got := impl.ColsOf(text); len(got) != 0 {
			t.Errorf("%d bytes: %q", len(text), got)
		}
	}
}

// Promise 5.
func TestP05TextIsReadFromItsCols(t *testing.T) {
	for _, text := range splitTexts() {
		cols := impl.ColsOf(text)
		if room := impl.SecLen * len(cols); room < len(text) || room-impl.SecLen >= len(text) {
			t.Errorf("%q: %d columns", text, len(cols))
		}
		for _, col := range cols {
			if len(col) != impl.SecLen {
				t.Errorf("%q: the column %q", text, col)
			}
		}
		if got, ok := impl.TextOf(cols, len(text)); !ok || got != text {
			t.Errorf("%q: read as %q, %v", text, got, ok)
		}
	}
}

// textSaid is the text of columns as the document says it, written out.
func textSaid(cols []string, size int) (string, bool) {
	if len(cols) < 1 || len(cols) > 3 {
		return "", false
	}
	whole := ""
	for _, col := range cols {
		if len(col) != 3 {
			return "", false
		}
		whole += col
	}
	if size > len(whole) || size <= len(whole)-3 {
		return "", false
	}
	for i := size; i < len(whole); i++ {
		if whole[i] != 0 {
			return "", false
		}
	}
	return whole[:size], true
}

func TestTextIsAsSaid(t *testing.T) {
	sizes := farNumbers()
	for size := -4; size <= 16; size++ {
		sizes = append(sizes, size)
	}
	for _, cols := range append(colLists(), wrongLists()...) {
		for _, size := range sizes {
			want, wantOk := textSaid(cols, size)
			if got, ok := impl.TextOf(cols, size); got != want || ok != wantOk {
				t.Errorf("%q, %d: %q, %v, not %q, %v", cols, size, got, ok, want, wantOk)
			}
		}
	}
}

func TestTextAtItsLastColumn(t *testing.T) {
	for _, c := range []struct {
		cols []string
		size int
		want string
		ok   bool
	}{
		{[]string{"abc", "d\x00\x00"}, 4, "abcd", true},
		{[]string{"abc", "d\x00\x00"}, 5, "abcd\x00", true},
		{[]string{"abc", "d\x00\x00"}, 6, "abcd\x00\x00", true},
		{[]string{"abc", "d\x00\x00"}, 3, "", false},
		{[]string{"abc", "d\x00\x00"}, 7, "", false},
		{[]string{"abc", "d\x00e"}, 4, "", false},
		{[]string{"abc", "d\x00e"}, 5, "", false},
		{[]string{"abc", "de\x00"}, 4, "", false},
		{[]string{"abc", "\x00\x00\x00"}, 3, "", false},
		{[]string{"abc", "\x00\x00\x00"}, 4, "abc\x00", true},
		{[]string{"\x00\x00\x00"}, 0, "", false},
		{[]string{"\x00\x00\x00"}, 1, "\x00", true},
		{[]string{"a\x000"}, 1, "", false},
		{[]string{"abc", "def", "ghi"}, 9, "abcdefghi", true},
		{[]string{"abc", "def", "ghi"}, 10, "", false},
		{[]string{"abc", "def", "ghi"}, 8, "", false},
	} {
		if got, ok := impl.TextOf(c.cols, c.size); got != c.want || ok != c.ok {
			t.Errorf("%q, %d: %q, %v", c.cols, c.size, got, ok)
		}
	}
}

// Promise 6.
func TestP06WhatIsReadIsSplitTheSameWay(t *testing.T) {
	for _, cols := range append(colLists(), wrongLists()...) {
		for size := -1; size <= textMax+4; size++ {
			text, ok := impl.TextOf(cols, size)
			if !ok && text != "" {
				t.Errorf("%q, %d: %q beside false", cols, size, text)
			}
			if ok && (len(text) != size || !slices.Equal(impl.ColsOf(text), cols)) {
				t.Errorf("%q, %d: %q is split into %q", cols, size, text, impl.ColsOf(text))
			}
		}
	}
}

func TestParityIsAsSaid(t *testing.T) {
	for _, c := range []struct {
		cols []string
		want string
	}{
		{[]string{"abc"}, "abc"},
		{[]string{"abc", "de\x00"}, "\x05\x07c"},
		{[]string{"abc", "abc"}, noughts(3)},
		{[]string{"\x01\x02\x04", "\x10\x20\x40", "\xff\x00\x80"}, "\xee\x22\xc4"},
		{[]string{noughts(3), noughts(3), noughts(3)}, noughts(3)},
	} {
		if got := impl.ParityOf(c.cols); got != c.want {
			t.Errorf("%q: %q, not %q", c.cols, got, c.want)
		}
	}
	for _, cols := range wrongLists() {
		if got := impl.ParityOf(cols); got != "" {
			t.Errorf("%q: %q", cols, got)
		}
	}
}

// Promise 7.
func TestP07ColsAndParityTogetherAreNoughts(t *testing.T) {
	for _, cols := range colLists() {
		all := impl.ParityOf(cols)
		if len(cols) == 1 && all != cols[0] {
			t.Errorf("%q: the parity %q", cols, all)
		}
		for _, col := range cols {
			all = impl.XorOf(all, col)
		}
		if all != noughts(impl.SecLen) {
			t.Errorf("%q: %q", cols, all)
		}
	}
}

// Promise 8.
func TestP08ColumnIsFoundAgain(t *testing.T) {
	for _, cols := range colLists() {
		parity := impl.ParityOf(cols)
		for at, col := range cols {
			for _, now := range []string{col, "", "x", "xyz", noughts(3), "wxyz", strings.Repeat("\xff", 1000)} {
				if got, ok := impl.MendOf(with(cols, at, now), parity, at); !ok || got != col {
					t.Errorf("%q, %d, now %q: %q, %v", cols, at, now, got, ok)
				}
			}
		}
	}
}

// Promise 9, for any column as the parity.
func TestP09ParityOfWhatIsMendedIsTheParity(t *testing.T) {
	r := rand.New(rand.NewSource(9))
	for _, cols := range colLists() {
		for at := range cols {
			for _, parity := range []string{impl.ParityOf(cols), noughts(3), "\xff\x00\x7f", anyText(r, impl.SecLen)} {
				col, ok := impl.MendOf(cols, parity, at)
				if !ok || impl.ParityOf(with(cols, at, col)) != parity {
					t.Errorf("%q, %q, %d: %q, %v", cols, parity, at, col, ok)
				}
			}
		}
	}
}

// Promise 10.
func TestP10ParityWithMoreColumns(t *testing.T) {
	r := rand.New(rand.NewSource(10))
	for _, cols := range colLists() {
		parity := impl.ParityOf(cols)
		more := anyText(r, impl.SecLen)
		one := append(slices.Clone(cols), more)
		if len(one) > impl.ColMax {
			if got := impl.ParityOf(one); got != "" {
				t.Errorf("%q: one column too many, %q", one, got)
			}
			continue
		}
		if got := impl.ParityOf(one); got != impl.XorOf(parity, more) {
			t.Errorf("%q and %q: %q", cols, more, got)
		}
		twice := append(slices.Clone(one), more)
		if len(twice) <= impl.ColMax && impl.ParityOf(twice) != parity {
			t.Errorf("%q and twice %q: %q", cols, more, impl.ParityOf(twice))
		}
	}
}

// Promise 11.
func TestP11ChangedByteChangesWhatIsMended(t *testing.T) {
	for _, cols := range colLists() {
		parity := impl.ParityOf(cols)
		for at, col := range cols {
			for other := range cols {
				if other == at {
					continue
				}
				for byteAt := range impl.SecLen {
					for _, by := range []byte{1, 0x80, 0x55, 0xff} {
						harmed := with(cols, other, changed(cols[other], byteAt, by))
						got, ok := impl.MendOf(harmed, parity, at)
						if !ok || got != changed(col, byteAt, by) {
							t.Errorf("%q, %d: %q, %v", harmed, at, got, ok)
						}
					}
				}
			}
		}
	}
}

func TestMendAtNoPlace(t *testing.T) {
	for _, cols := range colLists() {
		for _, at := range append(farNumbers(), -1, len(cols), len(cols)+1) {
			if got, ok := impl.MendOf(cols, impl.ParityOf(cols), at); ok || got != "" {
				t.Errorf("%q, %d: %q, %v", cols, at, got, ok)
			}
		}
	}
	for _, at := range append(farNumbers(), -1, 0, 1) {
		if got, ok := impl.MendOf(nil, "abc", at); ok || got != "" {
			t.Errorf("no columns, %d: %q, %v", at, got, ok)
		}
	}
}

func TestMendOfWhatIsNoColumn(t *testing.T) {
	for _, parity := range []string{"", "a", "ab", "abcd", noughts(2), noughts(4)} {
		for _, cols := range colLists() {
			for at := range cols {
				if got, ok := impl.MendOf(cols, parity, at); ok || got != "" {
					t.Errorf("%q, %q, %d: %q, %v", cols, parity, at, got, ok)
				}
			}
		}
	}
	for _, cols := range wrongLists() {
		for at := range cols {
			got, ok := impl.MendOf(cols, "xyz", at)
			want := len(cols) <= 3 && !slices.ContainsFunc(with(cols, at, "xyz"), func(col string) bool { return len(col) != 3 })
			if ok != want || !ok && got != "" {
				t.Errorf("%q, %d: %q, %v", cols, at, got, ok)
			}
		}
	}
}

func TestMendIsAsSaid(t *testing.T) {
	for _, c := range []struct {
		cols   []string
		parity string
		at     int
		want   string
		ok     bool
	}{
		{[]string{"", "de\x00"}, "\x05\x07c", 0, "abc", true},
		{[]string{"abc", "too long"}, "\x05\x07c", 1, "de\x00", true},
		{[]string{""}, "abc", 0, "abc", true},
		{[]string{"\x01\x02\x04", "", "\xff\x00\x80"}, "\xee\x22\xc4", 1, "\x10\x20\x40", true},
		{[]string{"", "de"}, "\x05\x07c", 0, "", false},
		{[]string{"", ""}, "\x05\x07c", 0, "", false},
		{[]string{"abc", "def", "ghi", "jkl"}, "abc", 3, "", false},
		{[]string{"abc", "def", "ghi", "jkl"}, "abc", 0, "", false},
	} {
		if got, ok := impl.MendOf(c.cols, c.parity, c.at); got != c.want || ok != c.ok {
			t.Errorf("%q, %q, %d: %q, %v", c.cols, c.parity, c.at, got, ok)
		}
	}
}

func TestColumnArgumentsStay(t *testing.T) {
	whole := []string{"abc", "def", "gh\x00", "behind", "the end"}
	for count := range 4 {
		for at := -1; at <= 4; at++ {
			cols := slices.Clone(whole)[:count]
			impl.TextOf(cols, 8)
			impl.ParityOf(cols)
			impl.MendOf(cols, "xyz", at)
			if !slices.Equal(cols[:len(whole)], whole) {
				t.Errorf("%d columns, place %d: now %q", count, at, cols[:len(whole)])
			}
		}
	}
}

// sharesMemory says whether two texts have bytes in common.
func sharesMemory(a string, b string) bool {
	if a == "" || b == "" {
		return false
	}
	from, other := uintptr(unsafe.Pointer(unsafe.StringData(a))), uintptr(unsafe.Pointer(unsafe.StringData(b)))
	return from < other+uintptr(len(b)) && other < from+uintptr(len(a))
}

func TestColumnAnswersAreNewMemory(t *testing.T) {
	for size := 1; size <= textMax; size++ {
		text := strings.Clone("abcdefghi"[:size])
		cols := impl.ColsOf(text)
		parity := impl.ParityOf(cols)
		read, _ := impl.TextOf(cols, size)
		answers := []string{parity, read, impl.XorOf(text, ""), impl.XorOf("", text)}
		given := append([]string{text}, cols...)
		for at := range cols {
			mended, _ := impl.MendOf(cols, parity, at)
			answers = append(answers, mended)
			if sharesMemory(cols[at], text) || sharesMemory(mended, parity) {
				t.Errorf("%d bytes: column %d is no new memory", size, at)
			}
		}
		for _, answer := range answers {
			for _, arg := range given {
				if sharesMemory(answer, arg) {
					t.Errorf("%d bytes: %q is no new memory", size, answer)
				}
			}
		}
	}
}

func TestColumnAnswersAreTheSameEachTime(t *testing.T) {
	tell := func() string {
		var out strings.Builder
		for _, text := range splitTexts() {
			cols := impl.ColsOf(text)
			mended, ok := impl.MendOf(cols, "xyz", len(cols)-1)
			fmt.Fprintln(&out, impl.SumOf(text), cols, impl.ParityOf(cols), mended, ok)
			clear(cols)
		}
		return out.String()
	}
	if tell() != tell() {
		t.Error("something is kept between two calls")
	}
}
