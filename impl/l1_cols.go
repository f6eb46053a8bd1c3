package impl

import (
	"iter"
	"slices"
	"strings"
)

// Limits of texts, and of what they are split into.
const (
	SecLen = 3
	ColMax = 3
)

// sumUnit is what each byte counts in a sum beside its place: so great that two changed bytes cannot make up for each other.
const sumUnit = 65536

// octet is a byte of a text.
type octet byte

// xor is bit by bit one or the other, but not both.
func (o octet) xor(other octet) octet {
	return o ^ other
}

// octetAt is the byte at a place, nought behind the end of the text.
func octetAt(text string, at int) octet {
	if at >= len(text) {
		return 0
	}
	return octet(text[at])
}

// octetsOf goes by the first so many bytes of a text, with noughts behind its end.
func octetsOf(text string, size int) iter.Seq2[int, octet] {
	return func(yield func(int, octet) bool) {
		for at := range size {
			if !yield(at, octetAt(text, at)) {
				return
			}
		}
	}
}

// weighed is of all bytes of a text, each times sumUnit and its place, from 1 on, the sum.
func weighed(text string) int {
	sum := 0
	for at, o := range octetsOf(text, len(text)) {
		sum += int(o) * (sumUnit + at + 1)
	}
	return sum
}

// SumOf is the sum of a text, in which each byte, and where it stands, counts.
func SumOf(text string) int {
	return weighed(text[:min(len(text), SecLen*ColMax)])
}

// joined is what is done with each two bytes of two texts, the shorter one having noughts behind it.
func joined(a string, b string, with func(octet, octet) octet) string {
	size := max(len(a), len(b))
	var out strings.Builder
	out.Grow(size)
	for at, o := range octetsOf(a, size) {
		out.WriteByte(byte(with(o, octetAt(b, at))))
	}
	return out.String()
}

// XorOf is two texts, bit by bit one or the other.
func XorOf(a string, b string) string {
	return joined(a, b, octet.xor)
}

// filled is a piece of a text with noughts behind, up to a column.
func filled(piece string) string {
	return XorOf(piece, strings.Repeat("\x00", SecLen))
}

// ColsOf is a text, split into columns.
func ColsOf(text string) []string {
	if len(text) > SecLen*ColMax {
		return nil
	}
	var cols []string
	for from := 0; from < len(text); from += SecLen {
		cols = append(cols, filled(text[from:min(from+SecLen, len(text))]))
	}
	return cols
}

// areCols says whether texts are columns, as many as a text may have.
func areCols(texts []string) bool {
	if len(texts) < 1 || len(texts) > ColMax {
		return false
	}
	for _, text := range texts {
		if len(text) != SecLen {
			return false
		}
	}
	return true
}

// TextOf is the text of columns.
func TextOf(cols []string, size int) (string, bool) {
	if !areCols(cols) || size < 1 || size > SecLen*len(cols) {
		return "", false
	}
	// Join hands one column back as it is; an answer shares no memory with an argument.
	text := strings.Clone(strings.Join(cols, "")[:size])
	// Split again, a text that needs fewer columns, or has more than noughts behind it, gives others.
	if !slices.Equal(ColsOf(text), cols) {
		return "", false
	}
	return text, true
}

// ParityOf is the column from which, with all others but one, that one can be found.
func ParityOf(cols []string) string {
	if !areCols(cols) {
		return ""
	}
	parity := ""
	for _, col := range cols {
		parity = XorOf(parity, col)
	}
	return parity
}

// MendOf is a column, as it is found from all others, and the parity.
func MendOf(cols []string, parity string, at int) (string, bool) {
	if at < 0 || at >= len(cols) {
		return "", false
	}
	// What stands at the place does not count, so the parity may stand there.
	others := slices.Clone(cols)
	others[at] = parity
	if !areCols(others) {
		return "", false
	}
	return ParityOf(others), true
}
