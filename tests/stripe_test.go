package tests

import (
	"fmt"
	"math/rand"
	"runtime"
	"slices"
	"strings"
	"sync"
	"testing"
	"time"

	"loop.example/paling/impl"
)

// poolOf is so many new disks in a state.
func poolOf(disks int, state int) []impl.Disk {
	var out []impl.Disk
	for range disks {
		out = append(out, impl.DiskNew(state))
	}
	return out
}

// disksCopy is disks in new memory.
func disksCopy(disks []impl.Disk) []impl.Disk {
	var out []impl.Disk
	for _, d := range disks {
		out = append(out, diskCopy(d))
	}
	return out
}

// disksSame says whether disks are the same value.
func disksSame(a []impl.Disk, b []impl.Disk) bool {
	return slices.EqualFunc(a, b, diskSame)
}

// withDisk is disks with another one at a place.
func withDisk(disks []impl.Disk, at int, d impl.Disk) []impl.Disk {
	out := slices.Clone(disks)
	out[at] = d
	return out
}

// flushed is disks to which all has come that waited.
func flushed(disks []impl.Disk) []impl.Disk {
	var out []impl.Disk
	for _, d := range disks {
		out = append(out, impl.DiskFlush(d))
	}
	return out
}

// spoilt is disks on which a byte of a place is spoilt.
func spoilt(disks []impl.Disk, place impl.Place, byteAt int, by int) []impl.Disk {
	return withDisk(disks, place.Disk, impl.DiskSpoil(disks[place.Disk], place.Slot, byteAt, by))
}

// overwritten is disks on which a column came to a place.
func overwritten(disks []impl.Disk, place impl.Place, col string) []impl.Disk {
	return withDisk(disks, place.Disk, impl.DiskFlush(impl.DiskPut(disks[place.Disk], toSlot(place.Slot, col))))
}

// lost is disks of which that of a place is new.
func lost(disks []impl.Disk, place impl.Place, state int) []impl.Disk {
	return withDisk(disks, place.Disk, impl.DiskNew(state))
}

// placings are places for a text of so many bytes on so many disks, with the parity on any of them.
func placings(disks int, size int) [][]impl.Place {
	count := (size+2)/3 + 1
	var out [][]impl.Place
	for first := range disks {
		var up, down []impl.Place
		for i := range count {
			up = append(up, impl.Place{Disk: (first + i) % disks, Slot: (5*i + first) % impl.SlotMax})
			down = append(down, impl.Place{Disk: (first - i + disks) % disks, Slot: impl.SlotMax - 1})
		}
		out = append(out, up, down)
	}
	return out
}

// sizesIn are all sizes that a text may have on so many disks.
func sizesIn(disks int) []int {
	return map[int][]int{3: {1, 2, 3, 4, 5, 6}, 4: {1, 2, 3, 4, 5, 6, 7, 8, 9}}[disks]
}

// ptrOf is the pointer of a text.
func ptrOf(t *testing.T, text string, places []impl.Place) impl.Ptr {
	t.Helper()
	p, ok := impl.StripePtr(text, places)
	if !ok {
		t.Fatalf("%q at %v has no pointer", text, places)
	}
	return p
}

// put is disks to which a text was put.
func put(t *testing.T, disks []impl.Disk, p impl.Ptr, text string) []impl.Disk {
	t.Helper()
	out, ok := impl.StripePut(disks, p, text)
	if !ok || len(out) != len(disks) || !impl.StripeOk(out) {
		t.Fatalf("%q cannot be put to %v: %v, %v", text, p, out, ok)
	}
	return out
}

// isGot asks for the text that is got, and for what is Bad.
func isGot(t *testing.T, why string, disks []impl.Disk, p impl.Ptr, text string, bad ...int) {
	t.Helper()
	got, ok := impl.StripeGet(disks, p)
	if !ok || got.Text != text || !slices.Equal(got.Bad, bad) {
		t.Errorf("%s: %v, %v, not %q, %v", why, got, ok, text, bad)
	}
}

// isNotGot asks that nothing is got, nor mended.
func isNotGot(t *testing.T, why string, disks []impl.Disk, p impl.Ptr) {
	t.Helper()
	if got, ok := impl.StripeGet(disks, p); ok || got.Text != "" || len(got.Bad) != 0 {
		t.Errorf("%s: %v, %v is got", why, got, ok)
	}
	if out, ok := impl.StripeMend(disks, p); ok || len(out) != 0 {
		t.Errorf("%s: %v, %v is mended", why, out, ok)
	}
}

// isNotPut asks that nothing is put.
func isNotPut(t *testing.T, why string, disks []impl.Disk, p impl.Ptr, text string) {
	t.Helper()
	if out, ok := impl.StripePut(disks, p, text); ok || len(out) != 0 {
		t.Errorf("%s: %q is put: %v, %v", why, text, out, ok)
	}
}

// stripe is a text, its pointer, and disks, all flushed, to which it was put.
type stripe struct {
	text  string
	p     impl.Ptr
	disks []impl.Disk
}

// stripes are texts of all sizes, put to many places of both pools.
func stripes(t *testing.T) []stripe {
	t.Helper()
	var out []stripe
	r := rand.New(rand.NewSource(11))
	for _, disks := range pools() {
		for _, size := range sizesIn(disks) {
			for i, places := range placings(disks, size) {
				text := []string{"paling.go"[:size], noughts(size), anyText(r, size)}[i%3]
				p := ptrOf(t, text, places)
				out = append(out, stripe{text, p, flushed(put(t, poolOf(disks, states()[i%2*2]), p, text))})
			}
		}
	}
	return out
}

// xorSaid is texts of three bytes, bit by bit one or the other.
func xorSaid(texts []string) string {
	var out [3]byte
	for _, text := range texts {
		for i := range out {
			out[i] ^= text[i]
		}
	}
	return string(out[:])
}

// colsSaid is the columns of a text, and, last, their parity, as the document says them, written out.
func colsSaid(text string) []string {
	text += noughts((3 - len(text)%3) % 3)
	var cols []string
	for i := 0; i < len(text); i += 3 {
		cols = append(cols, text[i:i+3])
	}
	return append(cols, xorSaid(cols))
}

// areDisksSaid is StripeOk as the document says it, written out.
func areDisksSaid(disks []impl.Disk) bool {
	ok := len(disks) == 3 || len(disks) == 4
	for _, d := range disks {
		ok = ok && okSaid(d)
	}
	return ok
}

// fitSaid is the text of columns of data, if it is fit, as the document says it, written out.
func fitSaid(data []string, p impl.Ptr) (string, bool) {
	for _, col := range data {
		if len(col) != 3 {
			return "", false
		}
	}
	whole := strings.Join(data, "")
	text := whole[:p.Size]
	return text, whole[p.Size:] == noughts(len(whole)-p.Size) && sumSaid(text) == p.Sum
}

// getSaid is StripeGet as the document says it, written out.
func getSaid(disks []impl.Disk, p impl.Ptr) (impl.Got, bool) {
	if !areDisksSaid(disks) || !ptrSaid(len(disks), p) || p.Size == 0 {
		return impl.Got{}, false
	}
	var cols []string
	for _, place := range p.Places {
		cols = append(cols, crashSaid(disks[place.Disk], allCome).Slots[place.Slot])
	}
	data := cols[:len(cols)-1]
	text, ok := fitSaid(data, p)
	for i := 0; i < len(data) && !ok; i++ {
		others := slices.Delete(slices.Clone(cols), i, i+1)
		if !slices.ContainsFunc(others, func(col string) bool { return col == "" }) {
			text, ok = fitSaid(with(data, i, xorSaid(others)), p)
		}
	}
	if !ok {
		return impl.Got{}, false
	}
	got := impl.Got{Text: text}
	for i, col := range colsSaid(text) {
		if cols[i] != col {
			got.Bad = append(got.Bad, i)
		}
	}
	return got, true
}

// writeSaid is disks to which some columns of a text were written, one behind the other.
func writeSaid(disks []impl.Disk, p impl.Ptr, text string, which func(int) bool) []impl.Disk {
	out := disksCopy(disks)
	for i, col := range colsSaid(text) {
		if which(i) {
			disk := p.Places[i].Disk
			out[disk] = putDiskSaid(out[disk], toSlot(p.Places[i].Slot, col))
		}
	}
	return out
}

// stripePutSaid is StripePut as the document says it, written out.
func stripePutSaid(disks []impl.Disk, p impl.Ptr, text string) ([]impl.Disk, bool) {
	if !areDisksSaid(disks) || !ptrSaid(len(disks), p) || p.Size == 0 || p.Size != len(text) || p.Sum != sumSaid(text) {
		return nil, false
	}
	return writeSaid(disks, p, text, allCome), true
}

// mendSaid is StripeMend as the document says it, written out.
func mendSaid(disks []impl.Disk, p impl.Ptr) ([]impl.Disk, bool) {
	got, ok := getSaid(disks, p)
	if !ok {
		return nil, false
	}
	return writeSaid(disks, p, got.Text, func(i int) bool { return slices.Contains(got.Bad, i) }), true
}

// anyDisks is any ok disks, as many as a pool has.
func anyDisks(r *rand.Rand) []impl.Disk {
	var out []impl.Disk
	for range pools()[r.Intn(2)] {
		out = append(out, anyDisk(r))
	}
	return out
}

// anyDisksThere is so many ok disks, of which none is gone.
func anyDisksThere(r *rand.Rand, count int) []impl.Disk {
	var out []impl.Disk
	for len(out) < count {
		if d := anyDisk(r); d.State != impl.DiskGone {
			out = append(out, d)
		}
	}
	return out
}

// anyPlaces is any places for a text of so many bytes.
func anyPlaces(r *rand.Rand, disks int, size int) []impl.Place {
	var places []impl.Place
	for _, disk := range r.Perm(disks)[:(size+5)/3] {
		places = append(places, impl.Place{Disk: disk, Slot: r.Intn(impl.SlotMax)})
	}
	return places
}

// anyStripe is any text put to any disks, whatever these have and however they are.
func anyStripe(t *testing.T, r *rand.Rand) stripe {
	t.Helper()
	disks := anyDisks(r)
	text := anyText(r, 1+r.Intn(impl.SecLen*(len(disks)-1)))
	p := ptrOf(t, text, anyPlaces(r, len(disks), len(text)))
	return stripe{text, p, put(t, disks, p, text)}
}

// hit is disks with any one of a pointer's columns harmed in any way, or another one.
func hit(r *rand.Rand, disks []impl.Disk, p impl.Ptr) []impl.Disk {
	place := p.Places[r.Intn(len(p.Places))]
	switch r.Intn(7) {
	case 0:
		return lost(disks, place, impl.DiskGone)
	case 1:
		return lost(disks, place, impl.DiskFresh)
	case 2:
		return spoilt(flushed(disks), place, r.Intn(3), 1+r.Intn(255))
	case 3:
		return spoilt(disks, place, r.Intn(3), 1+r.Intn(255))
	case 4:
		return overwritten(disks, place, anyText(r, 3))
	case 5:
		return withDisk(disks, place.Disk, impl.DiskCrash(disks[place.Disk], r.Intn(1<<40)))
	default:
		return withDisk(disks, r.Intn(len(disks)), anyDisk(r))
	}
}

// wrongPools are disks that are not ok, by what is wrong with them.
func wrongPools() map[string][]impl.Disk {
	out := map[string][]impl.Disk{}
	for _, count := range []int{0, 1, 2, 5, 6, 100} {
		for _, state := range states() {
			out[fmt.Sprintf("%d disks, state %d", count, state)] = poolOf(count, state)
		}
	}
	for why, wrong := range wrongDisks() {
		for _, count := range pools() {
			for at := range count {
				out[fmt.Sprintf("disk %d of %d: %s", at, count, why)] = withDisk(poolOf(count, impl.DiskLive), at, wrong)
			}
		}
	}
	return out
}

func TestStripeOkAtItsEdges(t *testing.T) {
	for count := range 8 {
		for _, state := range states() {
			if ok := impl.StripeOk(poolOf(count, state)); ok != (count == 3 || count == 4) {
				t.Errorf("%d disks, state %d: %v", count, state, ok)
			}
		}
	}
	for why, disks := range wrongPools() {
		if impl.StripeOk(disks) || areDisksSaid(disks) {
			t.Error(why)
		}
	}
	ok := okDisks()
	for i := range len(ok) - 4 {
		if !impl.StripeOk(ok[i:i+3]) || !impl.StripeOk(ok[i:i+4]) || impl.StripeOk(ok[i:i+2]) || impl.StripeOk(ok[i:i+5]) {
			t.Error(i)
		}
	}
}

// Promise 33.
func TestP33PtrHasLengthSumAndPlaces(t *testing.T) {
	texts := append(splitTexts(), "", "0123456789", noughts(10), strings.Repeat("x", 1000))
	for _, text := range texts {
		for _, places := range lists() {
			want := impl.Ptr{Size: len(text), Sum: sumSaid(text), Places: places}
			p, ok := impl.StripePtr(text, places)
			if text == "" || !ptrSaid(4, want) {
				want = impl.Ptr{}
			}
			if ok != (want.Size > 0) || !ptrSame(p, want) {
				t.Fatalf("%q, %v: %v, %v", text, places, p, ok)
			}
			most := 0
			for _, place := range p.Places {
				most = max(most, place.Disk)
			}
			if ok && (!impl.PtrOk(4, p) || impl.PtrOk(3, p) != (most < 3)) {
				t.Fatalf("%v, of %q, is not ok", p, text)
			}
		}
	}
}

func TestPtrOfTextsAtTheEdges(t *testing.T) {
	wide := at(3, 11, 0, 0, 2, 5, 1, 7)
	for _, c := range []struct {
		text   string
		places []impl.Place
		ok     bool
	}{
		{"", nil, false}, {"", at(), false}, {"", at(0, 0), false}, {"", wide[:2], false},
		{"a", nil, false}, {"a", wide[:1], false}, {"a", wide[:2], true}, {"a", wide[:3], false},
		{"abc", wide[:2], true}, {"abc", wide[:3], false}, {"abcd", wide[:2], false}, {"abcd", wide[:3], true},
		{"abcdef", wide[:3], true}, {"abcdef", wide, false}, {"abcdefg", wide[:3], false}, {"abcdefg", wide, true},
		{"abcdefghi", wide, true}, {"abcdefghi", wide[:3], false},
		{"abcdefghij", wide, false}, {"abcdefghij", append(slices.Clone(wide), impl.Place{Disk: 4}), false},
		{"a", at(0, 0, 0, 1), false}, {"a", at(0, 0, 4, 0), false}, {"a", at(0, 0, 1, 12), false}, {"a", at(-1, 0, 1, 0), false}, {"a", at(0, 0, 1, -1), false},
	} {
		if p, ok := impl.StripePtr(c.text, c.places); ok != c.ok || !ok && !ptrSame(p, impl.Ptr{}) {
			t.Errorf("%q, %v: %v, %v", c.text, c.places, p, ok)
		}
	}
}

func TestPutWaitsAtEachPlace(t *testing.T) {
	p := ptrOf(t, "hello", at(2, 1, 0, 5, 1, 3))
	for _, state := range []int{impl.DiskLive, impl.DiskFresh} {
		got := put(t, poolOf(4, state), p, "hello")
		want := poolOf(4, state)
		want[2].Wait = []impl.Put{toSlot(1, "hel")}
		want[0].Wait = []impl.Put{toSlot(5, "lo\x00")}
		want[1].Wait = []impl.Put{toSlot(3, "\x04\nl")}
		if !disksSame(got, want) {
			t.Error(got)
		}
	}
	disks := put(t, withDisk(poolOf(3, impl.DiskLive), 0, impl.DiskNew(impl.DiskGone)), p, "hello")
	if !diskSame(disks[0], impl.DiskNew(impl.DiskGone)) || len(disks[1].Wait) != 1 || len(disks[2].Wait) != 1 {
		t.Error(disks)
	}
	one := ptrOf(t, "x", at(1, 0, 0, 11))
	disks = flushed(put(t, poolOf(3, impl.DiskLive), one, "x"))
	if disks[1].Slots[0] != "x\x00\x00" || disks[0].Slots[11] != "x\x00\x00" {
		t.Error("of one column the parity is that:", disks)
	}
	three := ptrOf(t, "abcdefgh", at(0, 0, 1, 1, 2, 2, 3, 3))
	disks = flushed(put(t, poolOf(4, impl.DiskLive), three, "abcdefgh"))
	if disks[0].Slots[0] != "abc" || disks[1].Slots[1] != "def" || disks[2].Slots[2] != "gh\x00" || disks[3].Slots[3] != "bo\x05" {
		t.Error(disks)
	}
}

// Promise 28.
func TestP28WhatIsPutIsGot(t *testing.T) {
	r := rand.New(rand.NewSource(28))
	for _, disks := range pools() {
		for _, size := range sizesIn(disks) {
			for _, places := range placings(disks, size) {
				text := anyText(r, size)
				p := ptrOf(t, text, places)
				for gone := -1; gone < disks; gone++ {
					pool := anyDisksThere(r, disks)
					var bad []int
					if gone >= 0 {
						pool[gone] = impl.DiskNew(impl.DiskGone)
						if at := slices.IndexFunc(places, func(place impl.Place) bool { return place.Disk == gone }); at >= 0 {
							bad = []int{at}
						}
					}
					got := put(t, pool, p, text)
					why := fmt.Sprintf("%q at %v, disk %d is gone", text, places, gone)
					isGot(t, why, got, p, text, bad...)
					isGot(t, why+", flushed", flushed(got), p, text, bad...)
				}
			}
		}
	}
}

// Promise 28: with more than one of its disks gone there is too little to find it from.
func TestP28OfTwoThatAreGoneNothingIsGot(t *testing.T) {
	for _, s := range stripes(t) {
		for i := range s.p.Places {
			for j := range i {
				disks := lost(poolOf(len(s.disks), impl.DiskLive), s.p.Places[i], impl.DiskGone)
				disks = lost(disks, s.p.Places[j], impl.DiskGone)
				isNotGot(t, fmt.Sprintf("%q at %v, %d and %d gone", s.text, s.p.Places, i, j), put(t, disks, s.p, s.text), s.p)
			}
		}
	}
}

// Promise 29.
func TestP29OneDiskMayBeLost(t *testing.T) {
	for _, s := range stripes(t) {
		for _, disks := range [][]impl.Disk{s.disks, put(t, poolOf(len(s.disks), impl.DiskLive), s.p, s.text)} {
			isGot(t, "none is lost", disks, s.p, s.text)
			for disk := range disks {
				var bad []int
				for i, place := range s.p.Places {
					if place.Disk == disk {
						bad = append(bad, i)
					}
				}
				for _, state := range states() {
					why := fmt.Sprintf("%q at %v, disk %d new, state %d", s.text, s.p.Places, disk, state)
					isGot(t, why, withDisk(disks, disk, impl.DiskNew(state)), s.p, s.text, bad...)
				}
			}
		}
	}
}

// Promise 30.
func TestP30OneByteMayBeSpoilt(t *testing.T) {
	for _, s := range stripes(t) {
		for i, place := range s.p.Places {
			for byteAt := range impl.SecLen {
				for _, by := range []int{1, 2, 3, 4, 7, 8, 16, 32, 64, 127, 128, 129, 170, 254, 255} {
					disks := spoilt(s.disks, place, byteAt, by)
					why := fmt.Sprintf("%q at %v, column %d, byte %d by %d", s.text, s.p.Places, i, byteAt, by)
					isGot(t, why, disks, s.p, s.text, i)
				}
			}
		}
	}
}

// Promise 30: with every change that a byte may have, of a text of every length.
func TestP30EveryByteMayBeSpoiltInEveryWay(t *testing.T) {
	for size := 1; size <= textMax; size++ {
		for _, text := range []string{"paling.go"[:size], noughts(size), strings.Repeat("\xff", size)} {
			p := ptrOf(t, text, placings(4, size)[2])
			disks := flushed(put(t, poolOf(4, impl.DiskLive), p, text))
			for i, place := range p.Places {
				for by := 1; by <= 255; by++ {
					disks := spoilt(disks, place, by%impl.SecLen, by)
					isGot(t, fmt.Sprintf("%q, column %d by %d", text, i, by), disks, p, text, i)
				}
			}
		}
	}
}

func TestASpoiltColumnThatIsWrittenAnewIsFit(t *testing.T) {
	for _, s := range stripes(t) {
		cols := colsSaid(s.text)
		for i, place := range s.p.Places {
			disks := spoilt(s.disks, place, i%impl.SecLen, 1+i)
			isGot(t, "spoilt", disks, s.p, s.text, i)
			disks[place.Disk] = impl.DiskPut(disks[place.Disk], toSlot(place.Slot, cols[i]))
			isGot(t, "written anew, and waiting", disks, s.p, s.text)
			isGot(t, "written anew", flushed(disks), s.p, s.text)
			disks[place.Disk] = impl.DiskCrash(disks[place.Disk], 0)
			isGot(t, "that was lost", disks, s.p, s.text, i)
		}
	}
}

func TestSpoiltWhileWritesWait(t *testing.T) {
	for _, s := range stripes(t) {
		other := strings.Repeat("o", len(s.text))
		p := ptrOf(t, other, s.p.Places)
		disks := put(t, s.disks, p, other)
		for i, place := range s.p.Places {
			hurt := spoilt(disks, place, 0, 3)
			isGot(t, "what waits is read", hurt, p, other)
			var fallen []impl.Disk
			for _, d := range hurt {
				fallen = append(fallen, impl.DiskCrash(d, 0))
			}
			isGot(t, "what waited is lost", fallen, s.p, s.text, i)
		}
	}
}

func TestTwoHarmedColumnsAreTooMany(t *testing.T) {
	for _, s := range stripes(t) {
		for i, one := range s.p.Places {
			for j, other := range s.p.Places[:i] {
				why := fmt.Sprintf("%q at %v, columns %d and %d", s.text, s.p.Places, i, j)
				for _, state := range []int{impl.DiskGone, impl.DiskFresh} {
					isNotGot(t, why+" lost", lost(lost(s.disks, one, state), other, impl.DiskFresh), s.p)
					for byteAt := range impl.SecLen {
						for _, by := range []int{1, 128, 255} {
							isNotGot(t, why+", lost and spoilt", spoilt(lost(s.disks, one, state), other, byteAt, by), s.p)
							isNotGot(t, why+", spoilt and lost", lost(spoilt(s.disks, one, byteAt, by), other, state), s.p)
						}
					}
				}
			}
		}
	}
}

func TestTwoSpoiltColumnsAreTooMany(t *testing.T) {
	p := ptrOf(t, "paling.go", at(3, 1, 0, 5, 2, 3, 1, 0))
	disks := flushed(put(t, poolOf(4, impl.DiskLive), p, "paling.go"))
	for i, one := range p.Places {
		for _, other := range p.Places[:i] {
			isNotGot(t, "the same byte", spoilt(spoilt(disks, one, 1, 1), other, 1, 1), p)
			isNotGot(t, "the same byte, otherwise", spoilt(spoilt(disks, one, 0, 1), other, 0, 6), p)
			isNotGot(t, "other bytes", spoilt(spoilt(disks, one, 0, 1), other, 2, 128), p)
		}
	}
	// All are lost, and the sum of a text that is not there would be that of noughts.
	none := ptrOf(t, noughts(5), at(0, 0, 1, 0, 2, 0))
	isNotGot(t, "nothing was put", poolOf(3, impl.DiskLive), none)
	isNotGot(t, "nothing was put", poolOf(4, impl.DiskGone), none)
	isNotGot(t, "one column is there", overwritten(poolOf(3, impl.DiskLive), none.Places[0], noughts(3)), none)
	isNotGot(t, "the parity is there", overwritten(poolOf(3, impl.DiskLive), none.Places[2], noughts(3)), none)
}

func TestDataThatIsFitIsTakenWhateverTheParityIs(t *testing.T) {
	for _, s := range stripes(t) {
		last := len(s.p.Places) - 1
		place := s.p.Places[last]
		isGot(t, "gone", lost(s.disks, place, impl.DiskGone), s.p, s.text, last)
		isGot(t, "fresh", lost(s.disks, place, impl.DiskFresh), s.p, s.text, last)
		isGot(t, "spoilt", spoilt(s.disks, place, 2, 200), s.p, s.text, last)
		for _, col := range []string{"zzz", "\x01\xfe\x80"} {
			isGot(t, "another column", overwritten(s.disks, place, col), s.p, s.text, last)
		}
	}
	// With this parity the column that is found has the same sum as the one that is read.
	p := ptrOf(t, "`b`", at(0, 0, 1, 0))
	disks := overwritten(flushed(put(t, poolOf(3, impl.DiskLive), p, "`b`")), p.Places[1], "a`a")
	isGot(t, "as it was read", disks, p, "`b`", 1)
	isGot(t, "as it is found", lost(disks, p.Places[0], impl.DiskFresh), p, "a`a", 0)
}

func TestOfTwoThatAreFitTheFirstIsTaken(t *testing.T) {
	// As it is found from the others either of the first two columns makes a text of one sum.
	first, second, third, parity := "c``", "``c", "xyz", xorSaid([]string{"c``", "``c", "xyz", "\x03\x04\x03"})
	one, two := "`dc"+second+third, first+"cd`"+third
	if sumSaid(one) != sumSaid(two) || sumSaid(one) == sumSaid(first+second+third) {
		t.Fatal("no such texts")
	}
	p := ptrOf(t, one, at(3, 2, 1, 0, 2, 11, 0, 6))
	disks := poolOf(4, impl.DiskLive)
	for i, col := range []string{first, second, third, parity} {
		disks = overwritten(disks, p.Places[i], col)
	}
	isGot(t, "the first", disks, p, one, 0)
	isGot(t, "the second alone", lost(disks, p.Places[1], impl.DiskGone), p, two, 1)
	mended, ok := impl.StripeMend(disks, p)
	if !ok || !slices.Equal(mended[3].Wait, []impl.Put{toSlot(2, "`dc")}) {
		t.Error(mended, ok)
	}
	isGot(t, "mended", mended, p, one)
}

func TestTheLastColumnIsFilledWithNoughts(t *testing.T) {
	for _, size := range []int{1, 2, 4, 5, 7, 8} {
		text := "paling.go"[:size]
		p := ptrOf(t, text, placings(4, size)[1])
		disks := flushed(put(t, poolOf(4, impl.DiskLive), p, text))
		last := len(p.Places) - 2
		col := changed(colsSaid(text)[last], 2, 1)
		disks = overwritten(disks, p.Places[last], col)
		isGot(t, "what is behind is not noughts", disks, p, text, last)
		isNotGot(t, "and there is no parity", lost(disks, p.Places[last+1], impl.DiskGone), p)
		disks = overwritten(disks, p.Places[last+1], changed(colsSaid(text)[last+1], 2, 1))
		isNotGot(t, "nor is it so found from the others", disks, p)
	}
}

// Promise 31.
func TestP31WhatIsGotIsWhatThePtrSays(t *testing.T) {
	r := rand.New(rand.NewSource(31))
	count := map[string]int{}
	for range 6000 {
		s := anyStripe(t, r)
		disks := s.disks
		for range r.Intn(4) {
			disks = hit(r, disks, s.p)
		}
		got, ok := impl.StripeGet(disks, s.p)
		if !ok {
			count["nothing"]++
			continue
		}
		count[fmt.Sprint(len(got.Bad), " bad")]++
		if len(got.Text) != s.p.Size || sumSaid(got.Text) != s.p.Sum || impl.SumOf(got.Text) != s.p.Sum {
			t.Fatalf("%v: %q", s.p, got.Text)
		}
		for i, at := range got.Bad {
			if at < 0 || at >= len(s.p.Places) || i > 0 && at <= got.Bad[i-1] {
				t.Fatalf("%v: %v", s.p, got)
			}
		}
		// One column is found from all others, so that no more than one can be wrong of what is fit.
		if len(got.Bad) > 1 {
			t.Fatalf("%v: %v", s.p, got)
		}
	}
	if count["nothing"] < 500 || count["0 bad"] < 500 || count["1 bad"] < 500 {
		t.Error("too few of a kind:", count)
	}
}

// Promise 32.
func TestP32MendedNoColumnIsBad(t *testing.T) {
	r := rand.New(rand.NewSource(32))
	count := map[string]int{}
	for range 6000 {
		s := anyStripe(t, r)
		disks := s.disks
		for range r.Intn(3) {
			disks = hit(r, disks, s.p)
		}
		got, fine := impl.StripeGet(disks, s.p)
		mended, ok := impl.StripeMend(disks, s.p)
		if ok != fine || !ok && len(mended) != 0 {
			t.Fatalf("%v: %v, %v", s.p, mended, ok)
		}
		if !ok {
			continue
		}
		var bad []int
		for i, place := range s.p.Places {
			if disks[place.Disk].State == impl.DiskGone {
				bad = append(bad, i)
			}
		}
		count[fmt.Sprintf("%d bad, %d gone", len(got.Bad), len(bad))]++
		for _, x := range [][]impl.Disk{mended, flushed(mended)} {
			isGot(t, "mended", x, s.p, got.Text, bad...)
			if again, ok := impl.StripeMend(x, s.p); !ok || !disksSame(again, x) {
				t.Fatalf("%v\nonce more, %v:\n%v", x, ok, again)
			}
		}
		for i := range disks {
			if mended[i].State != disks[i].State {
				t.Fatalf("disk %d was %d, and is %d", i, disks[i].State, mended[i].State)
			}
		}
	}
	if count["0 bad, 0 gone"] < 300 || count["1 bad, 0 gone"] < 300 || count["1 bad, 1 gone"] < 300 {
		t.Error("too few of a kind:", count)
	}
}

// Promise 32: just the bad column is written, and waits.
func TestP32MendWritesTheBadColumn(t *testing.T) {
	for _, s := range stripes(t) {
		if mended, ok := impl.StripeMend(s.disks, s.p); !ok || !disksSame(mended, s.disks) {
			t.Fatal("nothing is bad:", mended, ok)
		}
		cols := colsSaid(s.text)
		for i, place := range s.p.Places {
			for _, state := range states() {
				disks := lost(s.disks, place, state)
				mended, ok := impl.StripeMend(disks, s.p)
				want := disksCopy(disks)
				if state != impl.DiskGone {
					want[place.Disk].Wait = []impl.Put{toSlot(place.Slot, cols[i])}
				}
				if !ok || !disksSame(mended, want) {
					t.Fatalf("%q, column %d, state %d: %v, %v", s.text, i, state, mended, ok)
				}
			}
			disks := spoilt(s.disks, place, 1, 64)
			mended, ok := impl.StripeMend(disks, s.p)
			want := disksCopy(disks)
			want[place.Disk].Wait = []impl.Put{toSlot(place.Slot, cols[i])}
			if !ok || !disksSame(mended, want) || !disksSame(flushed(mended), s.disks) {
				t.Fatalf("%q, column %d spoilt: %v, %v", s.text, i, mended, ok)
			}
		}
	}
}

// Promise 34.
func TestP34AllOtherSlotsStay(t *testing.T) {
	r := rand.New(rand.NewSource(34))
	for range 1500 {
		disks := anyDisks(r)
		text := anyText(r, 1+r.Intn(impl.SecLen*(len(disks)-1)))
		p := ptrOf(t, text, anyPlaces(r, len(disks), len(text)))
		got := put(t, disks, p, text)
		for disk := range disks {
			before, after := reads(t, disks[disk]), reads(t, got[disk])
			for at := range impl.SlotMax {
				if i := slices.Index(p.Places, impl.Place{Disk: disk, Slot: at}); i >= 0 && disks[disk].State != impl.DiskGone {
					before[at] = colsSaid(text)[i]
				}
			}
			if !slices.Equal(before, after) || got[disk].State != disks[disk].State {
				t.Fatalf("%v, disk %d: %q, then %q", p, disk, before, after)
			}
		}
	}
}

// Promise 35.
func TestP35TwoTexts(t *testing.T) {
	r := rand.New(rand.NewSource(35))
	for _, s := range stripes(t) {
		for _, disks := range [][]impl.Disk{s.disks, put(t, poolOf(len(s.disks), impl.DiskLive), s.p, s.text)} {
			text := changed(s.text, r.Intn(len(s.text)), 1)
			same := ptrOf(t, text, s.p.Places)
			got := put(t, disks, same, text)
			isGot(t, "put to its places", got, same, text)
			isGot(t, "put to its places, flushed", flushed(got), same, text)
			isNotGot(t, "what was there", got, s.p)

			apart := slices.Clone(s.p.Places)
			slices.Reverse(apart)
			for i := range apart {
				apart[i].Slot = (apart[i].Slot + 1) % impl.SlotMax
			}
			other := ptrOf(t, text, apart)
			for _, x := range [][]impl.Disk{put(t, disks, other, text), flushed(put(t, disks, other, text))} {
				isGot(t, "the first, none of its places being taken", x, s.p, s.text)
				isGot(t, "the second", x, other, text)
				for disk := range x {
					x := withDisk(x, disk, impl.DiskNew(impl.DiskGone))
					if got, ok := impl.StripeGet(x, s.p); !ok || got.Text != s.text {
						t.Error("the first, a disk being gone:", got, ok)
					}
					if got, ok := impl.StripeGet(x, other); !ok || got.Text != text {
						t.Error("the second, a disk being gone:", got, ok)
					}
				}
			}
		}
	}
}

func TestTwoTextsThatShareAPlace(t *testing.T) {
	one := ptrOf(t, "hello", at(0, 0, 1, 0, 2, 0))
	two := ptrOf(t, "world!", at(1, 0, 0, 1, 2, 1))
	disks := put(t, put(t, poolOf(3, impl.DiskLive), one, "hello"), two, "world!")
	isGot(t, "a column of the first is the second's", disks, one, "hello", 1)
	isGot(t, "the second", disks, two, "world!")
	mended, ok := impl.StripeMend(disks, one)
	if !ok {
		t.Fatal(mended)
	}
	isGot(t, "mended, it is the other way about", mended, one, "hello")
	isGot(t, "mended, it is the other way about", mended, two, "world!", 0)
}

// Promise 36.
func TestP36OfNothingAndOfAnotherSum(t *testing.T) {
	for _, s := range stripes(t) {
		for _, none := range []impl.Ptr{{}, {Places: []impl.Place{}}} {
			isNotGot(t, "a pointer that is nothing", s.disks, none)
			isNotPut(t, "a pointer that is nothing", s.disks, none, "")
			isNotPut(t, "a pointer that is nothing", s.disks, none, s.text)
		}
		for _, sum := range []int{0, 1, s.p.Sum - 1, s.p.Sum + 1, s.p.Sum - 65536, s.p.Sum + 65537, impl.SumMax} {
			if sum == s.p.Sum || sum < 0 {
				continue
			}
			other := impl.Ptr{Size: s.p.Size, Sum: sum, Places: s.p.Places}
			if !impl.PtrOk(len(s.disks), other) {
				t.Fatal(other)
			}
			isNotGot(t, "another sum", s.disks, other)
			isNotPut(t, "another sum", s.disks, other, s.text)
			for i := range s.p.Places {
				isNotGot(t, "another sum, a column being lost", lost(s.disks, s.p.Places[i], impl.DiskGone), other)
			}
		}
	}
}

func TestPutOfATextThatThePtrDoesNotTellOf(t *testing.T) {
	for _, s := range stripes(t) {
		for _, text := range []string{"", s.text[1:], s.text[:len(s.text)-1], s.text + "x", s.text + "\x00", "\x00" + s.text, changed(s.text, 0, 1), s.text + s.text, strings.Repeat("x", 1000)} {
			isNotPut(t, fmt.Sprintf("%q instead of %q", text, s.text), s.disks, s.p, text)
		}
	}
	// The sum of noughts is the same however many there are.
	p := ptrOf(t, noughts(4), at(0, 0, 1, 0, 2, 0))
	for size := range 12 {
		if out, ok := impl.StripePut(poolOf(3, impl.DiskLive), p, noughts(size)); ok != (size == 4) || !ok && len(out) != 0 {
			t.Error(size, out, ok)
		}
	}
	// A text has the same sum with noughts behind it: as much of it is got as the pointer says.
	disks := put(t, poolOf(3, impl.DiskLive), ptrOf(t, "ab\x00\x00", p.Places), "ab\x00\x00")
	isGot(t, "a nought more", disks, ptr(5, sumSaid("ab"), 0, 0, 1, 0, 2, 0), "ab\x00\x00\x00")
	isNotGot(t, "so few bytes need fewer columns", disks, ptr(2, sumSaid("ab"), 0, 0, 1, 0, 2, 0))
	disks = put(t, poolOf(3, impl.DiskLive), ptrOf(t, "ab\x00\x00c", p.Places), "ab\x00\x00c")
	isNotGot(t, "what is behind is not noughts", disks, ptr(4, sumSaid("ab"), 0, 0, 1, 0, 2, 0))
}

func TestPtrsThatAreNotOkInThePool(t *testing.T) {
	for _, disks := range pools() {
		live := poolOf(disks, impl.DiskLive)
		for _, p := range ptrs() {
			if ptrSaid(disks, p) {
				continue
			}
			for _, text := range []string{"", noughts(max(0, min(p.Size, 20)))} {
				isNotPut(t, fmt.Sprint(p), live, p, text)
			}
			isNotGot(t, fmt.Sprint(p), live, p)
		}
	}
}

func TestAPoolOfFewDisksAndAPtrThatNeedsMore(t *testing.T) {
	for text, places := range map[string][]impl.Place{
		"abcdefghi": at(0, 0, 1, 0, 2, 0, 3, 0), "abcdefg": at(3, 0, 1, 0, 2, 0, 0, 0),
		"abcdef": at(0, 0, 1, 0, 3, 0), "abc": at(3, 0, 1, 0), "a": at(0, 0, 3, 0),
	} {
		p := ptrOf(t, text, places)
		disks := put(t, poolOf(4, impl.DiskLive), p, text)
		isGot(t, "of four disks", disks, p, text)
		isNotGot(t, "of three disks", disks[:3], p)
		isNotPut(t, "of three disks", poolOf(3, impl.DiskLive), p, text)
	}
}

func TestDisksThatAreNoPool(t *testing.T) {
	for why, disks := range wrongPools() {
		for text, places := range map[string][]impl.Place{"hello": at(0, 0, 1, 0, 2, 0), "x": at(2, 11, 0, 11)} {
			p := ptrOf(t, text, places)
			isNotPut(t, why, disks, p, text)
			isNotGot(t, why, disks, p)
			isNotGot(t, why, disks, impl.Ptr{})
		}
	}
	// What is wrong with a disk may have nothing to do with the pointer.
	p := ptrOf(t, "x", at(0, 0, 1, 0))
	disks := put(t, poolOf(4, impl.DiskLive), p, "x")
	for why, wrong := range wrongDisks() {
		isNotGot(t, why, withDisk(disks, 3, wrong), p)
		isNotPut(t, why, withDisk(disks, 3, wrong), p, "x")
	}
	isNotGot(t, "a disk more", append(slices.Clone(disks), impl.DiskNew(impl.DiskLive)), p)
	isNotGot(t, "two disks", disks[:2], p)
	isGot(t, "three disks", disks[:3], p, "x")
}

func TestSoManyWaitWhenSomethingIsPutOrMended(t *testing.T) {
	p := ptrOf(t, "hello", at(2, 1, 0, 5, 1, 3))
	cols := colsSaid("hello")
	for _, count := range []int{impl.WaitMax - 1, impl.WaitMax} {
		busy := impl.DiskNew(impl.DiskLive)
		for i := range count {
			busy = impl.DiskPut(busy, toSlot(i%2*7, fmt.Sprintf("%03d", i)))
		}
		disks := []impl.Disk{busy, busy, busy, busy}
		for what, got := range map[string][]impl.Disk{"put": put(t, disks, p, "hello"), "mended": busyMended(t, disks, p, cols)} {
			for i, place := range p.Places {
				if what == "mended" && i != 1 {
					continue
				}
				d, w := got[place.Disk], toSlot(place.Slot, cols[i])
				if count == impl.WaitMax && (!slices.Equal(d.Wait, []impl.Put{w}) || d.Slots[7] != "039") || count < impl.WaitMax && (len(d.Wait) != count+1 || d.Wait[count] != w || d.Slots[7] != "") {
					t.Errorf("%s, %d wait: %v", what, count, d)
				}
			}
			if !diskSame(got[3], busy) {
				t.Error("a disk that has no column of it:", got[3])
			}
			isGot(t, what, got, p, "hello")
		}
	}
}

// busyMended is what is mended of busy disks that have all columns but the one at place 1.
func busyMended(t *testing.T, disks []impl.Disk, p impl.Ptr, cols []string) []impl.Disk {
	t.Helper()
	disks = disksCopy(disks)
	for i, place := range p.Places {
		disks[place.Disk].Slots[place.Slot] = cols[i]
	}
	place := p.Places[1]
	disks[place.Disk].Slots[place.Slot] = "bad"
	isGot(t, "ahead of mending", disks, p, "hello", 1)
	out, ok := impl.StripeMend(disks, p)
	if !ok {
		t.Fatal("cannot be mended")
	}
	return out
}

func TestStripeAnswersAreAsSaid(t *testing.T) {
	r := rand.New(rand.NewSource(111))
	for range 6000 {
		s := anyStripe(t, r)
		disks, p, text := s.disks, s.p, s.text
		for range r.Intn(4) {
			disks = hit(r, disks, p)
		}
		switch r.Intn(8) {
		case 0:
			disks = withDisk(disks, r.Intn(len(disks)), harmed(r, disks[0]))
		case 1:
			disks = disks[:r.Intn(len(disks))]
		case 2:
			p = ptrs()[r.Intn(1000)]
		case 3:
			p.Size = r.Intn(11)
		case 4:
			p.Sum += r.Intn(3) - 1
		case 5:
			text = anyText(r, r.Intn(11))
		}
		got, ok := impl.StripeGet(disks, p)
		if want, fine := getSaid(disks, p); ok != fine || got.Text != want.Text || !slices.Equal(got.Bad, want.Bad) {
			t.Fatalf("%v, %v: %v, %v, not %v, %v", disks, p, got, ok, want, fine)
		}
		out, ok := impl.StripePut(disks, p, text)
		if want, fine := stripePutSaid(disks, p, text); ok != fine || !disksSame(out, want) {
			t.Fatalf("%v, %v, %q: %v, %v, not %v, %v", disks, p, text, out, ok, want, fine)
		}
		out, ok = impl.StripeMend(disks, p)
		if want, fine := mendSaid(disks, p); ok != fine || !disksSame(out, want) {
			t.Fatalf("%v, %v: %v, %v, not %v, %v", disks, p, out, ok, want, fine)
		}
		if impl.StripeOk(disks) != areDisksSaid(disks) {
			t.Fatalf("%v", disks)
		}
	}
}

// turned is columns, one of which is xored with a text.
func turned(cols []string, at int, by string) []string {
	return with(cols, at, xorSaid([]string{cols[at], by}))
}

// Columns of few bytes, so that with the one or the other found from all others there often are two texts of one sum.
func TestWhichIsFoundIsAsSaid(t *testing.T) {
	r := rand.New(rand.NewSource(112))
	count := map[int]int{}
	for range 20000 {
		disks := poolOf(4, impl.DiskLive)
		p := impl.Ptr{Size: 1 + r.Intn(9)}
		p.Places = anyPlaces(r, 4, p.Size)
		var data []string
		for range p.Places[1:] {
			data = append(data, string([]byte{"\x00\x03"[r.Intn(2)], "\x00\x04"[r.Intn(2)], "\x00\x03"[r.Intn(2)]}))
		}
		by := "\x03\x04\x03"
		p.Sum = sumSaid(strings.Join(turned(data, r.Intn(len(data)), by), "")[:p.Size])
		for i, col := range append(data, xorSaid(append(slices.Clone(data), by))) {
			if place := p.Places[i]; r.Intn(20) > 0 {
				disks[place.Disk].Slots[place.Slot] = col
			}
		}
		fit := 0
		for i := range data {
			if _, ok := fitSaid(turned(data, i, by), p); ok {
				fit++
			}
		}
		count[fit]++
		got, ok := impl.StripeGet(disks, p)
		if want, fine := getSaid(disks, p); ok != fine || got.Text != want.Text || !slices.Equal(got.Bad, want.Bad) {
			t.Fatalf("%v, %v: %v, %v, not %v, %v", disks, p, got, ok, want, fine)
		}
	}
	if count[0] < 100 || count[1] < 100 || count[2] < 100 {
		t.Error("too few of a kind:", count)
	}
}

// disksSpans is the memory of all that disks have.
func disksSpans(disks []impl.Disk) []span {
	spans := []span{listSpan(disks)}
	for _, d := range disks {
		spans = append(spans, diskSpans(d)...)
	}
	return spans
}

// apart asks that an answer shares no memory with what was given, and none within.
func apart(t *testing.T, what string, answer []span, given []span) {
	t.Helper()
	if meets(answer, given) {
		t.Errorf("%s: an answer is no new memory", what)
	}
	for i := range answer {
		if meets(answer[:i], answer[i:i+1]) {
			t.Errorf("%s: two lists of one answer share memory", what)
		}
	}
}

func TestStripeAnswersAreNewMemory(t *testing.T) {
	r := rand.New(rand.NewSource(113))
	for i := range 400 {
		s := anyStripe(t, r)
		disks := disksCopy(s.disks)
		if i%4 == 0 {
			// Disks that are given may be one and the same.
			disks = slices.Repeat(disks[:1], len(disks))
		} else if i%4 == 1 {
			disks = hit(r, disks, s.p)
		}
		text := strings.Clone(s.text)
		given := append(disksSpans(disks), textSpan(text), listSpan(s.p.Places))
		p, _ := impl.StripePtr(text, s.p.Places)
		apart(t, "ptr", []span{listSpan(p.Places)}, given)
		out, _ := impl.StripePut(disks, s.p, text)
		apart(t, "put", disksSpans(out), given)
		out, _ = impl.StripeMend(disks, s.p)
		apart(t, "mend", disksSpans(out), given)
		got, _ := impl.StripeGet(disks, s.p)
		apart(t, "get", []span{textSpan(got.Text), listSpan(got.Bad)}, given)
	}
}

func TestStripeArgumentsStay(t *testing.T) {
	r := rand.New(rand.NewSource(114))
	for i := range 300 {
		s := anyStripe(t, r)
		if i%3 > 0 {
			s.disks = hit(r, s.disks, s.p)
		}
		if i%7 == 0 {
			s.disks[r.Intn(len(s.disks))] = harmed(r, s.disks[0])
		}
		var disks []impl.Disk
		var tells []func() string
		for _, d := range append(s.disks, impl.DiskNew(impl.DiskLive), impl.DiskNew(impl.DiskGone)) {
			whole, tell := roomyDisk(d)
			disks, tells = append(disks, whole), append(tells, tell)
		}
		list := disks[:len(s.disks)]
		places := append(slices.Clone(s.p.Places), at(1, 1, 2, 2, 3, 3)...)
		p := impl.Ptr{Size: s.p.Size, Sum: s.p.Sum, Places: places[:len(s.p.Places)]}
		tell := func() string {
			told := fmt.Sprint(disks, places, p, s.text)
			for _, one := range tells {
				told += one()
			}
			return told
		}
		before := tell()
		impl.StripeOk(list)
		if q, ok := impl.StripePtr(s.text, p.Places); ok {
			clear(q.Places[:cap(q.Places)])
		}
		if got, ok := impl.StripeGet(list, p); ok {
			clear(got.Bad[:cap(got.Bad)])
		}
		put, _ := impl.StripePut(list, p, s.text)
		mended, _ := impl.StripeMend(list, p)
		for _, d := range append(put, mended...) {
			clear(d.Slots[:cap(d.Slots)])
			clear(d.Rings[:cap(d.Rings)])
			clear(d.Spoilt[:cap(d.Spoilt)])
			clear(d.Wait[:cap(d.Wait)])
		}
		clear(put[:cap(put)])
		clear(mended[:cap(mended)])
		if after := tell(); after != before {
			t.Fatalf("%s\nis now\n%s", before, after)
		}
	}
}

// tellStripe is all that is answered of a stripe.
func tellStripe(s stripe) string {
	p, fine := impl.StripePtr(s.text, s.p.Places)
	got, ok := impl.StripeGet(s.disks, s.p)
	put, done := impl.StripePut(s.disks, s.p, s.text)
	mended, well := impl.StripeMend(s.disks, s.p)
	return fmt.Sprint(p, fine, got, ok, put, done, mended, well)
}

func TestStripeAnswersAreTheSameEachTime(t *testing.T) {
	r := rand.New(rand.NewSource(115))
	for range 20 {
		s := anyStripe(t, r)
		s.disks = hit(r, s.disks, s.p)
		want := tellStripe(s)
		var group sync.WaitGroup
		for range 8 {
			group.Go(func() {
				for range 20 {
					if got := tellStripe(s); got != want {
						t.Errorf("%s, then %s", want, got)
					}
				}
			})
		}
		group.Wait()
	}
}

func TestNoReaderStaysBehind(t *testing.T) {
	before := runtime.NumGoroutine()
	for _, s := range stripes(t) {
		impl.StripeGet(s.disks, s.p)
		impl.StripeGet(lost(s.disks, s.p.Places[0], impl.DiskGone), s.p)
		impl.StripeMend(poolOf(len(s.disks), impl.DiskGone), s.p)
	}
	// One that is done may take a moment to be gone.
	for wait := 0; runtime.NumGoroutine() > before && wait < 1000; wait++ {
		time.Sleep(time.Millisecond)
	}
	if now := runtime.NumGoroutine(); now > before {
		t.Errorf("%d were running, and %d are", before, now)
	}
}
