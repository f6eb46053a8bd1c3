package tests

import (
	"fmt"
	"math"
	"math/rand"
	"slices"
	"strings"
	"testing"

	"loop.example/paling/impl"
)

// states are all that a disk may be.
func states() []int {
	return []int{impl.DiskLive, impl.DiskGone, impl.DiskFresh}
}

// noStates are what no disk is.
func noStates() []int {
	return append(farNumbers(), -1, 3, 4, 256)
}

// noSlots are where no slot is, and noRings where no ring is.
func noSlots() []int {
	return append(farNumbers(), -1, impl.SlotMax, impl.SlotMax+1)
}

func noRings() []int {
	return append(farNumbers(), -1, impl.RingMax, impl.RingMax+1, impl.SlotMax-1)
}

// toSlot and toRing are writes.
func toSlot(at int, text string) impl.Put {
	return impl.Put{At: at, Text: text}
}

func toRing(at int, text string) impl.Put {
	return impl.Put{Ring: true, At: at, Text: text}
}

// noPuts are writes that are none.
func noPuts() []impl.Put {
	var out []impl.Put
	for _, at := range noSlots() {
		out = append(out, toSlot(at, "abc"))
	}
	for _, at := range noRings() {
		out = append(out, toRing(at, "abc"), toRing(at, ""))
	}
	for _, text := range []string{"", "a", "ab", "abcd", noughts(2), noughts(4), noughts(impl.TextMax), noughts(100000)} {
		out = append(out, toSlot(0, text), toSlot(impl.SlotMax-1, text))
	}
	for _, size := range []int{impl.TextMax + 1, 100000} {
		out = append(out, toRing(0, noughts(size)), toRing(impl.RingMax-1, noughts(size)))
	}
	return out
}

// putDisk is a disk to which all this was written.
func putDisk(d impl.Disk, puts ...impl.Put) impl.Disk {
	for _, p := range puts {
		d = impl.DiskPut(d, p)
	}
	return d
}

// diskCopy is a disk in new memory.
func diskCopy(d impl.Disk) impl.Disk {
	out := impl.Disk{State: d.State, Spoilt: slices.Clone(d.Spoilt)}
	for _, text := range d.Slots {
		out.Slots = append(out.Slots, strings.Clone(text))
	}
	for _, text := range d.Rings {
		out.Rings = append(out.Rings, strings.Clone(text))
	}
	for _, p := range d.Wait {
		out.Wait = append(out.Wait, impl.Put{Ring: p.Ring, At: p.At, Text: strings.Clone(p.Text)})
	}
	return out
}

// diskSame says whether two disks are the same value.
func diskSame(a impl.Disk, b impl.Disk) bool {
	return a.State == b.State && slices.Equal(a.Slots, b.Slots) && slices.Equal(a.Rings, b.Rings) &&
		slices.Equal(a.Spoilt, b.Spoilt) && slices.Equal(a.Wait, b.Wait)
}

// isNoDisk says whether a disk is nothing.
func isNoDisk(d impl.Disk) bool {
	return diskSame(d, impl.Disk{})
}

// reads is what is read of all slots of a disk, and that false has nothing beside it.
func reads(t *testing.T, d impl.Disk) []string {
	t.Helper()
	var out []string
	for at := range impl.SlotMax {
		text, ok := impl.DiskRead(d, at)
		if ok != (text != "") {
			t.Fatalf("slot %d: %q, %v", at, text, ok)
		}
		out = append(out, text)
	}
	return out
}

// putSaid says whether a write is one, as the document says it, written out.
func putSaid(p impl.Put) bool {
	if p.Ring {
		return (p.At == 0 || p.At == 1) && len(p.Text) < 701
	}
	return p.At >= 0 && p.At <= 11 && len(p.Text) == 3
}

// okSaid is DiskOk as the document says it, written out.
func okSaid(d impl.Disk) bool {
	if d.State < 0 || d.State > 2 || len(d.Slots) != 12 || len(d.Rings) != 2 || len(d.Spoilt) != 12 || len(d.Wait) > 40 {
		return false
	}
	if d.State == 1 && strings.Join(d.Slots, "")+strings.Join(d.Rings, "") != "" || d.State == 1 && len(d.Wait) > 0 {
		return false
	}
	for at, text := range d.Slots {
		if len(text) != 0 && len(text) != 3 || len(text) == 0 && d.Spoilt[at] {
			return false
		}
	}
	for _, p := range d.Wait {
		if !putSaid(p) {
			return false
		}
	}
	return len(d.Rings[0]) < 701 && len(d.Rings[1]) < 701
}

// crashSaid is DiskCrash of an ok disk as the document says it, written out; comes says which writes come.
func crashSaid(d impl.Disk, comes func(int) bool) impl.Disk {
	out := diskCopy(d)
	out.Wait = nil
	for i, p := range d.Wait {
		switch {
		case !comes(i):
		case p.Ring:
			out.Rings[p.At] = p.Text
		default:
			out.Slots[p.At], out.Spoilt[p.At] = p.Text, false
		}
	}
	return out
}

// allCome lets all writes come, and kept those whose bit is set.
func allCome(int) bool {
	return true
}

func kept(keep int) func(int) bool {
	return func(i int) bool {
		return fmt.Sprintf("%064b", keep)[63-i] == '1'
	}
}

// putDiskSaid is DiskPut as the document says it, written out.
func putDiskSaid(d impl.Disk, p impl.Put) impl.Disk {
	if !okSaid(d) || !putSaid(p) {
		return impl.Disk{}
	}
	out := diskCopy(d)
	if d.State == 1 {
		return out
	}
	if len(d.Wait) == 40 {
		out = crashSaid(d, allCome)
	}
	out.Wait = append(out.Wait, p)
	return out
}

// spoilSaid is DiskSpoil as the document says it, written out.
func spoilSaid(d impl.Disk, at int, byteAt int, by int) impl.Disk {
	if !okSaid(d) || at < 0 || at > 11 || byteAt < 0 || byteAt > 2 || by < 1 || by > 255 {
		return impl.Disk{}
	}
	out := diskCopy(d)
	if d.Slots[at] != "" && !d.Spoilt[at] {
		out.Slots[at], out.Spoilt[at] = changed(d.Slots[at], byteAt, byte(by)), true
	}
	return out
}

// anyPut is any write; many are to few slots, so that some meet.
func anyPut(r *rand.Rand) impl.Put {
	if r.Intn(4) == 0 {
		return toRing(r.Intn(impl.RingMax), anyText(r, []int{0, 1, 3, 50, impl.TextMax}[r.Intn(5)]))
	}
	text := []string{"abc", noughts(3), "\xff\xff\xff", anyText(r, 3)}[r.Intn(4)]
	return toSlot([]int{0, impl.SlotMax - 1, r.Intn(3), r.Intn(impl.SlotMax)}[r.Intn(4)], text)
}

// anyDisk is any ok disk.
func anyDisk(r *rand.Rand) impl.Disk {
	state := states()[[]int{0, 0, 0, 2, 2, 1}[r.Intn(6)]]
	d := impl.Disk{State: state, Slots: make([]string, impl.SlotMax), Rings: make([]string, impl.RingMax), Spoilt: make([]bool, impl.SlotMax)}
	if state == impl.DiskGone {
		return d
	}
	for at := range d.Slots {
		if r.Intn(3) > 0 {
			d.Slots[at], d.Spoilt[at] = anyText(r, 3), r.Intn(3) == 0
		}
	}
	for at := range d.Rings {
		d.Rings[at] = anyText(r, []int{0, 7, impl.TextMax}[r.Intn(3)])
	}
	for range []int{0, 1, 2, 5, impl.WaitMax - 1, impl.WaitMax}[r.Intn(6)] {
		d.Wait = append(d.Wait, anyPut(r))
	}
	return d
}

// okDisks are disks that are ok.
func okDisks() []impl.Disk {
	live := impl.DiskNew(impl.DiskLive)
	full := putDisk(live, toRing(0, noughts(impl.TextMax)), toRing(1, "root"))
	for at := range impl.SlotMax {
		full = impl.DiskPut(full, toSlot(at, fmt.Sprintf("%03d", at)))
	}
	out := []impl.Disk{
		live, impl.DiskNew(impl.DiskGone), impl.DiskNew(impl.DiskFresh), full, impl.DiskFlush(full),
		impl.DiskSpoil(impl.DiskFlush(full), 0, 0, 1), putDisk(impl.DiskSpoil(impl.DiskFlush(full), 11, 2, 255), toSlot(11, "new")),
	}
	r := rand.New(rand.NewSource(3))
	for range 200 {
		out = append(out, anyDisk(r))
	}
	return out
}

// wrongDisks are disks that are not ok, by what is wrong with them.
func wrongDisks() map[string]impl.Disk {
	out := map[string]impl.Disk{"nothing": {}}
	add := func(why string, state int, change func(d *impl.Disk)) {
		d := impl.DiskNew(state)
		change(&d)
		out[fmt.Sprintf("%s, state %d", why, state)] = d
	}
	for _, state := range noStates() {
		add(fmt.Sprint("now in state ", state), impl.DiskLive, func(d *impl.Disk) { d.State = state })
	}
	for _, state := range states() {
		add("a slot fewer", state, func(d *impl.Disk) { d.Slots = d.Slots[1:] })
		add("a slot more", state, func(d *impl.Disk) { d.Slots = append(d.Slots, "") })
		add("no slots", state, func(d *impl.Disk) { d.Slots = nil })
		add("a ring fewer", state, func(d *impl.Disk) { d.Rings = d.Rings[1:] })
		add("a ring more", state, func(d *impl.Disk) { d.Rings = append(d.Rings, "") })
		add("no rings", state, func(d *impl.Disk) { d.Rings = nil })
		add("a mark fewer", state, func(d *impl.Disk) { d.Spoilt = d.Spoilt[1:] })
		add("a mark more", state, func(d *impl.Disk) { d.Spoilt = append(d.Spoilt, false) })
		add("no marks", state, func(d *impl.Disk) { d.Spoilt = nil })
		add("the first slot spoilt, and empty", state, func(d *impl.Disk) { d.Spoilt[0] = true })
		add("the last slot spoilt, and empty", state, func(d *impl.Disk) { d.Spoilt[11] = true })
		add("a slot spoilt, and empty, and written", state, func(d *impl.Disk) { d.Spoilt[5] = true; d.Wait = []impl.Put{toSlot(5, "abc")} })
		for _, size := range []int{1, 2, 4, 6, 700} {
			add(fmt.Sprint("the first slot of ", size), state, func(d *impl.Disk) { d.Slots[0] = noughts(size) })
			add(fmt.Sprint("the last slot of ", size), state, func(d *impl.Disk) { d.Slots[11] = noughts(size) })
		}
		add("a long ring 0", state, func(d *impl.Disk) { d.Rings[0] = noughts(impl.TextMax + 1) })
		add("a long ring 1", state, func(d *impl.Disk) { d.Rings[1] = noughts(impl.TextMax + 1) })
		add("a write too many", state, func(d *impl.Disk) { d.Wait = slices.Repeat([]impl.Put{toSlot(0, "abc")}, impl.WaitMax+1) })
		add("many writes", state, func(d *impl.Disk) { d.Wait = slices.Repeat([]impl.Put{toRing(0, "abc")}, 10000) })
		for i, p := range noPuts() {
			add(fmt.Sprint("waits none ", i), state, func(d *impl.Disk) { d.Wait = []impl.Put{p} })
			add(fmt.Sprint("waits none in the end ", i), state, func(d *impl.Disk) { d.Wait = []impl.Put{toSlot(0, "abc"), toRing(0, "r"), p} })
		}
	}
	add("the first slot has something", impl.DiskGone, func(d *impl.Disk) { d.Slots[0] = "abc" })
	add("the last slot has something", impl.DiskGone, func(d *impl.Disk) { d.Slots[11] = noughts(3) })
	add("a spoilt slot", impl.DiskGone, func(d *impl.Disk) { d.Slots[4], d.Spoilt[4] = "abc", true })
	add("ring 0 has something", impl.DiskGone, func(d *impl.Disk) { d.Rings[0] = "r" })
	add("ring 1 has something", impl.DiskGone, func(d *impl.Disk) { d.Rings[1] = "\x00" })
	add("a slot's write waits", impl.DiskGone, func(d *impl.Disk) { d.Wait = []impl.Put{toSlot(0, "abc")} })
	add("a ring's write waits", impl.DiskGone, func(d *impl.Disk) { d.Wait = []impl.Put{toRing(0, "")} })
	return out
}

// keeps are numbers whose bits say which writes are kept.
func keeps(r *rand.Rand) []int {
	return []int{0, 1, 2, 3, 1 << 39, 1<<39 - 1, 1<<40 - 1, 1 << 40, 1 << 62, math.MaxInt, r.Intn(1 << 40), r.Intn(1 << 40)}
}

func TestDiskLimits(t *testing.T) {
	got := []int{impl.DiskLive, impl.DiskGone, impl.DiskFresh, impl.RingMax, impl.WaitMax}
	if want := []int{0, 1, 2, 2, 40}; !slices.Equal(got, want) {
		t.Error(got)
	}
}

// Promise 20.
func TestP20NewDiskHasNothing(t *testing.T) {
	for _, state := range states() {
		d := impl.DiskNew(state)
		want := impl.Disk{State: state, Slots: make([]string, 12), Rings: make([]string, 2), Spoilt: make([]bool, 12)}
		if !diskSame(d, want) || !impl.DiskOk(d) || len(d.Wait) != 0 {
			t.Error(d)
		}
		if got := reads(t, d); strings.Join(got, "") != "" {
			t.Error(got)
		}
	}
	for _, state := range noStates() {
		if d := impl.DiskNew(state); !isNoDisk(d) || impl.DiskOk(d) {
			t.Error(state, d)
		}
	}
}

func TestDiskOkAtItsEdges(t *testing.T) {
	for i, d := range okDisks() {
		if !impl.DiskOk(d) || !okSaid(d) {
			t.Error(i, d)
		}
	}
	for why, d := range wrongDisks() {
		if impl.DiskOk(d) || okSaid(d) {
			t.Error(why, d)
		}
	}
	for _, state := range []int{impl.DiskLive, impl.DiskFresh} {
		d := impl.DiskNew(state)
		d.Slots[0], d.Slots[11], d.Spoilt[11] = "abc", noughts(3), true
		d.Rings[0], d.Rings[1] = noughts(impl.TextMax), noughts(impl.TextMax-1)
		d.Wait = []impl.Put{toSlot(0, "abc"), toSlot(11, "xyz"), toRing(0, noughts(impl.TextMax)), toRing(1, "")}
		for _, count := range []int{4, impl.WaitMax - 1, impl.WaitMax, impl.WaitMax + 1} {
			for len(d.Wait) < count {
				d.Wait = append(d.Wait, toSlot(count%impl.SlotMax, "mno"))
			}
			if impl.DiskOk(d) != (count <= impl.WaitMax) {
				t.Error(state, count)
			}
		}
	}
}

// harmed is an ok disk in which one thing is any other way; it may be ok still.
func harmed(r *rand.Rand, d impl.Disk) impl.Disk {
	d = diskCopy(d)
	texts := []string{"", "a", "ab", "abc", "abcd", noughts(impl.TextMax), noughts(impl.TextMax + 1)}
	text := texts[r.Intn(len(texts))]
	switch r.Intn(7) {
	case 0:
		d.State = r.Intn(5) - 1
	case 1:
		d.Slots[r.Intn(len(d.Slots))] = text
	case 2:
		d.Rings[r.Intn(len(d.Rings))] = text
	case 3:
		at := r.Intn(len(d.Spoilt))
		d.Spoilt[at] = !d.Spoilt[at]
	case 4:
		d.Wait = append(d.Wait, impl.Put{Ring: r.Intn(2) == 0, At: r.Intn(14) - 1, Text: text})
	case 5:
		d.Slots, d.Spoilt = d.Slots[:10+r.Intn(3)], d.Spoilt[:10+r.Intn(3)]
	case 6:
		if len(d.Wait) > 0 {
			d.Wait[r.Intn(len(d.Wait))] = impl.Put{Ring: r.Intn(2) == 0, At: r.Intn(14) - 1, Text: text}
		}
	}
	return d
}

func TestDiskOkIsAsSaid(t *testing.T) {
	r := rand.New(rand.NewSource(30))
	count := map[bool]int{}
	for _, d := range okDisks() {
		for range 60 {
			other := harmed(r, d)
			ok := impl.DiskOk(other)
			count[ok]++
			if ok != okSaid(other) {
				t.Fatalf("%v: %v", other, ok)
			}
		}
	}
	if count[true] < 500 || count[false] < 500 {
		t.Error("too few of a kind:", count)
	}
}

func TestDiskAnswersAreAsSaid(t *testing.T) {
	r := rand.New(rand.NewSource(31))
	for _, d := range okDisks() {
		flushed := crashSaid(d, allCome)
		if got := impl.DiskFlush(d); !diskSame(got, flushed) {
			t.Fatalf("%v flushed: %v", d, got)
		}
		if got := reads(t, d); !slices.Equal(got, flushed.Slots) {
			t.Fatalf("%v read: %q", d, got)
		}
		for range 20 {
			p := anyPut(r)
			if got := impl.DiskPut(d, p); !diskSame(got, putDiskSaid(d, p)) {
				t.Fatalf("%v put %v: %v", d, p, got)
			}
			at, byteAt, by := r.Intn(14)-1, r.Intn(5)-1, []int{-1, 0, 1, 255, 256, r.Intn(256)}[r.Intn(6)]
			if got := impl.DiskSpoil(d, at, byteAt, by); !diskSame(got, spoilSaid(d, at, byteAt, by)) {
				t.Fatalf("%v spoilt at %d, %d by %d: %v", d, at, byteAt, by, got)
			}
		}
		for _, keep := range keeps(r) {
			if got := impl.DiskCrash(d, keep); !diskSame(got, crashSaid(d, kept(keep))) {
				t.Fatalf("%v crashed, %b kept: %v", d, keep, got)
			}
		}
	}
}

// One thing behind the other, each held against what the document says.
func TestDiskPlaysAreAsSaid(t *testing.T) {
	r := rand.New(rand.NewSource(32))
	for play := range 60 {
		d := impl.DiskNew(states()[play%3])
		for step := range 150 {
			var want impl.Disk
			switch kind := r.Intn(40); {
			case kind < 32:
				p := anyPut(r)
				want, d = putDiskSaid(d, p), impl.DiskPut(d, p)
			case kind < 38:
				at, byteAt, by := r.Intn(impl.SlotMax), r.Intn(3), 1+r.Intn(255)
				want, d = spoilSaid(d, at, byteAt, by), impl.DiskSpoil(d, at, byteAt, by)
			case kind < 39:
				want, d = crashSaid(d, allCome), impl.DiskFlush(d)
			default:
				keep := r.Intn(math.MaxInt)
				want, d = crashSaid(d, kept(keep)), impl.DiskCrash(d, keep)
			}
			if !diskSame(d, want) || !impl.DiskOk(d) {
				t.Fatalf("play %d, step %d: %v, not %v", play, step, d, want)
			}
		}
	}
}

func TestReadAtNoSlot(t *testing.T) {
	for _, d := range okDisks() {
		for _, at := range noSlots() {
			if text, ok := impl.DiskRead(d, at); ok || text != "" {
				t.Errorf("slot %d: %q, %v", at, text, ok)
			}
		}
	}
	d := putDisk(impl.DiskNew(impl.DiskFresh), toSlot(0, noughts(3)), toSlot(impl.SlotMax-1, "xyz"))
	for _, x := range []impl.Disk{d, impl.DiskFlush(d)} {
		if text, ok := impl.DiskRead(x, 0); !ok || text != noughts(3) {
			t.Errorf("%q, %v", text, ok)
		}
		if text, ok := impl.DiskRead(x, impl.SlotMax-1); !ok || text != "xyz" {
			t.Errorf("%q, %v", text, ok)
		}
		if text, ok := impl.DiskRead(x, 1); ok || text != "" {
			t.Errorf("%q, %v", text, ok)
		}
	}
}

func TestDisksThatAreNotOk(t *testing.T) {
	for why, d := range wrongDisks() {
		for at := -1; at <= impl.SlotMax; at++ {
			if text, ok := impl.DiskRead(d, at); ok || text != "" {
				t.Errorf("%s, slot %d: %q, %v", why, at, text, ok)
			}
		}
		for what, got := range map[string]impl.Disk{
			"put":         impl.DiskPut(d, toSlot(0, "abc")),
			"put in ring": impl.DiskPut(d, toRing(0, "abc")),
			"put none":    impl.DiskPut(d, toSlot(0, "ab")),
			"flush":       impl.DiskFlush(d),
			"crash":       impl.DiskCrash(d, 0),
			"crash, all":  impl.DiskCrash(d, math.MaxInt),
			"spoil":       impl.DiskSpoil(d, 0, 0, 1),
			"spoil last":  impl.DiskSpoil(d, 11, 2, 255),
		} {
			if !isNoDisk(got) {
				t.Errorf("%s, %s: %v", why, what, got)
			}
		}
	}
}

func TestWritesThatAreNone(t *testing.T) {
	for _, d := range okDisks() {
		for _, p := range noPuts() {
			if got := impl.DiskPut(d, p); !isNoDisk(got) {
				t.Errorf("%v put in %v: %v", p, d, got)
			}
		}
	}
}

func TestWritesAtTheEdges(t *testing.T) {
	for _, state := range []int{impl.DiskLive, impl.DiskFresh} {
		for _, p := range []impl.Put{
			toSlot(0, "abc"), toSlot(impl.SlotMax-1, noughts(3)), toRing(0, ""), toRing(0, noughts(impl.TextMax)),
			toRing(impl.RingMax-1, "r"), toRing(impl.RingMax-1, noughts(impl.TextMax)),
		} {
			d := impl.DiskPut(impl.DiskNew(state), p)
			if want := putDiskSaid(impl.DiskNew(state), p); !diskSame(d, want) || !slices.Equal(d.Wait, []impl.Put{p}) {
				t.Errorf("%v: %v", p, d)
			}
		}
	}
}

// Promise 21.
func TestP21WhatIsPutIsRead(t *testing.T) {
	r := rand.New(rand.NewSource(21))
	for _, d := range okDisks() {
		before := reads(t, d)
		for at := range impl.SlotMax {
			text := anyText(r, 3)
			got := impl.DiskPut(d, toSlot(at, text))
			want := before
			if d.State != impl.DiskGone {
				want = with(before, at, text)
			} else if !diskSame(got, d) {
				t.Errorf("%v is gone, and changed: %v", d, got)
			}
			if !slices.Equal(reads(t, got), want) || !impl.DiskOk(got) || got.State != d.State {
				t.Errorf("%v, %q put at %d: %v", d, text, at, got)
			}
		}
	}
}

// Promise 22.
func TestP22FlushedNothingWaits(t *testing.T) {
	for _, d := range okDisks() {
		got := impl.DiskFlush(d)
		if len(got.Wait) != 0 || !impl.DiskOk(got) || !slices.Equal(reads(t, got), reads(t, d)) || !slices.Equal(reads(t, got), got.Slots) {
			t.Errorf("%v: %v", d, got)
		}
		if again := impl.DiskFlush(got); !diskSame(again, got) {
			t.Errorf("%v: %v", got, again)
		}
	}
}

// Promise 23.
func TestP23OfWhatWaitsAnyMayCome(t *testing.T) {
	r := rand.New(rand.NewSource(23))
	for _, d := range okDisks() {
		for _, keep := range keeps(r) {
			got := impl.DiskCrash(d, keep)
			if len(got.Wait) != 0 || !impl.DiskOk(got) || got.State != d.State {
				t.Fatalf("%v, %b: %v", d, keep, got)
			}
			for at, text := range got.Slots {
				if text != d.Slots[at] && !slices.Contains(d.Wait, toSlot(at, text)) {
					t.Errorf("%v, %b: slot %d has %q", d, keep, at, text)
				}
			}
		}
		none := impl.DiskCrash(d, 0)
		if !slices.Equal(none.Slots, d.Slots) || !slices.Equal(none.Spoilt, d.Spoilt) || !slices.Equal(none.Rings, d.Rings) {
			t.Errorf("%v, none kept: %v", d, none)
		}
		for _, keep := range []int{1<<len(d.Wait) - 1, 1<<impl.WaitMax - 1, math.MaxInt} {
			if all := impl.DiskCrash(d, keep); !diskSame(all, impl.DiskFlush(d)) {
				t.Errorf("%v, all kept: %v", d, all)
			}
		}
		for _, keep := range []int{-1, -2, math.MinInt, math.MinInt + 1} {
			if got := impl.DiskCrash(d, keep); !isNoDisk(got) {
				t.Errorf("%v, %d: %v", d, keep, got)
			}
		}
	}
}

func TestTheLowestBitIsOfTheFirstWrite(t *testing.T) {
	d := impl.DiskNew(impl.DiskLive)
	for i := range impl.WaitMax {
		d = impl.DiskPut(d, toRing(i%2, fmt.Sprint(i)))
	}
	for i := range impl.WaitMax {
		want := []string{"", ""}
		want[i%2] = fmt.Sprint(i)
		if got := impl.DiskCrash(d, 1<<i); !slices.Equal(got.Rings, want) {
			t.Errorf("%d: %q", i, got.Rings)
		}
	}
	if got := impl.DiskCrash(d, 1<<impl.WaitMax); !diskSame(got, impl.DiskNew(impl.DiskLive)) {
		t.Error(got)
	}
}

// Promise 24.
func TestP24SpoilChangesOneByte(t *testing.T) {
	for _, d := range okDisks() {
		for at := range impl.SlotMax {
			for byteAt := range impl.SecLen {
				for _, by := range []int{1, 2, 128, 254, 255} {
					got := impl.DiskSpoil(d, at, byteAt, by)
					want := diskCopy(d)
					if d.Slots[at] != "" && !d.Spoilt[at] {
						want.Slots[at], want.Spoilt[at] = changed(d.Slots[at], byteAt, byte(by)), true
					}
					if !diskSame(got, want) || !impl.DiskOk(got) {
						t.Fatalf("%v, slot %d, byte %d by %d: %v", d, at, byteAt, by, got)
					}
					if again := impl.DiskSpoil(got, at, byteAt, by); !diskSame(again, got) {
						t.Fatalf("%v, twice: %v", got, again)
					}
					if other := impl.DiskSpoil(got, at, (byteAt+1)%3, 255-by/2); !diskSame(other, got) {
						t.Fatalf("%v, another byte too: %v", got, other)
					}
				}
			}
		}
	}
}

func TestSpoilOfWhatIsNotSo(t *testing.T) {
	for _, d := range okDisks() {
		for _, at := range noSlots() {
			if got := impl.DiskSpoil(d, at, 0, 1); !isNoDisk(got) {
				t.Errorf("slot %d: %v", at, got)
			}
		}
		for at := range impl.SlotMax {
			for _, byteAt := range append(farNumbers(), -1, impl.SecLen, impl.SecLen+1) {
				if got := impl.DiskSpoil(d, at, byteAt, 1); !isNoDisk(got) {
					t.Errorf("slot %d, byte %d: %v", at, byteAt, got)
				}
			}
			for _, by := range append(farNumbers(), -255, -1, 0, 256, 257, 511, 512, 1<<32+1) {
				if got := impl.DiskSpoil(d, at, 0, by); !isNoDisk(got) {
					t.Errorf("slot %d by %d: %v", at, by, got)
				}
			}
		}
	}
}

// Promise 24: what was written anew is not spoilt, once that has come.
func TestP24WrittenAnewIsNotSpoilt(t *testing.T) {
	for _, state := range []int{impl.DiskLive, impl.DiskFresh} {
		for _, at := range []int{0, 5, impl.SlotMax - 1} {
			spoilt := impl.DiskSpoil(impl.DiskFlush(putDisk(impl.DiskNew(state), toSlot(at, "abc"), toSlot(6, "def"))), at, 1, 3)
			spoilt = impl.DiskSpoil(spoilt, 6, 0, 1)
			if spoilt.Slots[at] != "aac" || !spoilt.Spoilt[at] {
				t.Fatal(spoilt)
			}
			waits := impl.DiskPut(spoilt, toSlot(at, "new"))
			if text, ok := impl.DiskRead(waits, at); !ok || text != "new" || !waits.Spoilt[at] || waits.Slots[at] != "aac" {
				t.Error("it waits:", waits)
			}
			if x := impl.DiskFlush(waits); x.Spoilt[at] || x.Slots[at] != "new" || !x.Spoilt[6] || x.Slots[6] != "eef" {
				t.Error("it has come:", x)
			}
			if x := impl.DiskCrash(waits, 1); x.Spoilt[at] || x.Slots[at] != "new" || !x.Spoilt[6] {
				t.Error("it was kept:", x)
			}
			if x := impl.DiskCrash(waits, 2); !diskSame(x, spoilt) {
				t.Error("it was lost:", x)
			}
			if x := impl.DiskSpoil(waits, at, 0, 7); !diskSame(x, waits) {
				t.Error("spoilt again while it waits:", x)
			}
			if x := impl.DiskSpoil(impl.DiskFlush(waits), at, 0, 1); x.Slots[at] != "oew" || !x.Spoilt[at] {
				t.Error("spoilt again when it has come:", x)
			}
			if x := impl.DiskFlush(putDisk(spoilt, toRing(0, "r"), toRing(1, "s"))); !slices.Equal(x.Spoilt, spoilt.Spoilt) {
				t.Error("a ring was written:", x)
			}
			if x := impl.DiskFlush(impl.DiskPut(spoilt, toSlot(at, "aac"))); x.Spoilt[at] {
				t.Error("the same was written:", x)
			}
		}
	}
}

func TestSpoilWhileAWriteWaits(t *testing.T) {
	empty := impl.DiskPut(impl.DiskNew(impl.DiskLive), toSlot(4, "abc"))
	if got := impl.DiskSpoil(empty, 4, 0, 1); !diskSame(got, empty) {
		t.Error("an empty slot:", got)
	}
	has := impl.DiskPut(impl.DiskFlush(empty), toSlot(4, "xyz"))
	got := impl.DiskSpoil(has, 4, 2, 255)
	if got.Slots[4] != "ab\x9c" || !got.Spoilt[4] || !slices.Equal(got.Wait, has.Wait) {
		t.Error(got)
	}
	if text, ok := impl.DiskRead(got, 4); !ok || text != "xyz" {
		t.Errorf("%q, %v", text, ok)
	}
	if x := impl.DiskCrash(got, 0); x.Slots[4] != "ab\x9c" || !x.Spoilt[4] {
		t.Error("lost:", x)
	}
	if x := impl.DiskFlush(got); x.Slots[4] != "xyz" || x.Spoilt[4] {
		t.Error("come:", x)
	}
	if text, ok := impl.DiskRead(impl.DiskSpoil(impl.DiskFlush(has), 4, 0, 1), 4); !ok || text != "yyz" {
		t.Errorf("what is spoilt is read as it is: %q, %v", text, ok)
	}
}

// Promise 25.
func TestP25OfTwoWritesTheSecondIsRead(t *testing.T) {
	is := func(why string, d impl.Disk, at int, want string) {
		t.Helper()
		if text, ok := impl.DiskRead(d, at); !ok || text != want {
			t.Errorf("%s: %q, %v, not %q", why, text, ok, want)
		}
	}
	for i, d := range okDisks() {
		// With two more writes that wait there must be room for both, or the first one would come.
		if d.State == impl.DiskGone || len(d.Wait) > impl.WaitMax-2 {
			continue
		}
		at := i % impl.SlotMax
		first := impl.DiskPut(d, toSlot(at, "one"))
		both := impl.DiskPut(first, toSlot(at, "two"))
		bit := 1 << len(d.Wait)
		is("both wait", both, at, "two")
		is("both came", impl.DiskFlush(both), at, "two")
		is("one came", impl.DiskPut(impl.DiskFlush(first), toSlot(at, "two")), at, "two")
		is("one came, then the other", impl.DiskFlush(impl.DiskPut(impl.DiskFlush(first), toSlot(at, "two"))), at, "two")
		is("the first is kept", impl.DiskCrash(both, bit), at, "one")
		is("the second is kept", impl.DiskCrash(both, 2*bit), at, "two")
		is("both are kept", impl.DiskCrash(both, 3*bit), at, "two")
		if x := impl.DiskCrash(impl.DiskPut(impl.DiskFlush(first), toSlot(at, "two")), 0); x.Slots[at] != "one" {
			t.Error("one came, the other is lost:", x)
		}
		if x := impl.DiskCrash(both, 0); x.Slots[at] != d.Slots[at] {
			t.Error("none is kept:", x)
		}
	}
}

// Promise 26.
func TestP26RingsAndSlotsAreApart(t *testing.T) {
	r := rand.New(rand.NewSource(26))
	for _, d := range okDisks() {
		before := reads(t, d)
		flushed := impl.DiskFlush(d)
		for ring := range impl.RingMax {
			for _, size := range []int{0, 1, impl.SecLen, impl.TextMax} {
				text := anyText(r, size)
				got := impl.DiskPut(d, toRing(ring, text))
				if !slices.Equal(reads(t, got), before) || !impl.DiskOk(got) {
					t.Errorf("%v, ring %d: %v", d, ring, got)
				}
				came := impl.DiskFlush(got)
				want := diskCopy(flushed)
				if d.State != impl.DiskGone {
					want.Rings[ring] = text
				}
				if !diskSame(came, want) {
					t.Errorf("%v, ring %d, flushed: %v", d, ring, came)
				}
			}
		}
	}
}

// Promise 27.
func TestP27SoManyMayWait(t *testing.T) {
	for _, state := range []int{impl.DiskLive, impl.DiskFresh} {
		d := impl.DiskNew(state)
		var all []impl.Put
		for i := range 3*impl.WaitMax + 5 {
			p := toSlot(i%impl.SlotMax, fmt.Sprintf("%03d", i))
			if i%7 == 0 {
				p = toRing(i%2, fmt.Sprint(i))
			}
			before := d
			d = impl.DiskPut(d, p)
			all = append(all, p)
			from := i / impl.WaitMax * impl.WaitMax
			if !slices.Equal(d.Wait, all[from:]) || len(d.Wait) > impl.WaitMax {
				t.Fatalf("%d wait behind write %d", len(d.Wait), i)
			}
			came := before
			if len(before.Wait) == impl.WaitMax {
				came = impl.DiskFlush(before)
			}
			if !slices.Equal(d.Slots, came.Slots) || !slices.Equal(d.Rings, came.Rings) {
				t.Fatalf("write %d: %v", i, d)
			}
		}
	}
	for _, d := range okDisks() {
		p := toSlot(3, "new")
		got := impl.DiskPut(d, p)
		switch {
		case d.State == impl.DiskGone:
			if len(got.Wait) != 0 {
				t.Error(got)
			}
		case len(d.Wait) == impl.WaitMax:
			if want := impl.DiskFlush(d); !slices.Equal(got.Wait, []impl.Put{p}) || !slices.Equal(got.Slots, want.Slots) || !slices.Equal(got.Rings, want.Rings) || !slices.Equal(got.Spoilt, want.Spoilt) {
				t.Error(got)
			}
		default:
			if !slices.Equal(got.Wait, append(slices.Clone(d.Wait), p)) || !slices.Equal(got.Slots, d.Slots) {
				t.Error(got)
			}
		}
	}
}

func TestOfADiskThatIsGoneNothingChanges(t *testing.T) {
	gone := impl.DiskNew(impl.DiskGone)
	for what, got := range map[string]impl.Disk{
		"put":         impl.DiskPut(gone, toSlot(0, "abc")),
		"put in ring": impl.DiskPut(gone, toRing(1, noughts(impl.TextMax))),
		"flush":       impl.DiskFlush(gone),
		"crash":       impl.DiskCrash(gone, 0),
		"crash, all":  impl.DiskCrash(gone, math.MaxInt),
		"spoil":       impl.DiskSpoil(gone, 0, 0, 1),
		"spoil last":  impl.DiskSpoil(gone, 11, 2, 255),
	} {
		if !diskSame(got, gone) {
			t.Errorf("%s: %v", what, got)
		}
	}
}

// diskSpans is the memory of all lists of a disk, and of its texts.
func diskSpans(d impl.Disk) []span {
	spans := []span{listSpan(d.Slots), listSpan(d.Rings), listSpan(d.Spoilt), listSpan(d.Wait)}
	for _, text := range append(slices.Clone(d.Slots), d.Rings...) {
		spans = append(spans, textSpan(text))
	}
	for _, p := range d.Wait {
		spans = append(spans, textSpan(p.Text))
	}
	return spans
}

// diskAnswers are the disks that are answered of a disk and a write.
func diskAnswers(d impl.Disk, p impl.Put) map[string]impl.Disk {
	out := map[string]impl.Disk{
		"put": impl.DiskPut(d, p), "flush": impl.DiskFlush(d), "crash": impl.DiskCrash(d, 0),
		"crash, some": impl.DiskCrash(d, 0x5a5a5a5a5a), "crash, all": impl.DiskCrash(d, math.MaxInt),
	}
	for at := range impl.SlotMax {
		out[fmt.Sprint("spoil ", at)] = impl.DiskSpoil(d, at, at%impl.SecLen, 1+at)
	}
	return out
}

func TestDiskAnswersAreNewMemory(t *testing.T) {
	for _, state := range states() {
		a, b := impl.DiskNew(state), impl.DiskNew(state)
		if meets(diskSpans(a), diskSpans(b)) {
			t.Error("two new disks share memory")
		}
	}
	for i, one := range okDisks() {
		d := diskCopy(one)
		p := toRing(i%2, strings.Repeat("p", 9))
		if i%3 > 0 {
			p = toSlot(i%impl.SlotMax, strings.Clone("put"))
		}
		given := append(diskSpans(d), textSpan(p.Text))
		for at := range impl.SlotMax {
			if text, _ := impl.DiskRead(d, at); meets([]span{textSpan(text)}, given) {
				t.Errorf("what is read of slot %d is no new memory", at)
			}
		}
		for what, got := range diskAnswers(d, p) {
			spans := diskSpans(got)
			if meets(spans, given) {
				t.Errorf("%s: an answer is no new memory", what)
			}
			for i := range spans {
				if meets(spans[:i], spans[i:i+1]) {
					t.Errorf("%s: two lists of one answer share memory", what)
				}
			}
		}
	}
}

// roomyDisk is a disk whose lists have spare room, filled, and a word of all that.
func roomyDisk(d impl.Disk) (impl.Disk, func() string) {
	out := impl.Disk{
		State:  d.State,
		Slots:  append(slices.Clone(d.Slots), "spa", "re")[:len(d.Slots)],
		Rings:  append(slices.Clone(d.Rings), "spa", "re")[:len(d.Rings)],
		Spoilt: append(slices.Clone(d.Spoilt), true, false, true)[:len(d.Spoilt)],
		Wait:   append(slices.Clone(d.Wait), toSlot(1, "spa"), toRing(1, "re"))[:len(d.Wait)],
	}
	return out, func() string {
		return fmt.Sprintf("%d %q %q %v %+v", out.State, out.Slots[:cap(out.Slots)], out.Rings[:cap(out.Rings)], out.Spoilt[:cap(out.Spoilt)], out.Wait[:cap(out.Wait)])
	}
}

func TestDiskArgumentsStay(t *testing.T) {
	disks := okDisks()
	for _, wrong := range wrongDisks() {
		disks = append(disks, wrong)
	}
	for i, d := range disks {
		whole, tell := roomyDisk(d)
		before := tell()
		impl.DiskOk(whole)
		for at := range impl.SlotMax {
			impl.DiskRead(whole, at)
		}
		for _, got := range diskAnswers(whole, toSlot(i%impl.SlotMax, "put")) {
			clear(got.Slots[:cap(got.Slots)])
			clear(got.Rings[:cap(got.Rings)])
			clear(got.Spoilt[:cap(got.Spoilt)])
			clear(got.Wait[:cap(got.Wait)])
		}
		if after := tell(); after != before {
			t.Fatalf("%s\nis now\n%s", before, after)
		}
	}
}

func TestDiskAnswersAreTheSameEachTime(t *testing.T) {
	for _, state := range states() {
		first := impl.DiskNew(state)
		first.Slots[0], first.Rings[0], first.Spoilt[0] = "abc", "r", true
		if d := impl.DiskNew(state); !diskSame(d, impl.Disk{State: state, Slots: make([]string, 12), Rings: make([]string, 2), Spoilt: make([]bool, 12)}) {
			t.Error("something is kept between two calls:", d)
		}
	}
	for _, d := range okDisks() {
		first := diskAnswers(d, toSlot(2, "put"))
		want := fmt.Sprint(first)
		for _, got := range first {
			clear(got.Slots)
			clear(got.Wait)
		}
		if again := fmt.Sprint(diskAnswers(d, toSlot(2, "put"))); again != want {
			t.Errorf("%s, then %s", want, again)
		}
	}
}
