package tests

import (
	"fmt"
	"math/rand"
	"slices"
	"strings"
	"sync"
	"testing"

	"loop.example/paling/impl"
)

// longest is how many bytes the longest text of a block has, in a pool of so many disks.
func longest(disks int) int {
	return map[int]int{3: 6, 4: 9}[disks]
}

// noNames are texts that no volume has as its name.
func noNames() []string {
	return []string{"", "abcd", "A", "aB", "a1", "1", "a b", " a", "a ", "-", "a\n", "\x00", "a\x00", "ab\x00", "`", "{", "é", "ä", "\xff", "a\xffb", strings.Repeat("a", 100000)}
}

// noBlocks are numbers that no block has.
func noBlocks() []int {
	return append(farNumbers(), -3, -2, -1, impl.BlockMax, impl.BlockMax+1)
}

// poolCopied is a pool in new memory.
func poolCopied(p impl.Pool) impl.Pool {
	return impl.Pool{Disks: disksCopy(p.Disks), Open: p.Open, Root: copied(p.Root), Work: copied(p.Work)}
}

// poolSame says whether two pools are the same value.
func poolSame(a impl.Pool, b impl.Pool) bool {
	return a.Open == b.Open && disksSame(a.Disks, b.Disks) && rootSame(a.Root, b.Root) && rootSame(a.Work, b.Work)
}

// isNoPool says whether a pool is nothing.
func isNoPool(p impl.Pool) bool {
	return poolSame(p, impl.Pool{})
}

// newPool is a new pool of so many disks.
func newPool(t *testing.T, disks int) impl.Pool {
	t.Helper()
	p, ok := impl.PoolNew(disks)
	if !ok {
		t.Fatal("no pool of", disks)
	}
	return p
}

// deed is something that is done to a pool.
type deed struct {
	kind  string
	name  string
	from  string
	block int
	text  string
}

func makes(name string) deed {
	return deed{kind: "make", name: name}
}

func drops(name string) deed {
	return deed{kind: "drop", name: name}
}

func copies(from string, name string) deed {
	return deed{kind: "copy", from: from, name: name}
}

func writes(name string, block int, text string) deed {
	return deed{kind: "write", name: name, block: block, text: text}
}

// do is what comes of a deed.
func (d deed) do(p impl.Pool) (impl.Pool, int) {
	switch d.kind {
	case "make":
		return impl.PoolMake(p, d.name)
	case "drop":
		return impl.PoolDrop(p, d.name)
	case "copy":
		return impl.PoolCopy(p, d.from, d.name)
	}
	return impl.PoolWrite(p, d.name, d.block, d.text)
}

// after is an ok pool to which all this was done, each being fine.
func after(t *testing.T, p impl.Pool, deeds ...deed) impl.Pool {
	t.Helper()
	for _, d := range deeds {
		out, code := d.do(p)
		if code != impl.CodeFine || !impl.PoolOk(out) || !out.Open {
			t.Fatalf("%+v: code %d, ok %v: %v", d, code, impl.PoolOk(out), out)
		}
		p = out
	}
	return p
}

// hasCode asks for the code of what is done to an ok pool that is open, and that the pool is as it was.
func hasCode(t *testing.T, why string, p impl.Pool, d deed, code int) {
	t.Helper()
	if out, got := d.do(p); got != code || code != impl.CodeFine && !poolSame(out, p) {
		t.Errorf("%s: %+v: code %d, not %d, the same %v", why, d, got, code, poolSame(out, p))
	}
}

// isRead asks for the text of a block, and for the code.
func isRead(t *testing.T, why string, p impl.Pool, name string, block int, text string, code int) {
	t.Helper()
	if got, c := impl.PoolRead(p, name, block); got != text || c != code {
		t.Errorf("%s: block %d of %q is %q, %d, not %q, %d", why, block, name, got, c, text, code)
	}
}

// isHarmed asks for the disks that are harmed.
func isHarmed(t *testing.T, why string, p impl.Pool, disks ...int) {
	t.Helper()
	if !impl.PoolOk(p) {
		t.Errorf("%s: not ok", why)
	}
	if got := impl.PoolHarm(p); !slices.Equal(got, disks) {
		t.Errorf("%s: %v are harmed, not %v", why, got, disks)
	}
}

// isPoolOk asks whether a pool is ok; all that is done to one that is not is CodeBad, and nothing.
func isPoolOk(t *testing.T, why string, p impl.Pool, want bool) {
	t.Helper()
	if got := impl.PoolOk(p); got != want || okPoolSaid(p) != want {
		t.Errorf("%s: ok %v, not %v", why, got, want)
	}
	if !want {
		isNothingDone(t, why, p, impl.CodeBad)
	}
}

// isNothingDone asks that all that is done to a pool is nothing, with such a code.
func isNothingDone(t *testing.T, why string, p impl.Pool, code int) {
	t.Helper()
	for _, d := range []deed{makes("a"), makes("new"), makes(""), drops("a"), drops(""), copies("a", "new"), copies("", ""), writes("a", 0, "x"), writes("a", 2, ""), writes("a", -1, "0123456789"), writes("", 0, "")} {
		if out, got := d.do(p); got != code || !isNoPool(out) {
			t.Errorf("%s: %+v: code %d, not %d: %v", why, d, got, code, out)
		}
	}
	for _, name := range []string{"a", "", "zzz"} {
		for block := -1; block <= impl.BlockMax; block++ {
			isRead(t, why, p, name, block, "", code)
		}
	}
	if code == impl.CodeBad && len(impl.PoolHarm(p)) != 0 {
		t.Errorf("%s: %v are harmed", why, impl.PoolHarm(p))
	}
}

// inRings is a pool with its Root in the ring of it, on each disk that is not gone.
func inRings(p impl.Pool) impl.Pool {
	for _, d := range p.Disks {
		if d.State != impl.DiskGone {
			d.Rings[p.Root.Txg%impl.RingMax] = sealed(linesSaid(p.Root))
		}
	}
	return p
}

// committed is a pool of which all that is seen is kept.
func committed(p impl.Pool) impl.Pool {
	out := poolCopied(p)
	out.Disks = flushed(out.Disks)
	out.Work.Txg++
	out.Root = copied(out.Work)
	return inRings(out)
}

// arrived is a pool to whose disks all has come that waited.
func arrived(p impl.Pool) impl.Pool {
	out := poolCopied(p)
	out.Disks = flushed(out.Disks)
	return out
}

// shut is a pool that is not open, its disks being as they were.
func shut(p impl.Pool) impl.Pool {
	return impl.Pool{Disks: disksCopy(p.Disks)}
}

// replaced is a pool with another disk at a place.
func replaced(p impl.Pool, at int, d impl.Disk) impl.Pool {
	out := poolCopied(p)
	out.Disks[at] = diskCopy(d)
	return out
}

// withRing is a pool with another text in a ring.
func withRing(p impl.Pool, disk int, ring int, text string) impl.Pool {
	out := poolCopied(p)
	out.Disks[disk].Rings[ring] = text
	return out
}

// withoutRings is a pool with no text in any ring.
func withoutRings(p impl.Pool) impl.Pool {
	out := poolCopied(p)
	for _, d := range out.Disks {
		clear(d.Rings)
	}
	return out
}

// spoiltAt is a pool in which a byte of a place is spoilt.
func spoiltAt(t *testing.T, p impl.Pool, place impl.Place) impl.Pool {
	t.Helper()
	out := poolCopied(p)
	out.Disks = spoilt(out.Disks, place, 1, 8)
	if !out.Disks[place.Disk].Spoilt[place.Slot] {
		t.Fatalf("%v cannot be spoilt", place)
	}
	return out
}

// blockAt is the pointer of a block that is seen.
func blockAt(t *testing.T, p impl.Pool, name string, block int) impl.Ptr {
	t.Helper()
	for _, v := range p.Work.Vols {
		if v.Name == name {
			return v.Blocks[block]
		}
	}
	t.Fatal("no volume", name)
	return impl.Ptr{}
}

// names are the names of the volumes of a root.
func names(r impl.Root) []string {
	var out []string
	for _, v := range r.Vols {
		out = append(out, v.Name)
	}
	return out
}

// newestSaid is the newest root of disks, as the document says it, written out.
func newestSaid(disks []impl.Disk) (impl.Root, bool) {
	var read []impl.Root
	for _, d := range disks {
		for _, text := range d.Rings {
			if r, ok := impl.RootRead(len(disks), text); ok {
				read = append(read, r)
			}
		}
	}
	if len(read) == 0 {
		return impl.Root{}, false
	}
	slices.SortStableFunc(read, func(a impl.Root, b impl.Root) int { return b.Txg - a.Txg })
	return read[0], true
}

// allGotSaid says whether all texts of a root can be got.
func allGotSaid(disks []impl.Disk, r impl.Root) bool {
	for _, v := range r.Vols {
		for _, p := range v.Blocks {
			if _, ok := getSaid(disks, p); !ok && p.Size > 0 {
				return false
			}
		}
	}
	return true
}

// okPoolSaid is PoolOk as the document says it, written out.
func okPoolSaid(p impl.Pool) bool {
	if !areDisksSaid(p.Disks) {
		return false
	}
	if !p.Open {
		return rootSame(p.Root, impl.Root{}) && rootSame(p.Work, impl.Root{})
	}
	newest, ok := newestSaid(p.Disks)
	if !ok || !rootSaid(len(p.Disks), p.Root) || !rootSaid(len(p.Disks), p.Work) || p.Root.Txg != p.Work.Txg || !rootSame(newest, p.Root) {
		return false
	}
	bare := disksCopy(p.Disks)
	for i := range bare {
		bare[i].Wait = nil
	}
	return allGotSaid(bare, p.Root) && allGotSaid(p.Disks, p.Root) && allGotSaid(p.Disks, p.Work)
}

// usesSaid says whether a root uses a place.
func usesSaid(r impl.Root, place impl.Place) bool {
	for _, v := range r.Vols {
		for _, p := range v.Blocks {
			if slices.Contains(p.Places, place) {
				return true
			}
		}
	}
	return false
}

// harmSaid is PoolHarm as the document says it, written out.
func harmSaid(p impl.Pool) []int {
	if !okPoolSaid(p) {
		return nil
	}
	var out []int
	for disk, d := range p.Disks {
		harm := d.State != 0
		for slot, spoilt := range d.Spoilt {
			place := impl.Place{Disk: disk, Slot: slot}
			waits := slices.ContainsFunc(d.Wait, func(w impl.Put) bool { return w.At == slot && !w.Ring })
			harm = harm || spoilt && (!p.Open || usesSaid(p.Root, place) || !waits && usesSaid(p.Work, place))
		}
		if harm {
			out = append(out, disk)
		}
	}
	return out
}

// addSaid is the code of one volume more, as the document says it, and the pool with it.
func addSaid(p *impl.Pool, v impl.Vol) int {
	if len(v.Name) == 0 || len(v.Name) > 3 || strings.Trim(v.Name, "abcdefghijklmnopqrstuvwxyz") != "" || slices.Contains(names(p.Work), v.Name) {
		return 1
	}
	if len(p.Work.Vols) > 3 {
		return 3
	}
	p.Work.Vols = append(p.Work.Vols, v)
	return 0
}

// writeBlockSaid is the code of a text in a block of a volume that there is, as the document says it, and the pool with it.
func writeBlockSaid(p *impl.Pool, at int, block int, text string) int {
	disks := len(p.Disks)
	if block < 0 || block > 2 || len(text) > longest(disks) {
		return 4
	}
	var made impl.Ptr
	if text != "" {
		places, ok := takeSaid(disks, p.Root, p.Work, (len(text)+2)/3+1)
		if !ok {
			return 3
		}
		made = impl.Ptr{Size: len(text), Sum: sumSaid(text), Places: places}
		p.Disks, _ = stripePutSaid(p.Disks, made, text)
		if _, ok := getSaid(p.Disks, made); !ok {
			return 5
		}
	}
	p.Work.Vols[at].Blocks[block] = made
	return 0
}

// said is what comes of a deed as the document says it, written out.
func (d deed) said(p impl.Pool) (impl.Pool, int) {
	if !okPoolSaid(p) {
		return impl.Pool{}, 4
	}
	if !p.Open {
		return impl.Pool{}, 6
	}
	out, code := poolCopied(p), 2
	at, from := slices.Index(names(p.Work), d.name), slices.Index(names(p.Work), d.from)
	switch {
	case d.kind == "make":
		code = addSaid(&out, vol(d.name))
	case d.kind == "copy" && from >= 0:
		code = addSaid(&out, impl.Vol{Name: d.name, Blocks: copied(p.Work).Vols[from].Blocks})
	case d.kind == "drop" && at >= 0:
		out.Work.Vols, code = slices.Delete(out.Work.Vols, at, at+1), 0
	case d.kind == "write" && at >= 0:
		code = writeBlockSaid(&out, at, d.block, d.text)
	}
	if code != 0 {
		out = poolCopied(p)
	}
	return out, code
}

// poolReadSaid is PoolRead as the document says it, written out.
func poolReadSaid(p impl.Pool, name string, block int) (string, int) {
	if !okPoolSaid(p) {
		return "", 4
	}
	if !p.Open {
		return "", 6
	}
	at := slices.Index(names(p.Work), name)
	if at < 0 {
		return "", 2
	}
	if block < 0 || block > 2 {
		return "", 4
	}
	seen := p.Work.Vols[at].Blocks[block]
	if seen.Size == 0 {
		return "", 0
	}
	got, _ := getSaid(p.Disks, seen)
	return got.Text, 0
}

// anyDeed is any deed; many are fine.
func anyDeed(r *rand.Rand, disks int) deed {
	some := []string{"a", "b", "c", "d", "zz", "abc"}
	name, from := some[r.Intn(len(some))], some[r.Intn(len(some))]
	if r.Intn(15) == 0 {
		name = noNames()[r.Intn(20)]
	}
	size := []int{0, 1, 3, 4, longest(disks), longest(disks), r.Intn(longest(disks) + 2)}[r.Intn(7)]
	block := r.Intn(impl.BlockMax)
	if r.Intn(15) == 0 {
		block = r.Intn(7) - 2
	}
	switch r.Intn(8) {
	case 0:
		return makes(name)
	case 1:
		return drops(name)
	case 2:
		return copies(from, name)
	}
	return writes(name, block, anyText(r, size))
}

// struck is an ok pool that is open and to which something happened that is no deed; if it is not ok then, it is as it was.
func struck(r *rand.Rand, p impl.Pool) impl.Pool {
	disk := r.Intn(len(p.Disks))
	out := poolCopied(p)
	switch r.Intn(6) {
	case 0, 1:
		out = committed(p)
	case 2:
		out.Disks[disk] = impl.DiskFlush(p.Disks[disk])
	case 3:
		out.Disks[disk] = impl.DiskNew(1 + r.Intn(2))
	case 4:
		out.Disks[disk] = impl.DiskSpoil(p.Disks[disk], r.Intn(impl.SlotMax), r.Intn(3), 1+r.Intn(255))
	case 5:
		out.Disks[disk].State = []int{impl.DiskLive, impl.DiskFresh}[r.Intn(2)]
		inRings(out)
	}
	if !okPoolSaid(out) {
		return p
	}
	return out
}

// played are ok pools that are open, as they are behind any deeds, and whatever else happened.
func played(t *testing.T, seed int64, plays int, steps int) []impl.Pool {
	t.Helper()
	r := rand.New(rand.NewSource(seed))
	var out []impl.Pool
	for i := range plays {
		p := newPool(t, pools()[i%2])
		for range steps {
			if r.Intn(6) == 0 {
				p = struck(r, p)
			} else {
				p, _ = anyDeed(r, len(p.Disks)).do(p)
			}
			if !p.Open || !impl.PoolOk(p) {
				t.Fatalf("play %d is not ok any more: %v", i, p)
			}
			out = append(out, p)
		}
	}
	return out
}

// crowdedPool has texts in all blocks, each as long as can be, so that no place is free.
func crowdedPool(t *testing.T, disks int) impl.Pool {
	t.Helper()
	p := newPool(t, disks)
	for i, name := range []string{"a", "b", "c", "d"} {
		p = after(t, p, makes(name))
		for block := range impl.BlockMax {
			p = after(t, p, writes(name, block, strings.Repeat(string(rune('a'+i*3+block)), longest(disks))))
		}
	}
	if free := impl.SpaceFree(disks, p.Root, p.Work); len(free) != 0 {
		t.Fatalf("%v are free", free)
	}
	return p
}

func TestPoolCodes(t *testing.T) {
	got := []int{impl.CodeFine, impl.CodeName, impl.CodeNone, impl.CodeFull, impl.CodeBad, impl.CodeLost, impl.CodeShut}
	if want := []int{0, 1, 2, 3, 4, 5, 6}; !slices.Equal(got, want) {
		t.Error(got)
	}
}

// Promise 41.
func TestP41NewPoolIsOkAndOpen(t *testing.T) {
	for disks := 3; disks <= 4; disks++ {
		p, ok := impl.PoolNew(disks)
		want := impl.Pool{Disks: poolOf(disks, impl.DiskLive), Open: true}
		for _, d := range want.Disks {
			d.Rings[0] = "root 0\nsum 35522163\n"
		}
		if !ok || !poolSame(p, want) {
			t.Errorf("%d disks: %v, %v", disks, p, ok)
		}
		if !impl.PoolOk(p) || !okPoolSaid(p) || len(p.Root.Vols)+len(p.Work.Vols) != 0 {
			t.Errorf("%d disks: %v", disks, p)
		}
		isHarmed(t, "new", p)
	}
	for _, disks := range noPools() {
		if p, ok := impl.PoolNew(disks); ok || !isNoPool(p) {
			t.Errorf("%d disks: %v, %v", disks, p, ok)
		}
	}
}

func TestMakeAndDrop(t *testing.T) {
	for _, disks := range pools() {
		p := newPool(t, disks)
		hasCode(t, "no volumes", p, drops("a"), impl.CodeNone)
		hasCode(t, "no volumes", p, copies("a", "b"), impl.CodeNone)
		hasCode(t, "no volumes", p, writes("a", 0, "x"), impl.CodeNone)
		isRead(t, "no volumes", p, "a", 0, "", impl.CodeNone)
		for i, name := range []string{"m", "zzz", "ab", "a"} {
			next := after(t, p, makes(name))
			want := poolCopied(p)
			want.Work.Vols = append(want.Work.Vols, vol(name))
			if !poolSame(next, want) {
				t.Errorf("make %q, then %v", name, next)
			}
			for block := range impl.BlockMax {
				isRead(t, "made", next, name, block, "", impl.CodeFine)
			}
			p = next
			hasCode(t, fmt.Sprint(i+1, " volumes"), p, makes(name), impl.CodeName)
			hasCode(t, fmt.Sprint(i+1, " volumes"), p, makes("m"), impl.CodeName)
		}
		hasCode(t, "as many as there may be", p, makes("new"), impl.CodeFull)
		hasCode(t, "as many as there may be", p, copies("m", "new"), impl.CodeFull)
		for at, name := range []string{"m", "zzz", "ab", "a"} {
			want := poolCopied(p)
			want.Work.Vols = slices.Delete(want.Work.Vols, at, at+1)
			got := after(t, p, drops(name))
			if !poolSame(got, want) {
				t.Errorf("drop %q, then %v", name, got)
			}
			hasCode(t, "dropped", got, drops(name), impl.CodeNone)
			hasCode(t, "dropped", got, writes(name, 0, "x"), impl.CodeNone)
			hasCode(t, "dropped", got, copies(name, "new"), impl.CodeNone)
			isRead(t, "dropped", got, name, 0, "", impl.CodeNone)
			again := after(t, got, makes(name))
			if !slices.Equal(names(again.Work), append(names(want.Work), name)) {
				t.Error("made again:", names(again.Work))
			}
		}
		for _, name := range append(noNames(), "n", "mm", "zz", "zza", "b", "aa") {
			hasCode(t, "no such volume", p, drops(name), impl.CodeNone)
		}
	}
}

// What is seen counts for names, not what is kept.
func TestNamesAreThoseOfWork(t *testing.T) {
	p := committed(after(t, newPool(t, 3), makes("a"), makes("b"), makes("c"), makes("d"), writes("a", 0, "kept")))
	gone := after(t, p, drops("a"))
	hasCode(t, "kept, and not seen", gone, drops("a"), impl.CodeNone)
	hasCode(t, "kept, and not seen", gone, writes("a", 0, "x"), impl.CodeNone)
	isRead(t, "kept, and not seen", gone, "a", 0, "", impl.CodeNone)
	if !rootSame(gone.Root, p.Root) {
		t.Error("what is kept has changed:", gone.Root)
	}
	again := after(t, gone, makes("a"))
	isRead(t, "made again", again, "a", 0, "", impl.CodeFine)
	if !slices.Equal(names(again.Work), []string{"b", "c", "d", "a"}) || !slices.Equal(names(again.Root), []string{"a", "b", "c", "d"}) {
		t.Error(names(again.Work), names(again.Root))
	}
	hasCode(t, "seen, and not kept", after(t, gone, makes("e")), makes("e"), impl.CodeName)
}

func TestNamesThatAreNone(t *testing.T) {
	for _, disks := range pools() {
		one := after(t, newPool(t, disks), makes("a"))
		full := after(t, one, makes("b"), makes("c"), makes("d"))
		for _, name := range append(noNames(), "a") {
			hasCode(t, "one volume", one, makes(name), impl.CodeName)
			hasCode(t, "one volume", one, copies("a", name), impl.CodeName)
			hasCode(t, "the name is looked for ahead of room", full, makes(name), impl.CodeName)
			hasCode(t, "the name is looked for ahead of room", full, copies("d", name), impl.CodeName)
			hasCode(t, "the other one is looked for first", one, copies("b", name), impl.CodeNone)
			hasCode(t, "the other one is looked for first", full, copies("e", name), impl.CodeNone)
			hasCode(t, "the other one is looked for first", full, copies("", name), impl.CodeNone)
		}
		for _, name := range noNames() {
			hasCode(t, "no such volume", full, copies(name, "new"), impl.CodeNone)
			hasCode(t, "no such volume", full, writes(name, 0, "x"), impl.CodeNone)
			isRead(t, "no such volume", full, name, 0, "", impl.CodeNone)
		}
		for _, name := range []string{"b", "z", "az", "za", "zzz", "aaa"} {
			after(t, one, makes(name))
			after(t, one, copies("a", name))
		}
	}
}

func TestBlocksThatThereAreAndAreNot(t *testing.T) {
	for _, disks := range pools() {
		p := after(t, newPool(t, disks), makes("a"), makes("b"), writes("a", 0, "first"), writes("a", 2, "last"))
		isRead(t, "first", p, "a", 0, "first", impl.CodeFine)
		isRead(t, "between", p, "a", 1, "", impl.CodeFine)
		isRead(t, "last", p, "a", 2, "last", impl.CodeFine)
		isRead(t, "the other one's", p, "b", 0, "", impl.CodeFine)
		for _, block := range noBlocks() {
			for _, text := range []string{"", "x", "longer", "0123456789"} {
				hasCode(t, "no such block", p, writes("a", block, text), impl.CodeBad)
				hasCode(t, "nor such a volume", p, writes("c", block, text), impl.CodeNone)
			}
			isRead(t, "no such block", p, "a", block, "", impl.CodeBad)
			isRead(t, "nor such a volume", p, "c", block, "", impl.CodeNone)
		}
	}
}

func TestTextsOfEverySize(t *testing.T) {
	for _, disks := range pools() {
		p := after(t, newPool(t, disks), makes("a"), writes("a", 1, "old"))
		for size := 0; size <= longest(disks); size++ {
			for i, text := range append(textsOfSize(size)[:4], textsOfSize(size)[len(textsOfSize(size))-2:]...) {
				got := after(t, p, writes("a", i%3, text))
				isRead(t, "written", got, "a", i%3, text, impl.CodeFine)
				isRead(t, "come", arrived(got), "a", i%3, text, impl.CodeFine)
				isRead(t, "kept", committed(got), "a", i%3, text, impl.CodeFine)
				if seen := blockAt(t, got, "a", i%3); seen.Size != size || seen.Sum != sumSaid(text) || size > 0 && len(seen.Places) != (size+5)/3 {
					t.Errorf("%q is at %v", text, seen)
				}
			}
		}
		for _, size := range []int{longest(disks) + 1, longest(disks) + 2, 10, 700, 100000} {
			for _, text := range []string{noughts(size), strings.Repeat("x", size)} {
				hasCode(t, "too long", p, writes("a", 1, text), impl.CodeBad)
				hasCode(t, "too long, and no volume", p, writes("b", 1, text), impl.CodeNone)
			}
		}
	}
	hasCode(t, "three columns, and as many disks", after(t, newPool(t, 3), makes("a")), writes("a", 0, "1234567"), impl.CodeBad)
	hasCode(t, "three columns", after(t, newPool(t, 4), makes("a")), writes("a", 0, "1234567"), impl.CodeFine)
}

// All that is written out for once: where it goes, what waits, and which pointer there is.
func TestAWriteWrittenOut(t *testing.T) {
	p := after(t, newPool(t, 3), makes("a"))
	got := after(t, p, writes("a", 1, "hello"))
	want := poolCopied(p)
	want.Work.Vols[0].Blocks[1] = ptr(5, sumSaid("hello"), 0, 0, 1, 0, 2, 0)
	want.Disks[0].Wait = []impl.Put{toSlot(0, "hel")}
	want.Disks[1].Wait = []impl.Put{toSlot(0, "lo\x00")}
	want.Disks[2].Wait = []impl.Put{toSlot(0, "\x04\nl")}
	if !poolSame(got, want) {
		t.Errorf("%+v", got)
	}
	// What stood there counts as seen until it does not stand there any more, so the new text goes elsewhere.
	again := after(t, got, writes("a", 1, "by"))
	want.Work.Vols[0].Blocks[1] = ptr(2, sumSaid("by"), 0, 1, 1, 1)
	want.Disks[0].Wait = append(want.Disks[0].Wait, toSlot(1, "by\x00"))
	want.Disks[1].Wait = append(want.Disks[1].Wait, toSlot(1, "by\x00"))
	if !poolSame(again, want) {
		t.Errorf("%+v", again)
	}
	// Nothing is seen at the first places now, nor kept there.
	third := after(t, again, writes("a", 1, "again"))
	if seen := blockAt(t, third, "a", 1); !slices.Equal(seen.Places, at(2, 0, 0, 0, 1, 0)) {
		t.Error(seen)
	}
	none := after(t, third, writes("a", 1, ""))
	want = poolCopied(third)
	want.Work.Vols[0].Blocks[1] = impl.Ptr{}
	if !poolSame(none, want) {
		t.Errorf("%+v", none)
	}
}

// Promise 42.
func TestP42WhatIsKeptOrSeenIsNotWrittenOver(t *testing.T) {
	r := rand.New(rand.NewSource(42))
	count, apart, over := 0, 0, 0
	for _, p := range played(t, 420, 16, 60) {
		disks := len(p.Disks)
		kept, seen := impl.RootPlaces(disks, p.Root), impl.RootPlaces(disks, p.Work)
		for _, v := range p.Work.Vols {
			block, text := r.Intn(3), anyText(r, 1+r.Intn(longest(disks)))
			out, code := impl.PoolWrite(p, v.Name, block, text)
			if code != impl.CodeFine {
				continue
			}
			count++
			apart += len(without(kept, seen))
			over += len(blockAt(t, p, v.Name, block).Places)
			for _, place := range blockAt(t, out, v.Name, block).Places {
				if slices.Contains(kept, place) || slices.Contains(seen, place) {
					t.Fatalf("%q is written to %v, which is used", text, place)
				}
			}
			for _, place := range append(slices.Clone(kept), seen...) {
				before, ok := impl.DiskRead(p.Disks[place.Disk], place.Slot)
				if text, fine := impl.DiskRead(out.Disks[place.Disk], place.Slot); text != before || fine != ok {
					t.Fatalf("%v was %q, and is %q", place, before, text)
				}
			}
			if !rootSame(out.Root, p.Root) {
				t.Fatal("what is kept has changed")
			}
		}
	}
	if count < 500 || apart < 500 || over < 500 {
		t.Error("too few of a kind:", count, apart, over)
	}
}

// Promise 43.
func TestP43FullOnlyIfNoRoomIsLeft(t *testing.T) {
	r := rand.New(rand.NewSource(43))
	count := map[bool]int{}
	pools := played(t, 430, 12, 60)
	for _, disks := range []int{3, 4} {
		crowded := crowdedPool(t, disks)
		pools = append(pools, crowded)
		crowded = committed(crowded)
		for i := range 30 {
			pools = append(pools, crowded)
			crowded = after(t, crowded, writes([]string{"a", "b", "c", "d"}[r.Intn(4)], r.Intn(3), ""))
			if i%6 == 5 {
				crowded = committed(crowded)
			}
		}
	}
	for _, p := range pools {
		for _, v := range p.Work.Vols {
			for _, size := range sizesIn(len(p.Disks)) {
				_, code := impl.PoolWrite(p, v.Name, size%3, noughts(size))
				_, ok := impl.SpaceTake(len(p.Disks), p.Root, p.Work, (size+2)/3+1)
				count[ok]++
				if (code == impl.CodeFull) == ok {
					t.Fatalf("%d bytes: code %d, and there is room: %v", size, code, ok)
				}
			}
			if _, code := impl.PoolWrite(p, v.Name, 1, ""); code != impl.CodeFine {
				t.Fatal("nothing needs no room:", code)
			}
		}
	}
	if count[true] < 1000 || count[false] < 200 {
		t.Error("too few of a kind:", count)
	}
}

func TestRoomThatIsOut(t *testing.T) {
	for _, disks := range pools() {
		seen := crowdedPool(t, disks)
		kept := committed(seen)
		dropped := after(t, kept, drops("a"), drops("b"), drops("c"), drops("d"), makes("x"))
		half := committed(after(t, seen, drops("c"), drops("d")))
		both := after(t, half, drops("a"), drops("b"), makes("x"), makes("y"))
		for i := range 6 {
			both = after(t, both, writes([]string{"x", "y"}[i/3], i%3, strings.Repeat("n", longest(disks))))
		}
		for why, p := range map[string]impl.Pool{
			"seen, and not kept": seen, "kept, and seen": kept, "kept, and not seen": dropped, "the one and the other": both,
		} {
			name := p.Work.Vols[0].Name
			for size := 1; size <= longest(disks); size++ {
				for block := range impl.BlockMax {
					hasCode(t, why, p, writes(name, block, noughts(size)), impl.CodeFull)
				}
			}
			hasCode(t, why+": the block is looked for ahead of room", p, writes(name, 3, "x"), impl.CodeBad)
			hasCode(t, why+": so is how long it is", p, writes(name, 0, noughts(longest(disks)+1)), impl.CodeBad)
			hasCode(t, why+": so is the volume", p, writes("no", 0, "x"), impl.CodeNone)
			hasCode(t, why+": nothing needs none", p, writes(name, 0, ""), impl.CodeFine)
		}
		// What is not kept is free at once; what is kept only when it is not kept any more.
		after(t, after(t, seen, writes("b", 1, "")), writes("c", 0, "x"))
		hasCode(t, "still kept", after(t, kept, writes("b", 1, "")), writes("c", 0, "x"), impl.CodeFull)
		hasCode(t, "still kept, dropped", after(t, kept, drops("a")), writes("c", 0, "x"), impl.CodeFull)
		after(t, committed(after(t, kept, writes("b", 1, ""))), writes("c", 0, noughts(longest(disks))))
		after(t, committed(dropped), writes("x", 0, noughts(longest(disks))))
		after(t, committed(both), writes("x", 0, noughts(longest(disks))))
	}
}

func TestRoomForShortTextsOnly(t *testing.T) {
	// Of four disks two have a free place: enough for a column and its parity, but not for two.
	p := after(t, crowdedPool(t, 4), writes("d", 2, ""), writes("d", 2, "abc"))
	for size := 1; size <= 9; size++ {
		want := impl.CodeFine
		if size > 3 {
			want = impl.CodeFull
		}
		hasCode(t, fmt.Sprint(size, " bytes"), p, writes("a", 0, noughts(size)), want)
	}
	isRead(t, "there is room", after(t, p, writes("a", 0, "xyz")), "a", 0, "xyz", impl.CodeFine)
	// Of three disks one has a free place, which is too little for anything.
	p = after(t, crowdedPool(t, 3), writes("d", 2, ""), writes("d", 2, "abc"))
	for size := 1; size <= 6; size++ {
		hasCode(t, fmt.Sprint(size, " bytes"), p, writes("a", 0, noughts(size)), impl.CodeFull)
	}
	// A copy needs no room.
	p = after(t, crowdedPool(t, 3), drops("a"))
	p = after(t, p, copies("b", "e"), writes("e", 0, "room"), writes("e", 1, "still"), writes("e", 2, "last"))
	hasCode(t, "a copy of all", p, writes("e", 0, "x"), impl.CodeFull)
}

// Promise 44.
func TestP44OfAPoolThatIsShutNothingIsDone(t *testing.T) {
	for _, disks := range pools() {
		full := committed(after(t, newPool(t, disks), makes("a"), writes("a", 0, "hello")))
		shutPools := map[string]impl.Pool{
			"new": shut(newPool(t, disks)), "with volumes": shut(full), "with writes that wait": shut(after(t, full, writes("a", 1, "x"))),
			"without rings": {Disks: poolOf(disks, impl.DiskLive)}, "all gone": {Disks: poolOf(disks, impl.DiskGone)}, "all fresh": {Disks: poolOf(disks, impl.DiskFresh)},
			"with empty lists": {Disks: poolOf(disks, impl.DiskLive), Root: impl.Root{Vols: []impl.Vol{}}, Work: impl.Root{Vols: []impl.Vol{}}},
		}
		r := rand.New(rand.NewSource(44))
		for i := range 50 {
			shutPools[fmt.Sprint("any disks ", i)] = impl.Pool{Disks: anyDisks(r)}
		}
		for why, p := range shutPools {
			isPoolOk(t, why, p, true)
			isNothingDone(t, why, p, impl.CodeShut)
		}
		for why, r := range map[string]impl.Root{"of a turn": rootOf(1), "with a volume": rootOf(0, vol("a")), "of a turn below 0": rootOf(-1), "with what is none": rootOf(0, impl.Vol{})} {
			for _, p := range []impl.Pool{full, newPool(t, disks), {Disks: poolOf(disks, impl.DiskGone)}} {
				isPoolOk(t, "shut, Root "+why, impl.Pool{Disks: p.Disks, Root: r}, false)
				isPoolOk(t, "shut, Work "+why, impl.Pool{Disks: p.Disks, Work: r}, false)
				isPoolOk(t, "shut, both "+why, impl.Pool{Disks: p.Disks, Root: r, Work: r}, false)
			}
		}
		closed := poolCopied(full)
		closed.Open = false
		isPoolOk(t, "shut with its roots", closed, false)
	}
}

// Promise 44.
func TestP44OfAPoolThatIsNotOkNothingIsDone(t *testing.T) {
	isPoolOk(t, "nothing", impl.Pool{}, false)
	for why, disks := range wrongPools() {
		isPoolOk(t, why, impl.Pool{Disks: disks}, false)
		isPoolOk(t, why+", open", impl.Pool{Disks: disks, Open: true}, false)
		isPoolOk(t, why+", open, with roots", inEmptyRings(impl.Pool{Disks: disks, Open: true}), false)
	}
	for _, disks := range pools() {
		p := newPool(t, disks)
		// Most of these are of turn 1, so that nothing else is wrong.
		kept := committed(p)
		for why, r := range wrongRoots() {
			for _, other := range []impl.Root{{}, rootOf(1), r} {
				isPoolOk(t, why+", Root", impl.Pool{Disks: kept.Disks, Open: true, Root: r, Work: other}, false)
				isPoolOk(t, why+", Work", impl.Pool{Disks: kept.Disks, Open: true, Root: other, Work: r}, false)
			}
		}
		isPoolOk(t, "nothing is wrong", impl.Pool{Disks: kept.Disks, Open: true, Root: rootOf(1), Work: rootOf(1)}, true)
		isPoolOk(t, "a disk fewer", impl.Pool{Disks: p.Disks[1:], Open: true}, disks == 4)
		isPoolOk(t, "a disk more", impl.Pool{Disks: append(slices.Clone(p.Disks), p.Disks[0]), Open: true}, disks == 3)
	}
}

// inEmptyRings is a pool with the first root in all rings that are empty.
func inEmptyRings(p impl.Pool) impl.Pool {
	p.Disks = disksCopy(p.Disks)
	for _, d := range p.Disks {
		for i, text := range d.Rings {
			if text == "" {
				d.Rings[i] = sealed("root 0\n")
			}
		}
	}
	return p
}

// Promise 45.
func TestP45NothingUsesNoPlace(t *testing.T) {
	shared := 0
	for _, p := range played(t, 450, 10, 50) {
		disks := len(p.Disks)
		for i, v := range p.Work.Vols {
			out := p
			for block := range impl.BlockMax {
				before := impl.RootPlaces(disks, out.Work)
				next, code := impl.PoolWrite(out, v.Name, block, "")
				if used := impl.RootPlaces(disks, next.Work); code != impl.CodeFine || len(without(used, before)) != 0 {
					t.Fatalf("code %d, %v are used, and were %v", code, used, before)
				}
				isRead(t, "nothing", next, v.Name, block, "", impl.CodeFine)
				if !disksSame(next.Disks, out.Disks) || !ptrSame(next.Work.Vols[i].Blocks[block], impl.Ptr{}) {
					t.Fatal("nothing is written, and there is something")
				}
				out = next
			}
			rest := copied(p.Work)
			rest.Vols = slices.Delete(rest.Vols, i, i+1)
			others, used := impl.RootPlaces(disks, rest), impl.RootPlaces(disks, out.Work)
			if !slices.Equal(used, others) {
				t.Fatalf("%v are used, and by all others %v", used, others)
			}
			mine := impl.RootPlaces(disks, rootOf(0, p.Work.Vols[i]))
			if len(without(mine, others)) < len(mine) {
				shared++
			} else if len(used)+len(mine) != len(impl.RootPlaces(disks, p.Work)) {
				t.Fatal("a volume that shares none uses some still")
			}
		}
	}
	if shared < 20 {
		t.Error("too few that share:", shared)
	}
}

// Promise 46.
func TestP46ACopyIsOfItsOwn(t *testing.T) {
	for _, disks := range pools() {
		for _, keep := range []bool{false, true} {
			p := after(t, newPool(t, disks), makes("a"), writes("a", 0, "first"), writes("a", 2, "x"), makes("m"))
			if keep {
				p = committed(p)
			}
			p = after(t, p, copies("a", "c"))
			if !slices.Equal(names(p.Work), []string{"a", "m", "c"}) {
				t.Error(names(p.Work))
			}
			for block, text := range []string{"first", "", "x"} {
				isRead(t, "the one", p, "a", block, text, impl.CodeFine)
				isRead(t, "the copy", p, "c", block, text, impl.CodeFine)
				if !ptrSame(blockAt(t, p, "a", block), blockAt(t, p, "c", block)) {
					t.Error("a copy has other pointers")
				}
				for _, way := range [][2]string{{"a", "c"}, {"c", "a"}} {
					for _, fresh := range []string{"", "n", "new.", text} {
						out := after(t, p, writes(way[0], block, fresh))
						isRead(t, "written", out, way[0], block, fresh, impl.CodeFine)
						for other, text := range []string{"first", "", "x"} {
							isRead(t, "not written", out, way[1], other, text, impl.CodeFine)
							isRead(t, "not written, all come", committed(out), way[1], other, text, impl.CodeFine)
						}
						one, two := blockAt(t, out, way[0], block), blockAt(t, out, way[1], block)
						if fresh != "" && len(without(one.Places, two.Places)) < len(one.Places) {
							t.Error("both are at the same places")
						}
						isRead(t, "the one dropped", after(t, out, drops(way[0])), way[1], block, text, impl.CodeFine)
					}
				}
			}
		}
	}
}

// Promise 46.
func TestP46BeforeAndBehindAWrite(t *testing.T) {
	p := after(t, newPool(t, 3), makes("a"), writes("a", 1, "old"), copies("a", "b"), writes("a", 1, "new"), copies("a", "c"), writes("c", 1, "own"), copies("b", "d"))
	for name, text := range map[string]string{"a": "new", "b": "old", "c": "own", "d": "old"} {
		isRead(t, "before and behind", p, name, 1, text, impl.CodeFine)
		isRead(t, "before and behind, kept", committed(p), name, 1, text, impl.CodeFine)
	}
	q := after(t, p, drops("a"), drops("b"), copies("d", "a"), writes("d", 1, ""), writes("d", 0, "zero"))
	for name, text := range map[string]string{"a": "old", "c": "own", "d": ""} {
		isRead(t, "dropped, and copied again", q, name, 1, text, impl.CodeFine)
	}
	for _, before := range played(t, 460, 10, 50) {
		places := len(impl.RootPlaces(len(before.Disks), before.Work))
		for _, v := range before.Work.Vols {
			out, code := impl.PoolCopy(before, v.Name, "new")
			if code == impl.CodeFull {
				continue
			}
			want := poolCopied(before)
			want.Work.Vols = append(want.Work.Vols, impl.Vol{Name: "new", Blocks: v.Blocks})
			if code != impl.CodeFine || !poolSame(out, want) || len(impl.RootPlaces(len(out.Disks), out.Work)) != places {
				t.Fatalf("code %d: %v", code, out)
			}
			for block := range impl.BlockMax {
				text, _ := impl.PoolRead(before, v.Name, block)
				for _, way := range [][2]string{{v.Name, "new"}, {"new", v.Name}} {
					if next, code := impl.PoolWrite(out, way[0], block, "other"); code == impl.CodeFine {
						isRead(t, "written", next, way[0], block, "other", impl.CodeFine)
						isRead(t, "not written", next, way[1], block, text, impl.CodeFine)
					}
				}
			}
		}
	}
}

func TestTheNewestRootMustBeRoot(t *testing.T) {
	for _, disks := range pools() {
		p := committed(after(t, newPool(t, disks), makes("a"), writes("a", 0, "hello")))
		isPoolOk(t, "kept once", p, true)
		same := sealed(linesSaid(p.Root))
		for disk := range disks {
			for ring := range impl.RingMax {
				where := fmt.Sprintf("%d disks, ring %d of disk %d", disks, ring, disk)
				for _, newer := range []impl.Root{rootOf(2), rootOf(2, vol("a")), rootOf(impl.TxgMax)} {
					isPoolOk(t, where+" has a newer one", withRing(p, disk, ring, sealed(linesSaid(newer))), false)
				}
				// Root stands in ring 1 of each disk: only what is ahead of that of disk 0, or there instead of it, is the first.
				isPoolOk(t, where+" has another one, as old", withRing(p, disk, ring, sealed(linesSaid(rootOf(1, vol("z"))))), disk > 0)
				for why, text := range map[string]string{
					"the same": same, "an older one": sealed("root 0\n"), "an older one that differs": sealed(linesSaid(rootOf(0, vol("z")))),
					"nothing": "", "none": "none", "noughts": noughts(700), "a newer one with a wrong sum": "root 2\nsum 1\n", "a newer one, cut": sealed("root 2\n")[:9],
					"one that is too new": sealed("root 100001\n"), "one of more disks": sealed(linesSaid(rootOf(9, vol("z", ptr(1, 0, disks, 0, 0, 0))))),
				} {
					isPoolOk(t, where+" has "+why, withRing(p, disk, ring, text), true)
				}
				bare := withoutRings(p)
				isPoolOk(t, where+" alone has it", withRing(bare, disk, ring, same), true)
				isPoolOk(t, where+" alone has an older one", withRing(bare, disk, ring, sealed("root 0\n")), false)
				bare.Disks[disk] = impl.DiskPut(bare.Disks[disk], toRing(ring, same))
				isPoolOk(t, where+": it waits", bare, false)
				isPoolOk(t, where+": a newer one waits", replaced(p, disk, impl.DiskPut(p.Disks[disk], toRing(ring, sealed("root 2\n")))), true)
			}
		}
		isPoolOk(t, "no root", withoutRings(p), false)
		isPoolOk(t, "no root, without volumes", withoutRings(newPool(t, disks)), false)
		isPoolOk(t, "all gone", impl.Pool{Disks: poolOf(disks, impl.DiskGone), Open: true}, false)
	}
}

func TestBothRootsAreOfOneTurn(t *testing.T) {
	for _, disks := range pools() {
		p := committed(after(t, newPool(t, disks), makes("a")))
		for _, txg := range []int{0, 2, -1, impl.TxgMax, impl.TxgMax + 1} {
			work, root := poolCopied(p), poolCopied(p)
			work.Work.Txg, root.Root.Txg = txg, txg
			isPoolOk(t, fmt.Sprint("Work of turn ", txg), work, false)
			isPoolOk(t, fmt.Sprint("Root of turn ", txg), root, false)
			both := poolCopied(p)
			both.Root.Txg, both.Work.Txg = txg, txg
			isPoolOk(t, fmt.Sprint("both of turn ", txg), both, false)
			if txg >= 0 {
				isPoolOk(t, fmt.Sprint("all of turn ", txg), inRings(withoutRings(both)), txg <= impl.TxgMax)
			}
		}
		other := poolCopied(p)
		other.Root = rootOf(1, vol("b"))
		isPoolOk(t, "another root", other, false)
		other = poolCopied(p)
		other.Work = rootOf(1, vol("b"), vol("c"))
		isPoolOk(t, "other work", other, true)
		last := poolCopied(p)
		last.Root.Txg, last.Work.Txg = impl.TxgMax, impl.TxgMax
		isRead(t, "the last turn", after(t, inRings(last), writes("a", 0, "last")), "a", 0, "last", impl.CodeFine)
	}
}

// overrun is a pool in which the first so many columns of a pointer are other ones; they wait, or have come.
func overrun(p impl.Pool, where impl.Ptr, count int, waits bool) impl.Pool {
	out := poolCopied(p)
	for _, place := range where.Places[:count] {
		d := impl.DiskPut(out.Disks[place.Disk], toSlot(place.Slot, "???"))
		if !waits {
			d = impl.DiskFlush(d)
		}
		out.Disks[place.Disk] = d
	}
	return out
}

func TestAllTextsMustBeGot(t *testing.T) {
	for _, disks := range pools() {
		seen := after(t, newPool(t, disks), makes("a"), writes("a", 1, "hello"))
		where := blockAt(t, seen, "a", 1)
		kept := committed(seen)
		dropped := after(t, kept, drops("a"))
		for _, c := range []struct {
			why string
			p   impl.Pool
		}{{"seen", seen}, {"seen, all come", arrived(seen)}, {"kept", kept}, {"kept, and not seen", dropped}} {
			for _, waits := range []bool{false, true} {
				isPoolOk(t, c.why+", one is another", overrun(c.p, where, 1, waits), true)
				isPoolOk(t, c.why+", two are others", overrun(c.p, where, 2, waits), false)
				isPoolOk(t, c.why+", all are others", overrun(c.p, where, 3, waits), false)
			}
			for one := range where.Places {
				for _, state := range []int{impl.DiskGone, impl.DiskFresh} {
					p := replaced(c.p, where.Places[one].Disk, impl.DiskNew(state))
					isPoolOk(t, c.why+", one is gone", p, true)
					isPoolOk(t, c.why+", two are gone", replaced(p, where.Places[(one+1)%3].Disk, impl.DiskNew(state)), false)
				}
			}
			other := poolCopied(c.p)
			if len(other.Work.Vols) > 0 {
				other.Work.Vols[0].Blocks[1].Sum++
				isPoolOk(t, c.why+", of another sum", other, false)
			}
		}
		// What is kept must not wait; what is seen may, but not be lost.
		waiting := poolCopied(seen)
		waiting.Root, waiting.Work = copied(seen.Work), copied(seen.Work)
		isPoolOk(t, "kept, and waits", inRings(waiting), false)
		waiting.Disks = flushed(waiting.Disks)
		isPoolOk(t, "kept, and has come", waiting, true)
		lost := poolCopied(seen)
		for i := range lost.Disks {
			lost.Disks[i] = impl.DiskCrash(lost.Disks[i], 0)
		}
		isPoolOk(t, "seen, and lost", lost, false)
		// What waits may make good what is seen, but not what is kept.
		mended, _ := impl.StripePut(overrun(kept, where, 2, false).Disks, where, "hello")
		isPoolOk(t, "kept, only got as it waits", impl.Pool{Disks: mended, Open: true, Root: kept.Root, Work: kept.Work}, false)
		mended, _ = impl.StripePut(overrun(arrived(seen), where, 2, false).Disks, where, "hello")
		isPoolOk(t, "seen, only got as it waits", impl.Pool{Disks: mended, Open: true, Work: seen.Work}, true)
	}
}

func TestHarmOfDisksThatAreNotLive(t *testing.T) {
	for _, disks := range pools() {
		kept := committed(after(t, newPool(t, disks), makes("a"), writes("a", 0, "hello")))
		for _, p := range []impl.Pool{newPool(t, disks), kept, shut(kept), shut(newPool(t, disks))} {
			isHarmed(t, "none", p)
			for disk := range disks {
				for _, state := range []int{impl.DiskGone, impl.DiskFresh} {
					isHarmed(t, "new, and not live", replaced(p, disk, impl.DiskNew(state)), disk)
				}
				fresh := poolCopied(p)
				fresh.Disks[disk].State = impl.DiskFresh
				isHarmed(t, "fresh, with all", fresh, disk)
			}
		}
		empty := newPool(t, disks)
		isHarmed(t, "the first two", replaced(replaced(empty, 1, impl.DiskNew(impl.DiskGone)), 0, impl.DiskNew(impl.DiskFresh)), 0, 1)
		isHarmed(t, "the first and the last", replaced(replaced(empty, disks-1, impl.DiskNew(impl.DiskFresh)), 0, impl.DiskNew(impl.DiskGone)), 0, disks-1)
		isHarmed(t, "all", impl.Pool{Disks: poolOf(disks, impl.DiskGone)}, []int{0, 1, 2, 3}[:disks]...)
		if got := impl.PoolHarm(impl.Pool{Disks: poolOf(disks, impl.DiskGone), Open: true}); len(got) != 0 {
			t.Error("not ok, and harmed:", got)
		}
	}
}

func TestHarmOfSpoiltSlots(t *testing.T) {
	for _, disks := range pools() {
		fresh := after(t, newPool(t, disks), makes("a"), writes("a", 0, "hello"))
		for i, place := range blockAt(t, fresh, "a", 0).Places {
			seen := arrived(fresh)
			kept := committed(fresh)
			disk := place.Disk
			isHarmed(t, "seen, not kept", spoiltAt(t, seen, place), disk)
			isHarmed(t, "kept and seen", spoiltAt(t, kept, place), disk)
			isHarmed(t, "kept, not seen", after(t, spoiltAt(t, kept, place), drops("a")), disk)
			isHarmed(t, "neither", after(t, spoiltAt(t, seen, place), drops("a")))
			isHarmed(t, "neither, and shut", shut(after(t, spoiltAt(t, seen, place), drops("a"))), disk)
			isHarmed(t, "shut", shut(spoiltAt(t, kept, place)), disk)
			isHarmed(t, "neither any more", committed(after(t, spoiltAt(t, kept, place), drops("a"))))

			// A write that waits makes good what is seen alone.
			col := colsSaid("hello")[i]
			wait := func(p impl.Pool, to impl.Put) impl.Pool {
				return replaced(p, disk, impl.DiskPut(p.Disks[disk], to))
			}
			isHarmed(t, "seen, a write waits", wait(spoiltAt(t, seen, place), toSlot(place.Slot, col)))
			isHarmed(t, "seen, a wrong write waits", wait(spoiltAt(t, seen, place), toSlot(place.Slot, "???")))
			isHarmed(t, "seen, a write to another slot waits", wait(spoiltAt(t, seen, place), toSlot(place.Slot+1, col)), disk)
			isHarmed(t, "seen, a write to the ring of that number waits", wait(spoiltAt(t, seen, place), toRing(place.Slot, "no root")), disk)
			isHarmed(t, "kept, a write waits", wait(spoiltAt(t, kept, place), toSlot(place.Slot, col)), disk)
			isHarmed(t, "kept, not seen, a write waits", after(t, wait(spoiltAt(t, kept, place), toSlot(place.Slot, col)), drops("a")), disk)
			isHarmed(t, "neither, a write waits", after(t, wait(spoiltAt(t, seen, place), toSlot(place.Slot, col)), drops("a")))
			isHarmed(t, "shut, a write waits", shut(wait(spoiltAt(t, seen, place), toSlot(place.Slot, col))), disk)
			isHarmed(t, "it has come", arrived(wait(spoiltAt(t, kept, place), toSlot(place.Slot, col))))

			// A write that waits on another disk does not count; it brings what is there, as two columns must not be other ones.
			other := (disk + 1) % disks
			there := seen.Disks[other].Slots[place.Slot]
			if there == "" {
				there = "???"
			}
			isHarmed(t, "a write to another disk waits", replaced(spoiltAt(t, seen, place), other, impl.DiskPut(seen.Disks[other], toSlot(place.Slot, there))), disk)
		}
	}
}

// A slot in which something is spoilt that nobody uses is written anew by PoolWrite.
func TestASpoiltSlotThatIsTaken(t *testing.T) {
	p := arrived(after(t, newPool(t, 3), makes("a"), writes("a", 0, "hello")))
	place := blockAt(t, p, "a", 0).Places[0]
	p = spoiltAt(t, after(t, p, writes("a", 0, "")), place)
	isHarmed(t, "nobody uses it", p)
	p = after(t, p, writes("a", 1, "again"))
	if !slices.Contains(blockAt(t, p, "a", 1).Places, place) || !p.Disks[place.Disk].Spoilt[place.Slot] {
		t.Fatal("another place is taken")
	}
	isHarmed(t, "what is written waits", p)
	isRead(t, "what is written waits", p, "a", 1, "again", impl.CodeFine)
	p = arrived(p)
	isHarmed(t, "it has come", p)
	isHarmed(t, "spoilt once more", spoiltAt(t, p, place), place.Disk)
	isHarmed(t, "spoilt once more, and nobody uses it", after(t, spoiltAt(t, p, place), drops("a")))
}

func TestWorkingWithOneDiskHarmed(t *testing.T) {
	for _, disks := range pools() {
		p := committed(after(t, newPool(t, disks), makes("a"), writes("a", 0, "kept"), writes("a", 1, "other")))
		for disk := range disks {
			cases := []impl.Pool{replaced(p, disk, impl.DiskNew(impl.DiskGone)), replaced(p, disk, impl.DiskNew(impl.DiskFresh))}
			for slot := range impl.SlotMax {
				if p.Disks[disk].Slots[slot] != "" {
					cases = append(cases, spoiltAt(t, p, impl.Place{Disk: disk, Slot: slot}))
				}
			}
			for _, q := range cases {
				for size := 1; size <= longest(disks); size++ {
					out := after(t, q, writes("a", 2, "paling.go"[:size]), copies("a", "b"), writes("b", 0, ""))
					isRead(t, "kept", out, "a", 0, "kept", impl.CodeFine)
					isRead(t, "kept", out, "b", 1, "other", impl.CodeFine)
					isRead(t, "new", out, "b", 2, "paling.go"[:size], impl.CodeFine)
					isHarmed(t, "as it was", out, disk)
					if q.Disks[disk].State == impl.DiskGone && !diskSame(out.Disks[disk], q.Disks[disk]) {
						t.Error("something is written to a disk that is gone")
					}
				}
			}
		}
	}
}

func TestWhatIsWrittenMayBeLost(t *testing.T) {
	// Two disks are gone, which does not matter as long as no text is there.
	for _, c := range []struct {
		disks int
		gone  []int
		sizes [2]int
	}{{3, []int{0, 1}, [2]int{1, 6}}, {3, []int{1, 2}, [2]int{4, 6}}, {3, []int{0, 2}, [2]int{4, 6}}, {4, []int{0, 1}, [2]int{1, 9}}, {4, []int{1, 2}, [2]int{4, 9}}, {4, []int{2, 3}, [2]int{7, 9}}, {4, []int{0, 1, 2}, [2]int{1, 9}}, {4, []int{1, 2, 3}, [2]int{4, 9}}} {
		p := after(t, newPool(t, c.disks), makes("a"))
		fresh := p
		for _, disk := range c.gone {
			p = replaced(p, disk, impl.DiskNew(impl.DiskGone))
			fresh = replaced(fresh, disk, impl.DiskNew(impl.DiskFresh))
		}
		isHarmed(t, "gone", p, c.gone...)
		for size := 1; size <= longest(c.disks); size++ {
			text, want := "paling.go"[:size], impl.CodeFine
			if size >= c.sizes[0] {
				want = impl.CodeLost
			}
			hasCode(t, fmt.Sprintf("%v of %d are gone, %d bytes", c.gone, c.disks, size), p, writes("a", 0, text), want)
			if want == impl.CodeFine {
				isRead(t, "not lost", after(t, p, writes("a", 0, text)), "a", 0, text, impl.CodeFine)
			}
			isRead(t, "fresh disks take it", after(t, fresh, writes("a", 0, text)), "a", 0, text, impl.CodeFine)
		}
		hasCode(t, "too long, ahead of lost", p, writes("a", 0, noughts(c.sizes[1]+1)), impl.CodeBad)
		hasCode(t, "nothing is not lost", p, writes("a", 0, ""), impl.CodeFine)
		hasCode(t, "a volume needs no disk", p, makes("b"), impl.CodeFine)
	}
}

// More is written than may wait, nothing being kept meanwhile.
func TestMoreWritesThanMayWait(t *testing.T) {
	for _, disks := range pools() {
		kept := committed(after(t, newPool(t, disks), makes("a"), writes("a", 0, "kept")))
		p, most := kept, 0
		for i := range 3 * impl.WaitMax {
			text := fmt.Sprintf("%d-%d", i, disks)
			p = after(t, p, writes("a", i%3, text))
			isRead(t, "written", p, "a", i%3, text, impl.CodeFine)
			isRead(t, "waits", p, "a", (i+2)%3, map[bool]string{true: "", false: fmt.Sprintf("%d-%d", i-1, disks)}[i == 0], impl.CodeFine)
			for _, d := range p.Disks {
				most = max(most, len(d.Wait))
			}
			if !rootSame(p.Root, kept.Root) {
				t.Fatal("what is kept has changed")
			}
		}
		if most != impl.WaitMax {
			t.Error("so many never waited:", most)
		}
	}
}

// bent is an ok pool in which one thing is any other way; it may be ok still.
func bent(r *rand.Rand, p impl.Pool) impl.Pool {
	out := poolCopied(p)
	disk := r.Intn(len(out.Disks))
	switch r.Intn(12) {
	case 0:
		out.Root = spoiled(r, p.Root)
	case 1:
		out.Work = spoiled(r, p.Work)
	case 2:
		out.Work.Txg += r.Intn(3) - 1
	case 3:
		out.Open = false
	case 4:
		out.Disks[disk] = anyDisk(r)
	case 5:
		out.Disks[disk] = impl.DiskNew(1 + r.Intn(2))
	case 6:
		out.Disks[disk] = harmed(r, out.Disks[disk])
	case 7:
		other := rootOf(max(0, p.Root.Txg+r.Intn(3)-1), p.Work.Vols...)
		return withRing(p, disk, r.Intn(2), sealed(linesSaid(other)))
	case 8:
		out.Disks = out.Disks[:r.Intn(len(out.Disks)+1)]
	case 9:
		out.Disks[disk] = impl.DiskPut(out.Disks[disk], toSlot(r.Intn(impl.SlotMax), "???"))
	case 10:
		out.Disks[disk].Wait = nil
	case 11:
		return shut(p)
	}
	return out
}

// isPoolAsSaid holds all that is answered of a pool against what the document says.
func isPoolAsSaid(t *testing.T, p impl.Pool, d deed, codes map[string]int) {
	t.Helper()
	ok := okPoolSaid(p)
	if got := impl.PoolOk(p); got != ok {
		t.Fatalf("%v: ok %v, not %v", p, got, ok)
	}
	codes[fmt.Sprint("ok ", ok)]++
	if got, want := impl.PoolHarm(p), harmSaid(p); !slices.Equal(got, want) {
		t.Fatalf("%v: %v are harmed, not %v", p, got, want)
	}
	out, code := d.do(p)
	want, fine := d.said(p)
	if code != fine || !poolSame(out, want) {
		t.Fatalf("%v\n%+v:\ncode %d, %v, not\ncode %d, %v", p, d, code, out, fine, want)
	}
	codes[fmt.Sprint(d.kind, " ", code)]++
	text, code := impl.PoolRead(p, d.name, d.block)
	if said, fine := poolReadSaid(p, d.name, d.block); text != said || code != fine {
		t.Fatalf("%v: block %d of %q is %q, %d, not %q, %d", p, d.block, d.name, text, code, said, fine)
	}
	codes[fmt.Sprint("read ", code)]++
}

func TestPoolIsAsSaid(t *testing.T) {
	r := rand.New(rand.NewSource(131))
	codes := map[string]int{}
	all := played(t, 1310, 24, 80)
	for _, disks := range pools() {
		p := crowdedPool(t, disks)
		all = append(all, slices.Repeat([]impl.Pool{p, committed(p), after(t, committed(p), drops("b"))}, 10)...)
		for _, gone := range [][]int{{0, 1}, {0, 2}, {1, 2}} {
			q := after(t, newPool(t, disks), makes("a"), makes("b"))
			for _, disk := range gone {
				q = replaced(q, disk, impl.DiskNew(impl.DiskGone))
			}
			all = append(all, slices.Repeat([]impl.Pool{q}, 20)...)
		}
	}
	for _, p := range all {
		for range 2 {
			isPoolAsSaid(t, p, anyDeed(r, len(p.Disks)), codes)
			other := bent(r, p)
			isPoolAsSaid(t, other, anyDeed(r, len(p.Disks)), codes)
			if okPoolSaid(other) {
				isPoolAsSaid(t, bent(r, other), anyDeed(r, len(p.Disks)), codes)
			}
		}
	}
	for kind, least := range map[string]int{
		"ok true": 3000, "ok false": 1000, "make 0": 50, "make 1": 50, "make 3": 10, "make 4": 50, "make 6": 50,
		"drop 0": 50, "drop 2": 50, "drop 4": 50, "drop 6": 50, "copy 0": 20, "copy 1": 20, "copy 2": 50, "copy 3": 5, "copy 4": 50, "copy 6": 50,
		"write 0": 500, "write 2": 100, "write 3": 20, "write 4": 100, "write 5": 10, "write 6": 100, "read 0": 500, "read 2": 100, "read 4": 100, "read 6": 100,
	} {
		if codes[kind] < least {
			t.Errorf("too few of a kind: %s: %d", kind, codes[kind])
		}
	}
}

// What is seen is what was written, whatever is done, and what is kept stays until all is kept: held against texts by names.
func TestPoolPlaysAreSeenAsWritten(t *testing.T) {
	r := rand.New(rand.NewSource(132))
	for play := range 12 {
		p := newPool(t, pools()[play%2])
		texts := map[string][3]string{}
		for range 120 {
			d := anyDeed(r, len(p.Disks))
			next, code := d.do(p)
			if code == impl.CodeFine {
				blocks := texts[d.name]
				switch d.kind {
				case "make":
					texts[d.name] = [3]string{}
				case "drop":
					delete(texts, d.name)
				case "copy":
					texts[d.name] = texts[d.from]
				case "write":
					blocks[d.block] = d.text
					texts[d.name] = blocks
				}
			}
			if !rootSame(next.Root, p.Root) || !next.Open || code != impl.CodeFine && !poolSame(next, p) || d.kind != "write" && !disksSame(next.Disks, p.Disks) {
				t.Fatalf("%+v, code %d: more has changed: %v, then %v", d, code, p, next)
			}
			p = next
			if r.Intn(8) == 0 {
				p = struck(r, p)
			}
			if len(p.Work.Vols) != len(texts) {
				t.Fatalf("%v are seen, and %v were written", names(p.Work), texts)
			}
			for name, blocks := range texts {
				for block, text := range blocks {
					isRead(t, "a play", p, name, block, text, impl.CodeFine)
				}
			}
		}
	}
}

// poolSpans is the memory of all that a pool has.
func poolSpans(p impl.Pool) []span {
	return slices.Concat(disksSpans(p.Disks), rootSpans(p.Root), rootSpans(p.Work))
}

// deedsOf are deeds with each code that a pool may answer.
func deedsOf(disks int) []deed {
	return []deed{
		makes("new"), makes("a"), makes(""), drops("a"), drops("b"), drops("no"), copies("a", "new"), copies("b", "n"), copies("a", "a"), copies("no", "new"),
		writes("a", 0, "x"), writes("a", 1, ""), writes("b", 2, noughts(longest(disks))), writes("c", 0, "hello"), writes("a", 3, "x"), writes("a", 0, noughts(longest(disks)+1)), writes("no", 0, "x"),
	}
}

// poolsToAsk are ok pools, and others, of every kind.
func poolsToAsk(t *testing.T) []impl.Pool {
	t.Helper()
	r := rand.New(rand.NewSource(133))
	var out []impl.Pool
	for i, p := range played(t, 1330, 8, 60) {
		if i%8 == 0 {
			out = append(out, p, shut(p), bent(r, p))
		}
	}
	for _, disks := range pools() {
		p := crowdedPool(t, disks)
		gone := withDisk(withDisk(newPool(t, disks).Disks, 0, impl.DiskNew(impl.DiskGone)), 1, impl.DiskNew(impl.DiskGone))
		out = append(out, newPool(t, disks), p, committed(p), after(t, impl.Pool{Disks: gone, Open: true}, makes("a"), makes("b")))
	}
	return out
}

func TestPoolAnswersAreNewMemory(t *testing.T) {
	for _, disks := range pools() {
		p, q := newPool(t, disks), newPool(t, disks)
		apart(t, "new", poolSpans(p), poolSpans(q))
	}
	for _, one := range poolsToAsk(t) {
		p := poolCopied(one)
		given := poolSpans(p)
		for _, d := range deedsOf(len(p.Disks)) {
			d.name, d.from, d.text = strings.Clone(d.name), strings.Clone(d.from), strings.Clone(d.text)
			out, _ := d.do(p)
			apart(t, d.kind, poolSpans(out), append(slices.Clone(given), textSpan(d.name), textSpan(d.from), textSpan(d.text)))
		}
		harm := impl.PoolHarm(p)
		apart(t, "harm", []span{listSpan(harm), listSpan(impl.PoolHarm(p))}, given)
		for block := range impl.BlockMax {
			text, _ := impl.PoolRead(p, "a", block)
			again, _ := impl.PoolRead(p, "a", block)
			apart(t, "read", []span{textSpan(text), textSpan(again)}, given)
		}
	}
}

// wiped fills all memory of a pool, its spare room too, with nothing.
func wiped(p impl.Pool) {
	for _, r := range []impl.Root{p.Root, p.Work} {
		for _, v := range r.Vols {
			for _, b := range v.Blocks {
				clear(b.Places[:cap(b.Places)])
			}
			clear(v.Blocks[:cap(v.Blocks)])
		}
		clear(r.Vols[:cap(r.Vols)])
	}
	for _, d := range p.Disks {
		clear(d.Slots[:cap(d.Slots)])
		clear(d.Rings[:cap(d.Rings)])
		clear(d.Spoilt[:cap(d.Spoilt)])
		clear(d.Wait[:cap(d.Wait)])
	}
	clear(p.Disks[:cap(p.Disks)])
}

// roomyPool is a pool whose lists have spare room, filled, and a word of all that.
func roomyPool(p impl.Pool) (impl.Pool, func() string) {
	var disks []impl.Disk
	var tells []func() string
	for _, d := range append(slices.Clone(p.Disks), impl.DiskNew(impl.DiskLive), impl.DiskNew(impl.DiskGone)) {
		whole, tell := roomyDisk(d)
		disks, tells = append(disks, whole), append(tells, tell)
	}
	root, tellRoot := roomy(p.Root)
	work, tellWork := roomy(p.Work)
	out := impl.Pool{Disks: disks[:len(p.Disks)], Open: p.Open, Root: root, Work: work}
	return out, func() string {
		told := fmt.Sprint(out.Open, disks) + tellRoot() + tellWork()
		for _, tell := range tells {
			told += tell()
		}
		return told
	}
}

func TestPoolArgumentsStay(t *testing.T) {
	for _, one := range poolsToAsk(t) {
		p, tell := roomyPool(one)
		before := tell()
		impl.PoolOk(p)
		harm := impl.PoolHarm(p)
		clear(harm[:cap(harm)])
		for _, d := range deedsOf(len(p.Disks)) {
			out, _ := d.do(p)
			wiped(out)
			impl.PoolRead(p, d.name, d.block)
		}
		if now := tell(); now != before {
			t.Fatalf("%s\nis now\n%s", before, now)
		}
	}
}

// tellPool is all that is answered of a pool.
func tellPool(p impl.Pool) string {
	told := fmt.Sprint(impl.PoolOk(p), impl.PoolHarm(p))
	for _, d := range deedsOf(len(p.Disks)) {
		out, code := d.do(p)
		text, read := impl.PoolRead(p, d.name, d.block)
		told += fmt.Sprint(code, out, read, text)
		wiped(out)
	}
	return told
}

func TestPoolAnswersAreTheSameEachTime(t *testing.T) {
	for _, disks := range pools() {
		want := fmt.Sprint(newPool(t, disks))
		wiped(newPool(t, disks))
		if got := fmt.Sprint(newPool(t, disks)); got != want {
			t.Errorf("%s, then %s", want, got)
		}
	}
	for i, p := range poolsToAsk(t) {
		if i%5 > 0 {
			continue
		}
		want := tellPool(p)
		var group sync.WaitGroup
		for range 4 {
			group.Go(func() {
				for range 3 {
					if got := tellPool(p); got != want {
						t.Errorf("%s, then %s", want, got)
					}
				}
			})
		}
		group.Wait()
	}
}
