package tests

import (
	"fmt"
	"math"
	"math/rand"
	"slices"
	"testing"

	"loop.example/paling/impl"
)

// whole is something that happens to a pool as a whole; at is a number of steps, or a disk.
type whole struct {
	kind string
	at   int
	keep []int
}

// truth is a code for what is true, and for what is not.
func truth(ok bool) int {
	if ok {
		return impl.CodeFine
	}
	return -1
}

// do is what comes of it.
func (w whole) do(p impl.Pool) (impl.Pool, int) {
	switch w.kind {
	case "steps":
		return impl.Pool{}, impl.PoolSteps(p)
	case "to":
		return impl.PoolTo(p, w.at), impl.CodeFine
	case "commit":
		return impl.PoolCommit(p)
	case "crash":
		return impl.PoolCrash(p, w.keep), impl.CodeFine
	case "open":
		return impl.PoolOpen(p)
	case "lose":
		out, ok := impl.PoolLose(p, w.at)
		return out, truth(ok)
	case "fresh":
		return impl.PoolFresh(p, w.at)
	case "scrub":
		return impl.PoolScrub(p)
	}
	return impl.PoolSettle(p)
}

// ringSaid is the write of a root to its ring.
func ringSaid(r impl.Root) impl.Put {
	return toRing(r.Txg%2, sealed(linesSaid(r)))
}

// toSaid is PoolTo as the document says it, written out, and PoolSteps.
func toSaid(p impl.Pool, steps int) (impl.Pool, int) {
	if !okPoolSaid(p) || !p.Open || p.Root.Txg == 100000 {
		return impl.Pool{}, 0
	}
	disks := len(p.Disks)
	if steps < 0 {
		return impl.Pool{}, 3 * disks
	}
	out, next := poolCopied(p), copied(p.Work)
	next.Txg++
	for i := range min(steps, 3*disks) {
		d := &out.Disks[i%disks]
		if i/disks == 1 {
			*d = putDiskSaid(*d, ringSaid(next))
		} else {
			*d = crashSaid(*d, allCome)
		}
	}
	if steps >= 3*disks {
		out.Root, out.Work = next, copied(next)
	}
	return out, 3 * disks
}

// fallSaid is PoolCrash as the document says it, written out.
func fallSaid(p impl.Pool, keep []int) impl.Pool {
	if !areDisksSaid(p.Disks) {
		return impl.Pool{}
	}
	var out impl.Pool
	for i, d := range p.Disks {
		bits := 0
		if i < len(keep) && keep[i] > 0 {
			bits = keep[i]
		}
		out.Disks = append(out.Disks, crashSaid(d, kept(bits)))
	}
	return out
}

// spreadSaid is disks to which a root was written where something else was, all flushed.
func spreadSaid(disks []impl.Disk, r impl.Root) []impl.Disk {
	to := ringSaid(r)
	var out []impl.Disk
	for _, d := range disks {
		if d.State != 1 && d.Rings[to.At] != to.Text {
			d = putDiskSaid(d, to)
		}
		out = append(out, crashSaid(d, allCome))
	}
	return out
}

// openSaid is PoolOpen as the document says it, written out.
func openSaid(p impl.Pool) (impl.Pool, int) {
	if !okPoolSaid(p) || p.Open {
		return impl.Pool{}, 4
	}
	newest, ok := newestSaid(p.Disks)
	if !ok || !allGotSaid(p.Disks, newest) {
		return poolCopied(p), 5
	}
	return impl.Pool{Disks: spreadSaid(p.Disks, newest), Open: true, Root: newest, Work: copied(newest)}, 0
}

// loseSaid is PoolLose as the document says it, written out.
func loseSaid(p impl.Pool, disk int) (impl.Pool, int) {
	if disk < 0 || disk >= len(p.Disks) || !okPoolSaid(p) {
		return impl.Pool{}, -1
	}
	for _, harmed := range harmSaid(p) {
		if harmed != disk {
			return impl.Pool{}, -1
		}
	}
	out := replaced(p, disk, impl.DiskNew(1))
	if !okPoolSaid(out) {
		return impl.Pool{}, -1
	}
	return out, 0
}

// freshSaid is PoolFresh as the document says it, written out.
func freshSaid(p impl.Pool, disk int) (impl.Pool, int) {
	switch {
	case disk < 0 || disk >= len(p.Disks) || !okPoolSaid(p):
		return impl.Pool{}, 4
	case p.Disks[disk].State != 1:
		return poolCopied(p), 2
	}
	return replaced(p, disk, impl.DiskNew(2)), 0
}

// ptrsSaid is all pointers of a pool that are not nothing, those of Root first.
func ptrsSaid(p impl.Pool) []impl.Ptr {
	var out []impl.Ptr
	for _, v := range append(slices.Clone(p.Root.Vols), p.Work.Vols...) {
		for _, b := range v.Blocks {
			if b.Size > 0 {
				out = append(out, b)
			}
		}
	}
	return out
}

// scrubSaid is PoolScrub, of an ok pool that is open, as the document says it, written out.
func scrubSaid(p impl.Pool) impl.Pool {
	out := poolCopied(p)
	for _, b := range ptrsSaid(p) {
		if mended, ok := mendSaid(out.Disks, b); ok {
			out.Disks = mended
		}
	}
	return out
}

// settleSaid is PoolSettle, of an ok pool that is open, as the document says it, written out.
func settleSaid(p impl.Pool) impl.Pool {
	out := poolCopied(p)
	out.Disks = spreadSaid(p.Disks, p.Root)
	bad := map[int]bool{}
	for _, b := range ptrsSaid(p) {
		got, _ := getSaid(out.Disks, b)
		for _, at := range got.Bad {
			bad[b.Places[at].Disk] = true
		}
	}
	for i := range out.Disks {
		if out.Disks[i].State == 2 && !bad[i] {
			out.Disks[i].State = 0
		}
	}
	return out
}

// said is what comes of it as the document says it, written out.
func (w whole) said(p impl.Pool) (impl.Pool, int) {
	switch w.kind {
	case "steps":
		_, steps := toSaid(p, 0)
		return impl.Pool{}, steps
	case "to":
		out, _ := toSaid(p, w.at)
		return out, 0
	case "crash":
		return fallSaid(p, w.keep), 0
	case "open":
		return openSaid(p)
	case "lose":
		return loseSaid(p, w.at)
	case "fresh":
		return freshSaid(p, w.at)
	}
	switch {
	case !okPoolSaid(p):
		return impl.Pool{}, 4
	case !p.Open:
		return impl.Pool{}, 6
	case w.kind == "scrub":
		return scrubSaid(p), 0
	case w.kind == "settle":
		return settleSaid(p), 0
	case p.Root.Txg == 100000:
		return poolCopied(p), 3
	}
	out, _ := toSaid(p, 12)
	return out, 0
}

// noDisks are numbers that no disk of a pool has.
func noDisks(disks int) []int {
	return append(farNumbers(), -2, -1, disks, disks+1)
}

// wholesOf is all that may happen to a pool, with ordinary numbers and wrong ones.
func wholesOf(disks int) []whole {
	out := []whole{{kind: "steps"}, {kind: "commit"}, {kind: "open"}, {kind: "scrub"}, {kind: "settle"}}
	for _, steps := range append(farNumbers(), -1, 0, 1, disks, disks+1, 2*disks, 2*disks+1, 3*disks-1, 3*disks, 3*disks+1) {
		out = append(out, whole{kind: "to", at: steps})
	}
	for disk := range disks {
		out = append(out, whole{kind: "lose", at: disk}, whole{kind: "fresh", at: disk})
	}
	for _, disk := range noDisks(disks) {
		out = append(out, whole{kind: "lose", at: disk}, whole{kind: "fresh", at: disk})
	}
	for _, keep := range [][]int{nil, {}, {1}, {-1}, {0, 2, 5}, {math.MaxInt, math.MaxInt, math.MaxInt, math.MaxInt, math.MaxInt}, {math.MinInt, 1, -5, 3}} {
		out = append(out, whole{kind: "crash", keep: keep})
	}
	return out
}

// fine is a pool to which this happened, which must be fine, and leaves it ok.
func fine(t *testing.T, p impl.Pool, wholes ...whole) impl.Pool {
	t.Helper()
	for _, w := range wholes {
		out, code := w.do(p)
		if code != impl.CodeFine || !impl.PoolOk(out) {
			t.Fatalf("%+v: code %d, ok %v: %v", w, code, impl.PoolOk(out), out)
		}
		p = out
	}
	return p
}

func commits() whole          { return whole{kind: "commit"} }
func opens() whole            { return whole{kind: "open"} }
func scrubs() whole           { return whole{kind: "scrub"} }
func settles() whole          { return whole{kind: "settle"} }
func loses(disk int) whole    { return whole{kind: "lose", at: disk} }
func freshens(disk int) whole { return whole{kind: "fresh", at: disk} }
func falls(keep ...int) whole { return whole{kind: "crash", keep: keep} }
func stepsOf(steps int) whole { return whole{kind: "to", at: steps} }

// comesTo asks for what comes of something, and for the code.
func comesTo(t *testing.T, why string, p impl.Pool, w whole, want impl.Pool, code int) {
	t.Helper()
	if out, got := w.do(p); got != code || !poolSame(out, want) {
		t.Errorf("%s: %+v: code %d, not %d:\n%v, not\n%v", why, w, got, code, out, want)
	}
}

// staysAs asks that a pool is as it was, beside such a code.
func staysAs(t *testing.T, why string, p impl.Pool, w whole, code int) {
	t.Helper()
	comesTo(t, why, p, w, p, code)
}

// anyKeep is any list of which writes come, also one that is shorter than the disks, longer, or has numbers below 0.
func anyKeep(r *rand.Rand, disks int) []int {
	var keep []int
	for range []int{disks, disks, disks, disks + 1, disks - 1, 0, 1}[r.Intn(7)] {
		keep = append(keep, []int{0, 1, 2, r.Intn(8), r.Intn(1 << 40), math.MaxInt, -1}[r.Intn(7)])
	}
	return keep
}

// allKept is a list by which all writes come.
func allKept() []int {
	return slices.Repeat([]int{1<<impl.WaitMax - 1}, impl.DiskMax)
}

// life is a pool to which anything happens, no two disks being harmed at once, and what one thinks of it.
type life struct {
	p                impl.Pool
	kept, maybe, now impl.Model
}

// isAlone says whether no disk but this one is harmed.
func (l *life) isAlone(disk int) bool {
	return !slices.ContainsFunc(impl.PoolHarm(l.p), func(harmed int) bool { return harmed != disk })
}

// open opens it, and asks that all is found that must be.
func (l *life) open(t *testing.T) {
	t.Helper()
	l.p = fine(t, l.p, opens())
	found := seenOf(t, l.p)
	if !modelSame(found, l.kept) && !modelSame(found, l.maybe) {
		t.Fatalf("%q is found, neither %q nor %q", found, l.kept, l.maybe)
	}
	l.kept, l.maybe, l.now = found, found, found
}

// works does something to it that it must be open for.
func (l *life) works(t *testing.T, r *rand.Rand) {
	t.Helper()
	switch at := r.Intn(20); {
	case at < 12:
		d := anyDeed(r, len(l.p.Disks))
		out, code := d.do(l.p)
		if l.p = out; code == impl.CodeFine {
			l.now, _ = d.think(l.now)
		}
	case at < 15:
		l.p = fine(t, l.p, commits())
		l.kept, l.maybe = l.now, l.now
	case at == 15:
		cut := impl.PoolTo(l.p, r.Intn(impl.PoolSteps(l.p)+1))
		l.p, l.maybe = fine(t, cut, falls(anyKeep(r, len(l.p.Disks))...)), l.now
	case at < 18:
		l.p = fine(t, l.p, scrubs())
	default:
		l.p = fine(t, l.p, settles())
	}
}

// freshens puts a fresh disk where one is gone.
func (l *life) freshens(t *testing.T) {
	t.Helper()
	for disk, d := range l.p.Disks {
		if d.State == impl.DiskGone {
			l.p = fine(t, l.p, freshens(disk))
		}
	}
}

// spoils spoils a byte of a disk; of most slots that one which is used.
func (l *life) spoils(r *rand.Rand, disk int) {
	slot := r.Intn(impl.SlotMax)
	for _, place := range append(impl.RootPlaces(len(l.p.Disks), l.p.Root), impl.RootPlaces(len(l.p.Disks), l.p.Work)...) {
		if place.Disk == disk && r.Intn(3) == 0 {
			slot = place.Slot
		}
	}
	l.p = replaced(l.p, disk, impl.DiskSpoil(l.p.Disks[disk], slot, r.Intn(impl.SecLen), 1+r.Intn(255)))
}

// suffers does something to one of its disks, or lets it fall, or be right again.
func (l *life) suffers(t *testing.T, r *rand.Rand) {
	t.Helper()
	disk := r.Intn(len(l.p.Disks))
	switch at := r.Intn(15); {
	case at < 2:
		if out, ok := impl.PoolLose(l.p, disk); ok {
			l.p = out
		}
	case at < 6:
		l.freshens(t)
	case at < 12 && l.isAlone(disk):
		l.spoils(r, disk)
	case at == 12:
		l.p = fine(t, l.p, falls(anyKeep(r, len(l.p.Disks))...))
	case at == 13 && l.p.Open:
		l.freshens(t)
		l.p = fine(t, l.p, scrubs(), settles())
	}
}

// goesOn lets anything happen, and asks that nothing was found wrong.
func (l *life) goesOn(t *testing.T, r *rand.Rand) {
	t.Helper()
	switch {
	case !l.p.Open && r.Intn(2) == 0:
		l.open(t)
	case !l.p.Open || r.Intn(4) == 0:
		l.suffers(t, r)
	default:
		l.works(t, r)
	}
	if !impl.PoolOk(l.p) {
		t.Fatalf("not ok any more: %v", l.p)
	}
	if !l.p.Open {
		return
	}
	isModel(t, "seen", seenOf(t, l.p), l.now)
	isModel(t, "kept", keptOf(t, l.p), l.kept)
	if harmed := impl.PoolHarm(l.p); len(harmed) > 1 || t.Failed() {
		t.Fatalf("%v are harmed: %v", harmed, l.p)
	}
}

// lived are ok pools that are open, as they are while anything happens, and no two disks are harmed at once.
func lived(t *testing.T, seed int64, plays int, steps int) []impl.Pool {
	t.Helper()
	r := rand.New(rand.NewSource(seed))
	var out []impl.Pool
	for i := range plays {
		l := life{p: newPool(t, pools()[i%2])}
		for range steps {
			if l.goesOn(t, r); l.p.Open {
				out = append(out, l.p)
			}
		}
	}
	return out
}

// everyNth is one of so many of a list.
func everyNth(list []impl.Pool, n int) []impl.Pool {
	var out []impl.Pool
	for i := 0; i < len(list); i += n {
		out = append(out, list[i])
	}
	return out
}

// kindOf is of which kind a pool is: how the disk is that is harmed, whether writes wait, and whether something is seen that is not kept.
func kindOf(p impl.Pool) []string {
	out := []string{"none harmed"}
	if harmed := impl.PoolHarm(p); len(harmed) > 0 {
		out = []string{fmt.Sprint("harmed, state ", p.Disks[harmed[0]].State)}
	}
	waits := slices.ContainsFunc(p.Disks, func(d impl.Disk) bool { return len(d.Wait) > 0 })
	return append(out, fmt.Sprint("waits ", waits), fmt.Sprint("changed ", !rootSame(p.Root, p.Work)))
}

// add counts a pool.
func (k kinds) add(p impl.Pool) {
	for _, kind := range kindOf(p) {
		k[kind]++
	}
}

// ofEachKind asks for so many pools of each kind.
func (k kinds) ofEachKind(t *testing.T, least int) {
	t.Helper()
	k.atLeast(t, least, "none harmed", "harmed, state 0", "harmed, state 1", "harmed, state 2", "waits true", "waits false", "changed true", "changed false")
}

// hasNoWaits says whether nothing waits for any disk.
func hasNoWaits(disks []impl.Disk) bool {
	return !slices.ContainsFunc(disks, func(d impl.Disk) bool { return len(d.Wait) > 0 })
}

// hasRoot says whether a disk has a root in its ring.
func hasRoot(d impl.Disk, r impl.Root) bool {
	return d.Rings[r.Txg%impl.RingMax] == sealed(linesSaid(r))
}

// haveRoot asks that each disk that is not gone has the root that is kept in its ring, and that nothing waits.
func haveRoot(t *testing.T, why string, p impl.Pool) {
	t.Helper()
	for i, d := range p.Disks {
		if d.State != impl.DiskGone && !hasRoot(d, p.Root) {
			t.Errorf("%s: disk %d of state %d has %q", why, i, d.State, d.Rings)
		}
	}
	if !hasNoWaits(p.Disks) {
		t.Errorf("%s: something waits: %v", why, p.Disks)
	}
}

// isTold asks for what is seen of a pool, and kept.
func isTold(t *testing.T, why string, p impl.Pool, seen impl.Model, kept impl.Model) {
	t.Helper()
	isModel(t, why+", seen", seenOf(t, p), seen)
	isModel(t, why+", kept", keptOf(t, p), kept)
}

// helloPool has a volume with one text, all of which waits, or has come and is kept.
func helloPool(t *testing.T, disks int, keep bool) impl.Pool {
	t.Helper()
	p := after(t, newPool(t, disks), makes("a"), writes("a", 1, "hello"))
	if keep {
		p = fine(t, p, commits())
	}
	return p
}

// changedPool has a text that is kept and seen, one that is kept, and one that is seen.
func changedPool(t *testing.T, disks int) impl.Pool {
	t.Helper()
	p := after(t, newPool(t, disks), makes("a"), writes("a", 0, "stays"), writes("a", 1, "older"))
	return after(t, fine(t, p, commits()), writes("a", 1, "newer"), makes("b"), copies("a", "c"))
}

// Each step for once.
func TestStepsWrittenOut(t *testing.T) {
	p := helloPool(t, 3, false)
	next := rootOf(1, vol("a", impl.Ptr{}, blockAt(t, p, "a", 1)))
	want := poolCopied(p)
	for steps := 0; steps <= 9; steps++ {
		switch {
		case steps > 6:
			want.Disks[steps-7].Rings[1], want.Disks[steps-7].Wait = sealed(linesSaid(next)), nil
		case steps > 3:
			want.Disks[steps-4].Wait = []impl.Put{toRing(1, sealed(linesSaid(next)))}
		case steps > 0:
			want.Disks[steps-1].Slots[0], want.Disks[steps-1].Wait = []string{"hel", "lo\x00", "\x04\nl"}[steps-1], nil
		}
		if steps == 9 {
			want.Root, want.Work = next, copied(next)
		}
		comesTo(t, fmt.Sprint(steps, " steps"), p, stepsOf(steps), want, impl.CodeFine)
	}
	comesTo(t, "all", p, commits(), want, impl.CodeFine)
	// The next one goes to the other ring.
	again := fine(t, after(t, want, drops("a")), commits())
	for _, d := range again.Disks {
		if !slices.Equal(d.Rings, []string{sealed("root 2\n"), sealed(linesSaid(next))}) {
			t.Error(d.Rings)
		}
	}
}

func TestStepsAtTheirEdges(t *testing.T) {
	for _, disks := range pools() {
		for _, p := range []impl.Pool{newPool(t, disks), helloPool(t, disks, false), helloPool(t, disks, true), changedPool(t, disks), replaced(changedPool(t, disks), 1, impl.DiskNew(impl.DiskGone))} {
			if got := impl.PoolSteps(p); got != 3*disks {
				t.Errorf("%d disks: %d steps", disks, got)
			}
			all := fine(t, p, commits())
			for _, steps := range []int{3 * disks, 3*disks + 1, 1000000, math.MaxInt} {
				comesTo(t, "all, or more", p, stepsOf(steps), all, impl.CodeFine)
			}
			for _, steps := range []int{-1, -2, -3 * disks, math.MinInt} {
				comesTo(t, "below 0", p, stepsOf(steps), impl.Pool{}, impl.CodeFine)
			}
			staysAs(t, "none", p, stepsOf(0), impl.CodeFine)
			for steps := range 3 * disks {
				if got := impl.PoolTo(p, steps); !got.Open || !rootSame(got.Root, p.Root) || !rootSame(got.Work, p.Work) {
					t.Errorf("%d steps: %v", steps, got)
				}
			}
		}
	}
}

// ofTurn is a pool that is in such a turn.
func ofTurn(p impl.Pool, txg int) impl.Pool {
	out := poolCopied(p)
	out.Root.Txg, out.Work.Txg = txg, txg
	return inRings(withoutRings(out))
}

func TestTheLastTurn(t *testing.T) {
	for _, disks := range pools() {
		p := ofTurn(changedPool(t, disks), impl.TxgMax-1)
		if impl.PoolSteps(p) != 3*disks {
			t.Error("one below the last:", impl.PoolSteps(p))
		}
		for steps := range 2*disks + 1 {
			fine(t, p, stepsOf(steps))
		}
		last := fine(t, p, commits())
		if last.Root.Txg != 100000 || last.Work.Txg != 100000 || impl.PoolSteps(last) != 0 {
			t.Error(last.Root.Txg, impl.PoolSteps(last))
		}
		isTold(t, "one below the last", last, seenOf(t, p), seenOf(t, p))
		busy := after(t, last, writes("a", 0, "more"))
		for _, p := range []impl.Pool{last, busy, ofTurn(newPool(t, disks), impl.TxgMax), replaced(busy, 0, impl.DiskNew(impl.DiskGone))} {
			staysAs(t, "the last", p, commits(), impl.CodeFull)
			for steps := -1; steps <= 3*disks+1; steps++ {
				comesTo(t, "the last", p, stepsOf(steps), impl.Pool{}, impl.CodeFine)
			}
			comesTo(t, "the last", p, whole{kind: "steps"}, impl.Pool{}, 0)
			// All else can be done still.
			fine(t, p, falls(), opens(), scrubs(), settles())
		}
		if back := fine(t, busy, falls(), opens()); back.Root.Txg != impl.TxgMax || !modelSame(seenOf(t, back), seenOf(t, last)) {
			t.Error(back)
		}
		comesTo(t, "the last, shut", fine(t, busy, falls()), commits(), impl.Pool{}, impl.CodeShut)
	}
}

// Promise 58.
func TestP58AllThatIsSeenIsKept(t *testing.T) {
	count := kinds{}
	for _, p := range append(everyNth(lived(t, 580, 12, 120), 3), thinkPools(t, 581)...) {
		count.add(p)
		seen := seenOf(t, p)
		out := fine(t, p, commits())
		isTold(t, "all kept", out, seen, seen)
		if out.Root.Txg != p.Root.Txg+1 || !rootSame(out.Root, out.Work) || !out.Open {
			t.Fatalf("%v is kept, %v seen", out.Root, out.Work)
		}
		haveRoot(t, "all kept", out)
		want, _ := toSaid(p, 12)
		if !poolSame(out, want) || t.Failed() {
			t.Fatalf("%v\nis\n%v, not\n%v", p, out, want)
		}
	}
	count.ofEachKind(t, 20)
}

// Promise 59.
func TestP59AllStepsAreKeepingAll(t *testing.T) {
	count := kinds{}
	for _, p := range append(everyNth(lived(t, 590, 8, 100), 8), everyNth(thinkPools(t, 591), 4)...) {
		count.add(p)
		all := fine(t, p, commits())
		count := impl.PoolSteps(p)
		for steps := range count + 3 {
			got := impl.PoolTo(p, steps)
			if steps >= count {
				comesTo(t, "all", p, stepsOf(steps), all, impl.CodeFine)
				continue
			}
			if !rootSame(got.Root, p.Root) || !rootSame(got.Work, p.Work) || !got.Open {
				t.Fatalf("%d steps: %v is kept, %v seen", steps, got.Root, got.Work)
			}
			want, _ := toSaid(p, steps)
			if !poolSame(got, want) {
				t.Fatalf("%d steps: %v, not %v", steps, got, want)
			}
			// Once the next root came to a disk Root is not the newest one any more, and nothing can be told of the pool until it is opened.
			came := slices.ContainsFunc(got.Disks, func(d impl.Disk) bool { return hasRoot(d, all.Root) })
			isPoolOk(t, fmt.Sprint(steps, " steps"), got, !came)
			if !came {
				isTold(t, fmt.Sprint(steps, " steps"), got, seenOf(t, p), keptOf(t, p))
			}
		}
	}
	count.ofEachKind(t, 5)
}

// comes says whether the next root came to any disk behind so many steps and a fall.
func comes(p impl.Pool, steps int, keep []int) bool {
	disks := len(p.Disks)
	for i, d := range p.Disks {
		waits := steps > disks+i
		// Nothing else waits for the disk then.
		if d.State != impl.DiskGone && (waits && i < len(keep) && keep[i] > 0 && keep[i]%2 == 1 || steps > 2*disks+i) {
			return true
		}
	}
	return false
}

// isAllOrNothing asks for what is found behind so many steps and a fall.
func isAllOrNothing(t *testing.T, p impl.Pool, steps int, keep []int, count kinds) {
	t.Helper()
	shut := impl.PoolCrash(impl.PoolTo(p, steps), keep)
	out, code := impl.PoolOpen(shut)
	if code != impl.CodeFine || !impl.PoolOk(out) {
		t.Fatalf("%d steps, keep %v: code %d: %v", steps, keep, code, out)
	}
	want, txg := keptOf(t, p), p.Root.Txg
	came := comes(p, steps, keep)
	if came {
		want, txg = seenOf(t, p), txg+1
	}
	count[fmt.Sprint("all ", came)]++
	isTold(t, fmt.Sprint(steps, " steps, keep ", keep), out, want, want)
	if out.Root.Txg != txg {
		t.Errorf("%d steps, keep %v: turn %d, not %d", steps, keep, out.Root.Txg, txg)
	}
	haveRoot(t, fmt.Sprint(steps, " steps, keep ", keep), out)
	if t.Failed() {
		t.FailNow()
	}
}

// Promise 60.
func TestP60AllOrNothingWhereverOneFalls(t *testing.T) {
	r := rand.New(rand.NewSource(60))
	count := kinds{}
	for _, p := range everyNth(lived(t, 600, 12, 100), 7) {
		count.add(p)
		for steps := range impl.PoolSteps(p) + 1 {
			for _, keep := range [][]int{nil, allKept(), anyKeep(r, len(p.Disks)), anyKeep(r, len(p.Disks))} {
				isAllOrNothing(t, p, steps, keep, count)
			}
		}
	}
	count.ofEachKind(t, 10)
	count.atLeast(t, 500, "all true", "all false")
}

// eachKeep is all lists of which writes come, of which so many at most wait for each disk.
func eachKeep(disks int, waits int) [][]int {
	out := [][]int{nil}
	for range disks {
		var more [][]int
		for _, keep := range out {
			for bits := range 1 << waits {
				more = append(more, append(slices.Clone(keep), bits))
			}
		}
		out = more
	}
	return out
}

// Promise 60, and 61: each of few writes may come, or not.
func TestP60EachOfTheWritesMayCome(t *testing.T) {
	count := kinds{}
	for _, disks := range pools() {
		p := changedPool(t, disks)
		for disk := -1; disk < disks; disk++ {
			q := p
			if disk >= 0 {
				q = replaced(p, disk, impl.DiskNew(1+disk%2))
			}
			for steps := range impl.PoolSteps(q) + 1 {
				for _, keep := range eachKeep(disks, 5-disks) {
					isAllOrNothing(t, q, steps, keep, count)
				}
			}
		}
	}
	count.atLeast(t, 500, "all true", "all false")
}

// Promise 60: a ring that came, and others that did not.
func TestP60ARingThatCameOnOneDisk(t *testing.T) {
	for _, disks := range pools() {
		p := changedPool(t, disks)
		next := fine(t, p, commits()).Root
		for disk := range disks {
			keep := make([]int, disks)
			keep[disk] = 1
			for steps := disks + 1; steps <= 2*disks; steps++ {
				shut := impl.PoolCrash(impl.PoolTo(p, steps), keep)
				for i, d := range shut.Disks {
					if hasRoot(d, next) != (i == disk && steps > disks+disk) || !hasRoot(d, p.Root) {
						t.Fatalf("%d steps: disk %d has %q", steps, i, d.Rings)
					}
				}
				want := p.Root
				if steps > disks+disk {
					want = next
				}
				out := fine(t, shut, opens())
				if !rootSame(out.Root, want) {
					t.Errorf("%d steps, disk %d: %v, not %v", steps, disk, out.Root, want)
				}
				haveRoot(t, "opened", out)
				// That root is lost with the disk, as long as it is not opened; what was kept before is there still.
				if lost := fine(t, shut, loses(disk), opens()); !rootSame(lost.Root, p.Root) {
					t.Errorf("%d steps, disk %d lost: %v, not %v", steps, disk, lost.Root, p.Root)
				}
				// Opened, each disk has it, and none matters.
				if lost := fine(t, out, loses(disk), falls(), opens()); !rootSame(lost.Root, want) {
					t.Errorf("%d steps, disk %d lost later: %v, not %v", steps, disk, lost.Root, want)
				}
			}
		}
	}
}

// Promises 60, 61, and all others that anything that happens may break.
func TestP60WholeLives(t *testing.T) {
	r := rand.New(rand.NewSource(601))
	count := kinds{}
	for i := range 40 {
		l := life{p: newPool(t, pools()[i%2])}
		for range 150 {
			l.goesOn(t, r)
			count[fmt.Sprint("open ", l.p.Open)]++
		}
		// In the end one falls, all comes to be right again, and any one disk may be lost.
		if l.p.Open {
			l.p = fine(t, l.p, falls(anyKeep(r, len(l.p.Disks))...))
		}
		l.open(t)
		for disk, d := range l.p.Disks {
			if d.State == impl.DiskGone {
				l.p = fine(t, l.p, freshens(disk))
			}
		}
		l.p = fine(t, l.p, scrubs(), settles())
		isHarmed(t, "in the end", l.p)
		for disk := range l.p.Disks {
			isTold(t, "in the end", fine(t, l.p, loses(disk)), l.now, l.now)
		}
	}
	count.atLeast(t, 200, "open true", "open false")
}

// Promise 61.
func TestP61WhatIsKeptIsFoundBehindAFall(t *testing.T) {
	r := rand.New(rand.NewSource(61))
	count := kinds{}
	for _, p := range lived(t, 610, 12, 100) {
		count.add(p)
		kept := keptOf(t, p)
		for _, keep := range [][]int{nil, allKept(), anyKeep(r, len(p.Disks)), anyKeep(r, len(p.Disks))} {
			out := fine(t, p, falls(keep...), opens())
			isTold(t, fmt.Sprint("keep ", keep), out, kept, kept)
			if !rootSame(out.Root, p.Root) || t.Failed() {
				t.Fatalf("keep %v: %v, not %v", keep, out.Root, p.Root)
			}
		}
	}
	count.ofEachKind(t, 50)
}

// fallen are pools that are shut, as they are behind a fall, also within keeping all, and with a disk lost, or a fresh one, then.
func fallen(t *testing.T, seed int64) []impl.Pool {
	t.Helper()
	r := rand.New(rand.NewSource(seed))
	var out []impl.Pool
	for _, p := range everyNth(lived(t, seed, 16, 100), 2) {
		shut := fine(t, impl.PoolTo(p, r.Intn(impl.PoolSteps(p)+1)), falls(anyKeep(r, len(p.Disks))...))
		out = append(out, shut)
		disk := r.Intn(len(p.Disks))
		if lost, ok := impl.PoolLose(shut, disk); ok {
			out = append(out, lost, fine(t, lost, freshens(disk)))
		}
	}
	return out
}

// Promise 62.
func TestP62OpenedEachDiskHasTheRoot(t *testing.T) {
	count := kinds{}
	for _, p := range fallen(t, 620) {
		out := fine(t, p, opens())
		count.add(out)
		if !out.Open || !rootSame(out.Root, out.Work) {
			t.Fatalf("%v is kept, %v seen", out.Root, out.Work)
		}
		isTold(t, "opened", out, seenOf(t, out), seenOf(t, out))
		haveRoot(t, "opened", out)
		for i, d := range out.Disks {
			// Nothing else changes.
			want := diskCopy(p.Disks[i])
			if d.State != impl.DiskGone {
				want.Rings[out.Root.Txg%2] = sealed(linesSaid(out.Root))
			}
			if !diskSame(d, want) {
				t.Fatalf("disk %d is %v, not %v", i, d, want)
			}
		}
		for _, keep := range [][]int{nil, allKept()} {
			comesTo(t, "fallen, and opened again", fine(t, out, falls(keep...)), opens(), out, impl.CodeFine)
		}
		if t.Failed() {
			t.FailNow()
		}
	}
	count.atLeast(t, 10, "none harmed", "harmed, state 0", "harmed, state 1", "harmed, state 2")
}

// Promise 63.
func TestP63LosingADisk(t *testing.T) {
	count := kinds{}
	for _, p := range append(lived(t, 630, 10, 100), fallen(t, 631)...) {
		harmed := impl.PoolHarm(p)
		for disk := range p.Disks {
			out, ok := impl.PoolLose(p, disk)
			if other := slices.ContainsFunc(harmed, func(one int) bool { return one != disk }); other == ok {
				t.Fatalf("disk %d is lost: %v, and %v were harmed", disk, ok, harmed)
			}
			count[fmt.Sprint("open ", p.Open, ", lost ", ok, ", state ", p.Disks[disk].State)]++
			if !ok {
				comesTo(t, "another is harmed", p, loses(disk), impl.Pool{}, -1)
				continue
			}
			if !poolSame(out, replaced(p, disk, impl.DiskNew(impl.DiskGone))) {
				t.Fatalf("disk %d lost, then %v", disk, out)
			}
			isHarmed(t, "lost", out, disk)
			if p.Open {
				isTold(t, "lost", out, seenOf(t, p), keptOf(t, p))
			}
			staysAs(t, "lost twice", out, loses(disk), impl.CodeFine)
			for other := range p.Disks {
				if other != disk {
					comesTo(t, "two", out, loses(other), impl.Pool{}, -1)
				}
			}
		}
		if t.Failed() {
			t.FailNow()
		}
	}
	count.atLeast(t, 10, "open true, lost true, state 0", "open true, lost true, state 1", "open true, lost true, state 2", "open true, lost false, state 0",
		"open false, lost true, state 0", "open false, lost true, state 1", "open false, lost true, state 2", "open false, lost false, state 0")
}

// Promise 64.
func TestP64AFreshDisk(t *testing.T) {
	count := kinds{}
	for _, p := range append(lived(t, 640, 12, 100), fallen(t, 641)...) {
		for disk, d := range p.Disks {
			count[fmt.Sprint("open ", p.Open, ", state ", d.State)]++
			if d.State != impl.DiskGone {
				staysAs(t, "not gone", p, freshens(disk), impl.CodeNone)
				continue
			}
			out := fine(t, p, freshens(disk))
			if !poolSame(out, replaced(p, disk, impl.DiskNew(impl.DiskFresh))) {
				t.Fatalf("disk %d fresh, then %v", disk, out)
			}
			isHarmed(t, "fresh", out, impl.PoolHarm(p)...)
			staysAs(t, "fresh twice", out, freshens(disk), impl.CodeNone)
			if p.Open {
				isHarmed(t, "fresh", out, disk)
				isTold(t, "fresh", out, seenOf(t, p), keptOf(t, p))
			} else {
				// Of a pool that is shut each spoilt slot harms, also one that proves not to be used.
				out = fine(t, out, opens())
			}
			out = fine(t, out, scrubs(), settles())
			isHarmed(t, "fresh, scrubbed and settled", out)
			if out.Disks[disk].State != impl.DiskLive || t.Failed() {
				t.Fatalf("disk %d is %v", disk, out.Disks[disk])
			}
		}
	}
	count.atLeast(t, 20, "open true, state 0", "open true, state 1", "open true, state 2", "open false, state 0", "open false, state 1", "open false, state 2")
}

// usedSpoilt says whether a slot is spoilt, of a disk that is not gone, that is used.
func usedSpoilt(p impl.Pool) bool {
	for disk, d := range p.Disks {
		for slot, spoilt := range d.Spoilt {
			place := impl.Place{Disk: disk, Slot: slot}
			if spoilt && d.State != impl.DiskGone && (usesSaid(p.Root, place) || usesSaid(p.Work, place)) {
				return true
			}
		}
	}
	return false
}

// Promise 65.
func TestP65ScrubbedAndSettledAllIsAsItWas(t *testing.T) {
	count := kinds{}
	for _, p := range lived(t, 650, 14, 100) {
		count.add(p)
		seen, kept := seenOf(t, p), keptOf(t, p)
		scrubbed, settled := fine(t, p, scrubs()), fine(t, p, settles())
		isTold(t, "scrubbed", scrubbed, seen, kept)
		isTold(t, "settled", settled, seen, kept)
		both := fine(t, scrubbed, settles())
		isTold(t, "scrubbed and settled", both, seen, kept)
		count[fmt.Sprint("used and spoilt ", usedSpoilt(p))]++
		if usedSpoilt(both) {
			t.Errorf("a used slot is spoilt: %v", both)
		}
		for _, out := range []impl.Pool{scrubbed, settled, both} {
			if !rootSame(out.Root, p.Root) || !rootSame(out.Work, p.Work) || !out.Open {
				t.Errorf("%v is kept, %v seen", out.Root, out.Work)
			}
		}
		haveRoot(t, "settled", settled)
		haveRoot(t, "scrubbed and settled", both)
		if want := scrubSaid(p); !poolSame(scrubbed, want) {
			t.Errorf("scrubbed %v, not %v", scrubbed, want)
		}
		if want := settleSaid(p); !poolSame(settled, want) {
			t.Errorf("settled %v, not %v", settled, want)
		}
		if t.Failed() {
			t.FailNow()
		}
	}
	count.ofEachKind(t, 50)
	count.atLeast(t, 50, "used and spoilt true", "used and spoilt false")
}

// Promise 66.
func TestP66SettlingTwiceIsOnce(t *testing.T) {
	changes := kinds{}
	for _, p := range append(lived(t, 660, 12, 100), thinkPools(t, 661)...) {
		for _, one := range []impl.Pool{p, fine(t, p, scrubs())} {
			out := fine(t, one, settles())
			staysAs(t, "settled twice", out, settles(), impl.CodeFine)
			for disk, d := range out.Disks {
				changes[fmt.Sprint(one.Disks[disk].State, d.State)]++
				if d.State != impl.DiskLive && d.State != one.Disks[disk].State {
					t.Errorf("disk %d was of state %d, and is %d", disk, one.Disks[disk].State, d.State)
				}
			}
		}
		if t.Failed() {
			t.FailNow()
		}
	}
	changes.atLeast(t, 10, "0 0", "1 1", "2 2", "2 0")
	if changes["1 0"] > 0 {
		t.Error("a disk that is gone is live")
	}
}

// Promise 67.
func TestP67KeepingTwice(t *testing.T) {
	for _, p := range append(everyNth(lived(t, 670, 8, 100), 4), thinkPools(t, 671)...) {
		seen := seenOf(t, p)
		once := fine(t, p, commits())
		twice := fine(t, once, commits())
		isTold(t, "twice", twice, seen, seen)
		if twice.Root.Txg != p.Root.Txg+2 || !slices.EqualFunc(twice.Root.Vols, once.Root.Vols, func(a impl.Vol, b impl.Vol) bool {
			return rootSame(rootOf(0, a), rootOf(0, b))
		}) {
			t.Errorf("%v is kept, then %v", once.Root, twice.Root)
		}
		for i, d := range twice.Disks {
			if d.State != impl.DiskGone && (!hasRoot(d, once.Root) || !hasRoot(d, twice.Root)) {
				t.Errorf("disk %d has %q", i, d.Rings)
			}
		}
		if t.Failed() {
			t.FailNow()
		}
	}
}

// Promise 68.
func TestP68FallingTwiceIsOnce(t *testing.T) {
	r := rand.New(rand.NewSource(68))
	count := kinds{}
	for _, p := range append(lived(t, 680, 8, 100), fallen(t, 681)...) {
		keep := anyKeep(r, len(p.Disks))
		out := fine(t, p, falls(keep...))
		if out.Open || !rootSame(out.Root, impl.Root{}) || !rootSame(out.Work, impl.Root{}) || !hasNoWaits(out.Disks) {
			t.Fatalf("fallen, and %v", out)
		}
		for _, again := range [][]int{keep, nil, allKept()} {
			staysAs(t, "fallen twice", out, falls(again...), impl.CodeFine)
		}
		count[fmt.Sprint("waits ", !hasNoWaits(p.Disks))]++
		if hasNoWaits(p.Disks) && !disksSame(out.Disks, p.Disks) {
			t.Fatalf("nothing waited, and %v is %v", p.Disks, out.Disks)
		}
	}
	count.atLeast(t, 50, "waits true", "waits false")
}

// Promise 69.
func TestP69WithoutRingsNothingIsOpened(t *testing.T) {
	for _, disks := range pools() {
		for why, p := range map[string]impl.Pool{
			"live": {Disks: poolOf(disks, impl.DiskLive)}, "fresh": {Disks: poolOf(disks, impl.DiskFresh)}, "gone": {Disks: poolOf(disks, impl.DiskGone)},
			"with texts": shut(withoutRings(helloPool(t, disks, true))), "with writes that wait": shut(withoutRings(helloPool(t, disks, false))),
			"with a root that waits": shut(replaced(withoutRings(newPool(t, disks)), 0, impl.DiskPut(impl.DiskNew(impl.DiskLive), toRing(0, sealed("root 0\n"))))),
			"with what is no root":   shut(withRing(withRing(withoutRings(newPool(t, disks)), 0, 0, "root 0\n"), 1, 1, sealed("root 100001\n"))),
		} {
			staysAs(t, why, p, opens(), impl.CodeLost)
		}
		for _, p := range []impl.Pool{newPool(t, disks), helloPool(t, disks, false), helloPool(t, disks, true), fine(t, helloPool(t, disks, true), falls(), opens())} {
			comesTo(t, "open already", p, opens(), impl.Pool{}, impl.CodeBad)
		}
		comesTo(t, "nothing", impl.Pool{}, opens(), impl.Pool{}, impl.CodeBad)
	}
}

// Promise 70.
func TestP70OfAPoolWithoutHarmAnyDiskMayBeLost(t *testing.T) {
	count := kinds{}
	for _, p := range append(lived(t, 700, 8, 100), fallen(t, 701)...) {
		if len(impl.PoolHarm(p)) == 0 {
			count[fmt.Sprint("open ", p.Open)]++
			for disk := range p.Disks {
				isHarmed(t, "lost", fine(t, p, loses(disk)), disk)
			}
		}
		for _, disk := range noDisks(len(p.Disks)) {
			comesTo(t, "no such disk", p, loses(disk), impl.Pool{}, -1)
		}
		if t.Failed() {
			t.FailNow()
		}
	}
	count.atLeast(t, 50, "open true", "open false")
}

// Promise 71.
func TestP71ScrubbingWithoutHarmChangesNothing(t *testing.T) {
	count := kinds{}
	for _, p := range lived(t, 710, 12, 100) {
		harmed := impl.PoolHarm(p)
		count[fmt.Sprint("harmed ", len(harmed))]++
		if len(harmed) == 0 {
			staysAs(t, "none harmed", p, scrubs(), impl.CodeFine)
		}
		staysAs(t, "scrubbed and settled", fine(t, p, scrubs(), settles()), scrubs(), impl.CodeFine)
		staysAs(t, "scrubbed twice", fine(t, p, scrubs()), scrubs(), impl.CodeFine)
		if t.Failed() {
			t.FailNow()
		}
	}
	count.atLeast(t, 50, "harmed 0", "harmed 1")
}

// Promise 72.
func TestP72ScrubbedAndSettledNoneIsHarmed(t *testing.T) {
	count := kinds{}
	for _, p := range lived(t, 720, 14, 100) {
		count.add(p)
		out := fine(t, p, scrubs(), settles())
		if harmed := impl.PoolHarm(p); len(harmed) > 0 && p.Disks[harmed[0]].State == impl.DiskGone {
			isHarmed(t, "gone", out, harmed[0])
		} else {
			isHarmed(t, "none", out)
		}
		if t.Failed() {
			t.FailNow()
		}
	}
	count.ofEachKind(t, 50)
}

// openOnly is all that only a pool that is open can be asked for with a code.
func openOnly() []whole {
	return []whole{commits(), scrubs(), settles()}
}

func TestWholesOfAPoolThatIsShut(t *testing.T) {
	for _, disks := range pools() {
		for why, p := range map[string]impl.Pool{
			"new": shut(newPool(t, disks)), "with writes that wait": shut(changedPool(t, disks)), "fallen": fine(t, changedPool(t, disks), falls()),
			"without rings": {Disks: poolOf(disks, impl.DiskLive)}, "gone": {Disks: poolOf(disks, impl.DiskGone)}, "with a fresh disk": shut(replaced(changedPool(t, disks), 1, impl.DiskNew(impl.DiskFresh))),
		} {
			for _, w := range openOnly() {
				comesTo(t, why, p, w, impl.Pool{}, impl.CodeShut)
			}
			for _, steps := range []int{math.MinInt, -1, 0, 1, 3*disks - 1, 3 * disks, math.MaxInt} {
				comesTo(t, why, p, stepsOf(steps), impl.Pool{}, impl.CodeFine)
			}
			comesTo(t, why, p, whole{kind: "steps"}, impl.Pool{}, 0)
		}
	}
}

// notOkPools are pools that are not ok, by what is wrong with them.
func notOkPools(t *testing.T) map[string]impl.Pool {
	t.Helper()
	out := map[string]impl.Pool{"nothing": {}, "nothing, open": {Open: true}}
	for why, disks := range wrongPools() {
		out[why] = impl.Pool{Disks: disks}
		out[why+", open"] = inEmptyRings(impl.Pool{Disks: disks, Open: true})
	}
	for _, disks := range pools() {
		p := changedPool(t, disks)
		add := func(why string, change func(p *impl.Pool)) {
			other := poolCopied(p)
			change(&other)
			out[fmt.Sprintf("%d disks: %s", disks, why)] = other
		}
		add("without rings", func(p *impl.Pool) { *p = withoutRings(*p) })
		add("shut with its roots", func(p *impl.Pool) { p.Open = false })
		add("shut with Work", func(p *impl.Pool) { p.Open, p.Root = false, impl.Root{} })
		add("of two turns", func(p *impl.Pool) { p.Work.Txg++ })
		add("of a turn below 0", func(p *impl.Pool) { p.Work.Txg, p.Root.Txg = -1, -1 })
		add("of a turn too late", func(p *impl.Pool) { p.Work.Txg, p.Root.Txg = impl.TxgMax+1, impl.TxgMax+1 })
		add("another root", func(p *impl.Pool) { p.Root = copied(p.Work) })
		add("a newer root", func(p *impl.Pool) { p.Disks[1].Rings[0] = sealed("root 5\n") })
		add("a disk fewer", func(p *impl.Pool) { p.Disks = p.Disks[:2] })
		add("what is seen is not ok", func(p *impl.Pool) { p.Work.Vols[0].Name = "" })
		add("what is seen is lost", func(p *impl.Pool) { p.Disks[0].Wait, p.Disks[1].Wait, p.Disks[2].Wait = nil, nil, nil })
		add("what is kept is lost", func(p *impl.Pool) {
			p.Disks[0], p.Disks[1] = impl.DiskNew(impl.DiskFresh), impl.DiskNew(impl.DiskFresh)
		})
	}
	return out
}

func TestWholesOfPoolsThatAreNotOk(t *testing.T) {
	for why, p := range notOkPools(t) {
		isPoolOk(t, why, p, false)
		for _, w := range append(openOnly(), opens()) {
			comesTo(t, why, p, w, impl.Pool{}, impl.CodeBad)
		}
		for _, disk := range append(farNumbers(), -1, 0, 1, 2, 3, 4) {
			comesTo(t, why, p, freshens(disk), impl.Pool{}, impl.CodeBad)
			comesTo(t, why, p, loses(disk), impl.Pool{}, -1)
		}
		for _, steps := range []int{math.MinInt, -1, 0, 1, 9, 12, math.MaxInt} {
			comesTo(t, why, p, stepsOf(steps), impl.Pool{}, impl.CodeFine)
		}
		comesTo(t, why, p, whole{kind: "steps"}, impl.Pool{}, 0)
		// All that a fall needs is ok disks.
		for _, keep := range [][]int{nil, {1}, allKept()} {
			comesTo(t, why, p, falls(keep...), fallSaid(p, keep), impl.CodeFine)
			if !areDisksSaid(p.Disks) {
				comesTo(t, why, p, falls(keep...), impl.Pool{}, impl.CodeFine)
			}
		}
	}
}

func TestKeepLists(t *testing.T) {
	for _, disks := range pools() {
		// Three writes wait for each disk.
		p := newPool(t, disks)
		p = after(t, p, makes("a"), writes("a", 0, noughts(longest(disks))), writes("a", 1, noughts(longest(disks))), writes("a", 2, noughts(longest(disks))))
		for i, d := range p.Disks {
			if len(d.Wait) != 3 {
				t.Fatal("disk", i, "has", d.Wait)
			}
		}
		for _, c := range []struct {
			keep []int
			want [impl.DiskMax]int
		}{
			{nil, [4]int{}}, {[]int{}, [4]int{}}, {[]int{0}, [4]int{}}, {[]int{7}, [4]int{7}}, {[]int{0, 7}, [4]int{0, 7}}, {[]int{1, 2, 4, 7}, [4]int{1, 2, 4, 7}},
			{[]int{5, 6, 3, 1, 7, 7, 7}, [4]int{5, 6, 3, 1}}, {[]int{-1, 7, -7, 7}, [4]int{0, 7, 0, 7}}, {[]int{math.MinInt, -2, 7, -8}, [4]int{0, 0, 7, 0}},
			{[]int{8, 16, 1 << 40, 1 << 62}, [4]int{}}, {slices.Repeat([]int{math.MaxInt}, 9), [4]int{7, 7, 7, 7}}, {[]int{7, 7, 7, 7, -1}, [4]int{7, 7, 7, 7}},
		} {
			out := impl.PoolCrash(p, c.keep)
			if out.Open || !rootSame(out.Root, impl.Root{}) || !rootSame(out.Work, impl.Root{}) || len(out.Disks) != disks {
				t.Errorf("keep %v: %v", c.keep, out)
			}
			for i, d := range out.Disks {
				if want := impl.DiskCrash(p.Disks[i], c.want[i]); !diskSame(d, want) {
					t.Errorf("keep %v: disk %d is %v, not %v", c.keep, i, d, want)
				}
			}
		}
	}
}

func TestFallenWithinAWrite(t *testing.T) {
	// The texts of what is seen come, or do not; what is kept was not where they are.
	for _, disks := range pools() {
		p := changedPool(t, disks)
		kept := []impl.Shelf{shelf("a", "stays", "older")}
		for _, keep := range eachKeep(disks, 5-disks) {
			out := fine(t, p, falls(keep...), opens())
			isSeen(t, fmt.Sprint(keep), out, kept...)
			isKept(t, fmt.Sprint(keep), out, kept...)
			isHarmed(t, fmt.Sprint(keep), out)
			// What came is over where nothing is kept, and can be written over.
			isSeen(t, fmt.Sprint(keep), after(t, out, writes("a", 2, "again")), shelf("a", "stays", "older", "again"))
		}
	}
}

// onlyOn is a pool that is shut, in which a root is in its ring on one disk alone, and all others have an older one.
func onlyOn(p impl.Pool, disk int, r impl.Root) impl.Pool {
	out := shut(p)
	out.Disks[disk].Rings[r.Txg%2] = sealed(linesSaid(r))
	return out
}

func TestOpeningWithTheNewestRoot(t *testing.T) {
	for _, disks := range pools() {
		p := fine(t, changedPool(t, disks), commits())
		for disk := range disks {
			for _, txg := range []int{3, 4, 99999, impl.TxgMax} {
				newer := rootOf(txg, vol("n"), p.Root.Vols[0])
				out := fine(t, onlyOn(p, disk, newer), opens())
				if !rootSame(out.Root, newer) || !rootSame(out.Work, newer) {
					t.Errorf("disk %d has it alone: %v", disk, out.Root)
				}
				haveRoot(t, "one disk had it alone", out)
				// The other ring stays as it was.
				for i, d := range out.Disks {
					if d.Rings[1-txg%2] != p.Disks[i].Rings[1-txg%2] {
						t.Errorf("the other ring has %q", d.Rings)
					}
				}
				// In a ring that is not its own it is the newest one all the same, and goes to its own.
				wrong := withRing(shut(p), disk, 1-txg%2, sealed(linesSaid(newer)))
				haveRoot(t, "in the wrong ring", fine(t, wrong, opens()))
				// A newer one that is none does not count.
				for _, text := range []string{linesSaid(newer), sealed(linesSaid(newer)) + "\n", sealed(linesSaid(newer))[1:], sealed("root 100001\n")} {
					if out := fine(t, withRing(shut(p), disk, txg%2, text), opens()); !rootSame(out.Root, p.Root) {
						t.Errorf("%q is opened: %v", text, out.Root)
					}
				}
				// Lost with its disk, and in a pool that is open already, it is the one that cannot be done without.
				if out := fine(t, onlyOn(p, disk, newer), loses(disk), opens()); !rootSame(out.Root, p.Root) {
					t.Errorf("disk %d lost: %v", disk, out.Root)
				}
				alone := onlyOn(p, disk, newer)
				alone.Open, alone.Root, alone.Work = true, newer, copied(newer)
				isPoolOk(t, "one disk has it alone", alone, true)
				for other := range disks {
					if other == disk {
						comesTo(t, "one disk has it alone", alone, loses(disk), impl.Pool{}, -1)
					} else {
						fine(t, alone, loses(other))
					}
				}
				fine(t, alone, settles(), loses(disk))
			}
		}
		// Of two as new the first is taken, by disks, then rings.
		one, two := rootOf(5, vol("one")), rootOf(5, vol("two"))
		for _, c := range []struct {
			disk, ring, other, otherRing int
		}{{0, 0, 0, 1}, {0, 1, 1, 0}, {0, 1, 1, 1}, {1, 0, 1, 1}, {1, 1, 2, 0}, {disks - 2, 0, disks - 1, 0}} {
			both := withRing(withRing(shut(p), c.disk, c.ring, sealed(linesSaid(one))), c.other, c.otherRing, sealed(linesSaid(two)))
			out := fine(t, both, opens())
			if !rootSame(out.Root, one) {
				t.Errorf("%v: %v", c, out.Root)
			}
			haveRoot(t, "two as new", out)
		}
	}
}

func TestOpeningWhatCannotBeGot(t *testing.T) {
	for _, disks := range pools() {
		p := fine(t, changedPool(t, disks), commits())
		old := p.Root
		for i, where := range []impl.Ptr{blockAt(t, p, "a", 0), blockAt(t, p, "a", 1)} {
			one := shut(overrun(p, where, 1, false))
			out := fine(t, one, opens())
			isSeen(t, "one column is another", out, shelf("a", "stays", "newer"), shelf("b"), shelf("c", "stays", "newer"))
			staysAs(t, fmt.Sprint("two columns of block ", i), shut(overrun(p, where, 2, false)), opens(), impl.CodeLost)
			staysAs(t, fmt.Sprint("all columns of block ", i), shut(overrun(p, where, 3, false)), opens(), impl.CodeLost)
			for _, state := range []int{impl.DiskGone, impl.DiskFresh} {
				lost := shut(replaced(p, where.Places[0].Disk, impl.DiskNew(state)))
				fine(t, lost, opens())
				staysAs(t, "two disks are not there", replaced(lost, where.Places[1].Disk, impl.DiskNew(state)), opens(), impl.CodeLost)
			}
		}
		// The newest one counts, though an older one could be got.
		newer := rootOf(7, vol("n", ptr(3, 77, 0, 11, 1, 11)))
		staysAs(t, "nothing is there", onlyOn(p, 1, newer), opens(), impl.CodeLost)
		if out := fine(t, onlyOn(p, 1, newer), loses(1), opens()); !rootSame(out.Root, old) {
			t.Error("lost, and", out.Root)
		}
	}
}

// In a pool that is shut nothing waits, unless it is made by hand; what waits is got, and comes.
func TestOpeningWithWritesThatWait(t *testing.T) {
	for _, disks := range pools() {
		p := changedPool(t, disks)
		next := fine(t, p, commits())
		waiting := shut(p)
		waiting.Disks[disks-1] = impl.DiskPut(waiting.Disks[disks-1], toSlot(11, "???"))
		waiting.Disks[disks-1].Rings[0] = sealed(linesSaid(next.Root))
		out := fine(t, waiting, opens())
		isSeen(t, "it waited", out, shelf("a", "stays", "newer"), shelf("b"), shelf("c", "stays", "newer"))
		haveRoot(t, "it waited", out)
		if out.Disks[disks-1].Slots[11] != "???" {
			t.Error("not all has come:", out.Disks)
		}
		// As many wait as may: they come ahead of the root.
		full := shut(next)
		for len(full.Disks[0].Wait) < impl.WaitMax {
			full.Disks[0] = impl.DiskPut(full.Disks[0], toSlot(11, fmt.Sprintf("%03d", len(full.Disks[0].Wait))))
		}
		full.Disks[0].Rings[0] = ""
		out = fine(t, full, opens())
		haveRoot(t, "as many wait as may", out)
		if out.Disks[0].Slots[11] != "039" {
			t.Error("not all has come:", out.Disks)
		}
	}
}

func TestOpeningLeavesDisksAsTheyAre(t *testing.T) {
	for _, disks := range pools() {
		p := fine(t, changedPool(t, disks), commits())
		for disk := range disks {
			for _, state := range []int{impl.DiskGone, impl.DiskFresh} {
				out := fine(t, shut(replaced(p, disk, impl.DiskNew(state))), opens())
				want := replaced(p, disk, impl.DiskNew(state))
				want.Disks = spreadSaid(want.Disks, p.Root)
				if !poolSame(out, want) || out.Disks[disk].State != state || state == impl.DiskGone && !diskSame(out.Disks[disk], impl.DiskNew(state)) {
					t.Errorf("state %d: %v", state, out)
				}
			}
			for slot, text := range p.Disks[disk].Slots {
				if text != "" {
					one := spoiltAt(t, p, impl.Place{Disk: disk, Slot: slot})
					comesTo(t, "spoilt, and opened", shut(one), opens(), one, impl.CodeFine)
				}
			}
		}
	}
}

func TestLosingWithAnotherOneHarmed(t *testing.T) {
	for _, disks := range pools() {
		p := arrived(changedPool(t, disks))
		kept, seen := p.Root.Vols[0].Blocks[1], blockAt(t, p, "a", 1)
		unused := impl.Place{Disk: 0, Slot: 11}
		p.Disks[0] = impl.DiskFlush(impl.DiskPut(p.Disks[0], toSlot(11, "???")))
		for why, c := range map[string]struct {
			p     impl.Pool
			disk  int
			harms bool
		}{
			"gone":                     {replaced(p, 1, impl.DiskNew(impl.DiskGone)), 1, true},
			"fresh":                    {replaced(p, 1, impl.DiskNew(impl.DiskFresh)), 1, true},
			"spoilt, kept":             {spoiltAt(t, p, kept.Places[0]), kept.Places[0].Disk, true},
			"spoilt, seen":             {spoiltAt(t, p, seen.Places[1]), seen.Places[1].Disk, true},
			"spoilt, neither":          {spoiltAt(t, p, unused), 0, false},
			"shut, gone":               {shut(replaced(p, 1, impl.DiskNew(impl.DiskGone))), 1, true},
			"shut, fresh":              {shut(replaced(p, 1, impl.DiskNew(impl.DiskFresh))), 1, true},
			"shut, spoilt":             {shut(spoiltAt(t, p, kept.Places[0])), kept.Places[0].Disk, true},
			"shut, spoilt, not needed": {shut(spoiltAt(t, p, unused)), 0, true},
		} {
			for disk := range disks {
				if c.harms && disk != c.disk {
					comesTo(t, why, c.p, loses(disk), impl.Pool{}, -1)
					continue
				}
				comesTo(t, why, c.p, loses(disk), replaced(c.p, disk, impl.DiskNew(impl.DiskGone)), impl.CodeFine)
			}
			for _, disk := range noDisks(disks) {
				comesTo(t, why, c.p, loses(disk), impl.Pool{}, -1)
				comesTo(t, why, c.p, freshens(disk), impl.Pool{}, impl.CodeBad)
			}
		}
		// Made by hand: a column is another one, and nobody knows; with one more lost the text is.
		silent := overrun(p, seen, 1, false)
		isHarmed(t, "a silent one", silent)
		for _, place := range seen.Places[1:] {
			comesTo(t, "a silent one", silent, loses(place.Disk), impl.Pool{}, -1)
		}
		fine(t, silent, loses(seen.Places[0].Disk))
	}
}

func TestLosingAndFreshOfEachState(t *testing.T) {
	for _, disks := range pools() {
		for disk := range disks {
			for _, open := range []bool{true, false} {
				p := changedPool(t, disks)
				if !open {
					p = shut(p)
				}
				gone, fresh := replaced(p, disk, impl.DiskNew(impl.DiskGone)), replaced(p, disk, impl.DiskNew(impl.DiskFresh))
				comesTo(t, "live", p, loses(disk), gone, impl.CodeFine)
				comesTo(t, "gone", gone, loses(disk), gone, impl.CodeFine)
				comesTo(t, "fresh", fresh, loses(disk), gone, impl.CodeFine)
				staysAs(t, "live", p, freshens(disk), impl.CodeNone)
				comesTo(t, "gone", gone, freshens(disk), fresh, impl.CodeFine)
				staysAs(t, "fresh", fresh, freshens(disk), impl.CodeNone)
				filled := poolCopied(p)
				filled.Disks[disk].State = impl.DiskFresh
				comesTo(t, "fresh, with all", filled, loses(disk), gone, impl.CodeFine)
				staysAs(t, "fresh, with all", filled, freshens(disk), impl.CodeNone)
			}
		}
		all := impl.Pool{Disks: poolOf(disks, impl.DiskGone)}
		comesTo(t, "all gone", all, loses(0), impl.Pool{}, -1)
		comesTo(t, "all gone", all, freshens(1), replaced(all, 1, impl.DiskNew(impl.DiskFresh)), impl.CodeFine)
	}
}

// withoutColumn is a pool in which nothing is at a place.
func withoutColumn(p impl.Pool, place impl.Place) impl.Pool {
	out := poolCopied(p)
	out.Disks[place.Disk].Slots[place.Slot], out.Disks[place.Disk].Spoilt[place.Slot] = "", false
	return out
}

// inState is a pool in which a disk is in another state.
func inState(p impl.Pool, disk int, state int) impl.Pool {
	out := poolCopied(p)
	out.Disks[disk].State = state
	return out
}

func TestSettlingAFreshDisk(t *testing.T) {
	for _, disks := range pools() {
		// The one text is kept and not seen, the other one seen and not kept; both have all their columns.
		p := arrived(after(t, fine(t, after(t, newPool(t, disks), makes("a"), writes("a", 0, noughts(longest(disks)))), commits()), writes("a", 0, "new.")))
		for why, where := range map[string]impl.Ptr{"Root": p.Root.Vols[0].Blocks[0], "Work": p.Work.Vols[0].Blocks[0]} {
			for i, place := range where.Places {
				disk := place.Disk
				fresh := inState(p, disk, impl.DiskFresh)
				comesTo(t, "it has all", fresh, settles(), p, impl.CodeFine)
				lacks := withoutColumn(fresh, place)
				why := fmt.Sprintf("it lacks column %d of %s", i, why)
				staysAs(t, why, lacks, settles(), impl.CodeFine)
				isHarmed(t, why, fine(t, lacks, settles()), disk)
				comesTo(t, why+", scrubbed", fine(t, lacks, scrubs()), settles(), p, impl.CodeFine)
				// Another column than there should be is as bad as none, whether it is marked or not.
				other := replaced(fresh, disk, impl.DiskFlush(impl.DiskPut(fresh.Disks[disk], toSlot(place.Slot, "???"))))
				staysAs(t, why+", but has another one", other, settles(), impl.CodeFine)
				staysAs(t, why+", but has a spoilt one", spoiltAt(t, fresh, place), settles(), impl.CodeFine)
				comesTo(t, "spoilt, scrubbed", fine(t, spoiltAt(t, fresh, place), scrubs()), settles(), p, impl.CodeFine)
				// What waits comes first.
				waits := replaced(lacks, disk, impl.DiskPut(lacks.Disks[disk], toSlot(place.Slot, p.Disks[disk].Slots[place.Slot])))
				comesTo(t, "it waits", waits, settles(), p, impl.CodeFine)
				bad := replaced(fresh, disk, impl.DiskPut(fresh.Disks[disk], toSlot(place.Slot, "???")))
				if out := fine(t, bad, settles()); out.Disks[disk].State != impl.DiskFresh || !hasNoWaits(out.Disks) {
					t.Error("another one waits:", out.Disks[disk])
				}
				// A disk that is live lacks it: it stays live, and the fresh one is live.
				comesTo(t, "another one lacks it", inState(withoutColumn(p, place), (disk+1)%disks, impl.DiskFresh), settles(), withoutColumn(p, place), impl.CodeFine)
				gone := replaced(p, disk, impl.DiskNew(impl.DiskGone))
				staysAs(t, "gone", gone, settles(), impl.CodeFine)
				staysAs(t, "gone", gone, scrubs(), impl.CodeFine)
			}
		}
		// A slot that nobody uses does not matter.
		extra := impl.Place{Disk: 1, Slot: 11}
		p.Disks[1] = impl.DiskFlush(impl.DiskPut(p.Disks[1], toSlot(11, "???")))
		spoilt := spoiltAt(t, p, extra)
		comesTo(t, "not used", inState(spoilt, 1, impl.DiskFresh), settles(), spoilt, impl.CodeFine)
		staysAs(t, "not used", spoilt, scrubs(), impl.CodeFine)
		staysAs(t, "not used", spoilt, settles(), impl.CodeFine)
		isHarmed(t, "not used", spoilt)
	}
}

func TestSettlingMoreFreshDisks(t *testing.T) {
	for _, disks := range pools() {
		empty := impl.Pool{Disks: poolOf(disks, impl.DiskFresh), Open: true}
		empty.Disks[disks-1].Rings[0] = sealed("root 0\n")
		want := newPool(t, disks)
		comesTo(t, "no texts", empty, settles(), want, impl.CodeFine)
		// Each of them is asked for itself.
		p := fine(t, after(t, newPool(t, disks), makes("a"), writes("a", 0, "x")), commits())
		all := poolCopied(p)
		for i := range all.Disks {
			all.Disks[i].State = impl.DiskFresh
		}
		comesTo(t, "all fresh, with all", all, settles(), p, impl.CodeFine)
		for _, place := range blockAt(t, p, "a", 0).Places {
			lacks := withoutColumn(all, place)
			comesTo(t, "one lacks it", lacks, settles(), inState(withoutColumn(p, place), place.Disk, impl.DiskFresh), impl.CodeFine)
			comesTo(t, "one lacks it, scrubbed", fine(t, lacks, scrubs()), settles(), p, impl.CodeFine)
		}
		bare := replaced(replaced(p, disks-1, impl.DiskNew(impl.DiskFresh)), 0, impl.DiskNew(impl.DiskGone))
		if disks == 4 {
			out := fine(t, bare, settles())
			if out.Disks[0].State != impl.DiskGone || out.Disks[3].State != impl.DiskLive || !hasRoot(out.Disks[3], p.Root) || !diskSame(out.Disks[0], impl.DiskNew(impl.DiskGone)) {
				t.Error(out.Disks)
			}
		}
	}
}

func TestSettlingWritesTheRoot(t *testing.T) {
	for _, disks := range pools() {
		p := arrived(changedPool(t, disks))
		for disk := range disks {
			for why, text := range map[string]string{"nothing": "", "no root": "root", "an older one": sealed("root 0\n"), "another one": sealed(linesSaid(rootOf(1, vol("z"))))} {
				other := withRing(p, disk, 1, text)
				if disk == 0 && why == "another one" {
					// That is the newest one then.
					isPoolOk(t, why, other, false)
					continue
				}
				comesTo(t, why, other, settles(), p, impl.CodeFine)
			}
			// The other ring stays, whatever it has.
			odd := withRing(p, disk, 0, "odd")
			staysAs(t, "the other ring", odd, settles(), impl.CodeFine)
			staysAs(t, "scrubbing leaves rings", withRing(odd, (disk+1)%disks, 1, ""), scrubs(), impl.CodeFine)
		}
		// All that waits comes, of what is seen too, and is not kept by that.
		busy := changedPool(t, disks)
		out := fine(t, busy, settles())
		isTold(t, "settled", out, seenOf(t, busy), keptOf(t, busy))
		isSeen(t, "settled, and fallen", fine(t, out, falls(), opens()), shelf("a", "stays", "older"))
		comesTo(t, "all has come", out, settles(), arrived(busy), impl.CodeFine)
	}
}

func TestScrubbingWritesWhatIsBad(t *testing.T) {
	for _, disks := range pools() {
		p := arrived(changedPool(t, disks))
		for why, where := range map[string]impl.Ptr{"kept": p.Root.Vols[0].Blocks[1], "seen": blockAt(t, p, "a", 1), "both": blockAt(t, p, "a", 0), "also copied": blockAt(t, p, "c", 1)} {
			for _, place := range where.Places {
				col := p.Disks[place.Disk].Slots[place.Slot]
				for _, harm := range []impl.Pool{spoiltAt(t, p, place), withoutColumn(p, place), overrun(p, impl.Ptr{Places: []impl.Place{place}}, 1, false)} {
					want := poolCopied(harm)
					// It is written once, whoever uses it, and waits.
					want.Disks[place.Disk].Wait = []impl.Put{toSlot(place.Slot, col)}
					comesTo(t, why, harm, scrubs(), want, impl.CodeFine)
					comesTo(t, why, want, settles(), p, impl.CodeFine)
					staysAs(t, why, want, scrubs(), impl.CodeFine)
					if out := fine(t, want, falls(), opens(), scrubs(), settles()); !modelSame(seenOf(t, out), keptOf(t, p)) {
						t.Errorf("%s: what was mended did not come: %v", why, out)
					}
				}
				isHarmed(t, why+", settled alone", fine(t, spoiltAt(t, p, place), settles()), place.Disk)
			}
		}
		// A disk with nothing gets all its columns, in the order of the pointers, those of Root first.
		for disk := range disks {
			fresh := replaced(p, disk, impl.DiskNew(impl.DiskFresh))
			var wait []impl.Put
			for _, b := range ptrsSaid(p) {
				for _, place := range b.Places {
					to := toSlot(place.Slot, p.Disks[disk].Slots[place.Slot])
					if place.Disk == disk && !slices.Contains(wait, to) {
						wait = append(wait, to)
					}
				}
			}
			want := poolCopied(fresh)
			want.Disks[disk].Wait = wait
			comesTo(t, "fresh", fresh, scrubs(), want, impl.CodeFine)
			if len(wait) < 1 {
				t.Error("disk", disk, "has nothing")
			}
			want = poolCopied(p)
			want.Disks[disk].Rings[0] = ""
			comesTo(t, "fresh", fine(t, fresh, scrubs()), settles(), want, impl.CodeFine)
			staysAs(t, "gone", replaced(p, disk, impl.DiskNew(impl.DiskGone)), scrubs(), impl.CodeFine)
		}
	}
}

// As many writes wait as may when more is written.
func TestWholesOfDisksForWhichAsManyWaitAsMay(t *testing.T) {
	for _, disks := range pools() {
		p := changedPool(t, disks)
		for i := range p.Disks {
			for len(p.Disks[i].Wait) < impl.WaitMax {
				p.Disks[i] = impl.DiskPut(p.Disks[i], toSlot(11, fmt.Sprintf("%03d", len(p.Disks[i].Wait))))
			}
		}
		isPoolOk(t, "full", p, true)
		for _, q := range []impl.Pool{p, spoiltAt(t, p, p.Root.Vols[0].Blocks[0].Places[0]), withoutColumn(p, p.Root.Vols[0].Blocks[0].Places[1]), withRing(p, disks-1, 1, "odd")} {
			for _, w := range []whole{commits(), scrubs(), settles(), stepsOf(1), stepsOf(disks + 1), falls(1<<39, 1<<38, 1<<40-1)} {
				want, code := w.said(q)
				comesTo(t, "full", q, w, want, code)
			}
			out := fine(t, q, scrubs(), settles(), commits())
			isTold(t, "full", out, seenOf(t, p), seenOf(t, p))
			if out.Disks[0].Slots[11] != "039" {
				t.Error("not all has come")
			}
		}
	}
}

// Made by hand: two pointers, of Root and of Work, have a place together, and differ.
func TestScrubbingWhereTwoTextsMeet(t *testing.T) {
	for _, disks := range pools() {
		p := fine(t, after(t, newPool(t, disks), makes("a"), writes("a", 0, "one")), commits())
		shared := blockAt(t, p, "a", 0).Places[1]
		free := impl.Place{Disk: (shared.Disk + 1) % disks, Slot: 5}
		p.Work.Vols[0].Blocks = []impl.Ptr{{}, ptrOf(t, "two", []impl.Place{free, shared}), {}}
		p.Disks[free.Disk].Slots[5] = "two"
		// The parity of the one text is there, and that of the other one is written over it.
		want := poolCopied(p)
		want.Disks[shared.Disk].Wait = []impl.Put{toSlot(shared.Slot, "two")}
		comesTo(t, "two meet", p, scrubs(), want, impl.CodeFine)
		isTold(t, "two meet", fine(t, p, scrubs(), settles()), modelWith(shelf("a", "", "two")), modelWith(shelf("a", "one")))
		// The other way about, and the other one has nothing else: what cannot be mended stays.
		p = withoutColumn(p, free)
		p.Disks[shared.Disk].Slots[shared.Slot] = "two"
		isPoolOk(t, "two meet, and one has nothing else", p, true)
		want = poolCopied(p)
		want.Disks[shared.Disk].Wait = []impl.Put{toSlot(shared.Slot, "one")}
		comesTo(t, "two meet, and one has nothing else", p, scrubs(), want, impl.CodeFine)
	}
}

// anyWhole is anything that may happen to a pool.
func anyWhole(r *rand.Rand, disks int) whole {
	all := wholesOf(disks)
	w := all[r.Intn(len(all))]
	kinds := []string{"steps", "to", "commit", "crash", "open", "lose", "fresh", "scrub", "settle"}
	switch r.Intn(4) {
	case 0:
		return w
	case 1:
		return falls(anyKeep(r, disks)...)
	}
	return whole{kind: kinds[r.Intn(len(kinds))], at: r.Intn(disks), keep: anyKeep(r, disks)}
}

// bentWhole is an ok pool in which one thing, or two, are any other way, as none of what happens makes it; it may be ok still.
func bentWhole(r *rand.Rand, p impl.Pool) impl.Pool {
	disk := r.Intn(len(p.Disks))
	switch r.Intn(6) {
	case 0:
		return inState(p, disk, states()[r.Intn(3)])
	case 1:
		if p.Open {
			return ofTurn(p, []int{impl.TxgMax, impl.TxgMax - 1, r.Intn(5)}[r.Intn(3)])
		}
	case 2:
		text := []string{"", "none", sealed("root 0\n"), sealed(linesSaid(rootOf(p.Root.Txg+1, p.Work.Vols...))), sealed(linesSaid(p.Root))}[r.Intn(5)]
		return replaced(p, disk, impl.DiskPut(p.Disks[disk], toRing(r.Intn(2), text)))
	case 3:
		for _, place := range impl.RootPlaces(len(p.Disks), p.Work) {
			if r.Intn(3) == 0 {
				return withoutColumn(p, place)
			}
		}
	case 4:
		return withRing(p, disk, r.Intn(2), "")
	}
	return bent(r, p)
}

func TestWholesAreAsSaid(t *testing.T) {
	r := rand.New(rand.NewSource(151))
	count := kinds{}
	all := slices.Concat(lived(t, 1510, 10, 100), everyNth(fallen(t, 1511), 2), thinkPools(t, 1512))
	for _, p := range all {
		other := bentWhole(r, p)
		asked := []impl.Pool{p, other, shut(other), bentWhole(r, withoutRings(shut(p)))}
		if okPoolSaid(other) {
			asked = append(asked, bentWhole(r, other), impl.PoolTo(other, r.Intn(13)))
		}
		for _, q := range asked {
			for _, w := range []whole{anyWhole(r, len(p.Disks)), anyWhole(r, len(p.Disks)), opens()} {
				out, code := w.do(q)
				want, fine := w.said(q)
				if code != fine || !poolSame(out, want) {
					t.Fatalf("%v\n%+v:\ncode %d, %v, not\ncode %d, %v", q, w, code, out, fine, want)
				}
				count[fmt.Sprint(w.kind, " ", code)]++
				if w.kind == "to" || w.kind == "crash" {
					count[fmt.Sprint(w.kind, " nothing ", isNoPool(out))]++
				}
			}
		}
	}
	count.atLeast(t, 20, "steps 0", "steps 9", "steps 12", "to nothing true", "to nothing false", "commit 0", "commit 4", "commit 6", "crash nothing true", "crash nothing false",
		"open 0", "open 4", "open 5", "lose 0", "lose -1", "fresh 0", "fresh 2", "fresh 4", "scrub 0", "scrub 4", "scrub 6", "settle 0", "settle 4", "settle 6")
	count.atLeast(t, 5, "commit 3")
}

// wholePools are pools of every kind, ok and not, open and shut.
func wholePools(t *testing.T, n int) []impl.Pool {
	t.Helper()
	r := rand.New(rand.NewSource(152))
	var out []impl.Pool
	for _, p := range slices.Concat(everyNth(lived(t, 1520, 4, 80), n), everyNth(fallen(t, 1521), 2*n)) {
		out = append(out, p, bentWhole(r, p), impl.PoolTo(p, r.Intn(12)))
	}
	for _, disks := range pools() {
		p := changedPool(t, disks)
		out = append(out, p, ofTurn(p, impl.TxgMax), shut(p), replaced(p, 0, impl.DiskNew(impl.DiskGone)), replaced(p, 1, impl.DiskNew(impl.DiskFresh)), impl.Pool{Disks: poolOf(disks, impl.DiskLive)})
	}
	return append(out, impl.Pool{})
}

func TestWholeAnswersAreNewMemory(t *testing.T) {
	for _, one := range wholePools(t, 12) {
		p := poolCopied(one)
		given := poolSpans(p)
		for _, w := range wholesOf(len(p.Disks)) {
			w.keep = slices.Clone(w.keep)
			out, _ := w.do(p)
			apart(t, w.kind, poolSpans(out), append(slices.Clone(given), listSpan(w.keep)))
		}
	}
	// What is given may be one and the same memory everywhere.
	for _, disks := range pools() {
		p := newPool(t, disks)
		p.Disks = slices.Repeat(p.Disks[:1], disks)
		kept := fine(t, helloPool(t, disks, true), settles())
		kept.Work = kept.Root
		for _, one := range []impl.Pool{p, kept, {Disks: p.Disks}} {
			given := poolSpans(one)
			for _, w := range wholesOf(disks) {
				out, _ := w.do(one)
				apart(t, w.kind, poolSpans(out), given)
			}
		}
	}
}

func TestWholeArgumentsStay(t *testing.T) {
	for _, one := range wholePools(t, 12) {
		p, tell := roomyPool(one)
		before := tell()
		for _, w := range wholesOf(len(p.Disks)) {
			spare := append(slices.Clone(w.keep), 5, 7)
			w.keep = spare[:len(w.keep)]
			told := fmt.Sprint(spare)
			out, _ := w.do(p)
			wiped(out)
			if fmt.Sprint(spare) != told {
				t.Fatalf("%s is now %v", told, spare)
			}
		}
		if now := tell(); now != before {
			t.Fatalf("%s\nis now\n%s", before, now)
		}
	}
}

// tellWholes is all that comes of a pool.
func tellWholes(p impl.Pool) string {
	told := ""
	for _, w := range wholesOf(len(p.Disks)) {
		out, code := w.do(p)
		told += fmt.Sprint(code, out)
		wiped(out)
	}
	return told
}

func TestWholeAnswersAreTheSameEachTime(t *testing.T) {
	for _, p := range wholePools(t, 40) {
		isToldTheSame(t, func() string { return tellWholes(p) })
	}
}
