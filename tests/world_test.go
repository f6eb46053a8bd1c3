package tests

import (
	"fmt"
	"math"
	"math/rand"
	"slices"
	"strings"
	"testing"

	"loop.example/paling/impl"
)

// happening is anything of which an event can be made.
type happening interface {
	event() impl.Event
}

func (d deed) event() impl.Event {
	kind := map[string]int{"make": impl.EvMake, "drop": impl.EvDrop, "copy": impl.EvCopy, "write": impl.EvWrite}[d.kind]
	return impl.Event{Kind: kind, Name: d.name, From: d.from, A: d.block, Text: d.text}
}

func (w whole) event() impl.Event {
	kind := map[string]int{
		"commit": impl.EvCommit, "crash": impl.EvCrash, "open": impl.EvOpen, "lose": impl.EvLose,
		"fresh": impl.EvFresh, "scrub": impl.EvScrub, "settle": impl.EvSettle,
	}[w.kind]
	return impl.Event{Kind: kind, A: w.at, Keep: w.keep}
}

// raw is an event as it is.
type raw impl.Event

func (e raw) event() impl.Event {
	return impl.Event(e)
}

// cuts is a fall within keeping all.
func cuts(steps int, keep ...int) raw {
	return raw{Kind: impl.EvCut, A: steps, Keep: keep}
}

// hits spoils a byte of a disk.
func hits(disk int, slot int, byteAt int, by int) raw {
	return raw{Kind: impl.EvSpoil, A: disk, B: slot, C: byteAt, D: by}
}

// hitsAt spoils a byte of a place.
func hitsAt(place impl.Place) raw {
	return hits(place.Disk, place.Slot, 1, 8)
}

// eventsOf are the events of all this.
func eventsOf(all ...happening) []impl.Event {
	var out []impl.Event
	for _, one := range all {
		out = append(out, one.event())
	}
	return out
}

// worldCopied is a world in new memory.
func worldCopied(w impl.World) impl.World {
	return impl.World{Pool: poolCopied(w.Pool), Kept: modelCopied(w.Kept), Maybe: modelCopied(w.Maybe), Now: modelCopied(w.Now), Wrong: w.Wrong}
}

// worldSame says whether two worlds are the same value.
func worldSame(a impl.World, b impl.World) bool {
	return a.Wrong == b.Wrong && poolSame(a.Pool, b.Pool) && modelSame(a.Kept, b.Kept) && modelSame(a.Maybe, b.Maybe) && modelSame(a.Now, b.Now)
}

// isNoWorld says whether a world is nothing.
func isNoWorld(w impl.World) bool {
	return worldSame(w, impl.World{})
}

// newWorld is a new world of so many disks.
func newWorld(t *testing.T, disks int) impl.World {
	t.Helper()
	w, ok := impl.WorldNew(disks)
	if !ok {
		t.Fatal("no world of", disks)
	}
	return w
}

// isWorld asks for a world.
func isWorld(t *testing.T, why string, got impl.World, want impl.World) {
	t.Helper()
	if !worldSame(got, want) {
		t.Errorf("%s:\n%v, not\n%v", why, got, want)
	}
}

// passed is a world behind all this, each leaving it ok, and nothing being found wrong.
func passed(t *testing.T, w impl.World, all ...happening) impl.World {
	t.Helper()
	for _, one := range all {
		w = impl.WorldDo(w, one.event())
		if !impl.WorldOk(w) || w.Wrong {
			t.Fatalf("%+v: ok %v, wrong %v: %v", one, impl.WorldOk(w), w.Wrong, w)
		}
	}
	return w
}

// changesNothing asks that a world is as it was behind each of these.
func changesNothing(t *testing.T, why string, w impl.World, all ...happening) {
	t.Helper()
	for _, one := range all {
		isWorld(t, fmt.Sprintf("%s: %+v", why, one), impl.WorldDo(w, one.event()), w)
	}
}

// changesAt asks that a world is behind something as it was but for what is changed here.
func changesAt(t *testing.T, why string, w impl.World, one happening, change func(*impl.World)) {
	t.Helper()
	want := worldCopied(w)
	change(&want)
	isWorld(t, fmt.Sprintf("%s: %+v", why, one), impl.WorldDo(w, one.event()), want)
}

// ofPool is a world with another pool.
func ofPool(w impl.World, p impl.Pool) impl.World {
	out := worldCopied(w)
	out.Pool = poolCopied(p)
	return out
}

// around is a world of an ok pool that is open, in which all is as it must be.
func around(t *testing.T, p impl.Pool) impl.World {
	t.Helper()
	return impl.World{Pool: poolCopied(p), Kept: keptOf(t, p), Maybe: keptOf(t, p), Now: seenOf(t, p)}
}

// changedWorld has a text that is kept and seen, one that is kept, and one that is seen.
func changedWorld(t *testing.T, disks int) impl.World {
	t.Helper()
	return passed(t, newWorld(t, disks), makes("a"), writes("a", 0, "stays"), writes("a", 1, "older"), commits(), writes("a", 1, "newer"), makes("b"), copies("a", "c"))
}

// opened is a world whose pool is open.
func opened(t *testing.T, w impl.World) impl.World {
	t.Helper()
	if w.Pool.Open {
		return w
	}
	out := passed(t, w, opens())
	if !out.Pool.Open {
		t.Fatalf("not open: %v", out)
	}
	return out
}

// okWorldSaid is WorldOk as the document says it, written out.
func okWorldSaid(w impl.World) bool {
	return okPoolSaid(w.Pool) && okModelSaid(w.Kept) && okModelSaid(w.Maybe) && okModelSaid(w.Now)
}

// deedIn is the deed of an event of one of the first four kinds.
func deedIn(e impl.Event) deed {
	return deed{kind: []string{"", "make", "drop", "copy", "write"}[e.Kind], name: e.Name, from: e.From, block: e.A, text: e.Text}
}

// openedSaid is what comes of EvOpen as the document says it, written out.
func openedSaid(w impl.World) impl.World {
	out := worldCopied(w)
	p, code := openSaid(w.Pool)
	switch code {
	case 0:
		found, _, _ := seenSaid(p)
		out = impl.World{Pool: p, Kept: found, Maybe: modelCopied(found), Now: modelCopied(found)}
		out.Wrong = w.Wrong || !modelSame(found, w.Kept) && !modelSame(found, w.Maybe)
	case 5:
		out.Wrong = true
	}
	return out
}

// isAloneSaid says whether there is such a disk, and no other one of an ok pool is harmed, written out.
func isAloneSaid(p impl.Pool, disk int) bool {
	for _, harmed := range harmSaid(p) {
		if harmed != disk {
			return false
		}
	}
	return disk >= 0 && disk < len(p.Disks)
}

// lostSaid is what comes of EvLose as the document says it, written out.
func lostSaid(w impl.World, e impl.Event) impl.World {
	out := worldCopied(w)
	if isAloneSaid(w.Pool, e.A) {
		out.Pool.Disks[e.A] = impl.DiskNew(1)
	}
	return out
}

// hitSaid is what comes of EvSpoil as the document says it, written out.
func hitSaid(w impl.World, e impl.Event) impl.World {
	out := worldCopied(w)
	if !isAloneSaid(w.Pool, e.A) {
		return out
	}
	if d := spoilSaid(w.Pool.Disks[e.A], e.B, e.C, e.D); len(d.Slots) > 0 {
		out.Pool.Disks[e.A] = d
	}
	return out
}

// worldSaid is WorldDo as the document says it, written out.
func worldSaid(w impl.World, e impl.Event) impl.World {
	if !okWorldSaid(w) {
		return impl.World{}
	}
	out := worldCopied(w)
	switch e.Kind {
	case 1, 2, 3, 4:
		if p, code := deedIn(e).said(w.Pool); code == 0 {
			out.Pool = p
			out.Now, _ = deedIn(e).thinkSaid(w.Now)
		}
	case 5:
		if p, code := commits().said(w.Pool); code == 0 {
			out.Pool, out.Kept, out.Maybe = p, modelCopied(w.Now), modelCopied(w.Now)
		}
	case 6:
		if p, steps := toSaid(w.Pool, e.A); e.A >= 0 && e.A <= steps && steps > 0 {
			out.Pool, out.Maybe = fallSaid(p, e.Keep), modelCopied(w.Now)
		}
	case 7:
		out.Pool = fallSaid(w.Pool, e.Keep)
	case 8:
		return openedSaid(w)
	case 9:
		return lostSaid(w, e)
	case 10, 11, 12:
		one := whole{kind: []string{"fresh", "scrub", "settle"}[e.Kind-10], at: e.A}
		if p, code := one.said(w.Pool); code == 0 {
			out.Pool = p
		}
	case 13:
		return hitSaid(w, e)
	}
	return out
}

// calmSaid is WorldCalm as the document says it, written out.
func calmSaid(w impl.World) impl.World {
	for disk := range w.Pool.Disks {
		w = worldSaid(w, impl.Event{Kind: 10, A: disk})
	}
	for _, kind := range []int{8, 11, 12} {
		w = worldSaid(w, impl.Event{Kind: kind})
	}
	return w
}

// noKinds are numbers of no kind.
func noKinds() []int {
	return append(farNumbers(), -13, -2, -1, 0, 14, 15, 26)
}

// anyHit spoils any byte of any disk; of most slots that one which is used.
func anyHit(r *rand.Rand, p impl.Pool) raw {
	places := append(impl.RootPlaces(len(p.Disks), p.Root), impl.RootPlaces(len(p.Disks), p.Work)...)
	place := impl.Place{Disk: r.Intn(len(p.Disks)), Slot: r.Intn(impl.SlotMax)}
	if len(places) > 0 && r.Intn(5) > 0 {
		place = places[r.Intn(len(places))]
	}
	return hits(place.Disk, place.Slot, r.Intn(impl.SecLen), 1+r.Intn(255))
}

// anyOdd is any event, with any numbers; most cannot be.
func anyOdd(r *rand.Rand) raw {
	some := []int{-1, 0, 1, 2, 3, 4, 5, 9, 11, 12, 13, 255, 256, math.MinInt, math.MaxInt}
	one := func() int { return some[r.Intn(len(some))] }
	return raw{Kind: r.Intn(17) - 1, A: one(), B: one(), C: one(), D: one(), Name: []string{"a", "", "new"}[r.Intn(3)], From: "b", Text: anyText(r, r.Intn(11)), Keep: anyKeep(r, 3)}
}

// anyHarm is any that happens to disks.
func anyHarm(r *rand.Rand, p impl.Pool) happening {
	disk := r.Intn(len(p.Disks))
	gone := slices.IndexFunc(p.Disks, func(d impl.Disk) bool { return d.State == impl.DiskGone })
	switch at := r.Intn(10); {
	case gone >= 0 && at < 5:
		return freshens(gone)
	case at == 0:
		return loses(disk)
	case at == 1:
		return freshens(disk)
	}
	return anyHit(r, p)
}

// anyHappening is anything that happens; most can be.
func anyHappening(r *rand.Rand, p impl.Pool) happening {
	disks := len(p.Disks)
	if !p.Open && r.Intn(2) > 0 {
		return []happening{opens(), opens(), opens(), falls(anyKeep(r, disks)...)}[r.Intn(4)]
	}
	switch at := r.Intn(40); {
	case at == 0 && len(p.Work.Vols) > 0:
		return copies(p.Work.Vols[r.Intn(len(p.Work.Vols))].Name, []string{"a", "b", "c", "zz"}[r.Intn(4)])
	case at < 15:
		return anyDeed(r, disks)
	case at < 19:
		return commits()
	case at < 21:
		return cuts(r.Intn(3*disks+1), anyKeep(r, disks)...)
	case at < 30:
		return anyHarm(r, p)
	case at < 33:
		return scrubs()
	case at < 36:
		return settles()
	case at == 36:
		return falls(anyKeep(r, disks)...)
	}
	return anyOdd(r)
}

// play is what happens one behind the other, and the worlds: the new one, and that behind each event.
type play struct {
	disks  int
	events []impl.Event
	worlds []impl.World
}

// plays are plays of as many events as there may be, in which anything happens, and no two disks are harmed at once.
func plays(t *testing.T, seed int64, count int) []play {
	t.Helper()
	r := rand.New(rand.NewSource(seed))
	var out []play
	for i := range count {
		one := play{disks: pools()[i%2]}
		w := newWorld(t, one.disks)
		one.worlds = []impl.World{w}
		for range impl.PlayMax {
			e := anyHappening(r, w.Pool).event()
			w = impl.WorldDo(w, e)
			one.events, one.worlds = append(one.events, e), append(one.worlds, w)
		}
		out = append(out, one)
	}
	return out
}

// worldsOf are worlds as they are while anything happens, one of so many.
func worldsOf(t *testing.T, seed int64, count int, nth int) []impl.World {
	t.Helper()
	var out []impl.World
	for _, one := range plays(t, seed, count) {
		for i := int(seed) % nth; i < len(one.worlds); i += nth {
			out = append(out, one.worlds[i])
		}
	}
	return out
}

// openWorlds are such of which the pool is open.
func openWorlds(t *testing.T, seed int64, count int, nth int) []impl.World {
	t.Helper()
	return slices.DeleteFunc(worldsOf(t, seed, count, nth), func(w impl.World) bool { return !w.Pool.Open })
}

// addWorld counts a world.
func (k kinds) addWorld(w impl.World) {
	k[fmt.Sprint("open ", w.Pool.Open)]++
	if w.Pool.Open {
		k.add(w.Pool)
	}
}

// isAsThought asks that what is seen of an open pool is Now, what is kept of it is Kept, and that all is read so.
func isAsThought(t *testing.T, why string, w impl.World) {
	t.Helper()
	isTold(t, why, w.Pool, w.Now, w.Kept)
	for _, name := range append(shelfNames(w.Now), "a", "zz", "") {
		for block := -1; block <= impl.BlockMax; block++ {
			text, code := impl.ModelRead(w.Now, name, block)
			isRead(t, why, w.Pool, name, block, text, code)
		}
	}
}

// isFound asks for what a world is opened with: nothing wrong, all that is thought the same, and that it is one of these.
func isFound(t *testing.T, why string, w impl.World, any ...impl.Model) {
	t.Helper()
	isAsThought(t, why, w)
	isModel(t, why+", Maybe", w.Maybe, w.Kept)
	isModel(t, why+", Now", w.Now, w.Kept)
	if !slices.ContainsFunc(any, func(m impl.Model) bool { return modelSame(m, w.Now) }) {
		t.Errorf("%s: %q is found, none of %q", why, w.Now, any)
	}
}

// isCalm asks that a pool is open, that no disk is harmed, and that nothing waits.
func isCalm(t *testing.T, why string, w impl.World) {
	t.Helper()
	if !w.Pool.Open || !hasNoWaits(w.Pool.Disks) || w.Wrong || !impl.WorldOk(w) {
		t.Errorf("%s: not calm: %v", why, w)
	}
	isHarmed(t, why, w.Pool)
}

// stops ends a test that has failed, so that it does not tell the same again and again.
func stops(t *testing.T) {
	t.Helper()
	if t.Failed() {
		t.FailNow()
	}
}

func TestEventKinds(t *testing.T) {
	got := []int{
		impl.EvMake, impl.EvDrop, impl.EvCopy, impl.EvWrite, impl.EvCommit, impl.EvCut, impl.EvCrash,
		impl.EvOpen, impl.EvLose, impl.EvFresh, impl.EvScrub, impl.EvSettle, impl.EvSpoil, impl.PlayMax,
	}
	if want := []int{1, 2, 3, 4, 5, 6, 7, 8, 9, 10, 11, 12, 13, 60}; !slices.Equal(got, want) {
		t.Error(got)
	}
}

// thoughtStep is something that happens, and what is thought behind it.
type thoughtStep struct {
	does             happening
	open             bool
	kept, maybe, now impl.Model
}

// thoughtPlay is one play, with what is thought behind each event.
func thoughtPlay(disks int) []thoughtStep {
	none, one, other := impl.Model{}, modelWith(shelf("a", "one")), modelWith(shelf("c"))
	two := modelWith(shelf("a", "two"), shelf("b", "one"))
	return []thoughtStep{
		{makes("a"), true, none, none, modelWith(shelf("a"))},
		{writes("a", 0, "one"), true, none, none, one},
		{makes("a"), true, none, none, one},
		{commits(), true, one, one, one},
		{copies("a", "b"), true, one, one, modelWith(shelf("a", "one"), shelf("b", "one"))},
		{writes("a", 0, "two"), true, one, one, two},
		{cuts(disks), false, one, two, two},
		{makes("c"), false, one, two, two},
		{commits(), false, one, two, two},
		{cuts(3 * disks), false, one, two, two},
		{falls(1, 1, 1), false, one, two, two},
		{loses(0), false, one, two, two},
		{freshens(0), false, one, two, two},
		{scrubs(), false, one, two, two},
		{opens(), true, one, one, one},
		{scrubs(), true, one, one, one},
		{settles(), true, one, one, one},
		{drops("a"), true, one, one, none},
		{cuts(disks+1, 1), false, one, none, none},
		{opens(), true, none, none, none},
		{copies("a", "c"), true, none, none, none},
		{makes("c"), true, none, none, other},
		{falls(), false, none, none, other},
		{opens(), true, none, none, none},
		{makes("c"), true, none, none, other},
		{cuts(3 * disks), false, none, other, other},
		{falls(), false, none, other, other},
		{opens(), true, other, other, other},
		{hits(1, 0, 2, 255), true, other, other, other},
		{commits(), true, other, other, other},
	}
}

func TestAWorldWrittenOut(t *testing.T) {
	for _, disks := range pools() {
		w := newWorld(t, disks)
		for i, step := range thoughtPlay(disks) {
			w = passed(t, w, step.does)
			want := impl.World{Pool: w.Pool, Kept: step.kept, Maybe: step.maybe, Now: step.now}
			isWorld(t, fmt.Sprintf("event %d, %+v", i, step.does), w, want)
			if w.Pool.Open != step.open {
				t.Errorf("event %d, %+v: open %v", i, step.does, w.Pool.Open)
			}
		}
	}
}

// Promise 73.
func TestP73ANewWorld(t *testing.T) {
	for _, disks := range pools() {
		w, ok := impl.WorldNew(disks)
		if !ok || !impl.WorldOk(w) || w.Wrong || !isNoModel(w.Kept) || !isNoModel(w.Maybe) || !isNoModel(w.Now) || !poolSame(w.Pool, newPool(t, disks)) {
			t.Errorf("%d disks: %v, %v", disks, ok, w)
		}
		isAsThought(t, "new", w)
		isWorld(t, "no events", impl.WorldDo(w, impl.Event{}), w)
	}
	for _, disks := range noPools() {
		if w, ok := impl.WorldNew(disks); ok || !isNoWorld(w) || impl.WorldOk(w) {
			t.Errorf("%d disks: %v, %v", disks, ok, w)
		}
	}
}

// Promise 74.
func TestP74APlayIsOneEventBehindTheOther(t *testing.T) {
	for _, one := range plays(t, 740, 8) {
		for count, want := range one.worlds {
			w, ok := impl.WorldPlay(one.disks, one.events[:count])
			if !ok || !worldSame(w, want) {
				t.Fatalf("%d events: %v, %v, not %v", count, ok, w, want)
			}
		}
		// The order counts.
		turned := slices.Clone(one.events)
		slices.Reverse(turned)
		want := newWorld(t, one.disks)
		for _, e := range turned {
			want = impl.WorldDo(want, e)
		}
		if w, ok := impl.WorldPlay(one.disks, turned); !ok || !worldSame(w, want) {
			t.Errorf("the other way about: %v, %v, not %v", ok, w, want)
		}
	}
}

// Promise 74.
func TestP74AsManyEventsAsThereMayBe(t *testing.T) {
	commit := impl.Event{Kind: impl.EvCommit}
	for _, disks := range append(noPools(), pools()...) {
		for _, count := range []int{0, 1, 2, impl.PlayMax - 1, impl.PlayMax, impl.PlayMax + 1, impl.PlayMax + 2, 1000} {
			w, ok := impl.WorldPlay(disks, slices.Repeat([]impl.Event{commit}, count))
			if want := slices.Contains(pools(), disks) && count <= 60; ok != want || !ok && !isNoWorld(w) || ok && w.Pool.Root.Txg != count {
				t.Errorf("%d disks, %d events: %v, %v", disks, count, ok, w)
			}
			// Events that change nothing count, too.
			if _, ok := impl.WorldPlay(disks, make([]impl.Event, count)); ok != (slices.Contains(pools(), disks) && count <= 60) {
				t.Errorf("%d disks, %d events of no kind: %v", disks, count, ok)
			}
		}
	}
}

// isRight asks for all that must hold behind any events: nothing was found wrong, and, opened, all is as thought, and at most one disk is harmed.
func isRight(t *testing.T, why string, w impl.World) {
	t.Helper()
	if w.Wrong || !impl.WorldOk(w) || !impl.PoolOk(w.Pool) {
		t.Fatalf("%s: wrong %v, ok %v: %v", why, w.Wrong, impl.WorldOk(w), w)
	}
	out := opened(t, w)
	isTold(t, why, out.Pool, out.Now, out.Kept)
	if !w.Pool.Open {
		isFound(t, why, out, w.Kept, w.Maybe)
	}
	if harmed := impl.PoolHarm(out.Pool); len(harmed) > 1 {
		t.Errorf("%s: %v are harmed: %v", why, harmed, out)
	}
	stops(t)
}

// Promises 75, 76 and 77.
func TestP75NeverIsAnythingFoundWrong(t *testing.T) {
	count := kinds{}
	for _, one := range plays(t, 750, 140) {
		for i, w := range one.worlds {
			isRight(t, fmt.Sprint("behind ", i, " events"), w)
			count.addWorld(w)
			if i > 0 {
				count[fmt.Sprint("kind ", one.events[i-1].Kind, " ", !worldSame(w, one.worlds[i-1]))]++
			}
		}
	}
	count.ofEachKind(t, 100)
	count.atLeast(t, 100, "open true", "open false")
	for kind := range 13 {
		count.atLeast(t, 25, fmt.Sprint("kind ", kind+1, " true"), fmt.Sprint("kind ", kind+1, " false"))
	}
}

// shortEvents are some events that may happen to a pool in which a text is kept, and another one seen.
func shortEvents(disks int) []happening {
	last := disks - 1
	return []happening{
		writes("a", 0, "again"), drops("a"), copies("a", "b"), commits(), cuts(disks+2, 0, 1), cuts(2*disks, 0, 0, 1), cuts(disks-1, 1, 1, 1), falls(1, 0, 1), opens(),
		loses(0), loses(last), freshens(0), freshens(last), scrubs(), settles(), hits(0, 0, 0, 1), hits(1, 0, 1, 2), hits(1, 1, 2, 3),
	}
}

// Promises 75, 76 and 77: each of some events, behind each of them, behind each of them.
func TestP75EveryShortPlay(t *testing.T) {
	for _, disks := range pools() {
		all := eventsOf(shortEvents(disks)...)
		start := passed(t, newWorld(t, disks), makes("a"), writes("a", 0, "older"), commits(), writes("a", 0, "newer"))
		var goesOn func(w impl.World, more int)
		goesOn = func(w impl.World, more int) {
			isRight(t, "a short play", w)
			if more == 0 {
				return
			}
			for _, e := range all {
				if out := impl.WorldDo(w, e); !worldSame(out, w) {
					goesOn(out, more-1)
				}
			}
		}
		goesOn(start, 7-disks)
	}
}

// Promise 75: one falls within keeping all, and again within keeping all what was changed then.
func TestP75AFallWithinAndAnotherOneInTheNext(t *testing.T) {
	count := kinds{}
	for _, disks := range pools() {
		keeps := append(eachKeep(disks, 1), allKept(), []int{2, 5, 3}, []int{-1, 1})
		w := changedWorld(t, disks)
		for first := range 3*disks + 1 {
			for i, keep := range keeps {
				once := passed(t, w, cuts(first, keep...), opens())
				isFound(t, "the first", once, w.Kept, w.Now)
				again := passed(t, once, writes("a", 2, "again"), drops("c"))
				for second := (first + i) % 3; second <= 3*disks; second += 3 {
					twice := passed(t, again, cuts(second, keeps[(i+first+5*second)%len(keeps)]...), opens())
					isFound(t, "the second", twice, again.Kept, again.Now)
					isCalm(t, "the second", twice)
					count[fmt.Sprint(modelSame(once.Now, w.Now), modelSame(twice.Now, again.Now))]++
				}
				stops(t)
			}
		}
	}
	count.atLeast(t, 200, "true true", "true false", "false true", "false false")
}

// Promise 75: what was to be kept came on one disk alone, and that is lost, or spoilt, or made fresh, ahead of opening.
func TestP75AFallWithinAndADiskThatIsHarmedThen(t *testing.T) {
	for _, disks := range pools() {
		w := changedWorld(t, disks)
		for disk := range disks {
			keep := make([]int, disks)
			keep[disk] = 1
			cut := passed(t, w, cuts(2*disks, keep...))
			isFound(t, "as it is", passed(t, cut, opens()), w.Now)
			lost := passed(t, cut, loses(disk))
			isFound(t, "lost", passed(t, lost, opens()), w.Kept)
			fresh := passed(t, lost, freshens(disk), opens())
			isFound(t, "fresh", fresh, w.Kept)
			isCalm(t, "fresh", passed(t, fresh, scrubs(), settles()))
			for slot := range impl.SlotMax {
				isFound(t, "spoilt", passed(t, cut, hits(disk, slot, 0, 1), opens()), w.Now)
			}
			other := (disk + 1) % disks
			isFound(t, "another one lost", passed(t, cut, loses(other), opens()), w.Now)
			isFound(t, "another one lost, and then it, which cannot be", passed(t, cut, loses(other), loses(disk), opens()), w.Now)
		}
	}
}

// Promise 76.
func TestP76AllIsAsOneThinks(t *testing.T) {
	count := kinds{}
	for _, w := range worldsOf(t, 760, 40, 3) {
		count.addWorld(w)
		isAsThought(t, "opened", opened(t, w))
		stops(t)
	}
	count.ofEachKind(t, 20)
	count.atLeast(t, 50, "open true", "open false")
}

// Promise 77.
func TestP77AtMostOneDiskIsHarmed(t *testing.T) {
	r := rand.New(rand.NewSource(77))
	count := kinds{}
	for _, w := range worldsOf(t, 770, 60, 4) {
		// Again and again one more is to be harmed.
		for range 8 {
			w = passed(t, w, anyHarm(r, w.Pool))
			harmed := impl.PoolHarm(opened(t, w).Pool)
			if count[fmt.Sprint("harmed ", len(harmed))]++; len(harmed) > 1 {
				t.Fatalf("%v are harmed: %v", harmed, w)
			}
		}
		count.addWorld(w)
	}
	count.atLeast(t, 100, "open true", "open false", "harmed 0", "harmed 1")
}

// Promise 78.
func TestP78ItComesToBeCalm(t *testing.T) {
	count := kinds{}
	for _, w := range worldsOf(t, 780, 60, 2) {
		count.addWorld(w)
		out := impl.WorldCalm(w)
		isCalm(t, "calm", out)
		isAsThought(t, "calm", out)
		want := opened(t, w)
		isModel(t, "seen", out.Now, want.Now)
		isModel(t, "kept", out.Kept, want.Kept)
		if w.Pool.Open {
			isModel(t, "seen, as it was open", seenOf(t, out.Pool), seenOf(t, w.Pool))
		}
		stops(t)
	}
	count.ofEachKind(t, 30)
	count.atLeast(t, 100, "open true", "open false")
}

// Promise 79.
func TestP79WhatWasKeptIsFound(t *testing.T) {
	r := rand.New(rand.NewSource(79))
	count := kinds{}
	for _, w := range openWorlds(t, 790, 50, 2) {
		count.addWorld(w)
		seen := seenOf(t, w.Pool)
		for _, keep := range [][]int{nil, allKept(), anyKeep(r, len(w.Pool.Disks))} {
			out := passed(t, w, commits(), falls(keep...), opens())
			isFound(t, "all kept, and fallen", out, seen)
		}
		stops(t)
	}
	count.ofEachKind(t, 30)
}

// Promise 80.
func TestP80AllOrNothingAtEachStep(t *testing.T) {
	r := rand.New(rand.NewSource(80))
	count := kinds{}
	for _, w := range openWorlds(t, 800, 40, 13) {
		count.addWorld(w)
		kept, seen := keptOf(t, w.Pool), seenOf(t, w.Pool)
		steps := 3 * len(w.Pool.Disks)
		for at := range steps + 1 {
			for _, keep := range [][]int{nil, allKept(), anyKeep(r, len(w.Pool.Disks)), anyKeep(r, len(w.Pool.Disks))} {
				cut := passed(t, w, cuts(at, keep...))
				isModel(t, "Kept", cut.Kept, kept)
				isModel(t, "Maybe", cut.Maybe, seen)
				out := passed(t, cut, opens())
				want := kept
				if at == steps || comes(w.Pool, at, keep) {
					want = seen
				}
				isFound(t, fmt.Sprint(at, " steps, keep ", keep), out, want)
				count[fmt.Sprint("all ", modelSame(out.Now, seen), ", nothing ", modelSame(out.Now, kept))]++
			}
			stops(t)
		}
	}
	count.ofEachKind(t, 5)
	count.atLeast(t, 200, "all true, nothing false", "all false, nothing true")
}

// Promise 81.
func TestP81WithoutAnyOneDisk(t *testing.T) {
	for _, w := range worldsOf(t, 810, 40, 5) {
		calm := impl.WorldCalm(w)
		for disk := range calm.Pool.Disks {
			lost := passed(t, calm, loses(disk))
			isHarmed(t, "lost", lost.Pool, disk)
			if !diskSame(lost.Pool.Disks[disk], impl.DiskNew(impl.DiskGone)) {
				t.Errorf("disk %d is not gone: %v", disk, lost.Pool.Disks[disk])
			}
			isTold(t, "lost", lost.Pool, calm.Now, calm.Kept)
			fresh := passed(t, lost, freshens(disk))
			isHarmed(t, "fresh", fresh.Pool, disk)
			isTold(t, "fresh", fresh.Pool, calm.Now, calm.Kept)
			out := impl.WorldCalm(fresh)
			isCalm(t, "fresh, and calm", out)
			isTold(t, "fresh, and calm", out.Pool, calm.Now, calm.Kept)
			// WorldCalm puts a fresh one there itself.
			isWorld(t, "lost, and calm", impl.WorldCalm(lost), out)
		}
		stops(t)
	}
}

// needsOpen are events that need a pool that is open.
func needsOpen() []happening {
	return []happening{
		makes("new"), makes("a"), makes(""), drops("a"), drops("no"), copies("a", "new"), copies("no", "new"), writes("a", 0, "x"), writes("a", 1, ""), writes("no", 0, "x"),
		commits(), cuts(0), cuts(1, 1), cuts(9, 1, 1, 1), cuts(12), cuts(-1), cuts(100), scrubs(), settles(),
	}
}

// noEvents are events of no kind, or of a disk, a slot, a byte or bits that there are none of.
func noEvents(disks int) []happening {
	var out []happening
	for _, kind := range noKinds() {
		out = append(out, raw{Kind: kind}, raw{Kind: kind, A: 1, B: 1, C: 1, D: 1, Name: "new", From: "a", Text: "x", Keep: allKept()})
	}
	for _, disk := range noDisks(disks) {
		out = append(out, loses(disk), freshens(disk), hits(disk, 0, 0, 1))
	}
	for disk := range disks {
		for _, slot := range noSlots() {
			out = append(out, hits(disk, slot, 0, 1))
		}
		for _, byteAt := range append(farNumbers(), -1, impl.SecLen, impl.SecLen+1) {
			out = append(out, hits(disk, 0, byteAt, 1))
		}
		for _, by := range append(farNumbers(), -256, -255, -1, 0, 256, 257, 512) {
			out = append(out, hits(disk, 0, 0, by))
		}
	}
	return out
}

// Promise 82.
func TestP82WhatCannotBeChangesNothing(t *testing.T) {
	count := kinds{}
	for _, w := range worldsOf(t, 820, 20, 7) {
		count.addWorld(w)
		changesNothing(t, "cannot be", w, noEvents(len(w.Pool.Disks))...)
		if !w.Pool.Open {
			changesNothing(t, "shut", w, needsOpen()...)
		} else {
			changesNothing(t, "open already", w, opens())
			changesNothing(t, "no such steps", w, cuts(-1), cuts(3*len(w.Pool.Disks)+1), cuts(math.MinInt), cuts(math.MaxInt))
		}
		stops(t)
	}
	count.atLeast(t, 20, "open true", "open false")
}

// Promise 83.
func TestP83ACopyStays(t *testing.T) {
	r := rand.New(rand.NewSource(83))
	count := kinds{}
	for _, w := range worldsOf(t, 830, 60, 3) {
		w = opened(t, w)
		if len(w.Now.Shelves) == 0 {
			continue
		}
		from := w.Now.Shelves[r.Intn(len(w.Now.Shelves))]
		if len(w.Now.Shelves) == impl.VolMax {
			other := slices.IndexFunc(w.Now.Shelves, func(s impl.Shelf) bool { return s.Name != from.Name })
			w = passed(t, w, drops(w.Now.Shelves[other].Name))
		}
		copied := passed(t, w, copies(from.Name, "cp"))
		over := copied
		for block := range impl.BlockMax {
			over = passed(t, over, writes(from.Name, block, []string{"over", anyText(r, 3), ""}[r.Intn(3)]))
		}
		out := passed(t, over, commits(), falls(anyKeep(r, len(w.Pool.Disks))...), opens())
		for block, text := range from.Blocks {
			isRead(t, "the copy", out.Pool, "cp", block, text, impl.CodeFine)
			text, _ = impl.PoolRead(over.Pool, from.Name, block)
			isRead(t, "written over", out.Pool, from.Name, block, text, impl.CodeFine)
		}
		count[fmt.Sprint("changed ", !modelSame(over.Now, copied.Now))]++
		stops(t)
	}
	count.atLeast(t, 200, "changed true")
}

// Promise 84.
func TestP84WithAnyOneByteSpoilt(t *testing.T) {
	r := rand.New(rand.NewSource(84))
	count := kinds{}
	for _, w := range worldsOf(t, 840, 24, 20) {
		calm := impl.WorldCalm(w)
		for _, place := range allPlaces(len(calm.Pool.Disks)) {
			for byteAt := range impl.SecLen {
				out := passed(t, calm, hits(place.Disk, place.Slot, byteAt, 1+r.Intn(255)))
				d := out.Pool.Disks[place.Disk]
				if d.Spoilt[place.Slot] != (d.Slots[place.Slot] != "") {
					t.Fatalf("%v is not spoilt: %v", place, d)
				}
				isTold(t, "spoilt", out.Pool, calm.Now, calm.Kept)
				harmed := impl.PoolHarm(out.Pool)
				count[fmt.Sprint("harmed ", len(harmed))]++
				out = passed(t, out, scrubs(), settles())
				isCalm(t, "spoilt, scrubbed and settled", out)
				isTold(t, "spoilt, scrubbed and settled", out.Pool, calm.Now, calm.Kept)
			}
			stops(t)
		}
	}
	count.atLeast(t, 100, "harmed 0", "harmed 1")
}

// Promise 85.
func TestP85CalmTwiceIsOnce(t *testing.T) {
	count := kinds{}
	for _, w := range worldsOf(t, 850, 40, 3) {
		count.addWorld(w)
		out := impl.WorldCalm(w)
		isWorld(t, "calm twice", impl.WorldCalm(out), out)
		isWorld(t, "as said", out, calmSaid(w))
		stops(t)
	}
	count.ofEachKind(t, 10)
	count.atLeast(t, 50, "open true", "open false")
}

// Promise 86.
func TestP86WhatIsKeptIsFound(t *testing.T) {
	r := rand.New(rand.NewSource(86))
	count := kinds{}
	for _, w := range openWorlds(t, 860, 50, 2) {
		count.addWorld(w)
		for _, keep := range [][]int{nil, allKept(), anyKeep(r, len(w.Pool.Disks)), anyKeep(r, len(w.Pool.Disks))} {
			out := passed(t, w, falls(keep...), opens())
			isFound(t, "fallen", out, w.Kept)
			isModel(t, "seen", seenOf(t, out.Pool), keptOf(t, w.Pool))
		}
		stops(t)
	}
	count.ofEachKind(t, 30)
}

// isNoWorldOk asks that a world is not ok, and that all that is asked of it is nothing.
func isNoWorldOk(t *testing.T, why string, w impl.World) {
	t.Helper()
	if impl.WorldOk(w) || okWorldSaid(w) {
		t.Errorf("%s: ok", why)
	}
	all := append(shortEvents(3), makes("new"), makes(""), opens(), raw{}, raw{Kind: -1}, raw{Kind: 14}, loses(-1), hits(9, 0, 0, 0))
	for _, one := range all {
		if out := impl.WorldDo(w, one.event()); !isNoWorld(out) {
			t.Errorf("%s: %+v: %v", why, one, out)
		}
	}
	if out := impl.WorldCalm(w); !isNoWorld(out) {
		t.Errorf("%s: calm: %v", why, out)
	}
}

func TestWorldsThatAreNotOk(t *testing.T) {
	isNoWorldOk(t, "nothing", impl.World{})
	isNoWorldOk(t, "nothing, wrong", impl.World{Wrong: true})
	for why, p := range notOkPools(t) {
		isNoWorldOk(t, why, impl.World{Pool: p})
	}
	for _, w := range []impl.World{newWorld(t, 3), changedWorld(t, 4), passed(t, changedWorld(t, 3), falls())} {
		for why, m := range wrongModels() {
			for which := range 3 {
				other := worldCopied(w)
				*[]*impl.Model{&other.Kept, &other.Maybe, &other.Now}[which] = m
				isNoWorldOk(t, fmt.Sprint(why, ", model ", which), other)
			}
		}
		for _, m := range okModels() {
			for _, other := range []impl.World{{Pool: w.Pool, Kept: m}, {Pool: w.Pool, Maybe: m}, {Pool: w.Pool, Now: m}, {Pool: w.Pool, Kept: m, Maybe: m, Now: m, Wrong: true}} {
				if !impl.WorldOk(other) || !okWorldSaid(other) {
					t.Errorf("not ok: %v", other)
				}
				isWorld(t, "ok", impl.WorldDo(other, impl.Event{}), other)
			}
		}
	}
}

// hasPoolCode asks for the code that the pool's own has of a deed, and what comes of it in a world whose models are others.
func hasPoolCode(t *testing.T, w impl.World, d deed, code int) {
	t.Helper()
	p, got := d.do(w.Pool)
	if got != code {
		t.Fatalf("%+v: code %d, not %d", d, got, code)
	}
	if code != impl.CodeFine {
		changesNothing(t, fmt.Sprint("code ", code), w, d)
		return
	}
	changesAt(t, "fine", w, d, func(want *impl.World) {
		want.Pool = p
		want.Now, _ = d.think(want.Now)
	})
}

func TestWorldsOfEachPoolCode(t *testing.T) {
	for _, disks := range pools() {
		one := around(t, fine(t, after(t, newPool(t, disks), makes("a"), writes("a", 1, "hello")), commits()))
		full, crowded := passed(t, one, makes("b"), makes("c"), makes("d")), around(t, crowdedPool(t, disks))
		twoGone := around(t, after(t, replaced(replaced(newPool(t, disks), 0, impl.DiskNew(impl.DiskGone)), 1, impl.DiskNew(impl.DiskGone)), makes("a")))
		for _, c := range []struct {
			w    impl.World
			d    deed
			code int
		}{
			{one, makes("b"), impl.CodeFine}, {one, makes("a"), impl.CodeName}, {one, makes(""), impl.CodeName}, {full, makes("e"), impl.CodeFull}, {full, makes("a"), impl.CodeName},
			{one, drops("a"), impl.CodeFine}, {one, drops("b"), impl.CodeNone}, {full, drops("d"), impl.CodeFine},
			{one, copies("a", "b"), impl.CodeFine}, {one, copies("b", "c"), impl.CodeNone}, {one, copies("a", "a"), impl.CodeName}, {one, copies("a", "?"), impl.CodeName}, {full, copies("a", "e"), impl.CodeFull},
			{one, writes("a", 0, "x"), impl.CodeFine}, {one, writes("a", 1, ""), impl.CodeFine}, {one, writes("a", 2, noughts(longest(disks))), impl.CodeFine},
			{one, writes("b", 0, "x"), impl.CodeNone}, {one, writes("a", 3, "x"), impl.CodeBad}, {one, writes("a", -1, ""), impl.CodeBad}, {one, writes("a", 0, noughts(longest(disks)+1)), impl.CodeBad},
			{crowded, writes("a", 0, "x"), impl.CodeFull}, {crowded, writes("a", 0, ""), impl.CodeFine}, {twoGone, writes("a", 0, "x"), impl.CodeLost}, {twoGone, writes("a", 0, ""), impl.CodeFine},
		} {
			hasPoolCode(t, c.w, c.d, c.code)
			// Now is another one: what its own refuses leaves it, and what the pool's own refuses does not change it.
			for _, now := range []impl.Model{{}, modelWith(shelf("a", "other")), modelWith(shelf("b"), shelf("e")), modelWith(shelf("n"), shelf("e"), shelf("f"), shelf("g"))} {
				hasPoolCode(t, impl.World{Pool: c.w.Pool, Kept: modelWith(shelf("k")), Maybe: modelWith(shelf("m")), Now: now, Wrong: true}, c.d, c.code)
			}
			// The same of a pool that is shut.
			down := passed(t, c.w, falls())
			if _, code := c.d.do(down.Pool); code != impl.CodeShut {
				t.Errorf("shut: %+v: code %d", c.d, code)
			}
			changesNothing(t, "shut", down, c.d)
		}
	}
}

// apartModels is a world in which all three models are others, and none is what the pool has.
func apartModels(p impl.Pool) impl.World {
	return impl.World{Pool: poolCopied(p), Kept: modelWith(shelf("k", "1")), Maybe: modelWith(shelf("m", "2")), Now: modelWith(shelf("n", "3"))}
}

func TestKeepingAllInAWorld(t *testing.T) {
	for _, disks := range pools() {
		for _, p := range []impl.Pool{newPool(t, disks), changedPool(t, disks), replaced(changedPool(t, disks), 1, impl.DiskNew(impl.DiskGone)), ofTurn(changedPool(t, disks), impl.TxgMax-1)} {
			w := apartModels(p)
			changesAt(t, "all kept", w, commits(), func(want *impl.World) {
				want.Pool, want.Kept, want.Maybe = fine(t, p, commits()), w.Now, w.Now
			})
			changesNothing(t, "shut", passed(t, w, falls()), commits())
		}
		// Once more it cannot be.
		for _, p := range []impl.Pool{ofTurn(newPool(t, disks), impl.TxgMax), ofTurn(changedPool(t, disks), impl.TxgMax), after(t, ofTurn(changedPool(t, disks), impl.TxgMax), writes("a", 0, "more"))} {
			changesNothing(t, "the last turn", apartModels(p), commits(), cuts(0), cuts(1), cuts(disks+1, 1), cuts(3*disks), cuts(3*disks+1), cuts(-1))
		}
		last := passed(t, around(t, ofTurn(changedPool(t, disks), impl.TxgMax-1)), commits())
		if last.Pool.Root.Txg != 100000 {
			t.Error(last.Pool.Root)
		}
		// All else goes on.
		out := passed(t, last, drops("a"), commits(), cuts(3*disks), falls(), opens(), scrubs(), settles(), loses(0), freshens(0))
		isFound(t, "the last turn", out, last.Kept)
		last = passed(t, around(t, ofTurn(changedPool(t, disks), impl.TxgMax-1)), cuts(3*disks), opens())
		if last.Pool.Root.Txg != 100000 {
			t.Error(last.Pool.Root)
		}
	}
}

func TestEachCutInAWorld(t *testing.T) {
	for _, disks := range pools() {
		for _, p := range []impl.Pool{newPool(t, disks), changedPool(t, disks), replaced(changedPool(t, disks), 1, impl.DiskNew(impl.DiskGone))} {
			w := apartModels(p)
			for _, keep := range [][]int{nil, {}, {1}, {0, 1}, {1, 1, 1}, {7, 7, 7, 7, 7, 7}, {-1, 3, -2, 5}, {math.MinInt, math.MaxInt}, allKept()} {
				for steps := range 3*disks + 1 {
					changesAt(t, "cut", w, cuts(steps, keep...), func(want *impl.World) {
						want.Pool, want.Maybe = fallSaid(impl.PoolTo(p, steps), keep), w.Now
					})
				}
				for _, steps := range append(farNumbers(), -1, -2, 3*disks+1, 3*disks+2) {
					changesNothing(t, "no such steps", w, cuts(steps, keep...))
				}
				changesAt(t, "fallen", w, falls(keep...), func(want *impl.World) { want.Pool = fallSaid(p, keep) })
				down := passed(t, w, falls(keep...))
				changesNothing(t, "fallen already", down, falls(keep...), falls(), cuts(0, keep...), cuts(1))
				// A pool that is shut, made by hand, may have writes that wait.
				busy := ofPool(w, shut(p))
				changesAt(t, "shut", busy, falls(keep...), func(want *impl.World) { want.Pool = fallSaid(p, keep) })
			}
		}
	}
}

func TestFallsWithFewWritesThatCome(t *testing.T) {
	for _, disks := range pools() {
		w := passed(t, newWorld(t, disks), makes("a"), writes("a", 0, "one"), writes("a", 1, noughts(longest(disks))), commits(), writes("a", 0, "two"), writes("a", 2, "three"), drops("a"))
		for _, keep := range eachKeep(disks, 5-disks) {
			isFound(t, fmt.Sprint(keep), passed(t, w, falls(keep...), opens()), w.Kept)
		}
		if len(w.Kept.Shelves) != 1 || len(w.Now.Shelves) != 0 {
			t.Error(w)
		}
	}
}

// opensAs is what comes of opening a world in which these models are thought of, and asks whether anything is found wrong.
func opensAs(t *testing.T, why string, p impl.Pool, kept impl.Model, maybe impl.Model, wrong bool) {
	t.Helper()
	open := fine(t, p, opens())
	found := seenOf(t, open)
	for _, now := range []impl.Model{{}, found, modelWith(shelf("n", "3"))} {
		for _, before := range []bool{false, true} {
			w := impl.World{Pool: p, Kept: kept, Maybe: maybe, Now: now, Wrong: before}
			// What was found wrong once stays so.
			isWorld(t, why, impl.WorldDo(w, impl.Event{Kind: impl.EvOpen}), impl.World{Pool: open, Kept: found, Maybe: found, Now: found, Wrong: wrong || before})
		}
	}
}

func TestOpeningInAWorld(t *testing.T) {
	for _, disks := range pools() {
		p := fine(t, changedPool(t, disks), commits())
		found, down := seenOf(t, p), fine(t, p, falls())
		opensAs(t, "Kept and Maybe", down, found, found, false)
		opensAs(t, "Kept", down, found, modelWith(shelf("m")), false)
		opensAs(t, "Maybe", down, modelWith(shelf("k")), found, false)
		opensAs(t, "neither", down, modelWith(shelf("k")), modelWith(shelf("m")), true)
		opensAs(t, "neither, without volumes", down, impl.Model{}, impl.Model{}, true)
		turned := modelCopied(found)
		slices.Reverse(turned.Shelves)
		others := []impl.Model{turned, modelWith(found.Shelves[1:]...), modelWith(found.Shelves[:2]...), modelWith(append(modelCopied(found).Shelves, shelf("e"))...)}
		for at := range found.Shelves {
			named := modelCopied(found)
			named.Shelves[at].Name = "zzz"
			others = append(others, named)
			for block := range impl.BlockMax {
				written := modelCopied(found)
				written.Shelves[at].Blocks[block] += "\x00"
				others = append(others, written)
			}
		}
		for _, other := range others {
			opensAs(t, "but for one thing", down, other, other, true)
			opensAs(t, "but for one thing, Maybe", down, found, other, false)
			opensAs(t, "but for one thing, Kept", down, other, found, false)
		}
		opensAs(t, "no volumes", fine(t, newPool(t, disks), falls()), impl.Model{Shelves: []impl.Shelf{}}, modelWith(shelf("m")), false)
		for _, wrong := range []bool{false, true} {
			w := apartModels(p)
			w.Wrong = wrong
			changesNothing(t, "open already", w, opens())
		}
	}
}

func TestOpeningInAWorldWhatCannotBeOpened(t *testing.T) {
	for _, disks := range pools() {
		p := fine(t, changedPool(t, disks), commits())
		gone := shut(replaced(replaced(p, 0, impl.DiskNew(impl.DiskGone)), 1, impl.DiskNew(impl.DiskGone)))
		for why, p := range map[string]impl.Pool{
			"without rings": shut(withoutRings(p)), "nothing": {Disks: poolOf(disks, impl.DiskLive)}, "all gone": {Disks: poolOf(disks, impl.DiskGone)}, "all fresh": {Disks: poolOf(disks, impl.DiskFresh)},
			"two gone": gone, "two columns are others": shut(overrun(p, blockAt(t, p, "a", 0), 2, false)),
		} {
			w := apartModels(p)
			changesAt(t, why, w, opens(), func(want *impl.World) { want.Wrong = true })
			wrong := impl.WorldDo(w, opens().event())
			changesNothing(t, why+", again", wrong, opens())
			changesNothing(t, why, w, needsOpen()...)
			// Calm, it is shut still.
			out := impl.WorldCalm(w)
			if !out.Wrong || out.Pool.Open || !modelSame(out.Now, w.Now) || !modelSame(out.Kept, w.Kept) || !modelSame(out.Maybe, w.Maybe) {
				t.Errorf("%s: calm: %v", why, out)
			}
			isWorld(t, why, out, calmSaid(w))
		}
	}
}

func TestHarmInAWorld(t *testing.T) {
	for _, disks := range pools() {
		p := arrived(changedPool(t, disks))
		kept := blockAt(t, p, "a", 0).Places[0]
		for disk := range disks {
			other := (disk + 1) % disks
			for _, open := range []bool{true, false} {
				w := apartModels(p)
				if !open {
					w = apartModels(shut(p))
				}
				gone, fresh := replaced(w.Pool, disk, impl.DiskNew(impl.DiskGone)), replaced(w.Pool, disk, impl.DiskNew(impl.DiskFresh))
				lost := ofPool(w, gone)
				isWorld(t, "lost", impl.WorldDo(w, loses(disk).event()), lost)
				changesNothing(t, "not gone", w, freshens(disk), freshens(other))
				changesNothing(t, "gone", lost, loses(disk), loses(other), hits(disk, 0, 0, 1), hits(other, 0, 0, 1), freshens(other))
				isWorld(t, "fresh", impl.WorldDo(lost, freshens(disk).event()), ofPool(w, fresh))
				changesNothing(t, "fresh", ofPool(w, fresh), freshens(disk), loses(other), hits(disk, 0, 0, 1), hits(other, 0, 0, 1))
				isWorld(t, "fresh, and lost", impl.WorldDo(ofPool(w, fresh), loses(disk).event()), lost)
			}
		}
		// Spoilt while none is harmed, while it is, and while another one is.
		w := apartModels(p)
		for byteAt := range impl.SecLen {
			for _, by := range []int{1, 2, 128, 254, 255} {
				want := replaced(p, kept.Disk, spoilSaid(p.Disks[kept.Disk], kept.Slot, byteAt, by))
				isWorld(t, "spoilt", impl.WorldDo(w, hits(kept.Disk, kept.Slot, byteAt, by).event()), ofPool(w, want))
			}
		}
		hurt := passed(t, w, hitsAt(kept))
		isWorld(t, "spoilt", hurt, ofPool(w, spoiltAt(t, p, kept)))
		changesNothing(t, "spoilt already", hurt, hits(kept.Disk, kept.Slot, 0, 255), hitsAt(kept))
		for _, place := range allPlaces(disks) {
			empty := p.Disks[place.Disk].Slots[place.Slot] == ""
			if empty || place.Disk != kept.Disk {
				changesNothing(t, "another one is harmed, or it is empty", hurt, hitsAt(place))
			}
			if empty {
				changesNothing(t, "empty", w, hitsAt(place))
			} else {
				isWorld(t, "spoilt", impl.WorldDo(w, hitsAt(place).event()), ofPool(w, spoiltAt(t, p, place)))
			}
		}
		for disk := range disks {
			if disk != kept.Disk {
				changesNothing(t, "another one is spoilt", hurt, loses(disk))
			}
		}
		isWorld(t, "spoilt, and lost", impl.WorldDo(hurt, loses(kept.Disk).event()), ofPool(w, replaced(p, kept.Disk, impl.DiskNew(impl.DiskGone))))
	}
}

// barelyOk are pools, made by hand, of which no disk is harmed, and which are not ok without any of some disks.
func barelyOk(t *testing.T, disks int) map[string]impl.Pool {
	t.Helper()
	p := arrived(changedPool(t, disks))
	kept, seen := p.Root.Vols[0].Blocks[1], blockAt(t, p, "a", 1)
	newer := rootOf(7, p.Root.Vols...)
	alone := onlyOn(p, 1, newer)
	alone.Open, alone.Root, alone.Work = true, newer, copied(newer)
	return map[string]impl.Pool{
		"one column of what is kept is not there":        withoutColumn(p, kept.Places[0]),
		"one column of what is seen is not there":        withoutColumn(p, seen.Places[1]),
		"the parity of what is kept is not there":        withoutColumn(p, kept.Places[len(kept.Places)-1]),
		"another column of what is kept":                 overrun(p, kept, 1, false),
		"another column of what is seen":                 overrun(p, seen, 1, false),
		"another column of what is seen waits":           overrun(p, seen, 1, true),
		"one disk alone has the newest root":             alone,
		"one disk alone has the newest root, with holes": withoutColumn(alone, kept.Places[0]),
	}
}

// isLost asks that just a disk is gone behind EvLose, and that there is nothing of the world from then on if the pool is not ok.
func isLost(t *testing.T, why string, p impl.Pool, disk int) {
	t.Helper()
	gone := replaced(p, disk, impl.DiskNew(impl.DiskGone))
	for _, wrong := range []bool{false, true} {
		w := apartModels(p)
		w.Wrong = wrong
		changesAt(t, why, w, loses(disk), func(want *impl.World) { want.Pool = gone })
		if !okPoolSaid(gone) {
			isNoWorldOk(t, why, impl.WorldDo(w, loses(disk).event()))
		}
	}
}

// It hangs on harm alone whether a disk is lost, not on whether the pool is ok then.
func TestADiskIsLostThoughThePoolIsNotOkThen(t *testing.T) {
	count := kinds{}
	for _, disks := range pools() {
		for why, p := range barelyOk(t, disks) {
			isHarmed(t, why, p)
			for disk := range disks {
				isLost(t, why, p, disk)
				_, ok := impl.PoolLose(p, disk)
				count[fmt.Sprint(why, ", ok ", ok)]++
				isLost(t, why+", shut", shut(p), disk)
			}
			changesNothing(t, why, apartModels(p), noEvents(disks)...)
		}
	}
	for why := range barelyOk(t, 3) {
		count.atLeast(t, 2, why+", ok false")
	}
}

// With another one harmed it is not lost, whether the pool would be ok then or not.
func TestADiskIsNotLostInABarelyOkPoolWithAnotherOneHarmed(t *testing.T) {
	count := kinds{}
	for _, disks := range pools() {
		for why, p := range barelyOk(t, disks) {
			for _, place := range impl.RootPlaces(disks, p.Root) {
				if p.Disks[place.Disk].Slots[place.Slot] == "" {
					continue
				}
				hurt := spoiltAt(t, p, place)
				if !okPoolSaid(hurt) {
					continue
				}
				isHarmed(t, why, hurt, place.Disk)
				for disk := range disks {
					if disk == place.Disk {
						isLost(t, why, hurt, disk)
						continue
					}
					count[fmt.Sprint("ok then ", okPoolSaid(replaced(hurt, disk, impl.DiskNew(impl.DiskGone))))]++
					changesNothing(t, why, apartModels(hurt), loses(disk))
				}
			}
		}
	}
	count.atLeast(t, 5, "ok then true", "ok then false")
}

// A slot that nobody uses harms only a pool that is shut; one that a write waits for does not either, if it is not kept.
func TestHarmInAWorldOfWhatIsNotUsed(t *testing.T) {
	for _, disks := range pools() {
		w := passed(t, newWorld(t, disks), makes("a"), writes("a", 0, "one"), settles(), falls(), opens(), makes("a"))
		one, two := impl.Place{Disk: 0, Slot: 0}, impl.Place{Disk: 1, Slot: 0}
		both := passed(t, w, hitsAt(one), hitsAt(two))
		isHarmed(t, "not used", both.Pool)
		if !both.Pool.Disks[0].Spoilt[0] || !both.Pool.Disks[1].Spoilt[0] {
			t.Error(both.Pool.Disks)
		}
		down := passed(t, both, falls())
		isHarmed(t, "not used, shut", down.Pool, 0, 1)
		changesNothing(t, "not used, shut", down, loses(0), loses(1), loses(2), hits(2, 0, 0, 1))
		isHarmed(t, "not used, opened", passed(t, down, opens(), loses(2)).Pool, 2)
		// Written anew they wait for what is seen, and come with it, or are lost with it.
		seen := passed(t, both, writes("a", 1, "two"))
		isHarmed(t, "waits", seen.Pool)
		isFound(t, "kept", passed(t, seen, commits(), loses(1), falls(), opens()), seen.Now)
		for steps := range 3*disks + 1 {
			for _, keep := range eachKeep(disks, 1) {
				isFound(t, "cut", passed(t, seen, cuts(steps, keep...), loses(2), opens()), seen.Kept, seen.Now)
			}
		}
		stops(t)
	}
}

func TestMendingInAWorld(t *testing.T) {
	for _, disks := range pools() {
		p := arrived(changedPool(t, disks))
		place := blockAt(t, p, "a", 1).Places[1]
		for _, q := range []impl.Pool{p, spoiltAt(t, p, place), replaced(p, 1, impl.DiskNew(impl.DiskFresh)), replaced(p, 1, impl.DiskNew(impl.DiskGone)), changedPool(t, disks)} {
			w := apartModels(q)
			isWorld(t, "scrubbed", impl.WorldDo(w, scrubs().event()), ofPool(w, fine(t, q, scrubs())))
			isWorld(t, "settled", impl.WorldDo(w, settles().event()), ofPool(w, fine(t, q, settles())))
		}
	}
}

func TestCalmWrittenOut(t *testing.T) {
	for _, disks := range pools() {
		w := passed(t, changedWorld(t, disks), commits(), writes("a", 2, "last"))
		settled := passed(t, w, settles())
		isWorld(t, "nothing to mend", impl.WorldCalm(w), settled)
		isWorld(t, "nothing to mend, and nothing waits", impl.WorldCalm(settled), settled)
		for disk := range disks {
			lost := passed(t, settled, loses(disk))
			want := passed(t, lost, freshens(disk), scrubs(), settles())
			isCalm(t, "gone", want)
			isWorld(t, "gone", impl.WorldCalm(lost), want)
			isWorld(t, "fresh", impl.WorldCalm(passed(t, lost, freshens(disk))), want)
			down := passed(t, lost, falls(), freshens(disk))
			want = passed(t, down, opens(), scrubs(), settles())
			isCalm(t, "shut, gone", want)
			isWorld(t, "shut, gone", impl.WorldCalm(passed(t, lost, falls())), want)
			isWorld(t, "shut, fresh", impl.WorldCalm(down), want)
			for slot, text := range settled.Pool.Disks[disk].Slots {
				if hurt := passed(t, settled, hits(disk, slot, 0, 1)); text != "" {
					isWorld(t, "spoilt", impl.WorldCalm(hurt), settled)
					isFound(t, "spoilt, shut", impl.WorldCalm(passed(t, hurt, falls())), w.Kept)
				}
			}
		}
		isWorld(t, "shut", impl.WorldCalm(passed(t, w, falls())), passed(t, w, falls(), opens()))
		isWorld(t, "cut", impl.WorldCalm(passed(t, w, cuts(disks+1, 1))), passed(t, w, cuts(disks+1, 1), opens()))
		for _, w := range []impl.World{w, passed(t, w, falls())} {
			w.Wrong = true
			if !impl.WorldCalm(w).Wrong {
				t.Error("what was found wrong is not any more")
			}
		}
	}
	// Made by hand, more than one disk may be gone: each is made fresh, in order, and live, if all can be got.
	for _, disks := range pools() {
		p := replaced(replaced(newPool(t, disks), 0, impl.DiskNew(impl.DiskGone)), 1, impl.DiskNew(impl.DiskGone))
		want := newPool(t, disks)
		isWorld(t, "two gone", impl.WorldCalm(around(t, p)), around(t, want))
		isWorld(t, "two gone, shut", impl.WorldCalm(impl.World{Pool: shut(p)}), around(t, want))
	}
}

// So many writes may come that some must, so that there is room for more.
func TestAPlayInWhichAsManyWritesWaitAsMay(t *testing.T) {
	for _, disks := range pools() {
		w := passed(t, newWorld(t, disks), makes("a"), writes("a", 0, "kept"), commits())
		most := 0
		for i := range impl.WaitMax + 20 {
			w = passed(t, w, writes("a", i%2, fmt.Sprintf("%0*d", longest(disks), i)))
			for _, d := range w.Pool.Disks {
				most = max(most, len(d.Wait))
			}
			isFound(t, "fallen", passed(t, w, falls(1<<uint(i)-1, 5, 1<<39), opens()), w.Kept)
			isFound(t, "cut", passed(t, w, cuts(i%(3*disks+1), 1<<39, 1, 0), opens()), w.Kept, w.Now)
			stops(t)
		}
		if most != impl.WaitMax {
			t.Error("so many never waited:", most)
		}
	}
}

// A whole play, opened and calmed behind it, held against what was thought all the while.
func TestWholePlays(t *testing.T) {
	for _, one := range plays(t, 870, 40) {
		w, ok := impl.WorldPlay(one.disks, one.events)
		if !ok || w.Wrong {
			t.Fatalf("%v: %v", ok, w)
		}
		open := opened(t, w)
		out := impl.WorldCalm(w)
		isCalm(t, "in the end", out)
		isTold(t, "in the end", out.Pool, open.Now, open.Kept)
		isWorld(t, "in the end", out, calmSaid(w))
		stops(t)
	}
}

// bentWorld is an ok world in which one thing is any other way; it may be ok still.
func bentWorld(r *rand.Rand, w impl.World) impl.World {
	out := worldCopied(w)
	which := []*impl.Model{&out.Kept, &out.Maybe, &out.Now}[r.Intn(3)]
	switch r.Intn(12) {
	case 0:
		*which = bentModel(r, *which)
	case 1, 2:
		*which = anyModel(r)
	case 3:
		out.Wrong = !w.Wrong
	case 4:
		out.Kept, out.Now = w.Now, w.Kept
	default:
		out.Pool = bentWhole(r, w.Pool)
	}
	return out
}

// anyEventOf is anything that happens to a world; also what nobody would do to it.
func anyEventOf(r *rand.Rand, w impl.World) impl.Event {
	if r.Intn(4) == 0 || len(w.Pool.Disks) == 0 {
		return anyOdd(r).event()
	}
	return anyHappening(r, w.Pool).event()
}

func TestWorldIsAsSaid(t *testing.T) {
	r := rand.New(rand.NewSource(211))
	count := kinds{}
	all := worldsOf(t, 2110, 30, 2)
	for _, disks := range pools() {
		for _, p := range []impl.Pool{crowdedPool(t, disks), ofTurn(changedPool(t, disks), impl.TxgMax), {Disks: poolOf(disks, impl.DiskFresh)}} {
			all = append(all, slices.Repeat([]impl.World{{Pool: p}}, 10)...)
		}
	}
	for _, w := range all {
		other := bentWorld(r, w)
		asked := []impl.World{w, other}
		if okWorldSaid(other) {
			asked = append(asked, bentWorld(r, other))
		}
		for _, w := range asked {
			if got := impl.WorldOk(w); got != okWorldSaid(w) {
				t.Fatalf("ok %v: %v", got, w)
			}
			for range 6 {
				e := anyEventOf(r, w)
				out, want := impl.WorldDo(w, e), worldSaid(w, e)
				if !worldSame(out, want) {
					t.Fatalf("%v\n%+v:\n%v, not\n%v", w, e, out, want)
				}
				count[fmt.Sprint("kind ", e.Kind, ", ok ", okWorldSaid(w), ", changes ", !worldSame(out, w))]++
				count[fmt.Sprint("wrong ", w.Wrong, " ", out.Wrong)]++
			}
			if out, want := impl.WorldCalm(w), calmSaid(w); !worldSame(out, want) {
				t.Fatalf("%v\ncalm:\n%v, not\n%v", w, out, want)
			}
		}
	}
	for kind := range 13 {
		count.atLeast(t, 10, fmt.Sprint("kind ", kind+1, ", ok true, changes true"), fmt.Sprint("kind ", kind+1, ", ok true, changes false"), fmt.Sprint("kind ", kind+1, ", ok false, changes true"))
	}
	count.atLeast(t, 20, "kind 0, ok true, changes false", "kind 14, ok true, changes false", "wrong false true", "wrong true true")
}

// worldSpans is the memory of all that a world has.
func worldSpans(w impl.World) []span {
	return slices.Concat(poolSpans(w.Pool), modelSpans(w.Kept), modelSpans(w.Maybe), modelSpans(w.Now))
}

// eventCopied is an event in new memory.
func eventCopied(e impl.Event) impl.Event {
	e.Name, e.From, e.Text, e.Keep = strings.Clone(e.Name), strings.Clone(e.From), strings.Clone(e.Text), slices.Clone(e.Keep)
	return e
}

// eventSpans is the memory of all that an event has.
func eventSpans(e impl.Event) []span {
	return []span{textSpan(e.Name), textSpan(e.From), textSpan(e.Text), listSpan(e.Keep)}
}

// eventsToAsk are events of each kind, and of none, that can be, and cannot.
func eventsToAsk() []impl.Event {
	all := append(shortEvents(3), needsOpen()...)
	all = append(all, raw{Kind: -1}, raw{}, raw{Kind: 14}, loses(1), loses(9), freshens(1), hits(2, 0, 0, 1), hits(2, 99, 0, 1), falls(allKept()...))
	return eventsOf(all...)
}

// worldsToAsk are worlds of every kind, ok and not, open and shut.
func worldsToAsk(t *testing.T) []impl.World {
	t.Helper()
	r := rand.New(rand.NewSource(212))
	out := []impl.World{{}}
	for _, w := range worldsOf(t, 2120, 6, 12) {
		out = append(out, w, bentWorld(r, w))
	}
	for _, disks := range pools() {
		w := changedWorld(t, disks)
		out = append(out, newWorld(t, disks), w, passed(t, w, falls()), passed(t, w, cuts(disks+1, 1)), passed(t, w, loses(0)), apartModels(shut(withoutRings(w.Pool))))
	}
	return out
}

func TestWorldAnswersAreNewMemory(t *testing.T) {
	for _, disks := range pools() {
		one, other := newWorld(t, disks), newWorld(t, disks)
		apart(t, "new", worldSpans(one), worldSpans(other))
	}
	for _, one := range worldsToAsk(t) {
		w := worldCopied(one)
		given := worldSpans(w)
		for _, e := range eventsToAsk() {
			e = eventCopied(e)
			apart(t, fmt.Sprintf("%+v", e), worldSpans(impl.WorldDo(w, e)), append(slices.Clone(given), eventSpans(e)...))
		}
		apart(t, "calm", worldSpans(impl.WorldCalm(w)), given)
		stops(t)
	}
	for _, one := range plays(t, 2121, 6) {
		given := []span{listSpan(one.events)}
		for i := range one.events {
			one.events[i] = eventCopied(one.events[i])
			given = append(given, eventSpans(one.events[i])...)
		}
		w, _ := impl.WorldPlay(one.disks, one.events)
		apart(t, "a play", worldSpans(w), given)
	}
	// What is given may be one and the same memory everywhere.
	p := fine(t, helloPool(t, 4, true), settles())
	p.Work = p.Root
	m := seenOf(t, p)
	for _, w := range []impl.World{{Pool: p, Kept: m, Maybe: m, Now: m}, {Pool: shut(p), Kept: m, Maybe: m, Now: m}} {
		for _, e := range eventsToAsk() {
			apart(t, fmt.Sprintf("%+v", e), worldSpans(impl.WorldDo(w, e)), worldSpans(w))
		}
		apart(t, "calm", worldSpans(impl.WorldCalm(w)), worldSpans(w))
	}
}

// wipedWorld fills all memory of a world, its spare room too, with nothing.
func wipedWorld(w impl.World) {
	wiped(w.Pool)
	wipedModel(w.Kept)
	wipedModel(w.Maybe)
	wipedModel(w.Now)
}

// roomyWorld is a world whose lists have spare room, filled, and a word of all that.
func roomyWorld(w impl.World) (impl.World, func() string) {
	p, tellPool := roomyPool(w.Pool)
	kept, tellKept := roomyModel(w.Kept)
	maybe, tellMaybe := roomyModel(w.Maybe)
	now, tellNow := roomyModel(w.Now)
	out := impl.World{Pool: p, Kept: kept, Maybe: maybe, Now: now, Wrong: w.Wrong}
	return out, func() string { return tellPool() + tellKept() + tellMaybe() + tellNow() }
}

// roomyEvents are events in a list with spare room, as are their own lists, and a word of all that.
func roomyEvents(events []impl.Event) ([]impl.Event, func() string) {
	var out []impl.Event
	for _, e := range append(slices.Clone(events), impl.Event{Kind: 3, Keep: []int{9}}, impl.Event{Kind: 4, Name: "spare"}) {
		e.Keep = append(slices.Clone(e.Keep), 5, 7)[:len(e.Keep)]
		out = append(out, e)
	}
	return out[:len(events)], func() string {
		told := fmt.Sprint(out)
		for _, e := range out {
			told += fmt.Sprint(e.Keep[:cap(e.Keep)])
		}
		return told
	}
}

func TestWorldArgumentsStay(t *testing.T) {
	events, tellEvents := roomyEvents(eventsToAsk())
	beforeEvents := tellEvents()
	for _, one := range worldsToAsk(t) {
		w, tell := roomyWorld(one)
		before := tell()
		impl.WorldOk(w)
		for _, e := range events {
			wipedWorld(impl.WorldDo(w, e))
		}
		wipedWorld(impl.WorldCalm(w))
		if now := tell(); now != before {
			t.Fatalf("%s\nis now\n%s", before, now)
		}
	}
	if now := tellEvents(); now != beforeEvents {
		t.Fatalf("%s\nis now\n%s", beforeEvents, now)
	}
	for _, one := range plays(t, 2130, 6) {
		given, tell := roomyEvents(one.events)
		before := tell()
		w, _ := impl.WorldPlay(one.disks, given)
		wipedWorld(w)
		if now := tell(); now != before {
			t.Fatalf("%s\nis now\n%s", before, now)
		}
	}
}

// tellWorld is all that is answered of a world.
func tellWorld(w impl.World) string {
	told := fmt.Sprint(impl.WorldOk(w))
	for _, e := range eventsToAsk() {
		out := impl.WorldDo(w, e)
		told += fmt.Sprint(out)
		wipedWorld(out)
	}
	out := impl.WorldCalm(w)
	told += fmt.Sprint(out)
	wipedWorld(out)
	return told
}

func TestWorldAnswersAreTheSameEachTime(t *testing.T) {
	for i, w := range worldsToAsk(t) {
		if i%3 == 0 {
			isToldTheSame(t, func() string { return tellWorld(w) })
		}
	}
	for _, one := range plays(t, 2140, 4) {
		isToldTheSame(t, func() string {
			w, ok := impl.WorldPlay(one.disks, one.events)
			told := fmt.Sprint(w, ok)
			wipedWorld(w)
			return told
		})
	}
}
