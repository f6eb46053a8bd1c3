package tests

import (
	"fmt"
	"math/rand"
	"slices"
	"strings"
	"sync"
	"testing"

	"loop.example/paling/impl"
)

// shelf is a volume of such a name, with these texts in its first blocks.
func shelf(name string, texts ...string) impl.Shelf {
	blocks := make([]string, impl.BlockMax)
	copy(blocks, texts)
	return impl.Shelf{Name: name, Blocks: blocks}
}

// modelWith is a model of these volumes.
func modelWith(shelves ...impl.Shelf) impl.Model {
	return impl.Model{Shelves: shelves}
}

// modelCopied is a model in new memory.
func modelCopied(m impl.Model) impl.Model {
	var out impl.Model
	for _, s := range m.Shelves {
		blocks := slices.Clone(s.Blocks)
		for i := range blocks {
			blocks[i] = strings.Clone(blocks[i])
		}
		out.Shelves = append(out.Shelves, impl.Shelf{Name: strings.Clone(s.Name), Blocks: blocks})
	}
	return out
}

// modelSame says whether two models are the same value.
func modelSame(a impl.Model, b impl.Model) bool {
	return slices.EqualFunc(a.Shelves, b.Shelves, func(s impl.Shelf, o impl.Shelf) bool {
		return s.Name == o.Name && slices.Equal(s.Blocks, o.Blocks)
	})
}

// isNoModel says whether a model is nothing.
func isNoModel(m impl.Model) bool {
	return len(m.Shelves) == 0
}

// shelfNames are the names of the volumes of a model.
func shelfNames(m impl.Model) []string {
	var out []string
	for _, s := range m.Shelves {
		out = append(out, s.Name)
	}
	return out
}

// think is what comes of a deed that is done to a model.
func (d deed) think(m impl.Model) (impl.Model, int) {
	switch d.kind {
	case "make":
		return impl.ModelMake(m, d.name)
	case "drop":
		return impl.ModelDrop(m, d.name)
	case "copy":
		return impl.ModelCopy(m, d.from, d.name)
	}
	return impl.ModelWrite(m, d.name, d.block, d.text)
}

// thought is an ok model to which all this was done, each being fine.
func thought(t *testing.T, m impl.Model, deeds ...deed) impl.Model {
	t.Helper()
	for _, d := range deeds {
		out, code := d.think(m)
		if code != impl.CodeFine || !impl.ModelOk(out) {
			t.Fatalf("%+v: code %d, ok %v: %q", d, code, impl.ModelOk(out), out)
		}
		m = out
	}
	return m
}

// isModel asks for a model.
func isModel(t *testing.T, why string, got impl.Model, want impl.Model) {
	t.Helper()
	if !modelSame(got, want) {
		t.Errorf("%s: %q, not %q", why, got, want)
	}
}

// hasModelCode asks for the code of what is done to an ok model, and that the model is as it was.
func hasModelCode(t *testing.T, why string, m impl.Model, d deed, code int) {
	t.Helper()
	if out, got := d.think(m); got != code || code != impl.CodeFine && !modelSame(out, m) {
		t.Errorf("%s: %+v: code %d, not %d: %q", why, d, got, code, out)
	}
}

// isModelRead asks for the text of a block, and for the code.
func isModelRead(t *testing.T, why string, m impl.Model, name string, block int, text string, code int) {
	t.Helper()
	if got, c := impl.ModelRead(m, name, block); got != text || c != code {
		t.Errorf("%s: block %d of %q is %q, %d, not %q, %d", why, block, name, got, c, text, code)
	}
}

// isModelOk asks whether a model is ok; all that is done to one that is not is CodeBad, and nothing.
func isModelOk(t *testing.T, why string, m impl.Model, want bool) {
	t.Helper()
	if got := impl.ModelOk(m); got != want || okModelSaid(m) != want {
		t.Errorf("%s: ok %v, not %v: %q", why, got, want, m)
	}
	if want {
		return
	}
	for _, d := range append(deedsOf(4), makes("new"), drops(""), copies("", ""), writes("", -1, noughts(99))) {
		if out, code := d.think(m); code != impl.CodeBad || !isNoModel(out) {
			t.Errorf("%s: %+v: code %d: %q", why, d, code, out)
		}
		for block := -1; block <= impl.BlockMax; block++ {
			isModelRead(t, why, m, d.name, block, "", impl.CodeBad)
		}
	}
}

// seenOf is what is seen of an ok pool that is open.
func seenOf(t *testing.T, p impl.Pool) impl.Model {
	t.Helper()
	m, ok := impl.PoolSeen(p)
	if !ok {
		t.Fatalf("nothing is seen of %v", p)
	}
	return m
}

// keptOf is what is kept of an ok pool that is open.
func keptOf(t *testing.T, p impl.Pool) impl.Model {
	t.Helper()
	m, ok := impl.PoolKept(p)
	if !ok {
		t.Fatalf("nothing is kept of %v", p)
	}
	return m
}

// isSeen asks for what is seen of a pool.
func isSeen(t *testing.T, why string, p impl.Pool, want ...impl.Shelf) {
	t.Helper()
	isModel(t, why+", seen", seenOf(t, p), modelWith(want...))
}

// isKept asks for what is kept of a pool.
func isKept(t *testing.T, why string, p impl.Pool, want ...impl.Shelf) {
	t.Helper()
	isModel(t, why+", kept", keptOf(t, p), modelWith(want...))
}

// isNotSeen asks that nothing is seen of a pool, nor kept, and that both are false.
func isNotSeen(t *testing.T, why string, p impl.Pool) {
	t.Helper()
	if m, ok := impl.PoolSeen(p); ok || !isNoModel(m) {
		t.Errorf("%s: %q, %v is seen", why, m, ok)
	}
	if m, ok := impl.PoolKept(p); ok || !isNoModel(m) {
		t.Errorf("%s: %q, %v is kept", why, m, ok)
	}
}

// okModelSaid is ModelOk as the document says it, written out.
func okModelSaid(m impl.Model) bool {
	for i, s := range m.Shelves {
		if i > 3 || len(s.Blocks) != 3 || slices.Contains(shelfNames(m)[:i], s.Name) {
			return false
		}
		if len(s.Name) == 0 || len(s.Name) > 3 || strings.Trim(s.Name, "abcdefghijklmnopqrstuvwxyz") != "" {
			return false
		}
		for _, text := range s.Blocks {
			if len(text) > 9 {
				return false
			}
		}
	}
	return true
}

// addShelfSaid is the code of one volume more, as the document says it, and the model with it.
func addShelfSaid(m *impl.Model, s impl.Shelf) int {
	if slices.Contains(shelfNames(*m), s.Name) || !okModelSaid(modelWith(s)) {
		return 1
	}
	if len(m.Shelves) > 3 {
		return 3
	}
	m.Shelves = append(m.Shelves, s)
	return 0
}

// thinkSaid is what comes of a deed that is done to a model, as the document says it, written out.
func (d deed) thinkSaid(m impl.Model) (impl.Model, int) {
	if !okModelSaid(m) {
		return impl.Model{}, 4
	}
	out, code := modelCopied(m), 2
	at, from := slices.Index(shelfNames(m), d.name), slices.Index(shelfNames(m), d.from)
	switch {
	case d.kind == "make":
		code = addShelfSaid(&out, shelf(d.name))
	case d.kind == "copy" && from >= 0:
		code = addShelfSaid(&out, shelf(d.name, m.Shelves[from].Blocks...))
	case d.kind == "drop" && at >= 0:
		out.Shelves, code = slices.Delete(out.Shelves, at, at+1), 0
	case d.kind == "write" && at >= 0:
		code = 4
		if d.block >= 0 && d.block < 3 && len(d.text) <= 9 {
			out.Shelves[at].Blocks[d.block], code = d.text, 0
		}
	}
	return out, code
}

// modelReadSaid is ModelRead as the document says it, written out.
func modelReadSaid(m impl.Model, name string, block int) (string, int) {
	if !okModelSaid(m) {
		return "", 4
	}
	at := slices.Index(shelfNames(m), name)
	if at < 0 {
		return "", 2
	}
	if block < 0 || block > 2 {
		return "", 4
	}
	return m.Shelves[at].Blocks[block], 0
}

// toldSaid is the volumes of a root with their texts, as the document says it.
func toldSaid(disks []impl.Disk, r impl.Root) impl.Model {
	var out impl.Model
	for _, v := range r.Vols {
		s := shelf(v.Name)
		for i, p := range v.Blocks {
			got, _ := getSaid(disks, p)
			s.Blocks[i] = got.Text
		}
		out.Shelves = append(out.Shelves, s)
	}
	return out
}

// seenSaid is PoolSeen, and PoolKept, as the document says them, written out.
func seenSaid(p impl.Pool) (seen impl.Model, kept impl.Model, ok bool) {
	if !okPoolSaid(p) || !p.Open {
		return impl.Model{}, impl.Model{}, false
	}
	bare := disksCopy(p.Disks)
	for i := range bare {
		bare[i].Wait = nil
	}
	return toldSaid(p.Disks, p.Work), toldSaid(bare, p.Root), true
}

// anyModel is any ok model.
func anyModel(r *rand.Rand) impl.Model {
	some := []string{"a", "b", "c", "d", "zz", "abc"}
	r.Shuffle(len(some), func(i int, j int) { some[i], some[j] = some[j], some[i] })
	var out impl.Model
	for _, name := range some[:r.Intn(impl.VolMax+1)] {
		s := shelf(name)
		for i := range s.Blocks {
			s.Blocks[i] = anyText(r, []int{0, 1, textMax, r.Intn(textMax + 1)}[r.Intn(4)])
		}
		out.Shelves = append(out.Shelves, s)
	}
	return out
}

// bentModel is an ok model in which one thing is any other way; it may be ok still.
func bentModel(r *rand.Rand, m impl.Model) impl.Model {
	out := modelCopied(m)
	if len(out.Shelves) == 0 || r.Intn(6) == 0 {
		out.Shelves = append(out.Shelves, shelf("e", "more"), shelf(noNames()[r.Intn(20)]))
		return out
	}
	s := &out.Shelves[r.Intn(len(out.Shelves))]
	switch r.Intn(7) {
	case 0:
		s.Name = noNames()[r.Intn(20)]
	case 1:
		s.Name = []string{"a", "b", "c", "d", "zz"}[r.Intn(5)]
	case 2:
		s.Blocks = s.Blocks[:r.Intn(impl.BlockMax)]
	case 3:
		s.Blocks = append(s.Blocks, "", "more")[:impl.BlockMax+1+r.Intn(2)]
	case 4:
		s.Blocks[r.Intn(impl.BlockMax)] = anyText(r, textMax+r.Intn(3))
	case 5:
		*s = impl.Shelf{}
	case 6:
		out.Shelves = append(out.Shelves, out.Shelves...)
	}
	return out
}

// okModels are ok models: without volumes, with as many as there may be, and any.
func okModels() []impl.Model {
	out := []impl.Model{
		{}, {Shelves: []impl.Shelf{}}, modelWith(shelf("a")), modelWith(shelf("zzz", "x", "", noughts(textMax))),
		modelWith(shelf("b", "one", "two", "three"), shelf("a", "one", "two", "three")),
		modelWith(shelf("a", "1"), shelf("aa", "2"), shelf("aaa", "3"), shelf("b", "4")),
		modelWith(shelf("d"), shelf("c", "", "x"), shelf("b", "", "", "y"), shelf("a", "\x00", "\xff", "123456789")),
	}
	r := rand.New(rand.NewSource(14))
	for range 60 {
		out = append(out, anyModel(r))
	}
	return out
}

// wrongModels are models that are not ok.
func wrongModels() map[string]impl.Model {
	long := strings.Repeat("x", textMax+1)
	out := map[string]impl.Model{
		"a volume that is nothing":       modelWith(impl.Shelf{}),
		"behind a volume one is nothing": modelWith(shelf("a"), impl.Shelf{}),
		"no blocks":                      modelWith(impl.Shelf{Name: "a"}),
		"a block fewer":                  modelWith(impl.Shelf{Name: "a", Blocks: []string{"x", "y"}}),
		"a block more":                   modelWith(impl.Shelf{Name: "a", Blocks: []string{"x", "y", "z", ""}}),
		"the last with a block more":     modelWith(shelf("a"), shelf("b"), shelf("c"), impl.Shelf{Name: "d", Blocks: make([]string, 4)}),
		"a volume more":                  modelWith(shelf("a"), shelf("b"), shelf("c"), shelf("d"), shelf("e")),
		"two of one name":                modelWith(shelf("a"), shelf("a")),
		"two of one name, apart":         modelWith(shelf("a", "x"), shelf("b"), shelf("c"), shelf("a", "y")),
		"the last two of one name":       modelWith(shelf("a"), shelf("b"), shelf("abc"), shelf("abc")),
		"more, all of one name":          modelWith(slices.Repeat([]impl.Shelf{shelf("a")}, 100)...),
	}
	for block := range impl.BlockMax {
		s := shelf("a")
		s.Blocks[block] = long
		out[fmt.Sprint("too long a text in block ", block)] = modelWith(s)
		out[fmt.Sprint("too long a text in block ", block, " of the last")] = modelWith(shelf("b"), shelf("c"), shelf("d"), s)
		s = shelf("a")
		s.Blocks[block] = noughts(100000)
		out[fmt.Sprint("far too long a text in block ", block)] = modelWith(s)
	}
	for i, name := range noNames() {
		out[fmt.Sprint("no name ", i)] = modelWith(shelf(name))
		out[fmt.Sprint("no name ", i, ", the second")] = modelWith(shelf("a"), shelf(name))
	}
	return out
}

func TestModelsThatAreOkAndAreNot(t *testing.T) {
	for i, m := range okModels() {
		isModelOk(t, fmt.Sprint("ok ", i), m, true)
	}
	for why, m := range wrongModels() {
		isModelOk(t, why, m, false)
	}
	for size := 0; size <= textMax+2; size++ {
		isModelOk(t, fmt.Sprint(size, " bytes"), modelWith(shelf("a", "", noughts(size))), size <= 9)
	}
	for count := 0; count <= 6; count++ {
		isModelOk(t, fmt.Sprint(count, " blocks"), modelWith(impl.Shelf{Name: "a", Blocks: make([]string, count)}), count == 3)
		isModelOk(t, fmt.Sprint(count, " volumes"), modelWith([]impl.Shelf{shelf("a"), shelf("b"), shelf("c"), shelf("d"), shelf("e"), shelf("f")}[:count]...), count <= 4)
	}
}

func TestModelMakesAndDropsWrittenOut(t *testing.T) {
	m := impl.Model{}
	for _, d := range []deed{drops("a"), copies("a", "b"), copies("", ""), writes("a", 0, "x"), writes("a", 3, "x"), writes("", 0, "")} {
		hasModelCode(t, "no volumes", m, d, impl.CodeNone)
	}
	isModelRead(t, "no volumes", m, "a", 0, "", impl.CodeNone)
	m = thought(t, m, makes("m"), makes("zzz"), makes("ab"))
	isModel(t, "made", m, modelWith(shelf("m"), shelf("zzz"), shelf("ab")))
	m = thought(t, m, writes("m", 0, "first"), writes("zzz", 2, "last"), makes("a"))
	isModel(t, "written", m, modelWith(shelf("m", "first"), shelf("zzz", "", "", "last"), shelf("ab"), shelf("a")))
	for _, d := range []deed{makes("new"), copies("m", "new"), copies("a", "b")} {
		hasModelCode(t, "as many as there may be", m, d, impl.CodeFull)
	}
	for _, name := range shelfNames(m) {
		hasModelCode(t, "there already", m, makes(name), impl.CodeName)
		hasModelCode(t, "there already", m, copies("m", name), impl.CodeName)
	}
	isModel(t, "the front", thought(t, m, drops("m")), modelWith(shelf("zzz", "", "", "last"), shelf("ab"), shelf("a")))
	isModel(t, "the middle", thought(t, m, drops("zzz")), modelWith(shelf("m", "first"), shelf("ab"), shelf("a")))
	isModel(t, "the end", thought(t, m, drops("a")), modelWith(shelf("m", "first"), shelf("zzz", "", "", "last"), shelf("ab")))
	isModel(t, "all", thought(t, m, drops("zzz"), drops("m"), drops("a"), drops("ab")), impl.Model{})
	isModel(t, "dropped, and made again", thought(t, m, drops("m"), makes("m")), modelWith(shelf("zzz", "", "", "last"), shelf("ab"), shelf("a"), shelf("m")))
	isModel(t, "dropped, and another one", thought(t, m, drops("m"), copies("zzz", "c"), drops("zzz")), modelWith(shelf("ab"), shelf("a"), shelf("c", "", "", "last")))
}

func TestModelNamesThatAreNone(t *testing.T) {
	one := modelWith(shelf("a", "x"))
	full := modelWith(shelf("a"), shelf("b"), shelf("c", "x"), shelf("d"))
	for _, name := range append(noNames(), "a") {
		hasModelCode(t, "one volume", one, makes(name), impl.CodeName)
		hasModelCode(t, "one volume", one, copies("a", name), impl.CodeName)
		hasModelCode(t, "the name is looked for ahead of room", full, makes(name), impl.CodeName)
		hasModelCode(t, "the name is looked for ahead of room", full, copies("d", name), impl.CodeName)
		hasModelCode(t, "the other one is looked for first", one, copies("b", name), impl.CodeNone)
		hasModelCode(t, "the other one is looked for first", full, copies("e", name), impl.CodeNone)
		hasModelCode(t, "the other one is looked for first", impl.Model{}, copies(name, name), impl.CodeNone)
	}
	for _, name := range append(noNames(), "e", "aa", "ab", "zzz") {
		for _, d := range []deed{drops(name), copies(name, "new"), copies(name, "a"), copies(name, ""), writes(name, 0, "x"), writes(name, 9, noughts(99))} {
			hasModelCode(t, "no such volume", full, d, impl.CodeNone)
		}
		for _, block := range []int{-1, 0, 2, 3} {
			isModelRead(t, "no such volume", full, name, block, "", impl.CodeNone)
		}
	}
}

func TestModelBlocksAndTextsAtTheirEnds(t *testing.T) {
	m := modelWith(shelf("a", "first", "", "last"), shelf("b"))
	for block, text := range []string{"first", "", "last"} {
		isModelRead(t, "there", m, "a", block, text, impl.CodeFine)
		isModelRead(t, "the other one's", m, "b", block, "", impl.CodeFine)
	}
	for _, block := range noBlocks() {
		for _, size := range []int{0, 1, textMax, textMax + 1} {
			hasModelCode(t, "no such block", m, writes("a", block, noughts(size)), impl.CodeBad)
			hasModelCode(t, "nor such a volume", m, writes("c", block, noughts(size)), impl.CodeNone)
		}
		isModelRead(t, "no such block", m, "a", block, "", impl.CodeBad)
		isModelRead(t, "nor such a volume", m, "c", block, "", impl.CodeNone)
	}
	for size := 0; size <= textMax; size++ {
		for _, text := range textsOfSize(size) {
			isModel(t, "first", thought(t, m, writes("a", 0, text)), modelWith(shelf("a", text, "", "last"), shelf("b")))
			isModel(t, "last", thought(t, m, writes("b", 2, text)), modelWith(shelf("a", "first", "", "last"), shelf("b", "", "", text)))
		}
	}
	for _, size := range []int{textMax + 1, textMax + 2, 100, 100000} {
		hasModelCode(t, "too long", m, writes("a", 1, noughts(size)), impl.CodeBad)
		hasModelCode(t, "too long", m, writes("a", 1, strings.Repeat("x", size)), impl.CodeBad)
		hasModelCode(t, "too long, and no volume", m, writes("c", 1, noughts(size)), impl.CodeNone)
	}
}

// kinds are how many deeds of each kind, and code, there were.
type kinds map[string]int

// atLeast asks that none of these was too seldom.
func (k kinds) atLeast(t *testing.T, least int, which ...string) {
	t.Helper()
	for _, kind := range which {
		if k[kind] < least {
			t.Errorf("too few of a kind: %s: %d", kind, k[kind])
		}
	}
}

// isThought asks that a deed that is fine leads from what was seen to what the model's own makes of it, that what is kept stays, and that else nothing changes.
func isThought(t *testing.T, p impl.Pool, d deed, count kinds) {
	t.Helper()
	seen, kept := seenOf(t, p), keptOf(t, p)
	out, code := d.do(p)
	model, want := d.think(seen)
	count[fmt.Sprint(d.kind, " ", code)]++
	if d.kind == "write" && code != impl.CodeFine {
		model, want = seen, code
	}
	if code != want {
		t.Fatalf("%+v: code %d, and as one thinks %d: %v", d, code, want, p)
	}
	isModel(t, fmt.Sprintf("%+v: seen", d), seenOf(t, out), model)
	isModel(t, fmt.Sprintf("%+v: kept", d), keptOf(t, out), kept)
	if d.kind != "write" && !slices.Equal(without(impl.RootPlaces(len(p.Disks), out.Work), impl.RootPlaces(len(p.Disks), p.Work)), nil) {
		t.Fatalf("%+v: more places are used", d)
	}
	if code != impl.CodeFine && !poolSame(out, p) {
		t.Fatalf("%+v: code %d, and something changes", d, code)
	}
	if t.Failed() {
		t.FailNow()
	}
}

// thinkPools are ok pools that are open, of every kind: without volumes, full, kept and not, with writes that wait, and a disk that is not live or spoilt.
func thinkPools(t *testing.T, seed int64) []impl.Pool {
	t.Helper()
	var out []impl.Pool
	for i, p := range played(t, seed, 8, 60) {
		if i%4 == 0 {
			out = append(out, p)
		}
	}
	for _, disks := range pools() {
		p := crowdedPool(t, disks)
		lost := after(t, newPool(t, disks), makes("a"), makes("b"))
		lost = replaced(replaced(lost, 0, impl.DiskNew(impl.DiskGone)), 1, impl.DiskNew(impl.DiskGone))
		out = append(out, newPool(t, disks), p, committed(p), after(t, committed(p), drops("b")), replaced(committed(p), 1, impl.DiskNew(impl.DiskFresh)), lost)
	}
	return out
}

// namesToAsk are names of volumes that there may be, or may not, and such as are none.
func namesToAsk(p impl.Pool) []string {
	return append(names(p.Work), "a", "zz", "new", "", "abcd", "A")
}

// Promise 47.
func TestP47MakingIsAsOneThinks(t *testing.T) {
	count := kinds{}
	for _, p := range thinkPools(t, 470) {
		for _, name := range namesToAsk(p) {
			isThought(t, p, makes(name), count)
		}
	}
	count.atLeast(t, 30, "make 0", "make 1", "make 3")
}

// Promise 48.
func TestP48DroppingIsAsOneThinks(t *testing.T) {
	count := kinds{}
	for _, p := range thinkPools(t, 480) {
		for _, name := range namesToAsk(p) {
			isThought(t, p, drops(name), count)
		}
	}
	count.atLeast(t, 50, "drop 0", "drop 2")
}

// Promise 49.
func TestP49CopyingIsAsOneThinks(t *testing.T) {
	count := kinds{}
	for i, p := range thinkPools(t, 490) {
		for _, from := range namesToAsk(p) {
			for _, name := range []string{"new", from, namesToAsk(p)[i%5]} {
				isThought(t, p, copies(from, name), count)
			}
		}
	}
	count.atLeast(t, 50, "copy 0", "copy 1", "copy 2", "copy 3")
}

// Promise 50.
func TestP50WritingIsAsOneThinks(t *testing.T) {
	r := rand.New(rand.NewSource(50))
	count := kinds{}
	for _, p := range thinkPools(t, 500) {
		for _, name := range namesToAsk(p)[:min(5, len(namesToAsk(p)))] {
			for _, size := range []int{0, 1 + r.Intn(3), longest(len(p.Disks)), longest(len(p.Disks)) + 1} {
				isThought(t, p, writes(name, r.Intn(3), anyText(r, size)), count)
			}
			isThought(t, p, writes(name, []int{-1, 3}[r.Intn(2)], "x"), count)
		}
	}
	count.atLeast(t, 10, "write 0", "write 2", "write 3", "write 4", "write 5")
}

// Promises 47 to 50: one thinks along, and never looks.
func TestP50AWholePlayIsAsOneThinks(t *testing.T) {
	r := rand.New(rand.NewSource(501))
	for play := range 10 {
		p := newPool(t, pools()[play%2])
		var seen, kept impl.Model
		for range 100 {
			d := anyDeed(r, len(p.Disks))
			next, code := d.do(p)
			if code == impl.CodeFine {
				seen, code = d.think(seen)
			}
			if code != impl.CodeFine && !poolSame(next, p) {
				t.Fatalf("%+v: code %d, and something changes", d, code)
			}
			if p = next; r.Intn(15) == 0 {
				p, kept = committed(p), seen
			}
			isModel(t, "seen", seenOf(t, p), seen)
			isModel(t, "kept", keptOf(t, p), kept)
			if t.Failed() {
				t.FailNow()
			}
		}
	}
}

// Promise 51.
func TestP51ReadingIsAsOneThinks(t *testing.T) {
	count := kinds{}
	for _, p := range thinkPools(t, 510) {
		seen := seenOf(t, p)
		for _, name := range namesToAsk(p) {
			for _, block := range []int{-1 << 63, -1, 0, 1, 2, 3, 1<<63 - 1} {
				text, code := impl.PoolRead(p, name, block)
				isModelRead(t, "as the pool", seen, name, block, text, code)
				count[fmt.Sprint("read ", code, text == "")]++
			}
		}
	}
	count.atLeast(t, 50, "read 0 true", "read 0 false", "read 2 true", "read 4 true")
}

// mendedDisk is a pool in which a disk that was not live has all that it should, and is live.
func mendedDisk(p impl.Pool, disk int) impl.Pool {
	out := poolCopied(p)
	if out.Disks[disk].State == impl.DiskGone {
		out.Disks[disk] = impl.DiskNew(impl.DiskFresh)
	}
	for _, r := range []impl.Root{p.Root, p.Work} {
		for _, v := range r.Vols {
			for _, b := range v.Blocks {
				if b.Size > 0 {
					out.Disks, _ = impl.StripeMend(out.Disks, b)
				}
			}
		}
	}
	out.Disks = flushed(out.Disks)
	out.Disks[disk].State = impl.DiskLive
	return inRings(out)
}

// fairPools are ok pools that are open, of which at most one disk was harmed at a time.
func fairPools(t *testing.T, seed int64, plays int, steps int) []impl.Pool {
	t.Helper()
	r := rand.New(rand.NewSource(seed))
	var out []impl.Pool
	for i := range plays {
		p := newPool(t, pools()[i%2])
		for range steps {
			disk := r.Intn(len(p.Disks))
			harm := impl.PoolHarm(p)
			alone := len(harm) == 0 || harm[0] == disk
			switch at := r.Intn(24); {
			case at < 2:
				p = committed(p)
			case at == 2:
				p = replaced(p, disk, impl.DiskFlush(p.Disks[disk]))
			case at == 3 && alone:
				p = replaced(p, disk, impl.DiskNew(1+r.Intn(2)))
			case at < 9 && alone:
				p = replaced(p, disk, impl.DiskSpoil(p.Disks[disk], r.Intn(impl.SlotMax), r.Intn(3), 1+r.Intn(255)))
			case at == 9 && len(harm) > 0:
				p = mendedDisk(p, harm[0])
			default:
				p, _ = anyDeed(r, len(p.Disks)).do(p)
			}
			if len(impl.PoolHarm(p)) > 1 || !impl.PoolOk(p) {
				t.Fatalf("play %d: %v are harmed, ok %v", i, impl.PoolHarm(p), impl.PoolOk(p))
			}
			out = append(out, p)
		}
	}
	return out
}

// Promise 52.
func TestP52AllIsSeenWithoutAnyOneDisk(t *testing.T) {
	count := kinds{}
	for _, p := range fairPools(t, 520, 16, 100) {
		seen, kept := seenOf(t, p), keptOf(t, p)
		lost := impl.PoolHarm(p)
		count[fmt.Sprint("harmed ", len(lost))]++
		if len(lost) == 0 {
			lost = []int{0, 1, 2, 3}[:len(p.Disks)]
		} else {
			count[fmt.Sprint("state ", p.Disks[lost[0]].State)]++
		}
		for _, disk := range lost {
			for _, state := range []int{impl.DiskGone, impl.DiskFresh} {
				q := replaced(p, disk, impl.DiskNew(state))
				isModel(t, fmt.Sprint("without disk ", disk), seenOf(t, q), seen)
				isModel(t, fmt.Sprint("kept without disk ", disk), keptOf(t, q), kept)
			}
			if t.Failed() {
				t.FailNow()
			}
		}
	}
	count.atLeast(t, 50, "harmed 0", "harmed 1", "state 0", "state 1", "state 2")
}

// Promise 52.
func TestP52OneDiskIsNotAsItShouldBe(t *testing.T) {
	for _, disks := range pools() {
		full := after(t, newPool(t, disks), makes("a"), writes("a", 0, "kept"), writes("a", 1, noughts(longest(disks))))
		p := after(t, committed(full), writes("a", 0, "seen"), copies("a", "b"))
		seen := []impl.Shelf{shelf("a", "seen", noughts(longest(disks))), shelf("b", "seen", noughts(longest(disks)))}
		kept := shelf("a", "kept", noughts(longest(disks)))
		for disk := range disks {
			for _, state := range []int{impl.DiskGone, impl.DiskFresh} {
				one := replaced(p, disk, impl.DiskNew(state))
				isSeen(t, "one disk is not live", one, seen...)
				isKept(t, "one disk is not live", one, kept)
				other := replaced(one, (disk+1)%disks, impl.DiskNew(state))
				isNotSeen(t, "two disks are not live", other)
			}
			for slot := range impl.SlotMax {
				if p.Disks[disk].Slots[slot] == "" {
					continue
				}
				one := spoiltAt(t, p, impl.Place{Disk: disk, Slot: slot})
				isSeen(t, "one slot is spoilt", one, seen...)
				isKept(t, "one slot is spoilt", one, kept)
				isSeen(t, "spoilt, and gone", replaced(one, disk, impl.DiskNew(impl.DiskGone)), seen...)
			}
		}
	}
}

// Promise 53.
func TestP53WhatIsWrittenIsReadAndAllElseStays(t *testing.T) {
	r := rand.New(rand.NewSource(53))
	for _, m := range okModels() {
		for i, s := range m.Shelves {
			for block := range impl.BlockMax {
				for _, size := range []int{0, 1, textMax, r.Intn(textMax)} {
					text := anyText(r, size)
					got := thought(t, m, writes(s.Name, block, text))
					want := modelCopied(m)
					want.Shelves[i].Blocks[block] = text
					isModel(t, "written", got, want)
					for _, other := range want.Shelves {
						for at, there := range other.Blocks {
							isModelRead(t, "written", got, other.Name, at, there, impl.CodeFine)
						}
					}
				}
			}
		}
	}
}

// Promise 54.
func TestP54ACopyStaysAsItIs(t *testing.T) {
	for _, m := range okModels() {
		for _, s := range m.Shelves {
			if len(m.Shelves) == impl.VolMax {
				hasModelCode(t, "as many as there may be", m, copies(s.Name, "new"), impl.CodeFull)
				continue
			}
			both := thought(t, m, copies(s.Name, "new"))
			want := modelCopied(m)
			want.Shelves = append(want.Shelves, shelf("new", s.Blocks...))
			isModel(t, "copied", both, want)
			for block, text := range s.Blocks {
				isModelRead(t, "the one", both, s.Name, block, text, impl.CodeFine)
				isModelRead(t, "the copy", both, "new", block, text, impl.CodeFine)
				for _, way := range [][2]string{{s.Name, "new"}, {"new", s.Name}} {
					got := thought(t, both, writes(way[0], block, "other."))
					isModelRead(t, "written", got, way[0], block, "other.", impl.CodeFine)
					for at, there := range s.Blocks {
						isModelRead(t, "not written", got, way[1], at, there, impl.CodeFine)
						isModelRead(t, "the one dropped", thought(t, got, drops(way[0])), way[1], at, there, impl.CodeFine)
					}
					isModel(t, "what was copied", both, want)
				}
			}
		}
	}
}

// Promise 54.
func TestP54BeforeAndBehindAWrite(t *testing.T) {
	m := thought(t, impl.Model{}, makes("a"), writes("a", 1, "old"), copies("a", "b"), writes("a", 1, "new"), copies("a", "c"), writes("c", 1, "own"), copies("b", "d"))
	isModel(t, "before and behind", m, modelWith(shelf("a", "", "new"), shelf("b", "", "old"), shelf("c", "", "own"), shelf("d", "", "old")))
	m = thought(t, m, drops("a"), drops("b"), copies("d", "a"), writes("d", 1, ""), writes("d", 0, "zero"))
	isModel(t, "dropped, and copied again", m, modelWith(shelf("c", "", "own"), shelf("d", "zero"), shelf("a", "", "old")))
	// A model that was told before is not what is written to now, whoever holds it.
	first := thought(t, impl.Model{}, makes("a"), writes("a", 0, "one"))
	second := thought(t, first, copies("a", "b"))
	third := thought(t, second, writes("b", 0, "two"))
	second.Shelves[1].Blocks[0] = "over"
	isModel(t, "first", first, modelWith(shelf("a", "one")))
	isModel(t, "third", third, modelWith(shelf("a", "one"), shelf("b", "two")))
}

// Promise 55.
func TestP55MakingAndDroppingLeadBack(t *testing.T) {
	for _, m := range okModels() {
		for _, name := range []string{"new", "n", "ne", "zzz"} {
			made, code := impl.ModelMake(m, name)
			if slices.Contains(shelfNames(m), name) || len(m.Shelves) == impl.VolMax {
				if code == impl.CodeFine || !modelSame(made, m) {
					t.Errorf("code %d: %q", code, made)
				}
				continue
			}
			for block := range impl.BlockMax {
				isModelRead(t, "made", made, name, block, "", impl.CodeFine)
			}
			if code != impl.CodeFine || len(made.Shelves) != len(m.Shelves)+1 {
				t.Errorf("code %d: %q", code, made)
			}
			back := thought(t, made, drops(name))
			isModel(t, "back", back, m)
			isModel(t, "back with what was written", thought(t, made, writes(name, 1, "x"), drops(name)), m)
			hasModelCode(t, "none", back, drops(name), impl.CodeNone)
			hasModelCode(t, "none", back, copies(name, "b"), impl.CodeNone)
			hasModelCode(t, "none", back, writes(name, 0, "x"), impl.CodeNone)
			isModelRead(t, "none", back, name, 0, "", impl.CodeNone)
			isModel(t, "once more", thought(t, back, makes(name)), made)
		}
	}
}

// Promise 56.
func TestP56DroppingLeavesAllOthers(t *testing.T) {
	places := kinds{}
	for _, m := range okModels() {
		for i, s := range m.Shelves {
			got := thought(t, m, drops(s.Name))
			places[fmt.Sprint(i, " of ", len(m.Shelves))]++
			if len(got.Shelves) != len(m.Shelves)-1 {
				t.Errorf("%q, then %q", m, got)
			}
			for _, other := range m.Shelves {
				for block, text := range other.Blocks {
					if other.Name == s.Name {
						isModelRead(t, "dropped", got, other.Name, block, "", impl.CodeNone)
					} else {
						isModelRead(t, "not dropped", got, other.Name, block, text, impl.CodeFine)
					}
				}
			}
			want := modelCopied(m)
			want.Shelves = slices.Delete(want.Shelves, i, i+1)
			isModel(t, "in their order", got, want)
		}
	}
	places.atLeast(t, 3, "0 of 1", "0 of 2", "1 of 2", "0 of 3", "1 of 3", "2 of 3", "0 of 4", "1 of 4", "2 of 4", "3 of 4")
}

// Promise 57.
func TestP57WhatIsSeenAndKeptAreOkModels(t *testing.T) {
	differ := 0
	for _, p := range thinkPools(t, 570) {
		seen, kept := seenOf(t, p), keptOf(t, p)
		if !impl.ModelOk(seen) || !impl.ModelOk(kept) || !okModelSaid(seen) || !okModelSaid(kept) {
			t.Fatalf("%q is seen, %q kept", seen, kept)
		}
		if !slices.Equal(shelfNames(seen), names(p.Work)) || !slices.Equal(shelfNames(kept), names(p.Root)) {
			t.Fatalf("%q is seen, %q kept, of %v", seen, kept, p)
		}
		if !modelSame(seen, kept) {
			differ++
		}
	}
	if differ < 50 {
		t.Error("too few that differ:", differ)
	}
}

func TestSeenAndKeptWrittenOut(t *testing.T) {
	for _, disks := range pools() {
		p := newPool(t, disks)
		isSeen(t, "new", p)
		isKept(t, "new", p)
		most := strings.Repeat("x", longest(disks))
		p = after(t, p, makes("b"), writes("b", 1, "hello"), makes("a"), writes("a", 2, most))
		all := []impl.Shelf{shelf("b", "", "hello"), shelf("a", "", "", most)}
		isSeen(t, "it waits", p, all...)
		isKept(t, "it waits", p)
		isSeen(t, "it has come", arrived(p), all...)
		isKept(t, "it has come", arrived(p))
		p = committed(p)
		isSeen(t, "all kept", p, all...)
		isKept(t, "all kept", p, all...)
		p = after(t, p, writes("b", 1, "other"), drops("a"), copies("b", "c"), writes("c", 0, "\x00"), writes("b", 1, ""))
		isSeen(t, "changed", p, shelf("b"), shelf("c", "\x00", "other"))
		isKept(t, "changed", p, all...)
		isKept(t, "changed, all come", arrived(p), all...)
		isKept(t, "changed, all kept", committed(p), shelf("b"), shelf("c", "\x00", "other"))
	}
}

// Two texts of one length and one sum: where the one is, and the other waits, the pointer tells of both.
func TestKeptIsAsIfNothingWaited(t *testing.T) {
	const came, waits = "aca", "bab"
	if impl.SumOf(came) != impl.SumOf(waits) {
		t.Fatal("not the same sum")
	}
	for _, disks := range pools() {
		p := committed(after(t, newPool(t, disks), makes("a"), writes("a", 0, came)))
		put, ok := impl.StripePut(p.Disks, blockAt(t, p, "a", 0), waits)
		if !ok {
			t.Fatal("not put")
		}
		p.Disks = put
		isPoolOk(t, "both can be got", p, true)
		isSeen(t, "it waits", p, shelf("a", waits))
		isKept(t, "it waits", p, shelf("a", came))
		isRead(t, "it waits", p, "a", 0, waits, impl.CodeFine)
		isSeen(t, "it has come", arrived(p), shelf("a", waits))
		isKept(t, "it has come", arrived(p), shelf("a", waits))
	}
}

func TestNothingIsSeenOfOtherPools(t *testing.T) {
	r := rand.New(rand.NewSource(145))
	isNotSeen(t, "nothing", impl.Pool{})
	for why, disks := range wrongPools() {
		isNotSeen(t, why, impl.Pool{Disks: disks})
		isNotSeen(t, why, inEmptyRings(impl.Pool{Disks: disks, Open: true}))
	}
	for _, p := range thinkPools(t, 580) {
		isNotSeen(t, "shut", shut(p))
		isNotSeen(t, "of two turns", impl.Pool{Disks: p.Disks, Open: true, Root: p.Root, Work: rootOf(p.Root.Txg+1, p.Work.Vols...)})
		isNotSeen(t, "without rings", withoutRings(p))
		closed := poolCopied(p)
		closed.Open = false
		if !rootSame(p.Root, impl.Root{}) || !rootSame(p.Work, impl.Root{}) {
			isNotSeen(t, "shut with its roots", closed)
		}
		other := poolCopied(p)
		other.Work = spoiled(r, p.Work)
		if !okPoolSaid(other) {
			isNotSeen(t, "what is seen is not ok", other)
		}
	}
	for _, disks := range pools() {
		for why, root := range wrongRoots() {
			isNotSeen(t, why, impl.Pool{Disks: newPool(t, disks).Disks, Open: true, Work: root})
		}
	}
}

func TestModelIsAsSaid(t *testing.T) {
	r := rand.New(rand.NewSource(141))
	count := kinds{}
	for range 6000 {
		m := anyModel(r)
		if r.Intn(4) == 0 {
			m = bentModel(r, m)
		}
		if got, want := impl.ModelOk(m), okModelSaid(m); got != want {
			t.Fatalf("%q: ok %v, not %v", m, got, want)
		}
		d := anyDeed(r, 4)
		out, code := d.think(m)
		want, fine := d.thinkSaid(m)
		if code != fine || !modelSame(out, want) {
			t.Fatalf("%q\n%+v:\ncode %d, %q, not\ncode %d, %q", m, d, code, out, fine, want)
		}
		count[fmt.Sprint(d.kind, " ", code)]++
		text, code := impl.ModelRead(m, d.name, d.block)
		if said, fine := modelReadSaid(m, d.name, d.block); text != said || code != fine {
			t.Fatalf("%q: block %d of %q is %q, %d, not %q, %d", m, d.block, d.name, text, code, said, fine)
		}
		count[fmt.Sprint("read ", code)]++
	}
	count.atLeast(t, 20, "make 0", "make 1", "make 3", "make 4", "drop 0", "drop 2", "drop 4", "copy 0", "copy 1", "copy 2", "copy 3", "copy 4", "write 0", "write 2", "write 4", "read 0", "read 2", "read 4")
}

func TestSeenAndKeptAreAsSaid(t *testing.T) {
	r := rand.New(rand.NewSource(142))
	count := kinds{}
	all := append(thinkPools(t, 1420), fairPools(t, 1421, 4, 30)...)
	for _, p := range all {
		for _, q := range []impl.Pool{p, bent(r, p), shut(p)} {
			seen, kept, ok := seenSaid(q)
			if got, fine := impl.PoolSeen(q); fine != ok || !modelSame(got, seen) {
				t.Fatalf("%v: %q, %v is seen, not %q, %v", q, got, fine, seen, ok)
			}
			if got, fine := impl.PoolKept(q); fine != ok || !modelSame(got, kept) {
				t.Fatalf("%v: %q, %v is kept, not %q, %v", q, got, fine, kept, ok)
			}
			count[fmt.Sprint(ok, modelSame(seen, kept))]++
		}
	}
	count.atLeast(t, 20, "true true", "true false", "false true")
}

// modelSpans is the memory of all that a model has.
func modelSpans(m impl.Model) []span {
	spans := []span{listSpan(m.Shelves)}
	for _, s := range m.Shelves {
		spans = append(spans, textSpan(s.Name), listSpan(s.Blocks))
		for _, text := range s.Blocks {
			spans = append(spans, textSpan(text))
		}
	}
	return spans
}

// modelsToAsk are ok models, and others.
func modelsToAsk() []impl.Model {
	out := okModels()
	for _, m := range wrongModels() {
		out = append(out, m)
	}
	return out
}

func TestModelAnswersAreNewMemory(t *testing.T) {
	for _, one := range modelsToAsk() {
		m := modelCopied(one)
		given := modelSpans(m)
		for _, d := range append(deedsOf(4), copies("b", "n"), writes("a", 2, "new text")) {
			d.name, d.from, d.text = strings.Clone(d.name), strings.Clone(d.from), strings.Clone(d.text)
			out, _ := d.think(m)
			apart(t, d.kind, modelSpans(out), append(slices.Clone(given), textSpan(d.name), textSpan(d.from), textSpan(d.text)))
			text, _ := impl.ModelRead(m, d.name, d.block)
			again, _ := impl.ModelRead(m, d.name, d.block)
			apart(t, "read", []span{textSpan(text), textSpan(again)}, given)
		}
	}
	for _, one := range poolsToAsk(t) {
		p := poolCopied(one)
		seen, _ := impl.PoolSeen(p)
		kept, _ := impl.PoolKept(p)
		apart(t, "seen and kept", append(modelSpans(seen), modelSpans(kept)...), poolSpans(p))
	}
}

// wipedModel fills all memory of a model, its spare room too, with nothing.
func wipedModel(m impl.Model) {
	for _, s := range m.Shelves[:cap(m.Shelves)] {
		clear(s.Blocks[:cap(s.Blocks)])
	}
	clear(m.Shelves[:cap(m.Shelves)])
}

// roomyModel is a model whose lists have spare room, filled, and a word of all that.
func roomyModel(m impl.Model) (impl.Model, func() string) {
	shelves := slices.Clone(m.Shelves)
	for i, s := range shelves {
		shelves[i].Blocks = append(slices.Clone(s.Blocks), "spare", "room")[:len(s.Blocks)]
	}
	shelves = append(shelves, shelf("spa", "re"), shelf("too"))
	return impl.Model{Shelves: shelves[:len(m.Shelves)]}, func() string {
		told := fmt.Sprintf("%q", shelves)
		for _, s := range shelves {
			told += fmt.Sprintf("%q", s.Blocks[:cap(s.Blocks)])
		}
		return told
	}
}

func TestModelArgumentsStay(t *testing.T) {
	for _, one := range modelsToAsk() {
		m, tell := roomyModel(one)
		before := tell()
		impl.ModelOk(m)
		for _, d := range deedsOf(4) {
			out, _ := d.think(m)
			wipedModel(out)
			impl.ModelRead(m, d.name, d.block)
		}
		if now := tell(); now != before {
			t.Fatalf("%s\nis now\n%s", before, now)
		}
	}
	for _, one := range poolsToAsk(t) {
		p, tell := roomyPool(one)
		before := tell()
		seen, _ := impl.PoolSeen(p)
		kept, _ := impl.PoolKept(p)
		wipedModel(seen)
		wipedModel(kept)
		if now := tell(); now != before {
			t.Fatalf("%s\nis now\n%s", before, now)
		}
	}
}

// tellModel is all that is answered of a model.
func tellModel(m impl.Model) string {
	told := fmt.Sprint(impl.ModelOk(m))
	for _, d := range deedsOf(4) {
		out, code := d.think(m)
		text, read := impl.ModelRead(m, d.name, d.block)
		told += fmt.Sprintf("%d %q %d %q", code, out, read, text)
		wipedModel(out)
	}
	return told
}

// tellSeen is what is seen of a pool, and kept.
func tellSeen(p impl.Pool) string {
	seen, ok := impl.PoolSeen(p)
	kept, fine := impl.PoolKept(p)
	told := fmt.Sprintf("%q %v %q %v", seen, ok, kept, fine)
	wipedModel(seen)
	wipedModel(kept)
	return told
}

// isToldTheSame asks that something is told the same at every call, also of several at once.
func isToldTheSame(t *testing.T, tell func() string) {
	t.Helper()
	want := tell()
	var group sync.WaitGroup
	for range 4 {
		group.Go(func() {
			for range 3 {
				if got := tell(); got != want {
					t.Errorf("%s, then %s", want, got)
				}
			}
		})
	}
	group.Wait()
}

func TestModelAnswersAreTheSameEachTime(t *testing.T) {
	for _, m := range modelsToAsk() {
		isToldTheSame(t, func() string { return tellModel(m) })
	}
	for i, p := range poolsToAsk(t) {
		if i%5 == 0 {
			isToldTheSame(t, func() string { return tellSeen(p) })
		}
	}
}
