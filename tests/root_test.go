package tests

import (
	"fmt"
	"math"
	"math/rand"
	"reflect"
	"slices"
	"strconv"
	"strings"
	"testing"
	"unsafe"

	"loop.example/paling/impl"
)

// pools are the numbers of disks that a pool may have.
func pools() []int {
	return []int{impl.DiskMin, impl.DiskMax}
}

// noPools are numbers of disks that no pool has.
func noPools() []int {
	return append(farNumbers(), -3, -1, 0, 1, impl.DiskMin-1, impl.DiskMax+1, impl.DiskMax+2)
}

// at is places, written as pairs of a disk and a slot.
func at(pairs ...int) []impl.Place {
	var places []impl.Place
	for i := 0; i+1 < len(pairs); i += 2 {
		places = append(places, impl.Place{Disk: pairs[i], Slot: pairs[i+1]})
	}
	return places
}

// ptr is a pointer, its places written as pairs.
func ptr(size int, sum int, pairs ...int) impl.Ptr {
	return impl.Ptr{Size: size, Sum: sum, Places: at(pairs...)}
}

// vol is a volume with such pointers, and nothing in all others.
func vol(name string, ptrs ...impl.Ptr) impl.Vol {
	blocks := make([]impl.Ptr, max(impl.BlockMax, len(ptrs)))
	copy(blocks, ptrs)
	return impl.Vol{Name: name, Blocks: blocks}
}

// rootOf is a root of such volumes.
func rootOf(txg int, vols ...impl.Vol) impl.Root {
	return impl.Root{Txg: txg, Vols: vols}
}

// copied is a root in new memory, all lists as short as can be.
func copied(r impl.Root) impl.Root {
	out := impl.Root{Txg: r.Txg}
	for _, v := range r.Vols {
		w := impl.Vol{Name: strings.Clone(v.Name)}
		for _, p := range v.Blocks {
			w.Blocks = append(w.Blocks, impl.Ptr{Size: p.Size, Sum: p.Sum, Places: slices.Clip(slices.Clone(p.Places))})
		}
		w.Blocks = slices.Clip(w.Blocks)
		out.Vols = append(out.Vols, w)
	}
	out.Vols = slices.Clip(out.Vols)
	return out
}

// ptrSame says whether two pointers are the same value.
func ptrSame(a impl.Ptr, b impl.Ptr) bool {
	return a.Size == b.Size && a.Sum == b.Sum && slices.Equal(a.Places, b.Places)
}

// rootSame says whether two roots are the same value.
func rootSame(a impl.Root, b impl.Root) bool {
	return a.Txg == b.Txg && slices.EqualFunc(a.Vols, b.Vols, func(v impl.Vol, w impl.Vol) bool {
		return v.Name == w.Name && slices.EqualFunc(v.Blocks, w.Blocks, ptrSame)
	})
}

// ptrSaid is PtrOk as the document says it, written out.
func ptrSaid(disks int, p impl.Ptr) bool {
	if disks != 3 && disks != 4 {
		return false
	}
	if p.Size == 0 {
		return p.Sum == 0 && len(p.Places) == 0
	}
	bytes := map[int]int{3: 6, 4: 9}[disks]
	if p.Size < 1 || p.Size > bytes || p.Sum < 0 || p.Sum > 1000000000 {
		return false
	}
	count := map[int]int{1: 2, 2: 2, 3: 2, 4: 3, 5: 3, 6: 3, 7: 4, 8: 4, 9: 4}[p.Size]
	seen := map[int]bool{}
	for _, place := range p.Places {
		if place.Disk < 0 || place.Disk > disks-1 || place.Slot < 0 || place.Slot > 11 {
			return false
		}
		seen[place.Disk] = true
	}
	return len(p.Places) == count && len(seen) == count
}

// rootSaid is RootOk as the document says it, written out.
func rootSaid(disks int, r impl.Root) bool {
	if disks != 3 && disks != 4 || r.Txg < 0 || r.Txg > 100000 || len(r.Vols) > 4 {
		return false
	}
	names := map[string]bool{}
	users := map[impl.Place]impl.Ptr{}
	for _, v := range r.Vols {
		if len(v.Name) < 1 || len(v.Name) > 3 || strings.Trim(v.Name, "abcdefghijklmnopqrstuvwxyz") != "" || names[v.Name] || len(v.Blocks) != 3 {
			return false
		}
		names[v.Name] = true
		for _, p := range v.Blocks {
			if !ptrSaid(disks, p) {
				return false
			}
			for _, place := range p.Places {
				if other, used := users[place]; used && !ptrSame(p, other) {
					return false
				}
				users[place] = p
			}
		}
	}
	return true
}

// sealed is lines with the sum of all their bytes behind them.
func sealed(lines string) string {
	sum := 0
	for i := 0; i < len(lines); i++ {
		sum += int(lines[i])*65536 + int(lines[i])*(i+1)
	}
	return fmt.Sprintf("%ssum %d\n", lines, sum)
}

// linesSaid is the lines of a root, but the last one, as the document says them, written out.
func linesSaid(r impl.Root) string {
	out := fmt.Sprintf("root %d\n", r.Txg)
	for _, v := range r.Vols {
		out += fmt.Sprintf("vol %s\n", v.Name)
		for _, p := range v.Blocks {
			if ptrSame(p, impl.Ptr{}) {
				out += "none\n"
				continue
			}
			out += fmt.Sprintf("ptr %d %d", p.Size, p.Sum)
			for _, place := range p.Places {
				out += fmt.Sprintf(" %d.%d", place.Disk, place.Slot)
			}
			out += "\n"
		}
	}
	return out
}

// lists are lists of places for pointers: right and wrong ones.
func lists() [][]impl.Place {
	return [][]impl.Place{
		nil, {}, at(0, 0), at(0, 0, 1, 0), at(2, 11, 0, 11), at(3, 0, 1, 4), at(1, 4, 3, 11),
		at(0, 0, 1, 0, 2, 0), at(2, 3, 1, 5, 0, 7), at(3, 11, 2, 11, 1, 11), at(0, 6, 3, 6, 2, 6),
		at(0, 0, 1, 0, 2, 0, 3, 0), at(3, 1, 0, 2, 2, 3, 1, 4), at(0, 0, 1, 0, 2, 0, 3, 0, 4, 0),
		at(0, 0, 0, 1), at(0, 0, 0, 0), at(1, 0, 2, 0, 1, 1), at(2, 0, 2, 0, 1, 0), at(0, 0, 1, 0, 2, 0, 2, 1), at(3, 0, 1, 0, 2, 0, 3, 1),
		at(-1, 0, 1, 0), at(0, 0, 4, 0), at(0, 0, 1, -1), at(0, 12, 1, 0), at(0, 0, 1, 12), at(0, 0, 1, 0, 2, 12), at(0, 0, -1, 0, 2, 0),
		at(0, 0, 1, 0, 2, 0, 4, 0), at(0, 0, 1, 0, 2, 0, 3, 12), at(0, 0, 1, 0, 2, 0, -1, 0), at(0, math.MaxInt, 1, 0), at(math.MaxInt, 0, 1, 0), at(math.MinInt, 0, 1, 0), at(0, math.MinInt, 1, 0),
		slices.Repeat(at(0, 0, 1, 0), 50),
	}
}

// ptrs are pointers of every size, sum and list of places, right and wrong.
func ptrs() []impl.Ptr {
	sizes := append(farNumbers(), -1)
	for size := 0; size <= 13; size++ {
		sizes = append(sizes, size)
	}
	sums := []int{math.MinInt, -1, 0, 1, 65536, impl.SumMax - 1, impl.SumMax, impl.SumMax + 1, math.MaxInt}
	var out []impl.Ptr
	for _, size := range sizes {
		for _, sum := range sums {
			for _, places := range lists() {
				out = append(out, impl.Ptr{Size: size, Sum: sum, Places: places})
			}
		}
	}
	return out
}

// fullRoot has the longest text that an ok root may have: all blocks are one, so that each slot can have two figures.
func fullRoot(disks int) impl.Root {
	p := impl.Ptr{Size: impl.SecLen * (disks - 1), Sum: impl.SumMax}
	for disk := range disks {
		p.Places = append(p.Places, impl.Place{Disk: disk, Slot: impl.SlotMax - 1})
	}
	return copied(rootOf(impl.TxgMax, vol("zzw", p, p, p), vol("zzx", p, p, p), vol("zzy", p, p, p), vol("zzz", p, p, p)))
}

// crowdedRoot uses all slots of all disks.
func crowdedRoot(disks int) impl.Root {
	r := rootOf(1)
	for v := range impl.VolMax {
		w := impl.Vol{Name: string(rune('d' - v))}
		for b := range impl.BlockMax {
			p := impl.Ptr{Size: impl.SecLen*(disks-1) - b, Sum: v}
			for disk := range disks {
				p.Places = append(p.Places, impl.Place{Disk: (disk + b) % disks, Slot: v*impl.BlockMax + b})
			}
			w.Blocks = append(w.Blocks, p)
		}
		r.Vols = append(r.Vols, w)
	}
	return r
}

// anyRoot is any ok root; some blocks are those of others.
func anyRoot(r *rand.Rand, disks int) impl.Root {
	root := impl.Root{Txg: []int{0, 1, 7, 99999, impl.TxgMax, r.Intn(impl.TxgMax)}[r.Intn(6)]}
	names := []string{"a", "z", "ab", "ba", "abc", "zzz", "sum", "vol", "ptr", "no"}
	r.Shuffle(len(names), func(i int, j int) { names[i], names[j] = names[j], names[i] })
	free := make([][]int, disks)
	for disk := range free {
		free[disk] = r.Perm(impl.SlotMax)
	}
	var made []impl.Ptr
	for v := range r.Intn(impl.VolMax + 1) {
		w := impl.Vol{Name: names[v]}
		for range impl.BlockMax {
			var p impl.Ptr
			switch kind := r.Intn(4); {
			case kind == 0:
			case kind == 1 && len(made) > 0:
				p = made[r.Intn(len(made))]
			default:
				p = anyPtr(r, free)
				made = append(made, p)
			}
			w.Blocks = append(w.Blocks, p)
		}
		root.Vols = append(root.Vols, w)
	}
	return copied(root)
}

// anyPtr is any ok pointer to places that are free, and takes them.
func anyPtr(r *rand.Rand, free [][]int) impl.Ptr {
	disks := r.Perm(len(free))
	p := impl.Ptr{Size: 1 + r.Intn(impl.SecLen*(len(free)-1)), Sum: []int{0, 1, impl.SumMax, r.Intn(impl.SumMax)}[r.Intn(4)]}
	for _, disk := range disks[:(p.Size+5)/3] {
		p.Places = append(p.Places, impl.Place{Disk: disk, Slot: free[disk][0]})
		free[disk] = free[disk][1:]
	}
	return p
}

// okRoots are roots that are ok in a pool of so many disks.
func okRoots(disks int) []impl.Root {
	p, q := ptr(2, 13697338, 1, 4, 0, 11), ptr(6, 0, 2, 0, 0, 0, 1, 0)
	roots := []impl.Root{
		{}, rootOf(0), rootOf(1), rootOf(impl.TxgMax),
		rootOf(7, vol("a", impl.Ptr{}, p), vol("bc", p)),
		rootOf(3, vol("a")), rootOf(3, vol("zzz", p, p, p)),
		rootOf(9, vol("b", q, p), vol("a", p, q), vol("aa", impl.Ptr{}, impl.Ptr{}, q), vol("aaa")),
		fullRoot(disks), crowdedRoot(disks),
	}
	r := rand.New(rand.NewSource(int64(disks)))
	for range 300 {
		roots = append(roots, anyRoot(r, disks))
	}
	return roots
}

// wrongRoots are roots that are not ok in any pool, by what is wrong with them.
func wrongRoots() map[string]impl.Root {
	p := ptr(2, 5, 1, 4, 0, 11)
	out := map[string]impl.Root{
		"a turn below 0":             rootOf(-1),
		"a turn too many":            rootOf(impl.TxgMax + 1),
		"the greatest turn":          rootOf(math.MaxInt),
		"the least turn":             rootOf(math.MinInt),
		"a volume too many":          rootOf(1, vol("a"), vol("b"), vol("c"), vol("d"), vol("e")),
		"many volumes":               rootOf(1, slices.Repeat([]impl.Vol{vol("a")}, 1000)...),
		"one name twice":             rootOf(1, vol("a"), vol("a")),
		"the last name twice":        rootOf(1, vol("b"), vol("a"), vol("c"), vol("a")),
		"one name twice, full":       rootOf(1, vol("abc", p), vol("abc", p)),
		"a block too few":            rootOf(1, impl.Vol{Name: "a", Blocks: []impl.Ptr{p, p}}),
		"no blocks":                  rootOf(1, impl.Vol{Name: "a"}),
		"a block too many":           rootOf(1, vol("a", p, p, p, p)),
		"many blocks":                rootOf(1, vol("a", slices.Repeat([]impl.Ptr{p}, 1000)...)),
		"a block of nothing more":    rootOf(1, vol("a", p, p, p, impl.Ptr{})),
		"a block too few at the end": rootOf(1, vol("a"), impl.Vol{Name: "b", Blocks: []impl.Ptr{{}, {}}}),
		"a pointer that is not ok":   rootOf(1, vol("a", impl.Ptr{}, impl.Ptr{Sum: 1})),
		"the last one is not ok":     rootOf(1, vol("a"), vol("b", impl.Ptr{}, impl.Ptr{}, ptr(1, 0, 0, 0, 0, 1))),
		"one place, other sizes":     rootOf(1, vol("a", p, ptr(1, 5, 1, 4, 0, 11))),
		"one place, other sums":      rootOf(1, vol("a", p, ptr(2, 6, 1, 4, 0, 11))),
		"one place, other order":     rootOf(1, vol("a", p, ptr(2, 5, 0, 11, 1, 4))),
		"one place of the two":       rootOf(1, vol("a", p, ptr(2, 5, 1, 4, 0, 10))),
		"the other place of the two": rootOf(1, vol("a", p, ptr(2, 5, 1, 3, 0, 11))),
		"one place, far apart":       rootOf(1, vol("a", p), vol("b"), vol("c"), vol("d", impl.Ptr{}, impl.Ptr{}, ptr(2, 5, 2, 4, 0, 11))),
		"one place, in a longer one": rootOf(1, vol("a", p), vol("b", ptr(4, 5, 2, 4, 0, 0, 1, 4))),
		"one place, longer":          rootOf(1, vol("a", p), vol("b", ptr(4, 5, 1, 4, 0, 11, 2, 0))),
	}
	for _, name := range []string{"", "abcd", "aaaa", "A", "Z", "aB", "a1", "1", "a b", " a", "a ", "a\n", "\n", "\x00", "`", "{", "a.", "é", "\xff", "ab\xe1", strings.Repeat("a", 1000)} {
		out[fmt.Sprintf("the name %q", name)] = rootOf(1, vol("x"), vol(name, p))
	}
	return out
}

func TestRootLimits(t *testing.T) {
	got := []int{impl.DiskMin, impl.DiskMax, impl.SlotMax, impl.VolMax, impl.BlockMax, impl.TxgMax, impl.TextMax, impl.SumMax}
	if want := []int{3, 4, 12, 4, 3, 100000, 700, 1000000000}; !slices.Equal(got, want) {
		t.Error(got)
	}
}

func TestPtrAtItsEdges(t *testing.T) {
	for _, c := range []struct {
		disks int
		p     impl.Ptr
		want  bool
	}{
		{3, impl.Ptr{}, true}, {4, impl.Ptr{}, true}, {3, impl.Ptr{Places: []impl.Place{}}, true},
		{2, impl.Ptr{}, false}, {5, impl.Ptr{}, false}, {0, impl.Ptr{}, false}, {-1, impl.Ptr{}, false},
		{3, impl.Ptr{Size: 1}, false}, {3, impl.Ptr{Sum: 1}, false}, {3, impl.Ptr{Sum: -1}, false},
		{3, ptr(0, 0, 0, 0), false}, {3, ptr(0, 0, 0, 0, 1, 0), false}, {4, ptr(-1, 0), false},
		{3, ptr(1, 0, 0, 0, 1, 0), true}, {2, ptr(1, 0, 0, 0, 1, 0), false}, {5, ptr(1, 0, 0, 0, 1, 0), false},
		{3, ptr(1, impl.SumMax, 0, 0, 1, 0), true}, {3, ptr(1, impl.SumMax+1, 0, 0, 1, 0), false}, {3, ptr(1, -1, 0, 0, 1, 0), false},
		{3, ptr(3, 9, 0, 0, 1, 0), true}, {3, ptr(4, 9, 0, 0, 1, 0), false}, {3, ptr(3, 9, 0, 0, 1, 0, 2, 0), false}, {3, ptr(4, 9, 0, 0, 1, 0, 2, 0), true},
		{3, ptr(6, 9, 0, 0, 1, 0, 2, 0), true}, {3, ptr(7, 9, 0, 0, 1, 0, 2, 0), false}, {3, ptr(7, 9, 0, 0, 1, 0, 2, 0, 3, 0), false},
		{4, ptr(6, 9, 0, 0, 1, 0, 3, 0), true}, {4, ptr(7, 9, 0, 0, 1, 0, 2, 0), false}, {4, ptr(7, 9, 0, 0, 1, 0, 2, 0, 3, 0), true},
		{4, ptr(9, 9, 3, 11, 2, 0, 1, 5, 0, 0), true}, {4, ptr(10, 9, 3, 11, 2, 0, 1, 5, 0, 0), false}, {4, ptr(10, 9, 3, 11, 2, 0, 1, 5, 0, 0, 4, 0), false},
		{3, ptr(1, 0, 2, 11, 0, 0), true}, {3, ptr(1, 0, 3, 0, 0, 0), false}, {4, ptr(1, 0, 3, 0, 0, 0), true}, {4, ptr(1, 0, 4, 0, 0, 0), false},
		{3, ptr(1, 0, 2, 12, 0, 0), false}, {3, ptr(1, 0, 2, 0, 0, -1), false}, {3, ptr(1, 0, -1, 0, 0, 0), false}, {3, ptr(1, 0, 2, 0, 0, 12), false},
		{3, ptr(1, 0, 1, 0, 1, 1), false}, {3, ptr(1, 0, 1, 0, 1, 0), false}, {4, ptr(4, 0, 1, 0, 2, 0, 1, 1), false}, {4, ptr(4, 0, 1, 0, 2, 0, 2, 0), false},
	} {
		if got := impl.PtrOk(c.disks, c.p); got != c.want {
			t.Errorf("%d disks, %v: %v", c.disks, c.p, got)
		}
	}
}

func TestPtrIsAsSaid(t *testing.T) {
	for _, disks := range append(pools(), noPools()...) {
		for _, p := range ptrs() {
			if got, want := impl.PtrOk(disks, p), ptrSaid(disks, p); got != want {
				t.Errorf("%d disks, %v: %v, not %v", disks, p, got, want)
			}
		}
	}
}

// Promise 12.
func TestP12PtrHasAPlaceForEachColumnAndTheParity(t *testing.T) {
	found := map[int]int{}
	for _, disks := range append(pools(), noPools()...) {
		for _, p := range ptrs() {
			if !impl.PtrOk(disks, p) {
				continue
			}
			found[len(p.Places)]++
			if len(p.Places) == 0 && p.Size == 0 && p.Sum == 0 {
				continue
			}
			cols := impl.ColsOf(strings.Repeat("x", max(0, min(p.Size, 100))))
			seen := map[int]bool{}
			for _, place := range p.Places {
				if place.Disk < 0 || place.Disk >= disks || place.Slot < 0 || place.Slot >= impl.SlotMax || seen[place.Disk] {
					t.Errorf("%d disks: %v", disks, p)
				}
				seen[place.Disk] = true
			}
			if len(cols) == 0 || len(p.Places) != len(cols)+1 {
				t.Errorf("%d disks: %v of %d columns", disks, p, len(cols))
			}
		}
	}
	if found[0] == 0 || found[2] == 0 || found[3] == 0 || found[4] == 0 {
		t.Error("no pointer of each kind is ok:", found)
	}
}

func TestRootOkAtItsEdges(t *testing.T) {
	for _, disks := range pools() {
		for _, r := range okRoots(disks) {
			if !impl.RootOk(disks, r) {
				t.Errorf("%d disks: %v", disks, r)
			}
			for _, none := range noPools() {
				if impl.RootOk(none, r) {
					t.Errorf("%d disks: %v", none, r)
				}
			}
		}
		for why, r := range wrongRoots() {
			if impl.RootOk(disks, r) {
				t.Errorf("%s, %d disks: %v", why, disks, r)
			}
		}
	}
	if impl.RootOk(3, rootOf(1, vol("a", ptr(1, 0, 3, 0, 0, 0)))) || impl.RootOk(3, crowdedRoot(4)) {
		t.Error("a disk that there is not")
	}
}

// spoiled is an ok root in which one thing is any other way.
func spoiled(r *rand.Rand, root impl.Root) impl.Root {
	out := copied(root)
	if len(out.Vols) == 0 {
		out.Txg = r.Intn(5) - 2
		return out
	}
	v := &out.Vols[r.Intn(len(out.Vols))]
	b := &v.Blocks[r.Intn(len(v.Blocks))]
	other := out.Vols[r.Intn(len(out.Vols))].Blocks[r.Intn(impl.BlockMax)]
	switch r.Intn(8) {
	case 0:
		v.Name = out.Vols[r.Intn(len(out.Vols))].Name
	case 1:
		v.Name = anyText(r, r.Intn(4))
	case 2:
		b.Size += r.Intn(5) - 2
	case 3:
		b.Sum += r.Intn(3) - 1
	case 4:
		b.Places = append(b.Places, impl.Place{Disk: r.Intn(4), Slot: r.Intn(12)})
	case 5:
		if len(b.Places) > 0 && len(other.Places) > 0 {
			b.Places[r.Intn(len(b.Places))] = other.Places[r.Intn(len(other.Places))]
		}
	case 6:
		if len(b.Places) > 0 {
			b.Places[r.Intn(len(b.Places))] = impl.Place{Disk: r.Intn(6) - 1, Slot: r.Intn(14) - 1}
		}
	case 7:
		v.Blocks = append(v.Blocks[:r.Intn(len(v.Blocks)+1)], v.Blocks[:r.Intn(len(v.Blocks)+1)]...)
	}
	return out
}

func TestRootOkIsAsSaid(t *testing.T) {
	r := rand.New(rand.NewSource(12))
	count := map[bool]int{}
	for _, disks := range pools() {
		for _, root := range okRoots(disks) {
			for range 40 {
				wrong := spoiled(r, root)
				for _, disks := range pools() {
					want := rootSaid(disks, wrong)
					count[want]++
					if got := impl.RootOk(disks, wrong); got != want {
						t.Fatalf("%d disks, %v: %v", disks, wrong, got)
					}
				}
			}
		}
	}
	if count[true] < 1000 || count[false] < 1000 {
		t.Error("too few of a kind:", count)
	}
}

func TestRootTextIsAsSaid(t *testing.T) {
	p := ptr(2, 13697338, 1, 4, 0, 11)
	lines := "root 7\nvol a\nnone\nptr 2 13697338 1.4 0.11\nnone\nvol bc\nptr 2 13697338 1.4 0.11\nnone\nnone\n"
	if got := impl.RootText(3, rootOf(7, vol("a", impl.Ptr{}, p), vol("bc", p))); got != sealed(lines) {
		t.Errorf("%q", got)
	}
	// 114, 111, 111, 116, 32, 48 and 10, with their places.
	if got := impl.RootText(4, impl.Root{}); got != "root 0\nsum 35522163\n" {
		t.Errorf("%q", got)
	}
	for _, disks := range pools() {
		for _, r := range okRoots(disks) {
			if got, want := impl.RootText(disks, r), sealed(linesSaid(r)); got != want {
				t.Errorf("%d disks, %v: %q, not %q", disks, r, got, want)
			}
		}
	}
}

// Promise 13.
func TestP13RootIsReadBack(t *testing.T) {
	longest := 0
	for _, disks := range pools() {
		for _, r := range okRoots(disks) {
			text := impl.RootText(disks, r)
			longest = max(longest, len(text))
			if len(text) == 0 || len(text) > impl.TextMax {
				t.Errorf("%d disks, %v: %d bytes", disks, r, len(text))
			}
			if got, ok := impl.RootRead(disks, text); !ok || !rootSame(got, r) {
				t.Errorf("%d disks, %q: %v, %v", disks, text, got, ok)
			}
		}
	}
	if longest != 503 {
		t.Error("the longest root has another number of bytes:", longest)
	}
}

// alike are texts much like the one of a root, but not it: in each but the first few the sum is right.
func alike(r impl.Root) map[string]string {
	lines := linesSaid(r)
	text := sealed(lines)
	line := strings.SplitAfter(lines, "\n")
	number := strings.TrimPrefix(text[len(lines):], "sum ")
	out := map[string]string{
		"nothing":                   "",
		"no sum":                    lines,
		"no newline at the end":     strings.TrimSuffix(text, "\n"),
		"a newline more at the end": text + "\n",
		"a newline ahead":           "\n" + text,
		"twice":                     text + text,
		"a nought byte behind":      text + "\x00",
		"a nought ahead of the sum": lines + "sum 0" + number,
		"a plus ahead of the sum":   lines + "sum +" + number,
		"a minus ahead of the sum":  lines + "sum -" + number,
		"two blanks in the sum":     lines + "sum  " + number,
		"a blank behind the sum":    strings.TrimSuffix(text, "\n") + " \n",
		"a return behind the sum":   strings.TrimSuffix(text, "\n") + "\r\n",
		"no number in the sum":      lines + "sum \n",
		"no word sum":               lines + number,
		"another word for sum":      lines + "Sum " + number,
		"the sum of a byte more":    lines + "sum " + strconv.Itoa(66000+atoi(number)) + "\n",
		"the sum one more":          lines + "sum " + strconv.Itoa(1+atoi(number)) + "\n",
		"the sum one less":          lines + "sum " + strconv.Itoa(atoi(number)-1) + "\n",
		"the sum wrapped round":     lines + "sum 18446744073709551616\n",
		"no lines ahead of the sum": sealed(""),
		"a sum twice":               sealed(text),
		"no line root":              sealed(strings.Join(line[1:], "")),
		"root twice":                sealed(line[0] + lines),
		"a line more":               sealed(lines + "none\n"),
		"a volume without blocks":   sealed(lines + "vol q\n"),
		"a volume of few blocks":    sealed(lines + "vol q\nnone\nnone\n"),
		"an empty line":             sealed(lines + "\n"),
		"an empty line at first":    sealed("\n" + lines),
		"lines with returns":        sealed(strings.ReplaceAll(lines, "\n", "\r\n")),
		"blanks for newlines":       sealed(strings.ReplaceAll(lines, "\n", " ")),
		"newlines for blanks":       sealed(strings.ReplaceAll(lines, " ", "\n")),
		"tabs for blanks":           sealed(strings.ReplaceAll(lines, " ", "\t")),
		"two blanks":                sealed(strings.ReplaceAll(lines, " ", "  ")),
		"no blanks":                 sealed(strings.ReplaceAll(lines, " ", "")),
		"blanks at the ends":        sealed(strings.ReplaceAll(lines, "\n", " \n")),
		"great letters":             sealed(strings.ToUpper(lines)),
		"a needless nought":         sealed(strings.Replace(lines, "root ", "root 0", 1)),
		"a plus":                    sealed(strings.Replace(lines, "root ", "root +", 1)),
		"a minus":                   sealed(strings.Replace(lines, "root ", "root -", 1)),
		"another root":              sealed(strings.Replace(lines, "root ", "roots ", 1)),
		"a turn of letters":         sealed(strings.Replace(lines, line[0], "root x\n", 1)),
		"no turn":                   sealed(strings.Replace(lines, line[0], "root \n", 1)),
		"no turn and no blank":      sealed(strings.Replace(lines, line[0], "root\n", 1)),
		"two turns":                 sealed(strings.Replace(lines, line[0], "root 1 2\n", 1)),
		"a turn too many":           sealed(strings.Replace(lines, line[0], "root 100001\n", 1)),
		"a turn far too many":       sealed(strings.Replace(lines, line[0], "root 18446744073709551617\n", 1)),
		"a turn below 0":            sealed(strings.Replace(lines, line[0], "root -1\n", 1)),
		"a turn in sixteens":        sealed(strings.Replace(lines, line[0], "root 0x1\n", 1)),
		"a turn with a line below":  sealed(strings.Replace(lines, line[0], "root 1_0\n", 1)),
	}
	for why, to := range map[string]string{"0.0": "0.00", "none": "none ", "vol": "vol ", "1.": "01.", ".": ". ", "ptr ": "ptr 0", "\nnone\n": "\n"} {
		if strings.Contains(lines, why) {
			out["other than "+why] = sealed(strings.Replace(lines, why, to, 1))
		}
	}
	for i := range line {
		if i > 0 && i < len(line)-1 {
			out["without line "+strconv.Itoa(i)] = sealed(strings.Join(slices.Delete(slices.Clone(line), i, i+1), ""))
			out["line twice "+strconv.Itoa(i)] = sealed(strings.Join(slices.Insert(slices.Clone(line), i, line[i]), ""))
		}
	}
	return out
}

// atoi is the number of a line.
func atoi(line string) int {
	n, _ := strconv.Atoi(strings.TrimSpace(line))
	return n
}

func TestRootReadOfWhatIsMuchLikeOne(t *testing.T) {
	for _, disks := range pools() {
		for _, r := range okRoots(disks)[:40] {
			for why, text := range alike(r) {
				if got, ok := impl.RootRead(disks, text); ok || !rootSame(got, impl.Root{}) {
					t.Errorf("%s, %d disks, %q: %v, %v", why, disks, text, got, ok)
				}
			}
		}
	}
}

func TestRootReadOfRootsThatAreNotOk(t *testing.T) {
	for _, disks := range pools() {
		for why, r := range wrongRoots() {
			if text := impl.RootText(disks, r); text != "" {
				t.Errorf("%s, %d disks: %q", why, disks, text)
			}
			if got, ok := impl.RootRead(disks, sealed(linesSaid(r))); ok || !rootSame(got, impl.Root{}) {
				t.Errorf("%s, %d disks: %v, %v", why, disks, got, ok)
			}
			if places := impl.RootPlaces(disks, r); len(places) != 0 {
				t.Errorf("%s, %d disks: %v", why, disks, places)
			}
		}
	}
}

func TestRootsOfNoPool(t *testing.T) {
	for _, disks := range noPools() {
		// The text of a root of no pool is empty, but no root is that of the empty text.
		if got, ok := impl.RootRead(disks, ""); ok || !rootSame(got, impl.Root{}) {
			t.Errorf("%d disks: %v, %v", disks, got, ok)
		}
		for _, r := range okRoots(impl.DiskMin)[:30] {
			if text := impl.RootText(disks, r); text != "" {
				t.Errorf("%d disks: %q", disks, text)
			}
			if got, ok := impl.RootRead(disks, sealed(linesSaid(r))); ok || !rootSame(got, impl.Root{}) {
				t.Errorf("%d disks: %v, %v", disks, got, ok)
			}
			if places := impl.RootPlaces(disks, r); len(places) != 0 {
				t.Errorf("%d disks: %v", disks, places)
			}
		}
	}
}

func TestRootReadOfLongTexts(t *testing.T) {
	for _, size := range []int{impl.TextMax - 1, impl.TextMax, impl.TextMax + 1, 100000} {
		for _, text := range []string{
			noughts(size), strings.Repeat("\n", size), strings.Repeat("vol ", size)[:size], strings.Repeat("9", size),
			("root " + strings.Repeat("0", size))[:size-1] + "\n",
			("root 1\n" + strings.Repeat("vol a\nnone\nnone\nnone\n", size))[:size],
			("root 1\nvol a\nptr 1 1" + strings.Repeat(" 0.0", size))[:size],
			("root 1\nvol " + strings.Repeat("a", size))[:size],
		} {
			if got, ok := impl.RootRead(3, text); ok || !rootSame(got, impl.Root{}) {
				t.Errorf("%q: %v, %v", text[:30], got, ok)
			}
			if got, ok := impl.RootRead(4, sealed(text)); ok || !rootSame(got, impl.Root{}) {
				t.Errorf("%q: %v, %v", text[:30], got, ok)
			}
		}
	}
}

// Promise 14: texts with any bytes changed, put in, or left out, the sum right, are read only if they are of a root.
func TestP14WhatIsReadIsOkAndItsTextIsItsOwn(t *testing.T) {
	r := rand.New(rand.NewSource(14))
	read := 0
	for _, disks := range pools() {
		for _, root := range okRoots(disks) {
			lines := linesSaid(root)
			for range 60 {
				from := r.Intn(len(lines))
				till := from + r.Intn(min(3, len(lines)-from+1))
				piece := []string{"", "0", "1", "9", " ", "\n", ".", "a", "none\n", "-", anyText(r, 1)}[r.Intn(11)]
				text := sealed(lines[:from] + piece + lines[till:])
				got, ok := impl.RootRead(disks, text)
				if !ok {
					if !rootSame(got, impl.Root{}) {
						t.Fatalf("%q: %v beside false", text, got)
					}
					continue
				}
				read++
				if !impl.RootOk(disks, got) || !rootSaid(disks, got) || impl.RootText(disks, got) != text || sealed(linesSaid(got)) != text {
					t.Fatalf("%d disks, %q: %v", disks, text, got)
				}
			}
		}
	}
	if read < 500 {
		t.Error("too few are read:", read)
	}
}

// Promise 15.
func TestP15BeginningsAndChangedBytesAreNoRoot(t *testing.T) {
	for _, disks := range pools() {
		for i, r := range okRoots(disks) {
			text := impl.RootText(disks, r)
			for end := range len(text) {
				if got, ok := impl.RootRead(disks, text[:end]); ok || !rootSame(got, impl.Root{}) {
					t.Fatalf("%q: %v, %v", text[:end], got, ok)
				}
			}
			for at := range len(text) {
				by := 1 + (i*31+at*7)%255
				till := by
				if i < 6 {
					by, till = 1, 255
				}
				for ; by <= till; by++ {
					wrong := changed(text, at, byte(by))
					if got, ok := impl.RootRead(disks, wrong); ok || !rootSame(got, impl.Root{}) {
						t.Fatalf("%q: %v, %v", wrong, got, ok)
					}
				}
			}
		}
	}
}

// Promise 16.
func TestP16PlacesAreThoseOfAllPtrs(t *testing.T) {
	if got := impl.RootPlaces(3, rootOf(1, vol("a", ptr(4, 0, 2, 3, 0, 11, 1, 0)), vol("b", ptr(1, 0, 2, 2, 0, 2)))); !slices.Equal(got, at(0, 2, 0, 11, 1, 0, 2, 2, 2, 3)) {
		t.Error(got)
	}
	for _, disks := range pools() {
		for _, r := range okRoots(disks) {
			var want []impl.Place
			for disk := range disks {
				for slot := range impl.SlotMax {
					if strings.Contains(strings.ReplaceAll(linesSaid(r), "\n", " "), fmt.Sprintf(" %d.%d ", disk, slot)) {
						want = append(want, impl.Place{Disk: disk, Slot: slot})
					}
				}
			}
			if got := impl.RootPlaces(disks, r); !slices.Equal(got, want) {
				t.Errorf("%d disks, %v: %v, not %v", disks, r, got, want)
			}
		}
		if got := impl.RootPlaces(disks, crowdedRoot(disks)); len(got) != disks*impl.SlotMax {
			t.Error(got)
		}
	}
}

// Promise 17.
func TestP17RootsAreTheSameJustIfTheirTextsAre(t *testing.T) {
	r := rand.New(rand.NewSource(17))
	count := map[bool]int{}
	for _, disks := range pools() {
		roots := okRoots(disks)
		for _, a := range roots {
			others := []impl.Root{copied(a), roots[r.Intn(len(roots))]}
			for range 20 {
				others = append(others, spoiled(r, a))
			}
			for _, b := range others {
				if !impl.RootOk(disks, b) {
					continue
				}
				same := rootSame(a, b)
				count[same]++
				if (impl.RootText(disks, a) == impl.RootText(disks, b)) != same {
					t.Errorf("%d disks: %v and %v", disks, a, b)
				}
			}
		}
	}
	if count[true] < 100 || count[false] < 100 {
		t.Error("too few of a kind:", count)
	}
}

// Promise 18.
func TestP18RootStaysOkWithAVolumeLessOrMore(t *testing.T) {
	for _, disks := range pools() {
		for _, r := range okRoots(disks) {
			places := impl.RootPlaces(disks, r)
			for v := range r.Vols {
				less := copied(r)
				less.Vols = slices.Delete(less.Vols, v, v+1)
				fewer := impl.RootPlaces(disks, less)
				if !impl.RootOk(disks, less) || len(fewer) > len(places) || slices.ContainsFunc(fewer, func(p impl.Place) bool { return !slices.Contains(places, p) }) {
					t.Errorf("%d disks, %v without volume %d", disks, r, v)
				}
			}
			more := copied(r)
			more.Vols = append(more.Vols, vol("new"))
			if room := len(r.Vols) < impl.VolMax; impl.RootOk(disks, more) != room || room && !slices.Equal(impl.RootPlaces(disks, more), places) {
				t.Errorf("%d disks, %v with one more volume", disks, r)
			}
		}
	}
}

// Promise 19.
func TestP19WhatIsOkOnFewDisksIsOkOnMore(t *testing.T) {
	for _, p := range ptrs() {
		if impl.PtrOk(impl.DiskMin, p) && !impl.PtrOk(impl.DiskMax, p) {
			t.Error(p)
		}
	}
	for _, r := range okRoots(impl.DiskMin) {
		text := impl.RootText(impl.DiskMin, r)
		if !impl.RootOk(impl.DiskMax, r) || impl.RootText(impl.DiskMax, r) != text {
			t.Error(r)
		}
		if got, ok := impl.RootRead(impl.DiskMax, text); !ok || !rootSame(got, r) {
			t.Error(r, got, ok)
		}
	}
	if text := impl.RootText(impl.DiskMax, crowdedRoot(impl.DiskMax)); text == "" || impl.RootText(impl.DiskMin, crowdedRoot(impl.DiskMax)) != "" {
		t.Error("more disks than the pool has")
	} else if _, ok := impl.RootRead(impl.DiskMin, text); ok {
		t.Error("read in a pool that has fewer disks")
	}
}

// span is memory, from its first byte up to behind its last one; as long as it is held it cannot be given away anew.
type span struct {
	from, till uintptr
	held       unsafe.Pointer
}

// spanOf is so many bytes from here on.
func spanOf(from unsafe.Pointer, size uintptr) span {
	return span{uintptr(from), uintptr(from) + size, from}
}

// listSpan is the memory of a list, with its spare room.
func listSpan[T any](list []T) span {
	var one T
	return spanOf(unsafe.Pointer(unsafe.SliceData(list)), uintptr(cap(list))*unsafe.Sizeof(one))
}

// textSpan is the memory of a text.
func textSpan(text string) span {
	return spanOf(unsafe.Pointer(unsafe.StringData(text)), uintptr(len(text)))
}

// rootSpans is the memory of all lists of a root, and of its names.
func rootSpans(r impl.Root) []span {
	spans := []span{listSpan(r.Vols)}
	for _, v := range r.Vols {
		spans = append(spans, textSpan(v.Name), listSpan(v.Blocks))
		for _, p := range v.Blocks {
			spans = append(spans, listSpan(p.Places))
		}
	}
	return spans
}

// meets says whether any of some memory is any of other memory.
func meets(a []span, b []span) bool {
	return slices.ContainsFunc(a, func(s span) bool {
		return slices.ContainsFunc(b, func(o span) bool {
			return s.from < s.till && o.from < o.till && s.from < o.till && o.from < s.till
		})
	})
}

func TestRootAnswersAreNewMemory(t *testing.T) {
	for _, disks := range pools() {
		for _, r := range okRoots(disks) {
			given := rootSpans(r)
			text := impl.RootText(disks, r)
			places := impl.RootPlaces(disks, r)
			read, _ := impl.RootRead(disks, text)
			spans := rootSpans(read)
			if meets([]span{textSpan(text), listSpan(places)}, given) || meets(spans, []span{textSpan(text)}) {
				t.Errorf("%v: an answer is no new memory", r)
			}
			for i := range spans {
				if meets(spans[:i], spans[i:i+1]) {
					t.Errorf("%v: two lists of one answer share memory", r)
				}
			}
		}
	}
}

// roomy is a root whose lists have spare room, filled, and that room.
func roomy(r impl.Root) (impl.Root, func() string) {
	out := copied(r)
	fill := func(p *impl.Ptr) {
		p.Places = append(slices.Clone(p.Places), at(1, 1, 2, 2, 3, 3)...)[:len(p.Places)]
	}
	for v := range out.Vols {
		w := &out.Vols[v]
		for b := range w.Blocks {
			fill(&w.Blocks[b])
		}
		w.Blocks = append(w.Blocks, ptr(5, 5, 1, 1), ptr(6, 6, 1, 1))[:len(w.Blocks)]
	}
	out.Vols = append(out.Vols, vol("kept"), vol("too"))[:len(r.Vols)]
	return out, func() string {
		told := fmt.Sprint(out.Txg, out.Vols[:cap(out.Vols)])
		for _, v := range out.Vols {
			told += fmt.Sprint(v.Blocks[:cap(v.Blocks)])
			for _, p := range v.Blocks {
				told += fmt.Sprint(p.Places[:cap(p.Places)])
			}
		}
		return told
	}
}

func TestRootArgumentsStay(t *testing.T) {
	for _, disks := range append(pools(), 2, 5) {
		roots := okRoots(impl.DiskMax)
		for _, wrong := range wrongRoots() {
			roots = append(roots, wrong)
		}
		for _, r := range roots {
			whole, tell := roomy(r)
			before := tell()
			impl.RootOk(disks, whole)
			impl.RootText(disks, whole)
			if places := impl.RootPlaces(disks, whole); len(places) > 0 {
				clear(places[:cap(places)])
			}
			for _, p := range whole.Vols {
				for _, b := range p.Blocks {
					impl.PtrOk(disks, b)
				}
			}
			if after := tell(); after != before {
				t.Fatalf("%s\nis now\n%s", before, after)
			}
		}
	}
}

func TestRootAnswersAreTheSameEachTime(t *testing.T) {
	for _, disks := range pools() {
		for _, r := range okRoots(disks)[:50] {
			text := impl.RootText(disks, r)
			first, _ := impl.RootRead(disks, text)
			places := impl.RootPlaces(disks, r)
			want := fmt.Sprint(first, places)
			for v := range first.Vols {
				for b := range first.Vols[v].Blocks {
					clear(first.Vols[v].Blocks[b].Places)
				}
				clear(first.Vols[v].Blocks)
			}
			clear(places)
			impl.RootRead(disks, "root 5\nvol q\nptr")
			again, _ := impl.RootRead(disks, text)
			if got := fmt.Sprint(again, impl.RootPlaces(disks, r)); got != want || impl.RootText(disks, r) != text {
				t.Errorf("%s, then %s", want, got)
			}
		}
	}
	if got, ok := impl.RootRead(3, "root 1\n"); ok || !reflect.DeepEqual(got, impl.Root{}) {
		t.Error("something is kept between two calls:", got)
	}
}
