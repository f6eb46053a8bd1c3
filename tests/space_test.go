package tests

import (
	"fmt"
	"math/rand"
	"slices"
	"sync"
	"testing"

	"loop.example/paling/impl"
)

// allPlaces is all places of so many disks, by disks, then slots.
func allPlaces(disks int) []impl.Place {
	var places []impl.Place
	for disk := range disks {
		for slot := range 12 {
			places = append(places, impl.Place{Disk: disk, Slot: slot})
		}
	}
	return places
}

// without is places of which some others are left out, in the order in which they were.
func without(places []impl.Place, others []impl.Place) []impl.Place {
	var out []impl.Place
	for _, place := range places {
		if !slices.Contains(others, place) {
			out = append(out, place)
		}
	}
	return out
}

// slotsOf is all slots of a disk, from one on.
func slotsOf(disk int, from int) []impl.Place {
	var places []impl.Place
	for slot := from; slot < 12; slot++ {
		places = append(places, impl.Place{Disk: disk, Slot: slot})
	}
	return places
}

// freeSaid is SpaceFree as the document says it, written out.
func freeSaid(disks int, a impl.Root, b impl.Root) []impl.Place {
	if !rootSaid(disks, a) || !rootSaid(disks, b) {
		return nil
	}
	used := map[impl.Place]bool{}
	for _, v := range slices.Concat(a.Vols, b.Vols) {
		for _, p := range v.Blocks {
			for _, place := range p.Places {
				used[place] = true
			}
		}
	}
	var free []impl.Place
	for _, place := range allPlaces(disks) {
		if !used[place] {
			free = append(free, place)
		}
	}
	return free
}

// takeSaid is SpaceTake as the document says it, written out: as no disk gives twice, they give in the order of their numbers.
func takeSaid(disks int, a impl.Root, b impl.Root, cols int) ([]impl.Place, bool) {
	if disks < 3 || disks > 4 || cols < 1 || cols > disks {
		return nil, false
	}
	free := make([][]impl.Place, disks)
	for _, place := range freeSaid(disks, a, b) {
		free[place.Disk] = append(free[place.Disk], place)
	}
	slices.SortStableFunc(free, func(one []impl.Place, other []impl.Place) int { return len(other) - len(one) })
	var taken []impl.Place
	for _, places := range free[:cols] {
		if len(places) == 0 {
			return nil, false
		}
		taken = append(taken, places[0])
	}
	return taken, true
}

// using is an ok root whose pointers have such places, each as long as can be.
func using(txg int, places ...[]impl.Place) impl.Root {
	r := impl.Root{Txg: txg}
	for i, list := range places {
		if i%impl.BlockMax == 0 {
			r.Vols = append(r.Vols, vol(string(rune('a'+i/impl.BlockMax))))
		}
		size := max(0, impl.SecLen*(len(list)-1))
		r.Vols[i/impl.BlockMax].Blocks[i%impl.BlockMax] = impl.Ptr{Size: size, Sum: min(size, 1) * i, Places: list}
	}
	return r
}

// twoFull uses all slots of two disks, and of no other.
func twoFull(one int, other int) impl.Root {
	var places [][]impl.Place
	for slot := range impl.SlotMax {
		places = append(places, at(one, slot, other, impl.SlotMax-1-slot))
	}
	return using(12, places...)
}

// firstSlots uses so many first slots of two disks.
func firstSlots(one int, other int, count int) impl.Root {
	var places [][]impl.Place
	for slot := range count {
		places = append(places, at(one, slot, other, slot))
	}
	return using(count, places...)
}

// halves are two roots that share no place, and use all together.
func halves(disks int) (impl.Root, impl.Root) {
	a, b := crowdedRoot(disks), crowdedRoot(disks)
	a.Vols, b.Vols = a.Vols[:2], b.Vols[2:]
	return a, b
}

// busyRoot is an ok root in which one disk is used more than another, at any slots.
func busyRoot(r *rand.Rand, disks int) impl.Root {
	slots := make([][]int, disks)
	often := make([]int, disks)
	for disk := range disks {
		slots[disk] = r.Perm(impl.SlotMax)
		often[disk] = r.Intn(5)
	}
	var places [][]impl.Place
	for i := range r.Intn(impl.VolMax*impl.BlockMax + 1) {
		var list []impl.Place
		for _, disk := range r.Perm(disks) {
			if often[disk] > r.Intn(4) {
				list = append(list, impl.Place{Disk: disk, Slot: slots[disk][i]})
			}
		}
		if len(list) < 2 {
			list = nil
		}
		places = append(places, list)
	}
	return using(r.Intn(9), places...)
}

// twoRoots is two roots of one pool.
type twoRoots struct {
	disks int
	a, b  impl.Root
}

// pairs are two ok roots each: the same, such as share some places, or none, and such without volumes.
func pairs() []twoRoots {
	r := rand.New(rand.NewSource(12))
	var out []twoRoots
	for _, disks := range pools() {
		first, second := halves(disks)
		roots := append(okRoots(disks)[:60], twoFull(0, 1), twoFull(1, 2), firstSlots(0, 2, 5), first, second)
		for range 200 {
			roots = append(roots, busyRoot(r, disks))
		}
		for _, a := range roots {
			other := roots[r.Intn(len(roots))]
			out = append(out, twoRoots{disks, a, impl.Root{}}, twoRoots{disks, impl.Root{}, a}, twoRoots{disks, a, copied(a)},
				twoRoots{disks, a, other}, twoRoots{disks, other, a})
		}
		out = append(out, twoRoots{disks, first, second}, twoRoots{disks, second, first}, twoRoots{disks, impl.Root{}, rootOf(3)})
	}
	return out
}

// isFree asks for the places that are free, whichever root is the first.
func isFree(t *testing.T, why string, disks int, a impl.Root, b impl.Root, want []impl.Place) {
	t.Helper()
	if got := impl.SpaceFree(disks, a, b); !slices.Equal(got, want) {
		t.Errorf("%s: %v, not %v", why, got, want)
	}
	if got := impl.SpaceFree(disks, b, a); !slices.Equal(got, want) {
		t.Errorf("%s, the other way about: %v, not %v", why, got, want)
	}
}

// isTaken asks for the places that are taken, whichever root is the first.
func isTaken(t *testing.T, why string, disks int, a impl.Root, b impl.Root, want []impl.Place) {
	t.Helper()
	if got, ok := impl.SpaceTake(disks, a, b, len(want)); !ok || !slices.Equal(got, want) {
		t.Errorf("%s: %v, %v, not %v", why, got, ok, want)
	}
	if got, ok := impl.SpaceTake(disks, b, a, len(want)); !ok || !slices.Equal(got, want) {
		t.Errorf("%s, the other way about: %v, %v, not %v", why, got, ok, want)
	}
}

// isNotTaken asks that nothing is taken.
func isNotTaken(t *testing.T, why string, disks int, a impl.Root, b impl.Root, cols int) {
	t.Helper()
	if got, ok := impl.SpaceTake(disks, a, b, cols); ok || len(got) != 0 {
		t.Errorf("%s, %d disks: %d places are %v, %v", why, disks, cols, got, ok)
	}
}

func TestSpaceOfRootsWithoutVolumes(t *testing.T) {
	for _, disks := range pools() {
		for _, b := range []impl.Root{{}, rootOf(impl.TxgMax), {Vols: []impl.Vol{}}, rootOf(1, vol("a"), vol("b"))} {
			isFree(t, "without volumes", disks, impl.Root{}, b, allPlaces(disks))
			for cols := 1; cols <= disks; cols++ {
				isTaken(t, "without volumes", disks, impl.Root{}, b, at(0, 0, 1, 0, 2, 0, 3, 0)[:cols])
			}
			isNotTaken(t, "none", disks, impl.Root{}, b, 0)
			isNotTaken(t, "one more than disks", disks, impl.Root{}, b, disks+1)
			isNotTaken(t, "below 0", disks, impl.Root{}, b, -1)
		}
	}
}

func TestSpaceFreeAtItsEdges(t *testing.T) {
	p, q := at(1, 4, 0, 11), at(2, 0, 0, 0, 1, 0)
	one := rootOf(7, vol("a", impl.Ptr{}, ptr(2, 5, 1, 4, 0, 11)), vol("b"))
	both := rootOf(8, vol("b", ptr(4, 9, 2, 0, 0, 0, 1, 0), impl.Ptr{}, ptr(2, 5, 1, 4, 0, 11)))
	for _, disks := range pools() {
		every := allPlaces(disks)
		isFree(t, "one root", disks, one, impl.Root{}, without(every, p))
		isFree(t, "the same root", disks, one, one, without(every, p))
		isFree(t, "some places together", disks, one, both, without(every, append(slices.Clone(p), q...)))
		isFree(t, "no place together", disks, one, using(1, q), without(every, append(slices.Clone(p), q...)))
		isFree(t, "one place, told of otherwise", disks, one, using(1, at(2, 7, 1, 4)), without(every, append(slices.Clone(p), at(2, 7)...)))
		isFree(t, "two disks that are full", disks, twoFull(2, 0), impl.Root{}, without(every, append(slotsOf(0, 0), slotsOf(2, 0)...)))
		isFree(t, "three disks that are full", disks, twoFull(2, 0), twoFull(0, 1), slotsOf(3, 0)[:12*(disks-3)])
		isFree(t, "the first slots", disks, firstSlots(0, 1, 12), firstSlots(1, 2, 10), append(slotsOf(2, 10), slotsOf(3, 0)[:12*(disks-3)]...))
		isFree(t, "all slots", disks, crowdedRoot(disks), impl.Root{}, nil)
		isFree(t, "all slots twice", disks, crowdedRoot(disks), crowdedRoot(disks), nil)
		first, second := halves(disks)
		isFree(t, "all slots together", disks, first, second, nil)
	}
}

func TestSpaceTakeAtItsEdges(t *testing.T) {
	isTaken(t, "one place", 3, using(1, at(0, 0, 1, 0)), impl.Root{}, at(2, 0))
	isTaken(t, "the last disk has most", 3, using(1, at(0, 0, 1, 0)), impl.Root{}, at(2, 0, 0, 1, 1, 1))
	isTaken(t, "the second disk has most", 3, using(1, at(0, 0, 2, 0)), using(2, at(0, 1, 2, 0)), at(1, 0, 2, 1, 0, 2))
	isTaken(t, "the last first", 4, using(1, at(0, 0, 1, 0, 2, 0), at(0, 1, 1, 1)), using(1, at(0, 5, 2, 5)), at(3, 0, 1, 2, 2, 1, 0, 2))
	isTaken(t, "as many free, the first first", 4, using(1, at(3, 5, 2, 6, 1, 7, 0, 8)), impl.Root{}, at(0, 0, 1, 0, 2, 0, 3, 0))
	isTaken(t, "as many free, but at other slots", 3, using(1, at(2, 0, 1, 11, 0, 0)), impl.Root{}, at(0, 1, 1, 0, 2, 1))
	isTaken(t, "two and two as many", 4, using(1, at(0, 1, 2, 0)), impl.Root{}, at(1, 0, 3, 0, 0, 0, 2, 1))
	isTaken(t, "not the first slots", 3, firstSlots(0, 1, 5), firstSlots(1, 2, 9), at(0, 5, 1, 9, 2, 9))
	isTaken(t, "a gap", 3, using(1, at(0, 0, 1, 0), at(0, 2, 1, 2)), using(1, at(0, 3, 1, 1), at(2, 0, 1, 3)), at(2, 1, 0, 1, 1, 4))
	isTaken(t, "the same place of both counts once", 3, using(1, at(0, 0, 1, 0)), using(1, at(0, 0, 1, 1)), at(2, 0, 0, 1, 1, 2))
	isTaken(t, "the last slot", 3, firstSlots(0, 2, 11), firstSlots(1, 2, 11), at(0, 11, 1, 11, 2, 11))
}

func TestSpaceTakeOfDisksThatAreFull(t *testing.T) {
	isTaken(t, "one of three has any", 3, twoFull(0, 1), impl.Root{}, at(2, 0))
	isNotTaken(t, "one of three has any", 3, twoFull(0, 1), impl.Root{}, 2)
	isNotTaken(t, "one of three has any", 3, impl.Root{}, twoFull(0, 1), 3)
	isTaken(t, "two of four have any", 4, twoFull(0, 2), using(1, at(1, 0, 2, 0)), at(3, 0, 1, 1))
	isNotTaken(t, "two of four have any", 4, twoFull(0, 2), using(1, at(1, 0, 2, 0)), 3)
	isNotTaken(t, "two of four have any", 4, twoFull(0, 2), using(1, at(1, 0, 2, 0)), 4)
	isTaken(t, "one of four has any", 4, twoFull(0, 2), twoFull(2, 1), at(3, 0))
	isNotTaken(t, "one of four has any", 4, twoFull(0, 2), twoFull(2, 1), 2)
	one := firstSlots(1, 2, 11)
	isTaken(t, "one is full", 3, firstSlots(0, 1, 12), one, at(2, 11))
	full := using(1, at(0, 0, 1, 0), at(0, 1, 1, 1), at(0, 2, 1, 2), at(0, 3, 1, 3), at(0, 4, 1, 4), at(0, 5, 1, 5),
		at(0, 6, 2, 0), at(0, 7, 2, 1), at(0, 8, 2, 2), at(0, 9, 2, 3), at(0, 10, 2, 4), at(0, 11, 2, 5))
	isTaken(t, "the first is full, the others half", 3, full, impl.Root{}, at(1, 6, 2, 6))
	isNotTaken(t, "as many as disks, one of which is full", 3, full, impl.Root{}, 3)
	isTaken(t, "as many as the others, one of which is full", 4, full, impl.Root{}, at(3, 0, 1, 6, 2, 6))
	isNotTaken(t, "as many as disks, one of which is full", 4, full, impl.Root{}, 4)
	for _, disks := range pools() {
		first, second := halves(disks)
		for cols := -1; cols <= disks+1; cols++ {
			isNotTaken(t, "all slots", disks, crowdedRoot(disks), impl.Root{}, cols)
			isNotTaken(t, "all slots", disks, impl.Root{}, crowdedRoot(disks), cols)
			isNotTaken(t, "all slots twice", disks, crowdedRoot(disks), crowdedRoot(disks), cols)
			isNotTaken(t, "all slots together", disks, first, second, cols)
		}
	}
}

// Promise 37.
func TestP37FreeIsWhatNoneOfBothUses(t *testing.T) {
	for _, c := range pairs() {
		a, b := impl.RootPlaces(c.disks, c.a), impl.RootPlaces(c.disks, c.b)
		want := without(without(allPlaces(c.disks), a), b)
		isFree(t, fmt.Sprint(c), c.disks, c.a, c.b, want)
	}
}

// Promise 38.
func TestP38TakenAreFreePlacesOnDifferentDisks(t *testing.T) {
	count := map[bool]int{}
	for _, c := range pairs() {
		free := impl.SpaceFree(c.disks, c.a, c.b)
		some := map[int]bool{}
		for _, place := range free {
			some[place.Disk] = true
		}
		for cols := 1; cols <= c.disks; cols++ {
			got, ok := impl.SpaceTake(c.disks, c.a, c.b, cols)
			count[ok]++
			if ok != (cols <= len(some)) {
				t.Errorf("%v: %d places of %d disks that have any: %v", c, cols, len(some), ok)
			}
			if !ok {
				if len(got) != 0 {
					t.Errorf("%v: %v beside false", c, got)
				}
				continue
			}
			gave := map[int]bool{}
			for _, place := range got {
				if gave[place.Disk] || !slices.Contains(free, place) {
					t.Errorf("%v: %v are taken", c, got)
				}
				gave[place.Disk] = true
			}
			if len(got) != cols {
				t.Errorf("%v: %v are not %d", c, got, cols)
			}
		}
	}
	if count[true] < 100 || count[false] < 100 {
		t.Error("too few of a kind:", count)
	}
}

// Promise 39.
func TestP39FreeAndUsedPlacesAreAll(t *testing.T) {
	for _, disks := range pools() {
		if got := impl.SpaceFree(disks, impl.Root{}, rootOf(5)); !slices.Equal(got, allPlaces(disks)) {
			t.Error(got)
		}
	}
	for _, c := range pairs() {
		alone := impl.SpaceFree(c.disks, c.a, impl.Root{})
		together := append(slices.Clone(alone), impl.RootPlaces(c.disks, c.a)...)
		slices.SortFunc(together, func(p impl.Place, q impl.Place) int { return (p.Disk-q.Disk)*100 + p.Slot - q.Slot })
		if !slices.Equal(together, allPlaces(c.disks)) {
			t.Errorf("%v: with its places %v is free", c, alone)
		}
		if got := impl.SpaceFree(c.disks, c.a, c.b); len(without(got, alone)) > 0 {
			t.Errorf("%v: more than %v is free, %v", c, alone, got)
		}
	}
}

// Promise 40.
func TestP40TheDiskWithMostFreePlacesGivesItsFirst(t *testing.T) {
	ties, later := 0, 0
	for _, c := range pairs() {
		free := make([][]impl.Place, c.disks)
		for _, place := range impl.SpaceFree(c.disks, c.a, c.b) {
			free[place.Disk] = append(free[place.Disk], place)
		}
		for cols := 1; cols <= c.disks; cols++ {
			got, _ := impl.SpaceTake(c.disks, c.a, c.b, cols)
			gave := map[int]bool{}
			for _, place := range got {
				mine := free[place.Disk]
				if len(mine) == 0 || mine[0] != place {
					t.Errorf("%v: %v is not the first of %v", c, place, mine)
				}
				for disk, others := range free {
					if disk == place.Disk || gave[disk] {
						continue
					}
					if len(others) > len(mine) || len(others) == len(mine) && disk < place.Disk {
						t.Errorf("%v: %v is taken, and disk %d has more", c, got, disk)
					}
					if len(others) == len(mine) {
						ties++
					} else if disk < place.Disk {
						later++
					}
				}
				gave[place.Disk] = true
			}
		}
	}
	if ties < 100 || later < 100 {
		t.Error("too few of a kind:", ties, later)
	}
}

func TestSpaceIsAsSaid(t *testing.T) {
	r := rand.New(rand.NewSource(121))
	count := map[string]int{}
	for _, c := range pairs() {
		for range 4 {
			a, b, disks := c.a, c.b, c.disks
			switch r.Intn(6) {
			case 0:
				a = spoiled(r, a)
			case 1:
				b = spoiled(r, b)
			case 2:
				disks = 2 + r.Intn(4)
			}
			want := freeSaid(disks, a, b)
			if got := impl.SpaceFree(disks, a, b); !slices.Equal(got, want) {
				t.Fatalf("%d disks, %v, %v: %v, not %v", disks, a, b, got, want)
			}
			count[fmt.Sprint("any free: ", len(want) > 0)]++
			for cols := -2; cols <= 6; cols++ {
				got, ok := impl.SpaceTake(disks, a, b, cols)
				want, fine := takeSaid(disks, a, b, cols)
				if ok != fine || !slices.Equal(got, want) {
					t.Fatalf("%d disks, %v, %v, %d: %v, %v, not %v, %v", disks, a, b, cols, got, ok, want, fine)
				}
				count[fmt.Sprint(cols, " taken: ", ok)]++
			}
		}
	}
	for _, kind := range []string{"any free: true", "any free: false", "1 taken: true", "1 taken: false", "3 taken: true", "3 taken: false", "4 taken: true", "4 taken: false"} {
		if count[kind] < 100 {
			t.Error("too few of a kind:", kind, count)
		}
	}
}

// isNoSpace asks that nothing is free, nor taken, however much is asked for.
func isNoSpace(t *testing.T, why string, disks int, a impl.Root, b impl.Root) {
	t.Helper()
	if got := impl.SpaceFree(disks, a, b); len(got) != 0 {
		t.Errorf("%s, %d disks: %v is free", why, disks, got)
	}
	for _, cols := range append(farNumbers(), -1, 0, 1, 2, 3, 4, 5, disks) {
		isNotTaken(t, why, disks, a, b, cols)
	}
}

func TestSpaceOfNoPool(t *testing.T) {
	for _, disks := range noPools() {
		isNoSpace(t, "without volumes", disks, impl.Root{}, impl.Root{})
		for _, r := range append(okRoots(impl.DiskMin)[:12], twoFull(0, 1)) {
			isNoSpace(t, "no pool", disks, r, impl.Root{})
			isNoSpace(t, "no pool", disks, impl.Root{}, r)
			isNoSpace(t, "no pool", disks, r, r)
		}
	}
}

func TestSpaceOfRootsThatAreNotOk(t *testing.T) {
	for _, disks := range pools() {
		for why, wrong := range wrongRoots() {
			for _, r := range []impl.Root{{}, using(1, at(0, 0, 1, 0)), crowdedRoot(disks)} {
				isNoSpace(t, why+", the first", disks, wrong, r)
				isNoSpace(t, why+", the second", disks, r, wrong)
			}
			isNoSpace(t, why+", both", disks, wrong, wrong)
		}
	}
}

func TestSpaceOfARootThatIsOkWithOtherDisks(t *testing.T) {
	for why, r := range map[string]impl.Root{
		"a place of the fourth disk": using(1, at(0, 0, 3, 0)),
		"a text of three columns":    using(1, at(0, 0, 1, 0, 2, 0, 3, 0)),
		"all slots of the fourth":    twoFull(0, 3),
		"all slots":                  crowdedRoot(4),
	} {
		isNoSpace(t, why, 3, r, impl.Root{})
		isNoSpace(t, why, 3, impl.Root{}, r)
		isNoSpace(t, why, 3, r, using(1, at(0, 0, 1, 0)))
		isFree(t, why, 4, r, impl.Root{}, freeSaid(4, r, impl.Root{}))
	}
	isTaken(t, "a place of the fourth disk", 4, using(1, at(0, 0, 3, 0)), impl.Root{}, at(1, 0, 2, 0, 0, 1, 3, 1))
	// Fewer disks' roots are ok with more disks, and the further disk is free.
	isTaken(t, "all slots of fewer disks", 4, crowdedRoot(3), impl.Root{}, at(3, 0))
	isNotTaken(t, "all slots of fewer disks", 4, crowdedRoot(3), impl.Root{}, 2)
}

func TestSpaceTakeOfWrongNumbers(t *testing.T) {
	for _, disks := range pools() {
		for _, cols := range append(farNumbers(), -3, -2, -1, 0, disks+1, disks+2, impl.SlotMax, disks*impl.SlotMax) {
			for _, r := range okRoots(disks)[:20] {
				isNotTaken(t, "a wrong number", disks, r, impl.Root{}, cols)
				isNotTaken(t, "a wrong number", disks, impl.Root{}, r, cols)
			}
		}
	}
}

// What is taken is where a text can be put.
func TestAPtrToWhatIsTakenIsOk(t *testing.T) {
	for _, c := range pairs() {
		for cols := 2; cols <= c.disks; cols++ {
			places, ok := impl.SpaceTake(c.disks, c.a, c.b, cols)
			if !ok {
				continue
			}
			text := "paling.go"[:3*(cols-1)]
			p := ptrOf(t, text, places)
			isGot(t, "taken", put(t, poolOf(c.disks, impl.DiskLive), p, text), p, text)
			more := copied(c.a)
			if len(more.Vols) < impl.VolMax {
				more.Vols = append(more.Vols, vol("new", p))
				if !impl.RootOk(c.disks, more) {
					t.Errorf("%v: with %v the root is not ok", c, p)
				}
			}
		}
	}
}

func TestSpaceAnswersAreNewMemory(t *testing.T) {
	for _, c := range pairs() {
		given := append(rootSpans(c.a), rootSpans(c.b)...)
		free := impl.SpaceFree(c.disks, c.a, c.b)
		again := impl.SpaceFree(c.disks, c.a, c.b)
		apart(t, "free", []span{listSpan(free), listSpan(again)}, given)
		for cols := 1; cols <= c.disks; cols++ {
			taken, _ := impl.SpaceTake(c.disks, c.a, c.b, cols)
			apart(t, "taken", []span{listSpan(free), listSpan(taken)}, given)
		}
	}
}

func TestSpaceArgumentsStay(t *testing.T) {
	cases := pairs()
	for _, wrong := range wrongRoots() {
		cases = append(cases, twoRoots{3, wrong, crowdedRoot(3)}, twoRoots{4, crowdedRoot(3), wrong}, twoRoots{5, wrong, wrong})
	}
	for _, c := range cases {
		a, tellA := roomy(c.a)
		b, tellB := roomy(c.b)
		before := tellA() + tellB()
		free := impl.SpaceFree(c.disks, a, b)
		clear(free[:cap(free)])
		for cols := range c.disks + 2 {
			taken, _ := impl.SpaceTake(c.disks, a, b, cols)
			clear(taken[:cap(taken)])
		}
		if after := tellA() + tellB(); after != before {
			t.Fatalf("%s\nis now\n%s", before, after)
		}
	}
}

// tellSpace is all that is answered of two roots.
func tellSpace(c twoRoots) string {
	told := fmt.Sprint(impl.SpaceFree(c.disks, c.a, c.b))
	for cols := range c.disks + 2 {
		taken, ok := impl.SpaceTake(c.disks, c.a, c.b, cols)
		told += fmt.Sprint(taken, ok)
		clear(taken)
	}
	return told
}

func TestSpaceAnswersAreTheSameEachTime(t *testing.T) {
	for i, c := range pairs() {
		if i%9 > 0 {
			continue
		}
		want := tellSpace(c)
		var group sync.WaitGroup
		for range 4 {
			group.Go(func() {
				for range 10 {
					if got := tellSpace(c); got != want {
						t.Errorf("%v: %s, then %s", c, want, got)
					}
				}
			})
		}
		group.Wait()
	}
}
