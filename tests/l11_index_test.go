package tests

import (
	"fmt"
	"maps"
	"math"
	"math/rand/v2"
	"reflect"
	"slices"
	"testing"

	"loop.example/g00890/impl"
)

// haveCommon reports whether a number is in both ranges.
func haveCommon(low, high, otherLow, otherHigh int64) bool {
	for n := low; n <= high; n++ {
		if within(n, otherLow, otherHigh) {
			return true
		}
	}
	return false
}

// overlapByDefinition takes rectangles anywhere.
func overlapByDefinition(a, b impl.Rect) bool {
	return haveCommon(a.X0, a.X1-1, b.X0, b.X1-1) && haveCommon(a.Y0, a.Y1-1, b.Y0, b.Y1-1)
}

// bucketRect follows the words of chapter 11: 16 columns and rows of unit cells, from the first to the last one.
func bucketRect(number int64) impl.Rect {
	i, j := number%5, number/5
	return impl.Rect{X0: -40 + 16*i, Y0: -40 + 16*j, X1: -40 + 16*i + 15 + 1, Y1: -40 + 16*j + 15 + 1}
}

func bucketsByDefinition(box impl.Rect) []int64 {
	var numbers []int64
	for n := range int64(25) {
		if overlapByDefinition(box, bucketRect(n)) {
			numbers = append(numbers, n)
		}
	}
	return numbers
}

// indexWith has these entries and the buckets that they overlap, whether or not an index can have them.
func indexWith(entries ...impl.SpatialEntry) impl.SpatialIndex {
	x := impl.SpatialIndex{Entries: entries, Buckets: make([][]int64, 25)}
	for n := range x.Buckets {
		for _, e := range entries {
			if overlapByDefinition(e.Box, bucketRect(int64(n))) {
				x.Buckets[n] = append(x.Buckets[n], e.Id)
			}
		}
	}
	return x
}

// holding is what an index should hold: rectangles by their ids.
type holding map[int64]impl.Rect

func (h holding) ids() []int64 {
	return slices.Sorted(maps.Keys(h))
}

func (h holding) with(id int64, box impl.Rect) holding {
	other := maps.Clone(h)
	other[id] = box
	return other
}

func (h holding) without(id int64) holding {
	other := maps.Clone(h)
	delete(other, id)
	return other
}

func (h holding) index() impl.SpatialIndex {
	var entries []impl.SpatialEntry
	for _, id := range h.ids() {
		entries = append(entries, impl.SpatialEntry{Id: id, Box: h[id]})
	}
	return indexWith(entries...)
}

// in scans all entries.
func (h holding) in(window impl.Rect) []int64 {
	var found []int64
	for _, id := range h.ids() {
		if overlapByDefinition(h[id], window) {
			found = append(found, id)
		}
	}
	return found
}

func (h holding) candidates(window impl.Rect) int64 {
	overlapped := bucketsByDefinition(window)
	count := int64(0)
	for _, box := range h {
		inBucket := func(n int64) bool { return overlapByDefinition(box, bucketRect(n)) }
		if slices.ContainsFunc(overlapped, inBucket) {
			count++
		}
	}
	return count
}

// nearest tries one distance after the other.
func (h holding) nearest(p impl.Point) (int64, int64) {
	if len(h) == 0 {
		return 0, -1
	}
	for k := int64(0); ; k++ {
		if found := h.in(impl.Rect{X0: p.X - k, Y0: p.Y - k, X1: p.X + 1 + k, Y1: p.Y + 1 + k}); len(found) > 0 {
			return found[0], k
		}
	}
}

// indexText does not tell a nil slice from an empty one.
func indexText(x impl.SpatialIndex) string {
	return fmt.Sprintf("entries %v buckets %v", x.Entries, x.Buckets)
}

func copyOfIndex(x impl.SpatialIndex) impl.SpatialIndex {
	other := impl.SpatialIndex{Entries: slices.Clone(x.Entries), Buckets: slices.Clone(x.Buckets)}
	for n, ids := range other.Buckets {
		other.Buckets[n] = slices.Clone(ids)
	}
	return other
}

func isZeroIndex(x impl.SpatialIndex) bool {
	return len(x.Entries) == 0 && len(x.Buckets) == 0
}

// validIndexByDefinition follows the words of chapter 11.
func validIndexByDefinition(x impl.SpatialIndex) bool {
	if len(x.Entries) > 40 || len(x.Buckets) != 25 {
		return false
	}
	for i, e := range x.Entries {
		if !within(e.Id, 1, 9999) || !wantValid(e.Box) || i > 0 && e.Id <= x.Entries[i-1].Id {
			return false
		}
	}
	for n, ids := range x.Buckets {
		var want []int64
		for _, e := range x.Entries {
			if overlapByDefinition(e.Box, bucketRect(int64(n))) {
				want = append(want, e.Id)
			}
		}
		if !slices.Equal(ids, want) {
			return false
		}
	}
	return true
}

func checkIndex(t *testing.T, what string, x impl.SpatialIndex, want holding) {
	t.Helper()
	if got, wanted := indexText(x), indexText(want.index()); got != wanted {
		t.Fatalf("%s:\n%s\nwant\n%s", what, got, wanted)
	}
	if !impl.IsValidIndex(x) || !validIndexByDefinition(x) {
		t.Fatalf("%s: valid %v, %v: %s", what, impl.IsValidIndex(x), validIndexByDefinition(x), indexText(x))
	}
}

// checkWindow returns how many entries the query examines and does not return.
func checkWindow(t *testing.T, x impl.SpatialIndex, h holding, window impl.Rect) int64 {
	t.Helper()
	found, count := impl.EntriesIn(x, window), impl.CandidateCount(x, window)
	if want, wantCount := h.in(window), h.candidates(window); !slices.Equal(found, want) || count != wantCount {
		t.Fatalf("window %v: %v of %d, want %v of %d: %s", window, found, count, want, wantCount, indexText(x))
	}
	if count < int64(len(found)) {
		t.Fatalf("window %v: %v were found and %d examined", window, found, count)
	}
	return count - int64(len(found))
}

func checkNearest(t *testing.T, x impl.SpatialIndex, h holding, p impl.Point) int64 {
	t.Helper()
	id, k := impl.NearestEntry(x, p)
	if wantId, want := h.nearest(p); id != wantId || k != want {
		t.Fatalf("the nearest to %v is %d at %d, want %d at %d: %s", p, id, k, wantId, want, indexText(x))
	}
	return k
}

// rangesAround returns ranges that end before another one, abut it, overlap it by one, are equal to it and contain it.
func rangesAround(low, high int64) [][2]int64 {
	return [][2]int64{
		{low - 2, low - 1}, {low - 1, low}, {low - 1, low + 1}, {low, low + 1}, {low, high}, {low - 1, high + 1},
		{high - 1, high}, {high - 1, high + 1}, {high, high + 1}, {high + 1, high + 2},
	}
}

func windowsAround(box impl.Rect) []impl.Rect {
	var list []impl.Rect
	for _, x := range rangesAround(box.X0, box.X1) {
		for _, y := range rangesAround(box.Y0, box.Y1) {
			if window := (impl.Rect{X0: x[0], Y0: y[0], X1: x[1], Y1: y[1]}); wantValid(window) {
				list = append(list, window)
			}
		}
	}
	return list
}

// chipCorners are the unit cells in the corners of the chip.
func chipCorners() []impl.Point {
	return vertices(-40, -40, 39, -40, -40, 39, 39, 39)
}

// checkHolding asks for what lies around each entry and in each bucket.
func checkHolding(t *testing.T, what string, x impl.SpatialIndex, h holding) {
	t.Helper()
	checkIndex(t, what, x, h)
	for n := range int64(25) {
		checkWindow(t, x, h, bucketRect(n))
	}
	for _, r := range sampleRects() {
		checkWindow(t, x, h, r)
	}
	for _, p := range chipCorners() {
		checkNearest(t, x, h, p)
	}
	for _, box := range h {
		for _, window := range windowsAround(box) {
			checkWindow(t, x, h, window)
		}
		for _, p := range vertices(box.X0, box.Y0, box.X1-1, box.Y1-1, box.X0-1, box.Y0, box.X1, box.Y1, box.X0, box.Y1+1) {
			if wantValid(unitRect(p)) {
				checkNearest(t, x, h, p)
			}
		}
	}
}

func mustInsert(t *testing.T, x impl.SpatialIndex, id int64, box impl.Rect) impl.SpatialIndex {
	t.Helper()
	y, code := impl.InsertEntry(x, id, box)
	if code != impl.ErrNone {
		t.Fatalf("InsertEntry of %d with %v: %d: %s", id, box, code, indexText(x))
	}
	return y
}

func mustRemove(t *testing.T, x impl.SpatialIndex, id int64) impl.SpatialIndex {
	t.Helper()
	y, code := impl.RemoveEntry(x, id)
	if code != impl.ErrNone {
		t.Fatalf("RemoveEntry of %d: %d: %s", id, code, indexText(x))
	}
	return y
}

func mustMove(t *testing.T, x impl.SpatialIndex, id int64, box impl.Rect) impl.SpatialIndex {
	t.Helper()
	y, code := impl.MoveEntry(x, id, box)
	if code != impl.ErrNone {
		t.Fatalf("MoveEntry of %d to %v: %d: %s", id, box, code, indexText(x))
	}
	return y
}

// build inserts entries in this order.
func build(t *testing.T, h holding, ids []int64) impl.SpatialIndex {
	t.Helper()
	x := impl.EmptyIndex()
	for _, id := range ids {
		x = mustInsert(t, x, id, h[id])
	}
	return x
}

// checkRefused compares the codes of the three changes; a code ErrNone is not asked for.
func checkRefused(t *testing.T, what string, x impl.SpatialIndex, id int64, box impl.Rect, insert, remove, move int64) {
	t.Helper()
	check := func(name string, want int64, got impl.SpatialIndex, code int64) {
		t.Helper()
		if want != impl.ErrNone && (code != want || !isZeroIndex(got)) {
			t.Fatalf("%s: %s of %d with %v: %d, %s, want %d", what, name, id, box, code, indexText(got), want)
		}
	}
	y, code := impl.InsertEntry(x, id, box)
	check("InsertEntry", insert, y, code)
	y, code = impl.RemoveEntry(x, id)
	check("RemoveEntry", remove, y, code)
	y, code = impl.MoveEntry(x, id, box)
	check("MoveEntry", move, y, code)
}

// checkInvalidIndex asks every function.
func checkInvalidIndex(t *testing.T, what string, x impl.SpatialIndex) {
	t.Helper()
	if impl.IsValidIndex(x) || validIndexByDefinition(x) {
		t.Fatalf("%s: valid %v, %v: %.999s", what, impl.IsValidIndex(x), validIndexByDefinition(x), indexText(x))
	}
	unit, bad := impl.Rect{X1: 1, Y1: 1}, impl.Rect{X1: 41, Y1: 1}
	ids := []int64{7, 1, 9999, 0, 10000, -1}
	for _, e := range x.Entries[:min(2, len(x.Entries))] {
		ids = append(ids, e.Id)
	}
	for _, id := range ids {
		for _, box := range []impl.Rect{unit, wholeChip()[0], bad} {
			checkRefused(t, what, x, id, box, impl.ErrInvalid, impl.ErrInvalid, impl.ErrInvalid)
		}
	}
	for _, window := range []impl.Rect{unit, wholeChip()[0], bad, bucketRect(0), bucketRect(24)} {
		if found, count := impl.EntriesIn(x, window), impl.CandidateCount(x, window); len(found) != 0 || count != -1 {
			t.Fatalf("%s: window %v: %v of %d: %.999s", what, window, found, count, indexText(x))
		}
	}
	for _, p := range append(chipCorners(), impl.Point{}, impl.Point{X: 40}) {
		if id, k := impl.NearestEntry(x, p); id != 0 || k != -1 {
			t.Fatalf("%s: the nearest to %v is %d at %d: %.999s", what, p, id, k, indexText(x))
		}
	}
}

// TestBucketsOfUnitCells finds each unit cell of the chip in one bucket.
func TestBucketsOfUnitCells(t *testing.T) {
	var cells [25]int
	for _, p := range paint(wholeChip()...).points() {
		numbers := impl.BucketsOf(unitRect(p))
		if len(numbers) != 1 || !within(numbers[0], 0, 24) || !overlapByDefinition(bucketRect(numbers[0]), unitRect(p)) {
			t.Fatalf("the unit cell %v is in %v", p, numbers)
		}
		cells[numbers[0]]++
	}
	for n, count := range cells {
		if count != 256 {
			t.Errorf("bucket %d has %d unit cells", n, count)
		}
		checkNumbers(t, fmt.Sprint("bucket ", n), impl.BucketsOf(bucketRect(int64(n))), []int64{int64(n)})
	}
}

// TestBucketsOfEveryRange has all ranges of columns with some of rows, and the other way round.
func TestBucketsOfEveryRange(t *testing.T) {
	for low := int64(-40); low < 40; low++ {
		for high := low + 1; high <= 40; high++ {
			for _, other := range [][2]int64{{-40, 40}, {-40, -39}, {39, 40}, {-25, -23}, {-24, -8}, {-24, -7}, {0, 1}, {23, 24}} {
				for _, r := range []impl.Rect{{X0: low, Y0: other[0], X1: high, Y1: other[1]}, {X0: other[0], Y0: low, X1: other[1], Y1: high}} {
					if got, want := impl.BucketsOf(r), bucketsByDefinition(r); !slices.Equal(got, want) {
						t.Fatalf("BucketsOf(%v) = %v, want %v", r, got, want)
					}
				}
			}
		}
	}
	all := impl.BucketsOf(wholeChip()[0])
	if len(all) != 25 || all[0] != 0 || all[24] != 24 {
		t.Errorf("the chip overlaps %v", all)
	}
}

// besideBorders are the borders of buckets and of the chip and the numbers beside them.
func besideBorders() []int64 {
	return []int64{-40, -39, -25, -24, -23, -9, -8, -7, 7, 8, 9, 24, 25, 39, 40}
}

func borderRects() []impl.Rect {
	var list []impl.Rect
	numbers := besideBorders()
	for i, x := range numbers {
		for _, right := range numbers[i+1:] {
			for k, y := range numbers {
				for _, top := range numbers[k+1:] {
					list = append(list, impl.Rect{X0: x, Y0: y, X1: right, Y1: top})
				}
			}
		}
	}
	return list
}

// TestRectanglesAtBorders inserts, moves and removes one rectangle at a time.
func TestRectanglesAtBorders(t *testing.T) {
	x, h := impl.EmptyIndex(), holding{}
	sizes := map[int]int{}
	for n, box := range borderRects() {
		id := int64(n%9999) + 1
		inserted := mustInsert(t, impl.EmptyIndex(), id, box)
		checkIndex(t, fmt.Sprint("inserted ", box), inserted, holding{id: box})
		if n%1000 == 0 {
			x, h = mustInsert(t, x, id, box), h.with(id, box)
		} else {
			moving := h.ids()[0]
			x, h = mustMove(t, x, moving, box), h.with(moving, box)
		}
		checkIndex(t, fmt.Sprint("one of several is at ", box), x, h)
		checkIndex(t, fmt.Sprint("removed ", box), mustRemove(t, inserted, id), holding{})
		overlapped := impl.BucketsOf(box)
		sizes[len(overlapped)]++
		if n%20 == 0 {
			checkWindow(t, x, h, box)
			checkHolding(t, "one rectangle", inserted, holding{id: box})
		}
	}
	// A rectangle overlaps one to five columns of buckets and as many rows.
	for _, count := range []int{1, 2, 3, 4, 5, 6, 8, 9, 10, 12, 15, 16, 20, 25} {
		if sizes[count] == 0 {
			t.Errorf("no rectangle overlaps %d buckets", count)
		}
	}
}

// TestWindowsAndRectangles has all pairs of rectangles within four by four unit cells, within a bucket, at borders of
// buckets and at those of the chip.
func TestWindowsAndRectangles(t *testing.T) {
	for _, place := range vertices(-40, -40, 36, 36, -40, 36, 36, -40, -26, -26, -27, 6, 6, 22, 23, -9, 0, 0) {
		missed := int64(0)
		rects := gridRects(place.X, place.Y)
		for _, box := range rects {
			h := holding{9999: box}
			x := mustInsert(t, impl.EmptyIndex(), 9999, box)
			for _, window := range rects {
				missed += checkWindow(t, x, h, window)
			}
		}
		if missed == 0 {
			t.Errorf("every rectangle at %v that was examined was found", place)
		}
	}
}

// TestRectanglesThatAreNotValid has rectangles and windows that are empty, reversed, one unit beyond each border and far
// away.
func TestRectanglesThatAreNotValid(t *testing.T) {
	for _, h := range []holding{{}, {5: wholeChip()[0]}, sampleHolding()} {
		x := h.index()
		for _, r := range invalidRects() {
			if got := impl.BucketsOf(r); len(got) != 0 {
				t.Fatalf("BucketsOf(%v) = %v", r, got)
			}
			for _, id := range []int64{5, 6, 0, 10000} {
				checkRefused(t, "a rectangle that is not valid", x, id, r, impl.ErrInvalid, impl.ErrNone, impl.ErrInvalid)
			}
			if found, count := impl.EntriesIn(x, r), impl.CandidateCount(x, r); len(found) != 0 || count != -1 {
				t.Fatalf("window %v: %v of %d", r, found, count)
			}
		}
		checkIndex(t, "afterwards", x, h)
	}
}

// sampleHolding has entries in one bucket, in two, in four and in all of them, and two with the same rectangle.
func sampleHolding() holding {
	return holding{
		1: {X0: -40, Y0: -40, X1: -39, Y1: -39}, 5: {X0: -25, Y0: -40, X1: -23, Y1: -39}, 6: {X0: -40, Y0: -40, X1: 40, Y1: 40},
		70: {X0: 7, Y0: 7, X1: 9, Y1: 9}, 71: {X0: 7, Y0: 7, X1: 9, Y1: 9}, 400: {X0: 9, Y0: 8, X1: 24, Y1: 24}, 9999: {X0: 39, Y0: 39, X1: 40, Y1: 40},
	}
}

// noIds are numbers that no entry can have.
func noIds() []int64 {
	list := append([]int64{0, 10000, -1, -9999, 1 << 32, 1<<32 + 1, -1 << 32, 1<<16 + 1, 1<<8 - 1<<16}, outside...)
	return slices.DeleteFunc(list, func(n int64) bool { return within(n, 1, 9999) })
}

func TestIdsAtTheLimits(t *testing.T) {
	box := impl.Rect{X0: -3, X1: 5, Y1: 9}
	for _, h := range []holding{{}, {2: box, 9998: box}, {1: box}, {9999: box}, {1: box, 9999: box}, sampleHolding()} {
		x := h.index()
		for _, id := range []int64{1, 2, 3, 255, 256, 257, 9998, 9999} {
			if _, held := h[id]; held {
				checkRefused(t, "there is one", x, id, box, impl.ErrState, impl.ErrNone, impl.ErrNone)
				checkHolding(t, fmt.Sprint("without ", id), mustRemove(t, x, id), h.without(id))
				continue
			}
			checkRefused(t, "there is none", x, id, box, impl.ErrNone, impl.ErrNotFound, impl.ErrNotFound)
			checkHolding(t, fmt.Sprint("with ", id), mustInsert(t, x, id, box), h.with(id, box))
		}
		for _, id := range noIds() {
			checkRefused(t, "no id", x, id, box, impl.ErrRange, impl.ErrNotFound, impl.ErrNotFound)
		}
	}
}

func TestEmptyIndex(t *testing.T) {
	x := impl.EmptyIndex()
	checkHolding(t, "empty", x, holding{})
	for _, id := range []int64{1, 2, 9999, 0, -1, 10000} {
		checkRefused(t, "empty", x, id, impl.Rect{X1: 1, Y1: 1}, impl.ErrNone, impl.ErrNotFound, impl.ErrNotFound)
	}
	for _, p := range paint(wholeChip()...).points() {
		if id, k := impl.NearestEntry(x, p); id != 0 || k != -1 {
			t.Fatalf("the nearest to %v is %d at %d", p, id, k)
		}
	}
	filled := mustInsert(t, x, 3, wholeChip()[0])
	checkIndex(t, "still empty", x, holding{})
	checkIndex(t, "removed again", mustRemove(t, filled, 3), holding{})
	for _, ids := range filled.Buckets {
		ids[0] = 4
	}
	clear(filled.Buckets)
	x.Buckets[7] = []int64{5}
	checkIndex(t, "another one", impl.EmptyIndex(), holding{})
}

// permutations returns all orders of the numbers below count.
func permutations(count int) [][]int {
	if count == 0 {
		return [][]int{nil}
	}
	var list [][]int
	for _, shorter := range permutations(count - 1) {
		for position := range count {
			list = append(list, slices.Insert(slices.Clone(shorter), position, count-1))
		}
	}
	return list
}

// TestEveryOrder inserts the same entries in every order, moves them all in it and removes them in it.
func TestEveryOrder(t *testing.T) {
	ids := []int64{1, 2, 70, 400, 9999}
	before := holding{
		1: {X0: -25, Y0: -25, X1: -23, Y1: -23}, 2: {X0: -40, Y0: -40, X1: 40, Y1: 40}, 70: {X0: -24, Y0: -24, X1: -23, Y1: -23},
		400: {X0: -26, Y0: -30, X1: 8, Y1: -20}, 9999: {X0: -25, Y0: -25, X1: -24, Y1: -24},
	}
	after := holding{
		1: {X0: -40, Y0: 8, X1: 40, Y1: 9}, 2: {X0: 0, Y0: 0, X1: 1, Y1: 1}, 70: before[70],
		400: {X0: 7, Y0: -9, X1: 9, Y1: 9}, 9999: {X0: -40, Y0: -40, X1: -8, Y1: 40},
	}
	orders := permutations(len(ids))
	if len(orders) != 120 {
		t.Fatalf("%d orders", len(orders))
	}
	for _, order := range orders {
		x, h := impl.EmptyIndex(), holding{}
		for _, i := range order {
			x, h = mustInsert(t, x, ids[i], before[ids[i]]), h.with(ids[i], before[ids[i]])
			checkIndex(t, fmt.Sprint("inserted ", ids[i], " in the order ", order), x, h)
		}
		full := x
		for _, i := range order {
			x, h = mustMove(t, x, ids[i], after[ids[i]]), h.with(ids[i], after[ids[i]])
			checkIndex(t, fmt.Sprint("moved ", ids[i], " in the order ", order), x, h)
		}
		for _, i := range order {
			x, h = mustRemove(t, x, ids[i]), h.without(ids[i])
			checkIndex(t, fmt.Sprint("removed ", ids[i], " in the order ", order), x, h)
		}
		checkIndex(t, fmt.Sprint("all inserted in the order ", order), full, before)
	}
	checkHolding(t, "before", build(t, before, ids), before)
	checkHolding(t, "after", build(t, after, ids), after)
}

// fullHoldings have 40 entries: of all sizes, at one place, in neighboring unit cells, and the whole chip 40 times.
func fullHoldings() []holding {
	list := []holding{{}, {}, {}, {}}
	for i, box := range randomRects(5, 40, 60) {
		id := int64(i)
		list[0][9999-249*id] = box
		list[1][id+1] = impl.Rect{X0: 7, Y0: -9, X1: 9, Y1: -7}
		list[2][id+9960] = impl.Rect{X0: 2*id - 40, Y0: 2*id - 40, X1: 2*id - 38, Y1: 2*id - 38}
		list[3][3*id+5] = wholeChip()[0]
	}
	return list
}

func TestFullIndexes(t *testing.T) {
	for i, h := range fullHoldings() {
		ids := h.ids()
		x := build(t, h, ids)
		checkHolding(t, fmt.Sprint("full ", i), x, h)
		slices.Reverse(ids)
		checkIndex(t, fmt.Sprint("built backwards ", i), build(t, h, ids), h)
		rand.New(rand.NewPCG(uint64(i), 11)).Shuffle(len(ids), func(a, b int) { ids[a], ids[b] = ids[b], ids[a] })
		checkIndex(t, fmt.Sprint("built in some order ", i), build(t, h, ids), h)
		unit := impl.Rect{X0: 1, Y0: 2, X1: 2, Y1: 3}
		for id := int64(1); id <= 9999; id += 1 + id%97 {
			_, held := h[id]
			if held {
				checkRefused(t, "full", x, id, unit, impl.ErrState, impl.ErrNone, impl.ErrNone)
			} else {
				checkRefused(t, "full", x, id, unit, impl.ErrLimit, impl.ErrNotFound, impl.ErrNotFound)
			}
		}
		for _, id := range ids {
			removed := mustRemove(t, x, id)
			checkIndex(t, fmt.Sprint("without ", id), removed, h.without(id))
			checkIndex(t, fmt.Sprint("moved ", id), mustMove(t, x, id, unit), h.with(id, unit))
			for _, other := range []int64{id, 1, 4, 9958, 9999} {
				if _, held := h[other]; other == id || !held {
					again := mustInsert(t, removed, other, unit)
					checkIndex(t, fmt.Sprint(other, " for ", id), again, h.without(id).with(other, unit))
					checkRefused(t, "full again", again, 9957, unit, impl.ErrLimit, impl.ErrNotFound, impl.ErrNotFound)
				}
			}
		}
	}
}

// TestOneEntryMore has full indexes with one more entry, at each position, which would be valid otherwise.
func TestOneEntryMore(t *testing.T) {
	h := holding{}
	for i := range int64(40) {
		h[2*i+2] = impl.Rect{X0: i - 20, Y0: -i, X1: i - 10, Y1: 7}
	}
	checkIndex(t, "40 entries", h.index(), h)
	for i := range int64(41) {
		more := h.with(2*i+1, impl.Rect{X0: -i, Y0: i - 20, X1: 10, Y1: i})
		if len(more) != 41 {
			t.Fatal(len(more))
		}
		checkInvalidIndex(t, fmt.Sprint("41 entries with ", 2*i+1), more.index())
	}
}

// change is an operation of a sequence.
type change struct {
	kind int
	id   int64
	box  impl.Rect
}

func randomChange(random *rand.Rand, ids []int64, size int64) change {
	width, height := 1+random.Int64N(size), 1+random.Int64N(size)
	x, y := random.Int64N(limit-width+1)-40, random.Int64N(limit-height+1)-40
	return change{random.IntN(8), ids[random.IntN(len(ids))], impl.Rect{X0: x, Y0: y, X1: x + width, Y1: y + height}}
}

// expected returns what an index holds after a change, and the code.
func (c change) expected(h holding) (holding, int64) {
	_, held := h[c.id]
	switch {
	case c.kind < 4 && !within(c.id, 1, 9999):
		return h, impl.ErrRange
	case c.kind < 4 && held:
		return h, impl.ErrState
	case c.kind < 4 && len(h) == 40:
		return h, impl.ErrLimit
	case c.kind >= 4 && !held:
		return h, impl.ErrNotFound
	case c.kind == 4:
		return h.without(c.id), impl.ErrNone
	}
	return h.with(c.id, c.box), impl.ErrNone
}

func (c change) apply(x impl.SpatialIndex) (impl.SpatialIndex, int64) {
	switch {
	case c.kind < 4:
		return impl.InsertEntry(x, c.id, c.box)
	case c.kind == 4:
		return impl.RemoveEntry(x, c.id)
	}
	return impl.MoveEntry(x, c.id, c.box)
}

// checkSequence looks at each index again after the last change.
func checkSequence(t *testing.T, seed uint64, ids []int64, size int64, steps int) map[int64]int {
	t.Helper()
	random := rand.New(rand.NewPCG(seed, 11))
	x, h := impl.EmptyIndex(), holding{}
	indexes, holdings, codes := []impl.SpatialIndex{x}, []holding{h}, map[int64]int{}
	for step := range steps {
		c := randomChange(random, ids, size)
		next, wantCode := c.expected(h)
		changed, code := c.apply(x)
		if codes[code]++; code != wantCode || code != impl.ErrNone && !isZeroIndex(changed) {
			t.Fatalf("seed %d, step %d: %+v: %d, %s, want %d: %s", seed, step, c, code, indexText(changed), wantCode, indexText(x))
		}
		if code != impl.ErrNone {
			continue
		}
		x, h = changed, next
		checkIndex(t, fmt.Sprintf("seed %d, step %d: %+v", seed, step, c), x, h)
		for range 2 {
			query := randomChange(random, ids, 80)
			checkWindow(t, x, h, query.box)
			checkWindow(t, x, h, randomChange(random, ids, 6).box)
			checkNearest(t, x, h, impl.Point{X: query.box.X0, Y: query.box.Y0})
		}
		indexes, holdings = append(indexes, x), append(holdings, h)
	}
	for i, old := range indexes {
		checkIndex(t, fmt.Sprintf("seed %d: index %d afterwards", seed, i), old, holdings[i])
		checkWindow(t, old, holdings[i], randomChange(random, ids, 40).box)
	}
	checkHolding(t, fmt.Sprintf("seed %d: the last index", seed), x, h)
	return codes
}

func TestSequences(t *testing.T) {
	few := []int64{1, 2, 3, 70, 400, 9998, 9999, 0, 10000}
	var many []int64
	for i := range int64(60) {
		many = append(many, 1+i*9998/59)
	}
	many = append(many, 0, 10000, math.MaxInt64, math.MinInt64)
	codes := map[int64]int{}
	for seed := range uint64(4) {
		for _, size := range []int64{1, 9, 33, 80} {
			maps.Copy(codes, checkSequence(t, seed, few, size, 150))
			maps.Copy(codes, checkSequence(t, seed+100, many, size, 300))
		}
	}
	for _, code := range []int64{impl.ErrNone, impl.ErrRange, impl.ErrState, impl.ErrLimit, impl.ErrNotFound} {
		if codes[code] == 0 {
			t.Errorf("no change returned %d", code)
		}
	}
}

// TestLongSequence fills an index and empties it again and again.
func TestLongSequence(t *testing.T) {
	x, h := impl.EmptyIndex(), holding{}
	for round := range int64(12) {
		for i := range int64(40) {
			id, box := 1+(i*37+round*101)%9999, impl.Rect{X0: i - 40, Y0: round - 40, X1: i - 20 + round, Y1: round + i - 10}
			x, h = mustInsert(t, x, id, box), h.with(id, box)
			moved := impl.Rect{X0: -i, Y0: round - 20, X1: 40 - i, Y1: 40 - round}
			x, h = mustMove(t, x, id, moved), h.with(id, moved)
			checkWindow(t, x, h, impl.Rect{X0: i - 20, Y0: -20, X1: i - 19, Y1: 1})
		}
		checkHolding(t, fmt.Sprint("round ", round), x, h)
		ids := h.ids()
		if round%2 == 0 {
			slices.Reverse(ids)
		}
		for _, id := range ids {
			x, h = mustRemove(t, x, id), h.without(id)
			checkNearest(t, x, h, impl.Point{X: round, Y: -round})
		}
		checkIndex(t, fmt.Sprint("after round ", round), x, h)
	}
}

// spareIndex returns a copy of an index whose slices have elements behind their ends, and all of these slices as a text.
func spareIndex(base impl.SpatialIndex) (impl.SpatialIndex, func() string) {
	x := copyOfIndex(base)
	for n, ids := range x.Buckets {
		x.Buckets[n] = append(ids, -5, -6, -7)[:len(ids)]
	}
	x.Buckets = append(x.Buckets, []int64{-8})[:len(x.Buckets)]
	behind := impl.SpatialEntry{Id: -9}
	x.Entries = append(x.Entries, behind, behind)[:len(x.Entries)]
	return x, func() string {
		all := impl.SpatialIndex{Entries: x.Entries[:cap(x.Entries)], Buckets: slices.Clone(x.Buckets[:cap(x.Buckets)])}
		for n, ids := range all.Buckets {
			all.Buckets[n] = ids[:cap(ids)]
		}
		return indexText(all)
	}
}

// overwriteIndex clears an index and what lies behind the ends of its slices.
func overwriteIndex(x impl.SpatialIndex) {
	for _, ids := range x.Buckets[:cap(x.Buckets)] {
		clear(ids[:cap(ids)])
	}
	clear(x.Buckets[:cap(x.Buckets)])
	clear(x.Entries[:cap(x.Entries)])
}

// changesOf returns changes of an index: an insertion before and behind each entry, each removal and two moves each.
func changesOf(h holding) []change {
	var list []change
	for _, id := range h.ids() {
		for _, other := range []int64{id - 1, id + 1} {
			if _, held := h[other]; !held && within(other, 1, 9999) && len(h) < 40 {
				list = append(list, change{kind: 0, id: other, box: impl.Rect{X0: -24, Y0: -40, X1: 9, Y1: 8}})
			}
		}
		list = append(list, change{kind: 4, id: id}, change{kind: 5, id: id, box: h[id]}, change{kind: 5, id: id, box: impl.Rect{X0: 7, Y0: 0, X1: 24, Y1: 25}})
	}
	return list
}

// TestManyOperationsOnOneIndex keeps the results of all changes of one index, then overwrites one after the other.
func TestManyOperationsOnOneIndex(t *testing.T) {
	holdings := append(fullHoldings(), sampleHolding(), holding{7: wholeChip()[0]}, holding{1: {X1: 1, Y1: 1}, 2: {X0: 1, X1: 2, Y1: 1}})
	for i, h := range holdings {
		x, all := spareIndex(h.index())
		old := all()
		list := changesOf(h)
		var results []impl.SpatialIndex
		for _, c := range list {
			y, code := c.apply(x)
			if code != impl.ErrNone {
				t.Fatalf("holding %d: %+v: %d", i, c, code)
			}
			results = append(results, y)
		}
		check := func(what string, from int) {
			t.Helper()
			for k, y := range results[from:] {
				want, _ := list[from+k].expected(h)
				checkIndex(t, fmt.Sprintf("holding %d: %+v, %s", i, list[from+k], what), y, want)
			}
			if all() != old {
				t.Fatalf("holding %d, %s: the argument became %s, it was %s", i, what, all(), old)
			}
		}
		check("in the end", 0)
		for k := range results {
			overwriteIndex(results[k])
			if len(results) < 30 || k%15 == 0 {
				check(fmt.Sprintf("after %+v was overwritten", list[k]), k+1)
			}
		}
		check("after all were overwritten", len(results))
	}
}

// TestIndexesKeepTheirArguments also looks at the memory behind the arguments and overwrites the results of queries.
func TestIndexesKeepTheirArguments(t *testing.T) {
	for _, h := range append(fullHoldings(), sampleHolding(), holding{}, holding{7: wholeChip()[0]}) {
		x, all := spareIndex(h.index())
		old := all()
		for range 2 {
			checkHolding(t, "with elements behind the ends", x, h)
			for _, window := range append(sampleRects(), bucketRect(0), bucketRect(13)) {
				found := impl.EntriesIn(x, window)
				for i := range found[:cap(found)] {
					found[:cap(found)][i] = -3
				}
			}
			impl.IsValidIndex(x)
			checkRefused(t, "refused", x, 0, impl.Rect{X1: 1, Y1: 1}, impl.ErrRange, impl.ErrNotFound, impl.ErrNotFound)
			if all() != old {
				t.Fatalf("the argument became %s, it was %s", all(), old)
			}
		}
	}
}

// TestIndexResultsHaveTheirOwnMemory overwrites each slice of a result and looks at the others. In the argument, all
// buckets share theirs.
func TestIndexResultsHaveTheirOwnMemory(t *testing.T) {
	h := holding{3: wholeChip()[0], 8: wholeChip()[0], 9: wholeChip()[0]}
	for _, c := range append(changesOf(h), change{kind: 0, id: 100, box: wholeChip()[0]}, change{kind: 0, id: 1, box: wholeChip()[0]}) {
		x := h.index()
		for n := range x.Buckets {
			x.Buckets[n] = x.Buckets[24]
		}
		checkIndex(t, "with shared buckets", x, h)
		want, _ := c.expected(h)
		for n := range 25 {
			y, code := c.apply(x)
			if code != impl.ErrNone {
				t.Fatal(code)
			}
			wanted := want.index()
			ids := y.Buckets[n]
			clear(ids[:cap(ids)])
			clear(wanted.Buckets[n])
			checkTexts(t, fmt.Sprintf("%+v, bucket %d was overwritten", c, n), indexText(y), indexText(wanted))
			clear(y.Entries[:cap(y.Entries)])
			clear(wanted.Entries)
			clear(y.Buckets[:cap(y.Buckets)])
			wanted.Buckets = make([][]int64, 25)
			checkTexts(t, fmt.Sprintf("%+v, all was overwritten", c), indexText(y), indexText(wanted))
			checkIndex(t, "the argument", x, h)
		}
	}
}

// nearestHoldings have entries at equal distances from many unit cells, some within others, and at the corners.
func nearestHoldings() []holding {
	return []holding{
		{1: {X0: 3, Y0: -4, X1: 5, Y1: -1}},
		{8: {X0: -4, Y0: -4, X1: -2, Y1: -2}, 9: {X0: 2, Y0: -4, X1: 4, Y1: -2}, 10: {X0: -4, Y0: 2, X1: -2, Y1: 4}, 11: {X0: 2, Y0: 2, X1: 4, Y1: 4}},
		{11: {X0: -4, Y0: -4, X1: -2, Y1: -2}, 10: {X0: 2, Y0: -4, X1: 4, Y1: -2}, 9: {X0: -4, Y0: 2, X1: -2, Y1: 4}, 8: {X0: 2, Y0: 2, X1: 4, Y1: 4}},
		{4: {X0: -30, Y0: -30, X1: 30, Y1: 30}, 5: {X0: -20, Y0: -20, X1: 20, Y1: 35}, 3: {X0: -5, Y0: -5, X1: 1, Y1: 1}, 6: {X0: -40, Y0: 0, X1: 40, Y1: 1}},
		{9999: {X0: -40, Y0: -40, X1: -39, Y1: -39}}, {9999: {X0: 39, Y0: 39, X1: 40, Y1: 40}},
		{7: {X0: -40, Y0: 39, X1: -39, Y1: 40}, 70: {X0: 39, Y0: -40, X1: 40, Y1: -39}},
		{2: {X0: -24, Y0: -8, X1: -8, Y1: 8}, 3: {X0: -8, Y0: -8, X1: 8, Y1: 8}, 1: {X0: 8, Y0: -8, X1: 24, Y1: 8}},
	}
}

// TestNearestToEveryUnitCell asks for each unit cell of the chip.
func TestNearestToEveryUnitCell(t *testing.T) {
	distances := map[int64]int{}
	for _, h := range nearestHoldings() {
		x := h.index()
		for _, p := range paint(wholeChip()...).points() {
			distances[checkNearest(t, x, h, p)]++
		}
	}
	// Between the first and the last unit cell of a row there are 78 others.
	for k := range int64(80) {
		if distances[k] == 0 {
			t.Errorf("no unit cell has the distance %d", k)
		}
	}
	if len(distances) != 80 {
		t.Errorf("the distances %v", distances)
	}
}

func TestNearestByHand(t *testing.T) {
	x := nearestHoldings()[1].index()
	y := nearestHoldings()[2].index()
	inside := nearestHoldings()[3].index()
	corner := holding{9999: {X0: 39, Y0: 39, X1: 40, Y1: 40}}.index()
	for _, c := range []struct {
		name string
		x    impl.SpatialIndex
		p    impl.Point
		id   int64
		k    int64
	}{
		{"at the corner of one", x, impl.Point{X: 1, Y: 1}, 11, 1},
		{"between two, nearer to the right one", x, impl.Point{X: 0, Y: -3}, 9, 2},
		{"between two, nearer to the left one", x, impl.Point{X: -1, Y: -3}, 8, 2},
		{"as far from 8 as from 10", holding{8: {X0: -5, X1: -3, Y1: 1}, 10: {X0: 2, X1: 5, Y1: 1}}.index(), impl.Point{X: -1}, 8, 3},
		{"equal distances", holding{8: {X0: -4, X1: -3, Y1: 1}, 7: {X0: 4, X1: 5, Y1: 1}}.index(), impl.Point{}, 7, 4},
		{"the diagonal counts as one step", x, impl.Point{X: -5, Y: -5}, 8, 1},
		{"equal distances, the other order of ids", y, impl.Point{X: 1, Y: 1}, 8, 1},
		{"in three rectangles", inside, impl.Point{X: 0, Y: 0}, 3, 0},
		{"in two rectangles", inside, impl.Point{X: 10, Y: 10}, 4, 0},
		{"in one rectangle", inside, impl.Point{X: 0, Y: 31}, 5, 0},
		{"the opposite corner", corner, impl.Point{X: -40, Y: -40}, 9999, 79},
		{"the same corner", corner, impl.Point{X: 39, Y: 39}, 9999, 0},
		{"the other end of the row", corner, impl.Point{X: -40, Y: 39}, 9999, 79},
		{"the other end of the column", corner, impl.Point{X: 39, Y: -40}, 9999, 79},
	} {
		if id, k := impl.NearestEntry(c.x, c.p); id != c.id || k != c.k {
			t.Errorf("%s: %d at %d, want %d at %d", c.name, id, k, c.id, c.k)
		}
	}
}

// TestNearestBeyondTheChip has points one unit beyond each border and far away.
func TestNearestBeyondTheChip(t *testing.T) {
	for _, h := range append(nearestHoldings(), holding{5: wholeChip()[0]}, holding{}) {
		x := h.index()
		for _, n := range append([]int64{40, -41}, outside...) {
			for _, other := range []int64{-40, 0, 39, n} {
				for _, p := range []impl.Point{{X: n, Y: other}, {X: other, Y: n}} {
					if id, k := impl.NearestEntry(x, p); id != 0 || k != -1 {
						t.Fatalf("the nearest to %v is %d at %d", p, id, k)
					}
				}
			}
		}
	}
}

func TestMovingOntoItself(t *testing.T) {
	for _, h := range append(fullHoldings(), sampleHolding(), holding{7: wholeChip()[0]}, holding{7: {X1: 1, Y1: 1}}) {
		x := h.index()
		for _, id := range h.ids() {
			moved := mustMove(t, x, id, h[id])
			checkIndex(t, fmt.Sprint("moved onto itself ", id), moved, h)
			overwriteIndex(moved)
			away := impl.Rect{X0: 8, Y0: -9, X1: 9, Y1: 10}
			back := mustMove(t, mustMove(t, x, id, away), id, h[id])
			checkIndex(t, fmt.Sprint("moved there and back ", id), back, h)
			removed := mustRemove(t, x, id)
			checkIndex(t, fmt.Sprint("removed and inserted again ", id), mustInsert(t, removed, id, h[id]), h)
			checkIndex(t, "the argument", x, h)
		}
	}
}

// TestOrderOfIndexErrors has each pair of conditions that can hold at once.
func TestOrderOfIndexErrors(t *testing.T) {
	const invalid, outOfRange, exists, tooMany, notFound = impl.ErrInvalid, impl.ErrRange, impl.ErrState, impl.ErrLimit, impl.ErrNotFound
	full := fullHoldings()[1].index()
	broken := copyOfIndex(full)
	broken.Buckets[0] = []int64{1}
	good, bad := impl.Rect{X0: 1, Y0: 1, X1: 2, Y1: 2}, impl.Rect{X0: 1, Y0: 1, X1: 1, Y1: 2}
	for _, c := range []struct {
		name                 string
		x                    impl.SpatialIndex
		id                   int64
		box                  impl.Rect
		insert, remove, move int64
	}{
		{"the index and the rectangle are not valid", broken, 100, bad, invalid, invalid, invalid},
		{"the index is not valid, the id out of range", broken, 0, good, invalid, invalid, invalid},
		{"the index is not valid, the id out of range", broken, 10000, good, invalid, invalid, invalid},
		{"the index is not valid and has the id", broken, 1, good, invalid, invalid, invalid},
		{"the index is not valid and full", broken, 41, good, invalid, invalid, invalid},
		{"the rectangle is not valid, the id out of range", sampleHolding().index(), 0, bad, invalid, notFound, invalid},
		{"the rectangle is not valid, the id is there", sampleHolding().index(), 5, bad, invalid, 0, invalid},
		{"the rectangle is not valid, the id is not there", sampleHolding().index(), 7, bad, invalid, notFound, invalid},
		{"the rectangle is not valid, the index full", full, 41, bad, invalid, notFound, invalid},
		{"the id is out of range, the index full", full, 0, good, outOfRange, notFound, notFound},
		{"the id is out of range, the index full", full, 10000, good, outOfRange, notFound, notFound},
		{"the id is there, the index full", full, 40, good, exists, 0, 0},
		{"the id is not there, the index full", full, 41, good, tooMany, notFound, notFound},
	} {
		t.Run(c.name, func(t *testing.T) {
			checkRefused(t, c.name, c.x, c.id, c.box, c.insert, c.remove, c.move)
		})
	}
}

// indexesWithWrongEntries have one fault each.
func indexesWithWrongEntries() map[string]impl.SpatialIndex {
	entry := func(id int64, box impl.Rect) impl.SpatialEntry { return impl.SpatialEntry{Id: id, Box: box} }
	unit := impl.Rect{X1: 1, Y1: 1}
	return map[string]impl.SpatialIndex{
		"ids that decrease":          indexWith(entry(6, unit), entry(5, unit)),
		"ids that are equal":         indexWith(entry(5, unit), entry(5, unit)),
		"ids equal, rectangles not":  indexWith(entry(5, unit), entry(5, bucketRect(3))),
		"ids equal, others between":  indexWith(entry(5, unit), entry(6, unit), entry(5, unit)),
		"the id 0":                   indexWith(entry(0, unit), entry(5, unit)),
		"the id -1":                  indexWith(entry(-1, unit)),
		"the id 10000":               indexWith(entry(5, unit), entry(10000, unit)),
		"the least id":               indexWith(entry(math.MinInt64, unit)),
		"the greatest id":            indexWith(entry(math.MaxInt64, unit)),
		"41 entries and no buckets":  {Entries: make([]impl.SpatialEntry, 41)},
		"a hundred thousand entries": {Entries: make([]impl.SpatialEntry, 100000), Buckets: make([][]int64, 25)},
	}
}

// indexesWithWrongBuckets have one fault each.
func indexesWithWrongBuckets(base holding) map[string]impl.SpatialIndex {
	buckets := func(list [][]int64) impl.SpatialIndex {
		return impl.SpatialIndex{Entries: base.index().Entries, Buckets: list}
	}
	replaced := func(number int, ids ...int64) impl.SpatialIndex {
		x := base.index()
		x.Buckets[number] = ids
		return x
	}
	exchanged := base.index()
	exchanged.Buckets[12], exchanged.Buckets[13] = exchanged.Buckets[13], exchanged.Buckets[12]
	return map[string]impl.SpatialIndex{
		"the zero index":              {},
		"empty slices":                {Entries: []impl.SpatialEntry{}, Buckets: [][]int64{}},
		"entries without buckets":     buckets(nil),
		"entries with empty buckets":  buckets(make([][]int64, 25)),
		"buckets without entries":     {Buckets: base.index().Buckets},
		"24 empty buckets":            {Buckets: make([][]int64, 24)},
		"26 empty buckets":            {Buckets: make([][]int64, 26)},
		"an id in an empty index":     {Buckets: append(make([][]int64, 24), []int64{1})},
		"a million buckets":           {Buckets: make([][]int64, 1<<20)},
		"24 buckets":                  buckets(base.index().Buckets[:24]),
		"24 buckets, the first left":  buckets(base.index().Buckets[1:]),
		"26 buckets":                  buckets(append(base.index().Buckets, nil)),
		"26 buckets, one with an id":  buckets(append(base.index().Buckets, []int64{8})),
		"a bucket lacks its only id":  replaced(24),
		"a bucket lacks its first id": replaced(12, 8, 9),
		"a bucket lacks its last id":  replaced(12, 5, 8),
		"a bucket has an id too many": replaced(11, 5, 8),
		"a bucket has an unknown id":  replaced(12, 5, 8, 9, 10),
		"a bucket has an id twice":    replaced(0, 8, 8),
		"ids in another order":        replaced(12, 5, 9, 8),
		"ids backwards":               replaced(12, 9, 8, 5),
		"a wrong id":                  replaced(3, 7),
		"a million ids":               replaced(3, make([]int64, 1<<20)...),
		"two buckets exchanged":       exchanged,
	}
}

func TestIndexesThatAreNotValid(t *testing.T) {
	unit, entire := impl.Rect{X1: 1, Y1: 1}, wholeChip()[0]
	base := holding{5: unit, 8: entire, 9: unit}
	faults := indexesWithWrongEntries()
	maps.Copy(faults, indexesWithWrongBuckets(base))
	for name, x := range faults {
		t.Run(name, func(t *testing.T) { checkInvalidIndex(t, name, x) })
	}
	near := func(n int64) bool { return within(n, -100, 100) }
	for _, r := range invalidRects() {
		e := impl.SpatialEntry{Id: 6, Box: r}
		checkInvalidIndex(t, fmt.Sprint("in no bucket ", r), impl.SpatialIndex{Entries: []impl.SpatialEntry{e}, Buckets: make([][]int64, 25)})
		if near(r.X0) && near(r.Y0) && near(r.X1) && near(r.Y1) {
			checkInvalidIndex(t, fmt.Sprint("in its buckets ", r), indexWith(e))
			checkInvalidIndex(t, fmt.Sprint("the last one ", r), indexWith(impl.SpatialEntry{Id: 5, Box: entire}, e))
		}
	}
	checkIndex(t, "without a fault", base.index(), base)
	checkIndex(t, "without entries", indexWith(), holding{})
}

// checkChangedIndex accepts that a change leaves a valid index or none.
func checkChangedIndex(t *testing.T, what string, x impl.SpatialIndex) bool {
	t.Helper()
	if !validIndexByDefinition(x) {
		checkInvalidIndex(t, what, x)
		return false
	}
	h := holding{}
	for _, e := range x.Entries {
		h[e.Id] = e.Box
	}
	checkHolding(t, what, x, h)
	return true
}

// TestEveryFieldOfAnIndex changes each number to values of all kinds, one at a time.
func TestEveryFieldOfAnIndex(t *testing.T) {
	changed := holding{5: {X0: -3, Y0: 1, X1: 7, Y1: 9}, 6: {X0: -24, Y0: -24, X1: 9, Y1: -8}, 9: {X0: 20, Y0: 30, X1: 26, Y1: 31}}.index()
	fields := fieldsOf("x", reflect.ValueOf(&changed).Elem())
	// Three entries with five numbers, then the two, three and two buckets that each one overlaps.
	if len(fields) != 3*5+2+3+2 {
		t.Fatalf("%d numbers", len(fields))
	}
	valid, invalid := 0, 0
	for _, f := range fields {
		old := reflect.ValueOf(f.value.Interface())
		for _, other := range otherValues(old) {
			f.value.Set(other)
			if checkChangedIndex(t, fmt.Sprintf("%s is %v", f.path, other), changed) {
				valid++
			} else {
				invalid++
			}
		}
		f.value.Set(old)
		if !checkChangedIndex(t, f.path+" is as before", changed) {
			t.Fatalf("%s is as before: not valid", f.path)
		}
	}
	if valid < 10 || invalid < 100 {
		t.Errorf("%d valid indexes, %d others", valid, invalid)
	}
}

// TestOrderAndNumberInIndexes has entries, buckets and ids in another order, one more and one less.
func TestOrderAndNumberInIndexes(t *testing.T) {
	for _, h := range []holding{sampleHolding(), {3: wholeChip()[0], 4: wholeChip()[0]}, {}} {
		for n, entries := range listChanges(h.index().Entries, impl.SpatialEntry{Id: 300, Box: impl.Rect{X1: 1, Y1: 1}}) {
			checkChangedIndex(t, fmt.Sprintf("change %d of the entries", n), impl.SpatialIndex{Entries: entries, Buckets: h.index().Buckets})
		}
		for n, buckets := range listChanges(h.index().Buckets, nil) {
			checkChangedIndex(t, fmt.Sprintf("change %d of the buckets", n), impl.SpatialIndex{Entries: h.index().Entries, Buckets: buckets})
		}
		for number := range 25 {
			for _, id := range []int64{0, 1, 3, 5, 70, 300, 9999, 10000, -1, math.MaxInt64} {
				for n, ids := range listChanges(h.index().Buckets[number], id) {
					x := h.index()
					x.Buckets[number] = ids
					checkChangedIndex(t, fmt.Sprintf("change %d of bucket %d with %d", n, number, id), x)
				}
			}
		}
	}
}

// TestIndexesAfterInvalidOnes alternates between them.
func TestIndexesAfterInvalidOnes(t *testing.T) {
	h := sampleHolding()
	broken := h.index()
	broken.Buckets[3] = append(broken.Buckets[3], 71)
	for range 3 {
		checkInvalidIndex(t, "an id too many", broken)
		checkHolding(t, "valid", h.index(), h)
		checkInvalidIndex(t, "the zero index", impl.SpatialIndex{})
		checkHolding(t, "empty", impl.EmptyIndex(), holding{})
	}
}

func TestChapter11Constants(t *testing.T) {
	checkNumbers(t, "the constants", []int64{impl.MaxEntries, impl.MaxEntryId, impl.BucketSize, impl.BucketsPerRow}, []int64{40, 9999, 16, 5})
}

func TestChapter11Examples(t *testing.T) {
	if !impl.IsValidIndex(impl.EmptyIndex()) || impl.IsValidIndex(impl.SpatialIndex{}) {
		t.Error("IsValidIndex")
	}
	across := impl.Rect{X0: -25, Y0: -40, X1: -23, Y1: -39}
	checkNumbers(t, "BucketsOf", impl.BucketsOf(impl.Rect{X0: -40, Y0: -40, X1: -24, Y1: -24}), []int64{0})
	checkNumbers(t, "BucketsOf", impl.BucketsOf(across), []int64{0, 1})
	x := mustInsert(t, impl.EmptyIndex(), 7, across)
	checkNumbers(t, "bucket 0", x.Buckets[0], []int64{7})
	checkNumbers(t, "bucket 1", x.Buckets[1], []int64{7})
	checkTexts(t, "RemoveEntry", indexText(mustRemove(t, x, 7)), indexText(impl.EmptyIndex()))
	moved := mustMove(t, x, 7, impl.Rect{X1: 1, Y1: 1})
	for n, ids := range moved.Buckets {
		if (len(ids) > 0) != (n == 12) {
			t.Errorf("MoveEntry: bucket %d is %v", n, ids)
		}
	}
	two := mustInsert(t, mustInsert(t, impl.EmptyIndex(), 3, impl.Rect{X1: 4, Y1: 4}), 5, impl.Rect{X0: 4, X1: 6, Y1: 2})
	checkNumbers(t, "EntriesIn", impl.EntriesIn(two, impl.Rect{X0: 3, Y0: 1, X1: 4, Y1: 2}), []int64{3})
	checkNumbers(t, "EntriesIn", impl.EntriesIn(two, impl.Rect{X0: 3, Y0: 1, X1: 5, Y1: 2}), []int64{3, 5})
	if id, k := impl.NearestEntry(two, impl.Point{X: 5, Y: 5}); id != 3 || k != 2 {
		t.Errorf("NearestEntry: %d at %d", id, k)
	}
	counts := []int64{
		impl.CandidateCount(two, impl.Rect{X0: 10, Y0: 10, X1: 11, Y1: 11}), impl.CandidateCount(two, impl.Rect{X0: 15, X1: 16, Y1: 1}),
		impl.CandidateCount(two, impl.Rect{X0: 7, Y0: 7, X1: 8, Y1: 8}),
	}
	checkNumbers(t, "CandidateCount", counts, []int64{0, 0, 2})
}
