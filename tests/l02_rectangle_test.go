package tests

import (
	"maps"
	"math"
	"slices"
	"testing"

	"loop.example/g00890/impl"
)

type cellSet map[impl.Point]bool

// cellsOf follows chapter 2's words: the unit cells (x, y) with X0 <= x < X1 and Y0 <= y < Y1.
func cellsOf(r impl.Rect) cellSet {
	cells := cellSet{}
	for x := r.X0; x < r.X1; x++ {
		for y := r.Y0; y < r.Y1; y++ {
			cells[impl.Point{X: x, Y: y}] = true
		}
	}
	return cells
}

// commonCells also serves for one set and the cells of a result that must be that set.
func commonCells(a, b cellSet) cellSet {
	common := cellSet{}
	for p := range a {
		if b[p] {
			common[p] = true
		}
	}
	return common
}

// segment is a side of unit length: from its point to the right, or upwards.
type segment struct {
	from   impl.Point
	upward bool
}

func boundaryOf(r impl.Rect) map[segment]bool {
	sides := map[segment]bool{}
	for x := r.X0; x < r.X1; x++ {
		sides[segment{impl.Point{X: x, Y: r.Y0}, false}] = true
		sides[segment{impl.Point{X: x, Y: r.Y1}, false}] = true
	}
	for y := r.Y0; y < r.Y1; y++ {
		sides[segment{impl.Point{X: r.X0, Y: y}, true}] = true
		sides[segment{impl.Point{X: r.X1, Y: y}, true}] = true
	}
	return sides
}

func shareSegment(a, b impl.Rect) bool {
	sides := boundaryOf(b)
	for s := range boundaryOf(a) {
		if sides[s] {
			return true
		}
	}
	return false
}

// distance is the least one between a point of low..high and one of otherLow..otherHigh.
func distance(low, high, otherLow, otherHigh int64) int64 {
	least := int64(math.MaxInt64)
	for p := low; p <= high; p++ {
		for q := otherLow; q <= otherHigh; q++ {
			least = min(least, max(p-q, q-p))
		}
	}
	return least
}

// gridRects returns all rectangles of a square of four by four unit cells.
func gridRects(left, bottom int64) []impl.Rect {
	var list []impl.Rect
	for x := range int64(4) {
		for width := int64(1); x+width <= 4; width++ {
			for y := range int64(4) {
				for height := int64(1); y+height <= 4; height++ {
					list = append(list, impl.Rect{X0: left + x, Y0: bottom + y, X1: left + x + width, Y1: bottom + y + height})
				}
			}
		}
	}
	return list
}

// sampleRects holds the whole chip, bars across it, unit cells and rectangles at its border and in its middle.
func sampleRects() []impl.Rect {
	return []impl.Rect{
		{X0: -40, Y0: -40, X1: 40, Y1: 40},
		{X0: -40, Y0: 3, X1: 40, Y1: 4},
		{X0: -7, Y0: -40, X1: -5, Y1: 40},
		{X0: -40, Y0: -40, X1: -39, Y1: -39},
		{X0: 39, Y0: 39, X1: 40, Y1: 40},
		{X0: -40, Y0: 39, X1: -39, Y1: 40},
		{X0: 39, Y0: -40, X1: 40, Y1: -39},
		{X0: 0, Y0: 0, X1: 1, Y1: 1},
		{X0: -1, Y0: -1, X1: 0, Y1: 0},
		{X0: -1, Y0: 0, X1: 3, Y1: 2},
		{X0: -39, Y0: -39, X1: 39, Y1: 39},
		{X0: 12, Y0: -31, X1: 40, Y1: 5},
		{X0: -40, Y0: -3, X1: -22, Y1: 17},
	}
}

// invalidRects holds empty and reversed rectangles, some one unit beyond each border, and some so far outside
// that sums and differences overflow.
func invalidRects() []impl.Rect {
	list := []impl.Rect{
		{},
		{X0: 2, Y0: 1, X1: 2, Y1: 5}, {X0: 2, Y0: 1, X1: 5, Y1: 1}, {X0: 40, Y0: 40, X1: 40, Y1: 40},
		{X0: 3, Y0: 1, X1: 2, Y1: 5}, {X0: 2, Y0: 5, X1: 4, Y1: 1}, {X0: 4, Y0: 5, X1: 2, Y1: 1}, {X0: 40, Y0: 40, X1: -40, Y1: -40},
		{X0: -41, Y0: 0, X1: 1, Y1: 1}, {X0: 0, Y0: -41, X1: 1, Y1: 1}, {X0: 0, Y0: 0, X1: 41, Y1: 1}, {X0: 0, Y0: 0, X1: 1, Y1: 41},
		{X0: 40, Y0: 0, X1: 41, Y1: 1}, {X0: 0, Y0: 40, X1: 1, Y1: 41}, {X0: -41, Y0: 0, X1: -40, Y1: 1}, {X0: 0, Y0: -41, X1: 1, Y1: -40},
		{X0: math.MinInt64, Y0: math.MinInt64, X1: math.MaxInt64, Y1: math.MaxInt64},
		{X0: math.MaxInt64, Y0: math.MaxInt64, X1: math.MinInt64, Y1: math.MinInt64},
	}
	for _, n := range outside {
		list = append(list, impl.Rect{X0: n, X1: 1, Y1: 1}, impl.Rect{Y0: n, X1: 1, Y1: 1})
		list = append(list, impl.Rect{X1: n, Y1: 1}, impl.Rect{X1: 1, Y1: n}, impl.Rect{X0: n, Y0: n, X1: n, Y1: n})
	}
	return list
}

func wantValid(r impl.Rect) bool {
	return -impl.Extent <= r.X0 && r.X0 < r.X1 && r.X1 <= impl.Extent && -impl.Extent <= r.Y0 && r.Y0 < r.Y1 && r.Y1 <= impl.Extent
}

// TestIsValidRectFollowsTheDefinition goes through all rectangles with coordinates at, next to and far beyond the border.
func TestIsValidRectFollowsTheDefinition(t *testing.T) {
	numbers := append([]int64{-41, -40, -39, -1, 0, 1, 39, 40, 41}, outside...)
	for _, x0 := range numbers {
		for _, y0 := range numbers {
			for _, x1 := range numbers {
				for _, y1 := range numbers {
					r := impl.Rect{X0: x0, Y0: y0, X1: x1, Y1: y1}
					if impl.IsValidRect(r) != wantValid(r) {
						t.Fatalf("IsValidRect(%v) = %v", r, impl.IsValidRect(r))
					}
				}
			}
		}
	}
}

func TestInvalidRectsAreNotValid(t *testing.T) {
	for _, r := range invalidRects() {
		if impl.IsValidRect(r) || impl.RectArea(r) != -1 {
			t.Errorf("%v is valid or has the area %d", r, impl.RectArea(r))
		}
	}
}

// TestRectAreaAndContainsCountCells asks for every unit cell of the chip and for those around it.
func TestRectAreaAndContainsCountCells(t *testing.T) {
	for _, r := range append(sampleRects(), gridRects(36, -40)...) {
		cells := cellsOf(r)
		if got := impl.RectArea(r); got != int64(len(cells)) {
			t.Errorf("RectArea(%v) = %d, want %d", r, got, len(cells))
		}
		for x := int64(-42); x <= 42; x++ {
			for y := int64(-42); y <= 42; y++ {
				if got := impl.RectContains(r, x, y); got != cells[impl.Point{X: x, Y: y}] {
					t.Fatalf("RectContains(%v, %d, %d) = %v", r, x, y, got)
				}
			}
		}
	}
}

func TestRectContainsRejects(t *testing.T) {
	chip := impl.Rect{X0: -40, Y0: -40, X1: 40, Y1: 40}
	for _, n := range outside {
		if impl.RectContains(chip, n, 0) || impl.RectContains(chip, 0, n) || impl.RectContains(chip, n, n) {
			t.Errorf("the chip contains a unit cell at %d", n)
		}
	}
	for _, r := range invalidRects() {
		for _, p := range []impl.Point{{}, {X: r.X0, Y: r.Y0}, {X: -41}, {X: 2, Y: 3}, {X: 40, Y: 0}} {
			if impl.RectContains(r, p.X, p.Y) {
				t.Errorf("RectContains(%v) of %v", r, p)
			}
		}
	}
}

// TestPairsFollowTheDefinition compares all pairs in the middle and in the corners of the chip with the sets of their unit cells.
func TestPairsFollowTheDefinition(t *testing.T) {
	for _, corner := range []impl.Point{{X: -2, Y: -2}, {X: -40, Y: -40}, {X: 36, Y: 36}, {X: -40, Y: 36}, {X: 36, Y: -40}} {
		list := gridRects(corner.X, corner.Y)
		for _, a := range list {
			for _, b := range list {
				checkPair(t, a, b)
			}
		}
	}
}

func TestDistantPairsFollowTheDefinition(t *testing.T) {
	for _, a := range sampleRects() {
		for _, b := range sampleRects() {
			checkPair(t, a, b)
		}
	}
}

func checkPair(t *testing.T, a, b impl.Rect) {
	t.Helper()
	common := commonCells(cellsOf(a), cellsOf(b))
	if got := impl.RectsOverlap(a, b); got != (len(common) > 0) {
		t.Fatalf("RectsOverlap(%v, %v) = %v", a, b, got)
	}
	if got := impl.RectsAbut(a, b); got != (len(common) == 0 && shareSegment(a, b)) {
		t.Fatalf("RectsAbut(%v, %v) = %v", a, b, got)
	}
	i, ok := impl.IntersectRects(a, b)
	if ok != (len(common) > 0) || !ok && i != (impl.Rect{}) || !maps.Equal(cellsOf(i), common) {
		t.Fatalf("IntersectRects(%v, %v) = %v, %v", a, b, i, ok)
	}
	x, y := impl.RectGap(a, b)
	if x != distance(a.X0, a.X1, b.X0, b.X1) || y != distance(a.Y0, a.Y1, b.Y0, b.Y1) {
		t.Fatalf("RectGap(%v, %v) = %d, %d", a, b, x, y)
	}
}

// TestTouchingPairs names the ways in which two rectangles meet: along a side, at a corner, not at all.
func TestTouchingPairs(t *testing.T) {
	a := impl.Rect{X0: 0, Y0: 0, X1: 2, Y1: 2}
	pairs := []struct {
		b             impl.Rect
		overlap, abut bool
		x, y          int64
	}{
		{b: impl.Rect{X0: 2, Y0: 0, X1: 4, Y1: 2}, abut: true},
		{b: impl.Rect{X0: -2, Y0: 1, X1: 0, Y1: 9}, abut: true},
		{b: impl.Rect{X0: 1, Y0: 2, X1: 3, Y1: 3}, abut: true},
		{b: impl.Rect{X0: -5, Y0: -1, X1: 5, Y1: 0}, abut: true},
		{b: impl.Rect{X0: 2, Y0: 2, X1: 4, Y1: 4}},
		{b: impl.Rect{X0: -1, Y0: -1, X1: 0, Y1: 0}},
		{b: impl.Rect{X0: 2, Y0: -1, X1: 3, Y1: 0}},
		{b: impl.Rect{X0: -1, Y0: 2, X1: 0, Y1: 3}},
		{b: impl.Rect{X0: 3, Y0: 0, X1: 4, Y1: 2}, x: 1},
		{b: impl.Rect{X0: 0, Y0: -9, X1: 2, Y1: -3}, y: 3},
		{b: impl.Rect{X0: 39, Y0: -40, X1: 40, Y1: -39}, x: 37, y: 39},
		{b: impl.Rect{X0: 2, Y0: 4, X1: 3, Y1: 5}, y: 2},
		{b: impl.Rect{X0: 1, Y0: 1, X1: 3, Y1: 3}, overlap: true},
		{b: impl.Rect{X0: 0, Y0: 0, X1: 2, Y1: 2}, overlap: true},
		{b: impl.Rect{X0: 0, Y0: 0, X1: 1, Y1: 2}, overlap: true},
	}
	for _, p := range pairs {
		for _, order := range [][2]impl.Rect{{a, p.b}, {p.b, a}} {
			x, y := impl.RectGap(order[0], order[1])
			overlap, abut := impl.RectsOverlap(order[0], order[1]), impl.RectsAbut(order[0], order[1])
			if overlap != p.overlap || abut != p.abut || x != p.x || y != p.y {
				t.Errorf("%v: overlap %v, abut %v, gap %d %d", order, overlap, abut, x, y)
			}
		}
	}
}

func TestPairsRejectInvalidRects(t *testing.T) {
	good := []impl.Rect{{X0: -40, Y0: -40, X1: 40, Y1: 40}, {X0: 0, Y0: 0, X1: 1, Y1: 1}}
	for _, bad := range invalidRects() {
		for _, other := range append(good, bad, impl.Rect{X0: bad.X1, Y0: bad.Y0, X1: bad.X1 + 1, Y1: bad.Y1}) {
			checkPairRejected(t, bad, other)
			checkPairRejected(t, other, bad)
		}
	}
}

func checkPairRejected(t *testing.T, a, b impl.Rect) {
	t.Helper()
	if impl.RectsOverlap(a, b) || impl.RectsAbut(a, b) {
		t.Errorf("%v and %v overlap or abut", a, b)
	}
	if i, ok := impl.IntersectRects(a, b); ok || i != (impl.Rect{}) {
		t.Errorf("IntersectRects(%v, %v) = %v, %v", a, b, i, ok)
	}
	if x, y := impl.RectGap(a, b); x != -1 || y != -1 {
		t.Errorf("RectGap(%v, %v) = %d, %d", a, b, x, y)
	}
}

// smallestBox tries every rectangle of the grid and keeps the one with the fewest unit cells that covers all.
func smallestBox(grid, list []impl.Rect) impl.Rect {
	var best impl.Rect
	for _, box := range grid {
		inside := cellsOf(box)
		covers := !slices.ContainsFunc(list, func(r impl.Rect) bool {
			cells := cellsOf(r)
			return len(commonCells(cells, inside)) != len(cells)
		})
		if covers && (best == impl.Rect{} || len(inside) < len(cellsOf(best))) {
			best = box
		}
	}
	return best
}

func TestBoundingBoxIsTheSmallest(t *testing.T) {
	for _, corner := range []impl.Point{{X: -2, Y: -1}, {X: -40, Y: -40}, {X: 36, Y: 36}} {
		grid := gridRects(corner.X, corner.Y)
		for i := range grid {
			lists := [][]impl.Rect{{grid[i]}, {grid[i], grid[i]}, {grid[i], grid[i*7%100]}, {grid[i], grid[(i+37)%100], grid[i*i%100]}}
			for _, list := range lists {
				want := smallestBox(grid, list)
				if got, ok := impl.BoundingBox(list); !ok || got != want {
					t.Fatalf("BoundingBox(%v) = %v, %v, want %v", list, got, ok, want)
				}
			}
		}
	}
}

// TestBoundingBoxHeedsEveryRect moves one wide rectangle through a list in which it alone makes the box what it is.
func TestBoundingBoxHeedsEveryRect(t *testing.T) {
	for _, wide := range []impl.Rect{{X0: -40, Y0: 0, X1: 1, Y1: 1}, {X0: 0, Y0: -40, X1: 1, Y1: 1}, {X0: 0, Y0: 0, X1: 40, Y1: 1}, {X0: 0, Y0: 0, X1: 1, Y1: 40}} {
		for _, length := range []int{1, 2, 5, impl.MaxRects} {
			for _, place := range []int{0, length / 2, length - 1} {
				list := slices.Repeat([]impl.Rect{{X0: 0, Y0: 0, X1: 1, Y1: 1}}, length)
				list[place] = wide
				if got, ok := impl.BoundingBox(list); !ok || got != wide {
					t.Errorf("the box of %v at %d of %d is %v, %v", wide, place, length, got, ok)
				}
			}
		}
	}
}

func TestBoundingBoxLengths(t *testing.T) {
	list := slices.Repeat(sampleRects(), impl.MaxRects/len(sampleRects())+1)
	chip := impl.Rect{X0: -40, Y0: -40, X1: 40, Y1: 40}
	if got, ok := impl.BoundingBox(list[:impl.MaxRects]); !ok || got != chip {
		t.Errorf("MaxRects rectangles: %v, %v", got, ok)
	}
	for _, long := range [][]impl.Rect{nil, {}, list[:0], list[:impl.MaxRects+1], list} {
		if got, ok := impl.BoundingBox(long); ok || got != (impl.Rect{}) {
			t.Errorf("%d rectangles: %v, %v", len(long), got, ok)
		}
	}
}

func TestBoundingBoxRejectsInvalidRects(t *testing.T) {
	for _, bad := range invalidRects() {
		if got, ok := impl.BoundingBox([]impl.Rect{bad}); ok || got != (impl.Rect{}) {
			t.Errorf("BoundingBox(%v) = %v, %v", bad, got, ok)
		}
		for i := range 3 {
			list := []impl.Rect{{X0: -40, Y0: -40, X1: 40, Y1: 40}, {X0: 0, Y0: 0, X1: 1, Y1: 1}, {X0: -1, Y0: 0, X1: 3, Y1: 2}}
			list[i] = bad
			if got, ok := impl.BoundingBox(list); ok || got != (impl.Rect{}) {
				t.Errorf("BoundingBox(%v) = %v, %v", list, got, ok)
			}
		}
	}
}

func TestBoundingBoxKeepsItsArgument(t *testing.T) {
	whole := []impl.Rect{{X0: 3, Y0: -2, X1: 4, Y1: 0}, {X0: 0, Y0: 0, X1: 1, Y1: 1}, {X0: -5, Y0: 7, X1: 6, Y1: 9}, {X0: 8}}
	old := slices.Clone(whole)
	impl.BoundingBox(whole[:3])
	if !slices.Equal(whole, old) {
		t.Errorf("the argument became %v", whole)
	}
}

// imageCells moves each unit cell's square by its four corners.
func imageCells(u impl.Transform, r impl.Rect) cellSet {
	cells := cellSet{}
	for c := range cellsOf(r) {
		low := imageByDefinition(u, c)
		for _, p := range []impl.Point{{X: c.X + 1, Y: c.Y}, {X: c.X, Y: c.Y + 1}, {X: c.X + 1, Y: c.Y + 1}} {
			corner := imageByDefinition(u, p)
			low = impl.Point{X: min(low.X, corner.X), Y: min(low.Y, corner.Y)}
		}
		cells[low] = true
	}
	return cells
}

func wholeOnChip(cells cellSet) bool {
	for c := range cells {
		if c.X < -impl.Extent || c.X >= impl.Extent || c.Y < -impl.Extent || c.Y >= impl.Extent {
			return false
		}
	}
	return true
}

func checkMove(t *testing.T, u impl.Transform, r impl.Rect) {
	t.Helper()
	want := imageCells(u, r)
	got, ok := impl.MoveRect(u, r)
	if ok != wholeOnChip(want) || !ok && got != (impl.Rect{}) || ok && !maps.Equal(cellsOf(got), want) {
		t.Fatalf("MoveRect(%v, %v) = %v, %v", u, r, got, ok)
	}
	if ok && impl.RectArea(got) != impl.RectArea(r) {
		t.Fatalf("MoveRect(%v, %v) = %v has another area", u, r, got)
	}
}

// TestMoveRectMovesItsCells goes through the translations that lead up to, onto and over every border, in every orientation.
func TestMoveRectMovesItsCells(t *testing.T) {
	list := []impl.Rect{{X0: 0, Y0: 0, X1: 1, Y1: 1}, {X0: -1, Y0: 0, X1: 3, Y1: 2}, {X0: -40, Y0: -40, X1: -39, Y1: -38}, {X0: 37, Y0: 39, X1: 40, Y1: 40}}
	for o := range int64(8) {
		for _, r := range list {
			for n := int64(-limit); n <= limit; n++ {
				for _, m := range []int64{-limit, -41, -40, 0, 1, 39, 40, limit} {
					checkMove(t, impl.Transform{Orientation: o, X: n, Y: m}, r)
					checkMove(t, impl.Transform{Orientation: o, X: m, Y: n}, r)
				}
			}
		}
	}
}

// TestMoveRectAtTheBorder moves large rectangles, of which some fill the chip from border to border.
func TestMoveRectAtTheBorder(t *testing.T) {
	for _, r := range sampleRects() {
		for o := range int64(8) {
			for _, p := range []impl.Point{{}, {X: 1}, {X: -1}, {Y: 1}, {Y: -1}, {X: 22, Y: -9}, {X: limit, Y: limit}} {
				checkMove(t, impl.Transform{Orientation: o, X: p.X, Y: p.Y}, r)
			}
		}
	}
}

func TestMoveRectRejects(t *testing.T) {
	for _, u := range invalidTransforms() {
		for _, r := range []impl.Rect{{X0: 0, Y0: 0, X1: 1, Y1: 1}, {X0: -40, Y0: -3, X1: 40, Y1: 2}, {X0: -40, Y0: -40, X1: -39, Y1: -39}} {
			if got, ok := impl.MoveRect(u, r); ok || got != (impl.Rect{}) {
				t.Errorf("MoveRect(%v, %v) = %v, %v", u, r, got, ok)
			}
		}
	}
	for o := range int64(8) {
		for _, r := range invalidRects() {
			for _, u := range []impl.Transform{{}, {X: 1, Y: 1}, {X: -1, Y: -1}, {X: -limit, Y: limit}} {
				u.Orientation = o
				if got, ok := impl.MoveRect(u, r); ok || got != (impl.Rect{}) {
					t.Errorf("MoveRect(%v, %v) = %v, %v", u, r, got, ok)
				}
			}
		}
	}
}

// TestMoveRectRejectsWhatWouldFit uses invalid transforms and rectangles of which the image alone would be valid.
func TestMoveRectRejectsWhatWouldFit(t *testing.T) {
	if got, ok := impl.MoveRect(impl.Transform{X: -1}, impl.Rect{X0: 0, Y0: 0, X1: 41, Y1: 1}); ok || got != (impl.Rect{}) {
		t.Errorf("a rectangle beyond the border: %v, %v", got, ok)
	}
	if got, ok := impl.MoveRect(impl.Transform{Orientation: 2}, impl.Rect{X0: 3, Y0: 3, X1: 1, Y1: 1}); ok || got != (impl.Rect{}) {
		t.Errorf("a reversed rectangle: %v, %v", got, ok)
	}
	if got, ok := impl.MoveRect(impl.Transform{X: -limit - 1}, impl.Rect{X0: 80, Y0: 0, X1: 82, Y1: 1}); ok || got != (impl.Rect{}) {
		t.Errorf("a transform beyond its range: %v, %v", got, ok)
	}
}

func TestMovesComposeAndAreUndone(t *testing.T) {
	for _, r := range append(sampleRects(), gridRects(-3, 9)...) {
		for _, u := range sampleTransforms() {
			moved, ok := impl.MoveRect(u, r)
			if !ok {
				continue
			}
			back, _ := impl.InvertTransform(u)
			if again, ok := impl.MoveRect(back, moved); !ok || again != r {
				t.Fatalf("%v is moved by %v to %v and back to %v, %v", r, u, moved, again, ok)
			}
			next := impl.Transform{Orientation: 5, X: 2, Y: -1}
			twice, ok := impl.MoveRect(next, moved)
			both, fits := impl.ComposeTransforms(u, next)
			if !fits {
				continue
			}
			if once, fine := impl.MoveRect(both, r); fine != ok || once != twice {
				t.Fatalf("%v is moved by %v and %v to %v, but by both to %v", r, u, next, twice, once)
			}
		}
	}
}

// pairTransforms holds every orientation with translations that keep the rectangles of the middle on the chip.
func pairTransforms() []impl.Transform {
	var list []impl.Transform
	for o := range int64(8) {
		for _, p := range []impl.Point{{}, {X: 36, Y: -36}, {X: -11, Y: 5}} {
			list = append(list, impl.Transform{Orientation: o, X: p.X, Y: p.Y})
		}
	}
	return list
}

// TestMovesPreserveOverlaps moves all pairs of a grid: what holds of the two must hold of their images.
func TestMovesPreserveOverlaps(t *testing.T) {
	list := gridRects(-2, -2)
	for _, u := range pairTransforms() {
		for _, a := range list {
			for _, b := range list {
				checkMovedPair(t, u, a, b)
			}
		}
	}
}

func checkMovedPair(t *testing.T, u impl.Transform, a, b impl.Rect) {
	t.Helper()
	movedA, okA := impl.MoveRect(u, a)
	movedB, okB := impl.MoveRect(u, b)
	if !okA || !okB {
		t.Fatalf("%v moves %v or %v off the chip", u, a, b)
	}
	common, overlap := impl.IntersectRects(a, b)
	want, _ := impl.MoveRect(u, common)
	got, ok := impl.IntersectRects(movedA, movedB)
	if ok != overlap || got != want || impl.RectArea(got) != impl.RectArea(common) {
		t.Fatalf("%v moves the overlap of %v and %v to %v, want %v", u, a, b, got, want)
	}
	if impl.RectsOverlap(movedA, movedB) != impl.RectsOverlap(a, b) || impl.RectsAbut(movedA, movedB) != impl.RectsAbut(a, b) {
		t.Fatalf("%v moves %v and %v to rectangles that meet in another way", u, a, b)
	}
	checkMovedGapAndBox(t, u, a, b)
}

func checkMovedGapAndBox(t *testing.T, u impl.Transform, a, b impl.Rect) {
	t.Helper()
	movedA, _ := impl.MoveRect(u, a)
	movedB, _ := impl.MoveRect(u, b)
	x, y := impl.RectGap(a, b)
	if u.Orientation%2 == 1 {
		x, y = y, x
	}
	if gotX, gotY := impl.RectGap(movedA, movedB); gotX != x || gotY != y {
		t.Fatalf("%v moves %v and %v to the gap %d %d, want %d %d", u, a, b, gotX, gotY, x, y)
	}
	box, _ := impl.BoundingBox([]impl.Rect{a, b})
	want, _ := impl.MoveRect(u, box)
	if got, ok := impl.BoundingBox([]impl.Rect{movedA, movedB}); !ok || got != want {
		t.Fatalf("%v moves the box of %v and %v to %v, want %v", u, a, b, got, want)
	}
}

// TestRectLessComparesInOrder lets each coordinate decide, with the later ones speaking against it.
func TestRectLessComparesInOrder(t *testing.T) {
	numbers := []int64{math.MinInt64, math.MinInt64 + 1, -1, 0, 1, math.MaxInt64 - 1, math.MaxInt64}
	for _, m := range numbers {
		for _, n := range numbers {
			pairs := [][2]impl.Rect{
				{{X0: 5, Y0: m, X1: 5, Y1: 5}, {X0: 4, Y0: n, X1: 4, Y1: 4}},
				{{X0: m, Y0: 7, X1: 5, Y1: 5}, {X0: n, Y0: 7, X1: 4, Y1: 4}},
				{{X0: -3, Y0: 7, X1: 5, Y1: m}, {X0: -3, Y0: 7, X1: 4, Y1: n}},
				{{X0: -3, Y0: 7, X1: m, Y1: -9}, {X0: -3, Y0: 7, X1: n, Y1: -9}},
			}
			for _, p := range pairs {
				if m != n && (impl.RectLess(p[0], p[1]) != (m < n) || impl.RectLess(p[1], p[0]) != (n < m)) {
					t.Errorf("RectLess(%v, %v) = %v", p[0], p[1], impl.RectLess(p[0], p[1]))
				}
			}
		}
	}
}

// TestRectLessOrdersAllRects checks that of two different rectangles exactly one is less, whether they are valid or not.
func TestRectLessOrdersAllRects(t *testing.T) {
	list := append(append(sampleRects(), invalidRects()...), gridRects(0, 0)...)
	for _, a := range list {
		for _, b := range list {
			want := slices.Compare([]int64{a.Y0, a.X0, a.Y1, a.X1}, []int64{b.Y0, b.X0, b.Y1, b.X1}) < 0
			if got := impl.RectLess(a, b); got != want {
				t.Fatalf("RectLess(%v, %v) = %v", a, b, got)
			}
		}
	}
}

func TestChapter2Examples(t *testing.T) {
	if impl.MaxRects != 3200 {
		t.Errorf("MaxRects is %d", impl.MaxRects)
	}
	if area := impl.RectArea(impl.Rect{X0: -1, Y0: 0, X1: 3, Y1: 2}); area != 8 {
		t.Errorf("RectArea: %d", area)
	}
	i, ok := impl.IntersectRects(impl.Rect{X0: 0, Y0: 0, X1: 4, Y1: 4}, impl.Rect{X0: 2, Y0: 1, X1: 6, Y1: 3})
	if !ok || i != (impl.Rect{X0: 2, Y0: 1, X1: 4, Y1: 3}) {
		t.Errorf("IntersectRects: %v, %v", i, ok)
	}
	b, ok := impl.BoundingBox([]impl.Rect{{X0: 0, Y0: 0, X1: 1, Y1: 1}, {X0: 3, Y0: -2, X1: 4, Y1: 0}})
	if !ok || b != (impl.Rect{X0: 0, Y0: -2, X1: 4, Y1: 1}) {
		t.Errorf("BoundingBox: %v, %v", b, ok)
	}
	if x, y := impl.RectGap(impl.Rect{X0: 0, Y0: 0, X1: 2, Y1: 2}, impl.Rect{X0: 5, Y0: 1, X1: 6, Y1: 9}); x != 3 || y != 0 {
		t.Errorf("RectGap: %d, %d", x, y)
	}
	if m, ok := impl.MoveRect(impl.Transform{Orientation: 1}, impl.Rect{X0: 0, Y0: 0, X1: 3, Y1: 1}); !ok || m != (impl.Rect{X0: -1, Y0: 0, X1: 0, Y1: 3}) {
		t.Errorf("MoveRect: %v, %v", m, ok)
	}
}
