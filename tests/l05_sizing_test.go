package tests

import (
	"fmt"
	"slices"
	"testing"

	"loop.example/g00890/impl"
)

// around covers the unit cells of the chip at a distance of at most k from p.
func around(p impl.Point, k int64) impl.Rect {
	return impl.Rect{
		X0: max(-impl.Extent, p.X-k), Y0: max(-impl.Extent, p.Y-k),
		X1: min(impl.Extent, p.X+k+1), Y1: min(impl.Extent, p.Y+k+1),
	}
}

func (c *chipCells) hasAll(r impl.Rect) bool {
	for y := r.Y0; y < r.Y1; y++ {
		for x := r.X0; x < r.X1; x++ {
			if !c.has(x, y) {
				return false
			}
		}
	}
	return true
}

func (c *chipCells) grown(k int64) *chipCells {
	var squares []impl.Rect
	for _, p := range c.points() {
		squares = append(squares, around(p, k))
	}
	return paint(squares...)
}

func (c *chipCells) shrunk(k int64) *chipCells {
	kept := slices.DeleteFunc(c.points(), func(p impl.Point) bool { return !c.hasAll(around(p, k)) })
	return paint(unitRects(kept)...)
}

// inSquares tries every square of k by k unit cells of the chip; for k = 0 there is none.
func (c *chipCells) inSquares(k int64) *chipCells {
	var squares []impl.Rect
	for y := int64(-impl.Extent); k > 0 && y+k <= impl.Extent; y++ {
		for x := int64(-impl.Extent); x+k <= impl.Extent; x++ {
			if square := (impl.Rect{X0: x, Y0: y, X1: x + k, Y1: y + k}); c.hasAll(square) {
				squares = append(squares, square)
			}
		}
	}
	return paint(squares...)
}

func (c *chipCells) outlined(k int64) *chipCells {
	return combined(c, c.shrunk(k), func(in, inside bool) bool { return in && !inside })
}

// sizingFunction is one of the functions of a region and a size, and what chapter 5 says of it.
type sizingFunction struct {
	name  string
	apply func(r []impl.Rect, k int64) []impl.Rect
	cells func(c *chipCells, k int64) *chipCells
}

func sizingFunctions() []sizingFunction {
	return []sizingFunction{
		{"Grow", impl.Grow, (*chipCells).grown},
		{"Shrink", impl.Shrink, (*chipCells).shrunk},
		{"Opening", impl.Opening, func(c *chipCells, k int64) *chipCells { return c.shrunk(k).grown(k) }},
		{"Closing", impl.Closing, func(c *chipCells, k int64) *chipCells { return c.grown(k).shrunk(k) }},
		{"SquareCover", impl.SquareCover, (*chipCells).inSquares},
		{"Outline", impl.Outline, (*chipCells).outlined},
	}
}

// checkSizes compares all functions of a region and a size with the definition.
func checkSizes(t *testing.T, r []impl.Rect, sizes ...int64) {
	t.Helper()
	cells := paint(r...)
	for _, k := range sizes {
		for _, f := range sizingFunctions() {
			want := f.cells(cells, k).regionByDefinition()
			checkSame(t, fmt.Sprintf("%s(%.99v, %d)", f.name, fmt.Sprint(r), k), f.apply(r, k), want)
		}
	}
}

// TestSizesByHand names the ways in which parts join and come apart, and what the border of the chip does.
func TestSizesByHand(t *testing.T) {
	dumbbell := []impl.Rect{{X0: 0, Y0: 0, X1: 3, Y1: 1}, {X0: 6, Y0: 0, X1: 9, Y1: 1}, {X0: 0, Y0: 1, X1: 9, Y1: 2}, {X0: 0, Y0: 2, X1: 3, Y1: 3}, {X0: 6, Y0: 2, X1: 9, Y1: 3}}
	ring := []impl.Rect{{X0: 0, Y0: 0, X1: 5, Y1: 2}, {X0: 0, Y0: 2, X1: 2, Y1: 3}, {X0: 3, Y0: 2, X1: 5, Y1: 3}, {X0: 0, Y0: 3, X1: 5, Y1: 5}}
	cases := []struct {
		name  string
		apply func(r []impl.Rect, k int64) []impl.Rect
		r     []impl.Rect
		k     int64
		want  []impl.Rect
	}{
		{"a unit cell grows", impl.Grow, []impl.Rect{{X0: 5, Y0: 6, X1: 6, Y1: 7}}, 2, []impl.Rect{{X0: 3, Y0: 4, X1: 8, Y1: 9}}},
		{"parts join", impl.Grow, []impl.Rect{{X0: 0, Y0: 0, X1: 1, Y1: 1}, {X0: 3, Y0: 0, X1: 4, Y1: 1}}, 1, []impl.Rect{{X0: -1, Y0: -1, X1: 5, Y1: 2}}},
		{"parts that stay apart", impl.Grow, []impl.Rect{{X0: 0, Y0: 0, X1: 1, Y1: 1}, {X0: 4, Y0: 0, X1: 5, Y1: 1}}, 1, []impl.Rect{{X0: -1, Y0: -1, X1: 2, Y1: 2}, {X0: 3, Y0: -1, X1: 6, Y1: 2}}},
		{"parts that join at a corner", impl.Grow, []impl.Rect{{X0: 0, Y0: 0, X1: 1, Y1: 1}, {X0: 3, Y0: 3, X1: 4, Y1: 4}}, 1, []impl.Rect{{X0: -1, Y0: -1, X1: 2, Y1: 2}, {X0: 2, Y0: 2, X1: 5, Y1: 5}}},
		{"a hole is filled", impl.Grow, ring, 1, []impl.Rect{{X0: -1, Y0: -1, X1: 6, Y1: 6}}},
		{"from the lower left corner", impl.Grow, []impl.Rect{{X0: -40, Y0: -40, X1: -39, Y1: -39}}, 10, []impl.Rect{{X0: -40, Y0: -40, X1: -29, Y1: -29}}},
		{"from the upper right corner", impl.Grow, []impl.Rect{{X0: 39, Y0: 39, X1: 40, Y1: 40}}, 10, []impl.Rect{{X0: 29, Y0: 29, X1: 40, Y1: 40}}},
		{"up to the border", impl.Grow, []impl.Rect{{X0: -39, Y0: 37, X1: 38, Y1: 39}}, 1, []impl.Rect{{X0: -40, Y0: 36, X1: 39, Y1: 40}}},
		{"parts come apart", impl.Shrink, dumbbell, 1, []impl.Rect{{X0: 1, Y0: 1, X1: 2, Y1: 2}, {X0: 7, Y0: 1, X1: 8, Y1: 2}}},
		{"a part vanishes", impl.Shrink, []impl.Rect{{X0: 0, Y0: 0, X1: 3, Y1: 2}, {X0: 0, Y0: 7, X1: 3, Y1: 10}}, 1, []impl.Rect{{X0: 1, Y0: 8, X1: 2, Y1: 9}}},
		{"a hole widens", impl.Shrink,
			[]impl.Rect{{X0: 0, Y0: 0, X1: 7, Y1: 3}, {X0: 0, Y0: 3, X1: 3, Y1: 4}, {X0: 4, Y0: 3, X1: 7, Y1: 4}, {X0: 0, Y0: 4, X1: 7, Y1: 7}}, 1,
			[]impl.Rect{{X0: 1, Y0: 1, X1: 6, Y1: 2}, {X0: 1, Y0: 2, X1: 2, Y1: 5}, {X0: 5, Y0: 2, X1: 6, Y1: 5}, {X0: 1, Y0: 5, X1: 6, Y1: 6}}},
		{"a hole leaves nothing", impl.Shrink, ring, 1, nil},
		{"at the left border", impl.Shrink, []impl.Rect{{X0: -40, Y0: 0, X1: -37, Y1: 3}}, 1, []impl.Rect{{X0: -40, Y0: 1, X1: -38, Y1: 2}}},
		{"at the right border", impl.Shrink, []impl.Rect{{X0: 37, Y0: 0, X1: 40, Y1: 3}}, 1, []impl.Rect{{X0: 38, Y0: 1, X1: 40, Y1: 2}}},
		{"at the lower border", impl.Shrink, []impl.Rect{{X0: 0, Y0: -40, X1: 3, Y1: -37}}, 1, []impl.Rect{{X0: 1, Y0: -40, X1: 2, Y1: -38}}},
		{"at the upper border", impl.Shrink, []impl.Rect{{X0: 0, Y0: 37, X1: 3, Y1: 40}}, 1, []impl.Rect{{X0: 1, Y0: 38, X1: 2, Y1: 40}}},
		{"in a corner", impl.Shrink, []impl.Rect{{X0: -40, Y0: 29, X1: -29, Y1: 40}}, 10, []impl.Rect{{X0: -40, Y0: 39, X1: -39, Y1: 40}}},
		{"in a corner, too small", impl.Shrink, []impl.Rect{{X0: -40, Y0: 29, X1: -30, Y1: 40}}, 10, nil},
		{"beside the border", impl.Shrink, []impl.Rect{{X0: -39, Y0: 0, X1: -36, Y1: 3}}, 1, []impl.Rect{{X0: -38, Y0: 1, X1: -37, Y1: 2}}},
		{"opening takes a bridge away", impl.Opening, dumbbell, 1, []impl.Rect{{X0: 0, Y0: 0, X1: 3, Y1: 3}, {X0: 6, Y0: 0, X1: 9, Y1: 3}}},
		{"opening keeps a thin part at the border", impl.Opening, []impl.Rect{{X0: -40, Y0: -40, X1: -38, Y1: -38}}, 1, []impl.Rect{{X0: -40, Y0: -40, X1: -38, Y1: -38}}},
		{"opening takes a thin part away", impl.Opening, []impl.Rect{{X0: -39, Y0: -40, X1: -37, Y1: -38}}, 1, nil},
		{"closing fills a hole", impl.Closing, ring, 1, []impl.Rect{{X0: 0, Y0: 0, X1: 5, Y1: 5}}},
		{"closing fills a gap", impl.Closing, []impl.Rect{{X0: 0, Y0: 0, X1: 2, Y1: 3}, {X0: 4, Y0: 0, X1: 6, Y1: 3}}, 1, []impl.Rect{{X0: 0, Y0: 0, X1: 6, Y1: 3}}},
		{"closing leaves a wide gap", impl.Closing, []impl.Rect{{X0: 0, Y0: 0, X1: 2, Y1: 3}, {X0: 5, Y0: 0, X1: 7, Y1: 3}}, 1, []impl.Rect{{X0: 0, Y0: 0, X1: 2, Y1: 3}, {X0: 5, Y0: 0, X1: 7, Y1: 3}}},
		{"closing fills up to the border", impl.Closing, []impl.Rect{{X0: -39, Y0: 0, X1: -38, Y1: 1}}, 1, []impl.Rect{{X0: -40, Y0: 0, X1: -38, Y1: 1}}},
		{"squares of one unit cell", impl.SquareCover, dumbbell, 1, dumbbell},
		{"squares of the size of a part", impl.SquareCover, dumbbell, 3, []impl.Rect{{X0: 0, Y0: 0, X1: 3, Y1: 3}, {X0: 6, Y0: 0, X1: 9, Y1: 3}}},
		{"squares that are too large", impl.SquareCover, dumbbell, 4, nil},
		{"squares of an even size", impl.SquareCover, ring, 2, ring},
		{"no square over the border", impl.SquareCover, []impl.Rect{{X0: -40, Y0: -40, X1: -38, Y1: -39}, {X0: 39, Y0: -40, X1: 40, Y1: -39}, {X0: 39, Y0: -39, X1: 40, Y1: -38}}, 2, nil},
		{"a square in a corner", impl.SquareCover, []impl.Rect{{X0: 30, Y0: 30, X1: 40, Y1: 40}}, 10, []impl.Rect{{X0: 30, Y0: 30, X1: 40, Y1: 40}}},
		{"squares of no unit cell", impl.SquareCover, dumbbell, 0, nil},
		{"no outline of size 0", impl.Outline, dumbbell, 0, nil},
		{"an outline at the border", impl.Outline, []impl.Rect{{X0: -40, Y0: -40, X1: -37, Y1: -38}}, 1, []impl.Rect{{X0: -38, Y0: -40, X1: -37, Y1: -39}, {X0: -40, Y0: -39, X1: -37, Y1: -38}}},
		{"an outline that is all", impl.Outline, ring, 1, ring},
	}
	for _, c := range cases {
		checkSame(t, c.name, c.apply(c.r, c.k), c.want)
		checkSizes(t, c.r, c.k)
	}
}

// TestSizesOfSmallSets goes through all sets of nine unit cells in places where columns change their words and where
// the border of the chip counts, and leaves small sets out of the chip.
func TestSizesOfSmallSets(t *testing.T) {
	for _, corner := range []impl.Point{{X: -40, Y: -40}, {X: 37, Y: 37}, {X: 22, Y: -1}} {
		for _, r := range setsOfCells(corner, 3, 3) {
			checkSizes(t, r, 1, 2)
		}
	}
	for _, corner := range chipPlaces() {
		for _, r := range setsOfCells(impl.Point{X: corner.X + 1, Y: corner.Y + 1}, 3, 2) {
			checkSizes(t, r, 0, 1)
			checkSizes(t, impl.Complement(r), 1)
		}
	}
}

// TestEveryUnitCellGrows takes each unit cell of the chip, and the chip without it.
func TestEveryUnitCellGrows(t *testing.T) {
	for _, p := range paint(wholeChip()...).points() {
		cell := []impl.Rect{unitRect(p)}
		rest := impl.Complement(cell)
		for _, k := range []int64{0, 1, impl.MaxGrow} {
			square := []impl.Rect{around(p, k)}
			checkSame(t, fmt.Sprintf("Grow(%v, %d)", cell, k), impl.Grow(cell, k), square)
			checkSame(t, fmt.Sprintf("Shrink without %v by %d", cell, k), impl.Shrink(rest, k), impl.Complement(square))
		}
	}
}

func TestSizesOfSampleRegions(t *testing.T) {
	for _, r := range sampleRegions() {
		checkSizes(t, r, 0, 1, 2, 5, impl.MaxGrow)
	}
}

// TestSizesOfLargeRegions uses every size.
func TestSizesOfLargeRegions(t *testing.T) {
	for seed := range uint64(6) {
		few := paint(randomRects(seed, 8, 30)...).regionByDefinition()
		many := paint(randomRects(seed, 150, 12)...).regionByDefinition()
		for k := int64(0); k <= impl.MaxGrow; k++ {
			checkSizes(t, few, k)
			checkSizes(t, many, k)
		}
	}
}

// TestSizesAtEveryBorder moves a rectangle along each side of the chip, from the corner on.
func TestSizesAtEveryBorder(t *testing.T) {
	for n := int64(-impl.Extent); n+4 <= impl.Extent; n += 4 {
		for orientation := range int64(4) {
			side, ok := impl.MoveRegion(impl.Transform{Orientation: orientation}, []impl.Rect{{X0: n, Y0: -40, X1: n + 4, Y1: -37}})
			if !ok {
				t.Fatalf("%d leaves the chip", n)
			}
			checkSizes(t, side, 0, 1, 3, impl.MaxGrow)
		}
	}
}

// TestNothingAndTheChipKeepTheirSize asks for every size.
func TestNothingAndTheChipKeepTheirSize(t *testing.T) {
	for k := int64(0); k <= impl.MaxGrow; k++ {
		for _, f := range sizingFunctions() {
			checkSame(t, fmt.Sprintf("%s(nothing, %d)", f.name, k), f.apply(nil, k), nil)
			checkSame(t, fmt.Sprintf("%s(an empty list, %d)", f.name, k), f.apply([]impl.Rect{}, k), nil)
			want := wholeChip()
			if f.name == "Outline" || f.name == "SquareCover" && k == 0 {
				want = nil
			}
			checkSame(t, fmt.Sprintf("%s(chip, %d)", f.name, k), f.apply(wholeChip(), k), want)
		}
	}
}

// checkAdjunction grows a and shrinks b, and checks both sides of promise 5. It returns whether b covers Grow(a, k).
func checkAdjunction(t *testing.T, a, b []impl.Rect, k int64) bool {
	t.Helper()
	covered := impl.Covers(b, impl.Grow(a, k))
	if impl.Covers(impl.Shrink(b, k), a) != covered {
		t.Fatalf("a = %.199v, b = %.199v, k = %d: b covers Grow(a, k): %v", fmt.Sprint(a), fmt.Sprint(b), k, covered)
	}
	return covered
}

// TestGrowAndShrinkAreAdjoint takes all pairs of sample regions.
func TestGrowAndShrinkAreAdjoint(t *testing.T) {
	regions := append(sampleRegions(), lawRegions()...)
	for _, a := range regions {
		for _, b := range regions {
			for _, k := range []int64{0, 1, 4, impl.MaxGrow} {
				checkAdjunction(t, a, b, k)
				checkAdjunction(t, a, impl.Grow(b, k), k)
			}
		}
	}
}

// fewRects returns the first, the middle and the last rectangle of a list, or none of an empty one.
func fewRects(list []impl.Rect) []impl.Rect {
	if len(list) == 0 {
		return nil
	}
	return []impl.Rect{list[0], list[len(list)/2], list[len(list)-1]}
}

// TestAdjunctionIsTight leaves a unit cell out of Grow(a, k), which b must have, and adds one to Shrink(b, k).
func TestAdjunctionIsTight(t *testing.T) {
	for _, r := range append(sampleRegions(), lawRegions()...) {
		for k := int64(0); k <= impl.MaxGrow; k++ {
			if !checkAdjunction(t, r, impl.Grow(r, k), k) || !checkAdjunction(t, impl.Shrink(r, k), r, k) {
				t.Fatalf("%.199v by %d is not adjoint to itself", fmt.Sprint(r), k)
			}
			for _, piece := range fewRects(impl.Grow(r, k)) {
				first := []impl.Rect{unitRect(impl.Point{X: piece.X0, Y: piece.Y0})}
				if checkAdjunction(t, r, impl.Difference(impl.Grow(r, k), first), k) {
					t.Fatalf("%.199v by %d is covered without %v", fmt.Sprint(r), k, first)
				}
			}
			for _, piece := range fewRects(impl.Outline(r, k)) {
				last := []impl.Rect{unitRect(impl.Point{X: piece.X1 - 1, Y: piece.Y1 - 1})}
				if checkAdjunction(t, impl.Union(impl.Shrink(r, k), last), r, k) {
					t.Fatalf("%.199v by %d covers %v", fmt.Sprint(r), k, last)
				}
			}
		}
	}
}

// TestAdjunctionOfSmallSets takes all pairs of small sets, and of small sets and complements of such.
func TestAdjunctionOfSmallSets(t *testing.T) {
	for _, corner := range chipPlaces()[:6] {
		sets := setsOfCells(corner, 2, 2)
		for _, a := range sets {
			for _, b := range sets {
				for _, k := range []int64{0, 1, 2} {
					checkAdjunction(t, a, b, k)
					checkAdjunction(t, a, impl.Complement(b), k)
					checkAdjunction(t, impl.Complement(a), impl.Complement(b), k)
				}
			}
		}
	}
}

func checkIdempotent(t *testing.T, r []impl.Rect, k int64) {
	t.Helper()
	text := fmt.Sprintf("of %.199v by %d", fmt.Sprint(r), k)
	opened, closed := impl.Opening(r, k), impl.Closing(r, k)
	checkSame(t, "second opening "+text, impl.Opening(opened, k), opened)
	checkSame(t, "second closing "+text, impl.Closing(closed, k), closed)
	if !impl.Covers(r, opened) || !impl.Covers(closed, r) {
		t.Fatalf("opening or closing %s", text)
	}
	checkSame(t, "Opening "+text, opened, impl.Grow(impl.Shrink(r, k), k))
	checkSame(t, "Closing "+text, closed, impl.Shrink(impl.Grow(r, k), k))
	checkSame(t, "Outline "+text, impl.Outline(r, k), impl.Difference(r, impl.Shrink(r, k)))
}

func TestOpeningsAndClosingsAreIdempotent(t *testing.T) {
	regions := append(sampleRegions(), lawRegions()...)
	for seed := range uint64(30) {
		regions = append(regions, paint(randomRects(seed, 40, 1+int64(seed))...).regionByDefinition())
	}
	for _, r := range regions {
		for k := int64(0); k <= impl.MaxGrow; k++ {
			checkIdempotent(t, r, k)
		}
	}
	for _, corner := range chipPlaces() {
		for _, r := range setsOfCells(corner, 4, 2) {
			checkIdempotent(t, r, 1)
		}
	}
}

// TestSizesAddUp compares one step with two, and checks that the complement shrinks as a region grows.
func TestSizesAddUp(t *testing.T) {
	for _, r := range append(sampleRegions(), lawRegions()...) {
		for _, k := range []int64{0, 1, 3, 7, impl.MaxGrow} {
			for first := range k + 1 {
				checkSame(t, "growing twice", impl.Grow(impl.Grow(r, first), k-first), impl.Grow(r, k))
				checkSame(t, "shrinking twice", impl.Shrink(impl.Shrink(r, first), k-first), impl.Shrink(r, k))
			}
			checkSame(t, "the complement", impl.Complement(impl.Grow(r, k)), impl.Shrink(impl.Complement(r), k))
		}
	}
}

// TestSizesTurnWithTheRegion uses all orientations, which map the chip to itself.
func TestSizesTurnWithTheRegion(t *testing.T) {
	for _, r := range sampleRegions() {
		for orientation := range int64(8) {
			u := impl.Transform{Orientation: orientation}
			image, _ := impl.MoveRegion(u, r)
			for _, f := range sizingFunctions() {
				for _, k := range []int64{1, 2, impl.MaxGrow} {
					want, _ := impl.MoveRegion(u, f.apply(r, k))
					checkSame(t, fmt.Sprintf("%s by %d of an image by %v", f.name, k, u), f.apply(image, k), want)
				}
			}
		}
	}
}

// checkShift moves each unit cell. Numbers that are not in the range of ShiftRegion must not come here.
func checkShift(t *testing.T, r []impl.Rect, dx, dy int64) {
	t.Helper()
	points := paint(r...).points()
	fits := true
	for i, p := range points {
		points[i] = impl.Point{X: p.X + dx, Y: p.Y + dy}
		fits = fits && wantValid(unitRect(points[i]))
	}
	var want []impl.Rect
	if fits {
		want = paint(unitRects(points)...).regionByDefinition()
	}
	got, ok := impl.ShiftRegion(r, dx, dy)
	if ok != fits || !ok && got != nil || !slices.Equal(got, want) {
		t.Fatalf("ShiftRegion(%.99v, %d, %d) = %.99v, %v, want %.99v, %v", fmt.Sprint(r), dx, dy, fmt.Sprint(got), ok, fmt.Sprint(want), fits)
	}
}

func TestShiftRegionMovesItsCells(t *testing.T) {
	for _, r := range sampleRegions() {
		for _, dx := range []int64{-limit, -limit + 1, -38, -3, 0, 1, 24, 39, limit - 1, limit} {
			for _, dy := range []int64{-limit, -limit + 1, -7, 0, 2, 38, limit - 1, limit} {
				checkShift(t, r, dx, dy)
			}
		}
	}
}

// TestShiftRegionAtTheBorder goes through all shifts that lead up to, onto and over every border.
func TestShiftRegionAtTheBorder(t *testing.T) {
	regions := [][]impl.Rect{
		{{X0: 0, Y0: 0, X1: 4, Y1: 2}, {X0: 1, Y0: 2, X1: 2, Y1: 5}},
		{{X0: -30, Y0: -30, X1: -29, Y1: -29}, {X0: 20, Y0: 3, X1: 21, Y1: 4}},
		{{X0: -40, Y0: -40, X1: -39, Y1: -39}}, {{X0: 39, Y0: 39, X1: 40, Y1: 40}},
		{{X0: -40, Y0: 2, X1: 40, Y1: 3}}, wholeChip(), nil,
	}
	for _, r := range regions {
		for n := int64(-limit); n <= limit; n++ {
			for _, m := range []int64{-limit, -5, 0, 1, limit} {
				checkShift(t, r, n, m)
				checkShift(t, r, m, n)
			}
		}
	}
}

func TestShiftRegionReachesTheBorderExactly(t *testing.T) {
	r := []impl.Rect{{X0: -2, Y0: -3, X1: 5, Y1: 7}}
	cases := []struct {
		dx, dy int64
		want   impl.Rect
	}{
		{-38, 0, impl.Rect{X0: -40, Y0: -3, X1: -33, Y1: 7}}, {35, 0, impl.Rect{X0: 33, Y0: -3, X1: 40, Y1: 7}},
		{0, -37, impl.Rect{X0: -2, Y0: -40, X1: 5, Y1: -30}}, {0, 33, impl.Rect{X0: -2, Y0: 30, X1: 5, Y1: 40}},
		{35, -37, impl.Rect{X0: 33, Y0: -40, X1: 40, Y1: -30}},
	}
	for _, c := range cases {
		if got, ok := impl.ShiftRegion(r, c.dx, c.dy); !ok || !slices.Equal(got, []impl.Rect{c.want}) {
			t.Errorf("ShiftRegion by %d, %d: %v, %v", c.dx, c.dy, got, ok)
		}
	}
	for _, d := range []impl.Point{{X: -39}, {X: 36}, {Y: -38}, {Y: 34}, {X: 36, Y: -37}, {X: 35, Y: -38}} {
		if got, ok := impl.ShiftRegion(r, d.X, d.Y); ok || got != nil {
			t.Errorf("ShiftRegion by %v leaves the chip: %v, %v", d, got, ok)
		}
	}
	corner := []impl.Rect{{X0: -40, Y0: 39, X1: -39, Y1: 40}}
	if got, ok := impl.ShiftRegion(corner, limit-1, 1-limit); !ok || !slices.Equal(got, []impl.Rect{{X0: 39, Y0: -40, X1: 40, Y1: -39}}) {
		t.Errorf("a corner shifted to the opposite one: %v, %v", got, ok)
	}
}

// TestShiftRegionRejects also asks for the empty region, which never leaves the chip.
func TestShiftRegionRejects(t *testing.T) {
	for _, d := range []impl.Point{{X: limit}, {X: -limit}, {Y: limit}, {Y: -limit}, {X: limit, Y: -limit}} {
		if got, ok := impl.ShiftRegion(nil, d.X, d.Y); !ok || len(got) != 0 {
			t.Errorf("nothing shifted by %v: %v, %v", d, got, ok)
		}
	}
	for _, r := range [][]impl.Rect{nil, {}, {{X0: 0, Y0: 0, X1: 1, Y1: 1}}, wholeChip(), checkerboard(0)} {
		for _, n := range outside {
			for _, d := range []impl.Point{{X: n}, {Y: n}, {X: n, Y: n}, {X: 1, Y: n}, {X: n, Y: -limit}} {
				if got, ok := impl.ShiftRegion(r, d.X, d.Y); ok || got != nil {
					t.Errorf("ShiftRegion(%.99v, %d, %d) = %.99v, %v", fmt.Sprint(r), d.X, d.Y, fmt.Sprint(got), ok)
				}
			}
		}
	}
}

// TestShiftsAreUndone shifts there and back, and in two steps.
func TestShiftsAreUndone(t *testing.T) {
	r := []impl.Rect{{X0: -3, Y0: -3, X1: 2, Y1: 0}, {X0: 0, Y0: 0, X1: 1, Y1: 4}}
	for dx := int64(-30); dx <= 30; dx += 3 {
		for dy := int64(-30); dy <= 30; dy += 5 {
			there, ok := impl.ShiftRegion(r, dx, dy)
			back, okBack := impl.ShiftRegion(there, -dx, -dy)
			if !ok || !okBack || !slices.Equal(back, r) {
				t.Fatalf("%d, %d and back: %v, %v, %v", dx, dy, back, ok, okBack)
			}
			level, _ := impl.ShiftRegion(r, dx, 0)
			steps, _ := impl.ShiftRegion(level, 0, dy)
			checkSame(t, "shifted in two steps", steps, there)
		}
	}
}

// distanceByDefinition goes through all pairs of unit cells. It returns -1 if there are none.
func distanceByDefinition(a, b []impl.Point) int64 {
	least := int64(-1)
	for _, p := range a {
		for _, q := range b {
			d := max(p.X-q.X, q.X-p.X, p.Y-q.Y, q.Y-p.Y)
			if least < 0 || d < least {
				least = d
			}
			if least == 0 {
				return 0
			}
		}
	}
	return least
}

func checkDistance(t *testing.T, a, b []impl.Rect, want int64) {
	t.Helper()
	if got, back := impl.RegionDistance(a, b), impl.RegionDistance(b, a); got != want || back != want {
		t.Fatalf("the distance of %.99v and %.99v is %d and %d, want %d", fmt.Sprint(a), fmt.Sprint(b), got, back, want)
	}
}

// growBy takes as many steps as it needs to grow by more than MaxGrow.
func growBy(r []impl.Rect, size int64) []impl.Rect {
	for ; size > impl.MaxGrow; size -= impl.MaxGrow {
		r = impl.Grow(r, impl.MaxGrow)
	}
	return impl.Grow(r, size)
}

// checkLeastSize checks the last part of promise 5 for every size.
func checkLeastSize(t *testing.T, a, b []impl.Rect) {
	t.Helper()
	distance := impl.RegionDistance(a, b)
	for size := int64(0); size <= impl.MaxGrow; size++ {
		if overlap := impl.Overlaps(impl.Grow(a, size), b); overlap != (distance >= 0 && size >= distance) {
			t.Fatalf("%.99v grown by %d overlaps %.99v: %v, distance %d", fmt.Sprint(a), size, fmt.Sprint(b), overlap, distance)
		}
	}
	if distance < 0 {
		return
	}
	if !impl.Overlaps(growBy(a, distance), b) || distance > 0 && impl.Overlaps(growBy(a, distance-1), b) {
		t.Fatalf("%d is not the least size by which %.99v overlaps %.99v", distance, fmt.Sprint(a), fmt.Sprint(b))
	}
}

// TestDistancesByHand names the ways in which two regions lie.
func TestDistancesByHand(t *testing.T) {
	square := []impl.Rect{{X0: 0, Y0: 0, X1: 3, Y1: 3}}
	cases := []struct {
		name string
		b    []impl.Rect
		want int64
	}{
		{"the same", square, 0},
		{"inside", []impl.Rect{{X0: 1, Y0: 1, X1: 2, Y1: 2}}, 0},
		{"overlapping in one unit cell", []impl.Rect{{X0: 2, Y0: 2, X1: 5, Y1: 5}}, 0},
		{"touching on the right", []impl.Rect{{X0: 3, Y0: 0, X1: 4, Y1: 3}}, 1},
		{"touching above", []impl.Rect{{X0: 0, Y0: 3, X1: 3, Y1: 4}}, 1},
		{"touching at a corner", []impl.Rect{{X0: 3, Y0: 3, X1: 4, Y1: 4}}, 1},
		{"touching at the lower left corner", []impl.Rect{{X0: -1, Y0: -1, X1: 0, Y1: 0}}, 1},
		{"one unit cell between them", []impl.Rect{{X0: 4, Y0: 0, X1: 5, Y1: 1}}, 2},
		{"one unit cell between corners", []impl.Rect{{X0: 4, Y0: 4, X1: 5, Y1: 5}}, 2},
		{"farther in the x direction", []impl.Rect{{X0: 9, Y0: 4, X1: 10, Y1: 5}}, 7},
		{"farther in the y direction", []impl.Rect{{X0: -2, Y0: -10, X1: -1, Y1: -9}}, 10},
		{"farther than MaxGrow", []impl.Rect{{X0: 13, Y0: 0, X1: 14, Y1: 1}}, 11},
		{"the nearer of two parts", []impl.Rect{{X0: 20, Y0: 0, X1: 21, Y1: 1}, {X0: 0, Y0: 7, X1: 1, Y1: 8}}, 5},
		{"a frame around it", []impl.Rect{{X0: -40, Y0: -40, X1: 40, Y1: -39}, {X0: -40, Y0: -39, X1: -39, Y1: 39}, {X0: 39, Y0: -39, X1: 40, Y1: 39}, {X0: -40, Y0: 39, X1: 40, Y1: 40}}, 37},
		{"the chip", wholeChip(), 0},
		{"nothing", nil, -1},
		{"an empty list", []impl.Rect{}, -1},
	}
	for _, c := range cases {
		t.Run(c.name, func(t *testing.T) {
			checkDistance(t, square, c.b, c.want)
			checkLeastSize(t, square, c.b)
			checkLeastSize(t, c.b, square)
		})
	}
	checkDistance(t, nil, nil, -1)
	checkDistance(t, nil, wholeChip(), -1)
}

// TestDistancesOfUnitCells takes a unit cell and all others of the chip, to the opposite corner.
func TestDistancesOfUnitCells(t *testing.T) {
	for _, p := range []impl.Point{{X: -40, Y: -40}, {X: 39, Y: -40}, {X: 39, Y: 39}, {X: 23, Y: -5}} {
		for _, q := range paint(wholeChip()...).points() {
			want := distanceByDefinition([]impl.Point{p}, []impl.Point{q})
			if got := impl.RegionDistance([]impl.Rect{unitRect(p)}, []impl.Rect{unitRect(q)}); got != want {
				t.Fatalf("the distance of %v and %v is %d, want %d", p, q, got, want)
			}
		}
	}
	checkDistance(t, []impl.Rect{{X0: -40, Y0: -40, X1: -39, Y1: -39}}, []impl.Rect{{X0: 39, Y0: 39, X1: 40, Y1: 40}}, limit-1)
	checkDistance(t, []impl.Rect{{X0: -40, Y0: 39, X1: -39, Y1: 40}}, []impl.Rect{{X0: -40, Y0: -40, X1: -39, Y1: -39}}, limit-1)
}

func TestDistancesOfSampleRegions(t *testing.T) {
	regions := sampleRegions()
	for seed := range uint64(12) {
		regions = append(regions, paint(randomRects(seed, 1+int(seed)/3, 6)...).regionByDefinition())
	}
	for i, a := range regions {
		for _, b := range regions[:i+1] {
			checkDistance(t, a, b, distanceByDefinition(paint(a...).points(), paint(b...).points()))
			checkLeastSize(t, a, b)
			checkLeastSize(t, b, a)
		}
	}
}

// TestSizingRejectsSizes asks with regions whose results would not be empty.
func TestSizingRejectsSizes(t *testing.T) {
	sizes := append([]int64{-1, impl.MaxGrow + 1, -impl.MaxGrow, 64, 1 << 31, 1 << 32, 1<<32 + 1, -1 << 32, 1 << 62}, outside...)
	for _, r := range append(sampleRegions(), nil) {
		for _, f := range sizingFunctions() {
			for _, k := range sizes {
				if got := f.apply(r, k); got != nil {
					t.Errorf("%s(%.99v, %d) = %.99v", f.name, fmt.Sprint(r), k, fmt.Sprint(got))
				}
			}
		}
	}
}

func TestSizingRejectsNonRegions(t *testing.T) {
	for _, bad := range nonRegions() {
		for _, f := range sizingFunctions() {
			for _, k := range []int64{-1, 0, 1, 2, impl.MaxGrow, impl.MaxGrow + 1} {
				if got := f.apply(bad, k); got != nil {
					t.Errorf("%s(%.99v, %d) = %.99v", f.name, fmt.Sprint(bad), k, fmt.Sprint(got))
				}
			}
		}
		for _, d := range []impl.Point{{}, {X: 1}, {Y: -1}, {X: 5, Y: 7}, {X: limit}, {Y: limit + 1}} {
			if got, ok := impl.ShiftRegion(bad, d.X, d.Y); ok || got != nil {
				t.Errorf("ShiftRegion(%.99v, %d, %d) = %.99v, %v", fmt.Sprint(bad), d.X, d.Y, fmt.Sprint(got), ok)
			}
		}
		for _, other := range [][]impl.Rect{nil, {{X0: 0, Y0: 0, X1: 1, Y1: 1}}, {{X0: 9, Y0: 9, X1: 10, Y1: 10}}, wholeChip(), checkerboard(0), bad} {
			if got, back := impl.RegionDistance(bad, other), impl.RegionDistance(other, bad); got != -1 || back != -1 {
				t.Errorf("the distance of %.99v and %.99v is %d and %d", fmt.Sprint(bad), fmt.Sprint(other), got, back)
			}
		}
	}
}

// TestShiftRegionRejectsWhatWouldFit uses lists of which the shifted rectangles would be on the chip or a region.
func TestShiftRegionRejectsWhatWouldFit(t *testing.T) {
	if got, ok := impl.ShiftRegion([]impl.Rect{{X0: 0, Y0: 0, X1: 41, Y1: 1}}, -1, 0); ok || got != nil {
		t.Errorf("a rectangle beyond the border: %v, %v", got, ok)
	}
	if got, ok := impl.ShiftRegion([]impl.Rect{{X0: 0, Y0: 0, X1: 1, Y1: 1}, {X0: 0, Y0: 1, X1: 1, Y1: 2}}, 3, 3); ok || got != nil {
		t.Errorf("a band of two rectangles: %v, %v", got, ok)
	}
}

// sizingResults calls every function that returns rectangles, such that each result is its argument or could be.
func sizingResults(r []impl.Rect) [][]impl.Rect {
	shifted, _ := impl.ShiftRegion(r, 0, 0)
	return [][]impl.Rect{
		impl.Grow(r, 0), impl.Shrink(r, 0), impl.Opening(r, 0), impl.Closing(r, 0), impl.SquareCover(r, 1), impl.Opening(r, 1),
		impl.Closing(r, 1), impl.SquareCover(r, 3), impl.Outline(r, impl.MaxGrow), shifted,
	}
}

// TestSizingKeepsItsArguments also looks at the memory behind an argument and overwrites the results.
func TestSizingKeepsItsArguments(t *testing.T) {
	whole := []impl.Rect{{X0: 0, Y0: 0, X1: 9, Y1: 5}, {X0: 1, Y0: 5, X1: 4, Y1: 8}, {X0: 9, Y0: 9, X1: 8, Y1: 8}, {X0: 3}}
	old := slices.Clone(whole)
	r := whole[:2]
	for i, result := range sizingResults(r) {
		if !slices.Equal(result, r) {
			t.Fatalf("result %d is %v", i, result)
		}
		clear(result)
		_ = append(result, impl.Rect{X0: 7})
	}
	impl.RegionDistance(r, r)
	impl.RegionDistance(r, []impl.Rect{{X0: 20, Y0: 20, X1: 21, Y1: 21}})
	impl.Grow(r, impl.MaxGrow)
	impl.Shrink(r, 1)
	if !slices.Equal(whole, old) {
		t.Errorf("the argument became %v", whole)
	}
}

func TestChapter5Examples(t *testing.T) {
	if impl.MaxGrow != 10 {
		t.Errorf("MaxGrow = %d", impl.MaxGrow)
	}
	checkSame(t, "Grow", impl.Grow([]impl.Rect{{X0: 0, Y0: 0, X1: 2, Y1: 1}}, 1), []impl.Rect{{X0: -1, Y0: -1, X1: 3, Y1: 2}})
	checkSame(t, "Shrink", impl.Shrink([]impl.Rect{{X0: 0, Y0: 0, X1: 5, Y1: 3}}, 1), []impl.Rect{{X0: 1, Y0: 1, X1: 4, Y1: 2}})
	checkSame(t, "Shrink", impl.Shrink([]impl.Rect{{X0: -40, Y0: 0, X1: -35, Y1: 3}}, 1), []impl.Rect{{X0: -40, Y0: 1, X1: -36, Y1: 2}})
	square := []impl.Rect{{X0: 0, Y0: 0, X1: 3, Y1: 3}}
	checkSame(t, "Opening", impl.Opening([]impl.Rect{{X0: 0, Y0: 0, X1: 3, Y1: 3}, {X0: 1, Y0: 3, X1: 2, Y1: 6}}, 1), square)
	checkSame(t, "Closing", impl.Closing([]impl.Rect{{X0: 0, Y0: 0, X1: 2, Y1: 3}, {X0: 3, Y0: 0, X1: 5, Y1: 3}}, 1), []impl.Rect{{X0: 0, Y0: 0, X1: 5, Y1: 3}})
	checkSame(t, "SquareCover", impl.SquareCover([]impl.Rect{{X0: 0, Y0: 0, X1: 3, Y1: 2}, {X0: 0, Y0: 2, X1: 1, Y1: 6}}, 2), []impl.Rect{{X0: 0, Y0: 0, X1: 3, Y1: 2}})
	checkSame(t, "Outline", impl.Outline(square, 1), []impl.Rect{{X0: 0, Y0: 0, X1: 3, Y1: 1}, {X0: 0, Y0: 1, X1: 1, Y1: 2}, {X0: 2, Y0: 1, X1: 3, Y1: 2}, {X0: 0, Y0: 2, X1: 3, Y1: 3}})
	shifted, ok := impl.ShiftRegion([]impl.Rect{{X0: 0, Y0: 0, X1: 2, Y1: 1}}, 3, -1)
	if !ok {
		t.Error("ShiftRegion: false")
	}
	checkSame(t, "ShiftRegion", shifted, []impl.Rect{{X0: 3, Y0: -1, X1: 5, Y1: 0}})
	checkDistance(t, []impl.Rect{{X0: 0, Y0: 0, X1: 2, Y1: 1}}, []impl.Rect{{X0: 4, Y0: 3, X1: 6, Y1: 4}}, 3)
}
