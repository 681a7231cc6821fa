package tests

import (
	"fmt"
	"slices"
	"testing"

	"loop.example/g00890/impl"
)

// booleanOperation is one of the functions of two regions, and what chapter 4 says of one unit cell.
type booleanOperation struct {
	name  string
	apply func(a, b []impl.Rect) []impl.Rect
	keeps func(inA, inB bool) bool
}

func booleanOperations() []booleanOperation {
	return []booleanOperation{
		{"Union", impl.Union, func(inA, inB bool) bool { return inA || inB }},
		{"Intersection", impl.Intersection, func(inA, inB bool) bool { return inA && inB }},
		{"Difference", impl.Difference, func(inA, inB bool) bool { return inA && !inB }},
		{"SymmetricDifference", impl.SymmetricDifference, func(inA, inB bool) bool { return inA != inB }},
	}
}

// combined asks keeps about every unit cell of the chip.
func combined(a, b *chipCells, keeps func(inA, inB bool) bool) *chipCells {
	cells := &chipCells{}
	for y := range cells {
		for x := range cells[y] {
			cells[y][x] = keeps(a[y][x], b[y][x])
		}
	}
	return cells
}

func wholeChip() []impl.Rect {
	return []impl.Rect{{X0: -40, Y0: -40, X1: 40, Y1: 40}}
}

func checkSame(t *testing.T, what string, got, want []impl.Rect) {
	t.Helper()
	if !slices.Equal(got, want) {
		t.Fatalf("%s: %.199v, want %.199v", what, fmt.Sprint(got), fmt.Sprint(want))
	}
}

// checkOperations compares all functions of two regions with the definition.
func checkOperations(t *testing.T, a, b []impl.Rect) {
	t.Helper()
	cellsA, cellsB := paint(a...), paint(b...)
	for _, o := range booleanOperations() {
		want := combined(cellsA, cellsB, o.keeps).regionByDefinition()
		checkSame(t, fmt.Sprintf("%s(%.99v, %.99v)", o.name, fmt.Sprint(a), fmt.Sprint(b)), o.apply(a, b), want)
	}
	uncovered := combined(cellsA, cellsB, func(inA, inB bool) bool { return inB && !inA })
	if got := impl.Covers(a, b); got != (*uncovered == chipCells{}) {
		t.Fatalf("Covers(%.99v, %.99v) = %v", fmt.Sprint(a), fmt.Sprint(b), got)
	}
	common := combined(cellsA, cellsB, func(inA, inB bool) bool { return inA && inB })
	if got := impl.Overlaps(a, b); got != (*common != chipCells{}) {
		t.Fatalf("Overlaps(%.99v, %.99v) = %v", fmt.Sprint(a), fmt.Sprint(b), got)
	}
}

func checkComplement(t *testing.T, r []impl.Rect) {
	t.Helper()
	cells := paint(r...)
	want := combined(cells, cells, func(in, _ bool) bool { return !in }).regionByDefinition()
	checkSame(t, fmt.Sprintf("Complement(%.99v)", fmt.Sprint(r)), impl.Complement(r), want)
}

// TestBooleanOperationsByHand names the ways in which two operands meet.
func TestBooleanOperationsByHand(t *testing.T) {
	square := []impl.Rect{{X0: 0, Y0: 0, X1: 2, Y1: 2}}
	ring := []impl.Rect{{X0: 0, Y0: 0, X1: 3, Y1: 1}, {X0: 0, Y0: 1, X1: 1, Y1: 2}, {X0: 2, Y0: 1, X1: 3, Y1: 2}, {X0: 0, Y0: 2, X1: 3, Y1: 3}}
	cases := []struct {
		name                                   string
		a, b                                   []impl.Rect
		union, intersection, difference, other []impl.Rect
	}{
		{"two empty operands", nil, []impl.Rect{}, nil, nil, nil, nil},
		{"nothing first", nil, square, square, nil, nil, square},
		{"nothing second", square, nil, square, nil, square, square},
		{"twice the same", ring, ring, ring, ring, nil, nil},
		{"sides that touch, runs that join", square, []impl.Rect{{X0: 2, Y0: 0, X1: 4, Y1: 2}},
			[]impl.Rect{{X0: 0, Y0: 0, X1: 4, Y1: 2}}, nil, square, []impl.Rect{{X0: 0, Y0: 0, X1: 4, Y1: 2}}},
		{"sides that touch, bands that join", square, []impl.Rect{{X0: 0, Y0: 2, X1: 2, Y1: 5}},
			[]impl.Rect{{X0: 0, Y0: 0, X1: 2, Y1: 5}}, nil, square, []impl.Rect{{X0: 0, Y0: 0, X1: 2, Y1: 5}}},
		{"corners that touch", square, []impl.Rect{{X0: 2, Y0: 2, X1: 3, Y1: 3}},
			[]impl.Rect{{X0: 0, Y0: 0, X1: 2, Y1: 2}, {X0: 2, Y0: 2, X1: 3, Y1: 3}}, nil, square,
			[]impl.Rect{{X0: 0, Y0: 0, X1: 2, Y1: 2}, {X0: 2, Y0: 2, X1: 3, Y1: 3}}},
		{"a hole that is filled", ring, []impl.Rect{{X0: 1, Y0: 1, X1: 2, Y1: 2}},
			[]impl.Rect{{X0: 0, Y0: 0, X1: 3, Y1: 3}}, nil, ring, []impl.Rect{{X0: 0, Y0: 0, X1: 3, Y1: 3}}},
		{"a hole that is cut", []impl.Rect{{X0: 0, Y0: 0, X1: 3, Y1: 3}}, ring,
			[]impl.Rect{{X0: 0, Y0: 0, X1: 3, Y1: 3}}, ring, []impl.Rect{{X0: 1, Y0: 1, X1: 2, Y1: 2}}, []impl.Rect{{X0: 1, Y0: 1, X1: 2, Y1: 2}}},
		{"a notch without which bands join", []impl.Rect{{X0: 0, Y0: 0, X1: 2, Y1: 1}, {X0: 0, Y0: 1, X1: 5, Y1: 2}, {X0: 0, Y0: 2, X1: 2, Y1: 3}}, []impl.Rect{{X0: 2, Y0: 1, X1: 5, Y1: 2}},
			[]impl.Rect{{X0: 0, Y0: 0, X1: 2, Y1: 1}, {X0: 0, Y0: 1, X1: 5, Y1: 2}, {X0: 0, Y0: 2, X1: 2, Y1: 3}},
			[]impl.Rect{{X0: 2, Y0: 1, X1: 5, Y1: 2}}, []impl.Rect{{X0: 0, Y0: 0, X1: 2, Y1: 3}}, []impl.Rect{{X0: 0, Y0: 0, X1: 2, Y1: 3}}},
		{"a cross", []impl.Rect{{X0: 1, Y0: 0, X1: 2, Y1: 3}}, []impl.Rect{{X0: 0, Y0: 1, X1: 3, Y1: 2}},
			[]impl.Rect{{X0: 1, Y0: 0, X1: 2, Y1: 1}, {X0: 0, Y0: 1, X1: 3, Y1: 2}, {X0: 1, Y0: 2, X1: 2, Y1: 3}},
			[]impl.Rect{{X0: 1, Y0: 1, X1: 2, Y1: 2}},
			[]impl.Rect{{X0: 1, Y0: 0, X1: 2, Y1: 1}, {X0: 1, Y0: 2, X1: 2, Y1: 3}},
			[]impl.Rect{{X0: 1, Y0: 0, X1: 2, Y1: 1}, {X0: 0, Y0: 1, X1: 1, Y1: 2}, {X0: 2, Y0: 1, X1: 3, Y1: 2}, {X0: 1, Y0: 2, X1: 2, Y1: 3}}},
		{"the chip and a part", wholeChip(), []impl.Rect{{X0: -40, Y0: -40, X1: 40, Y1: 39}},
			wholeChip(), []impl.Rect{{X0: -40, Y0: -40, X1: 40, Y1: 39}}, []impl.Rect{{X0: -40, Y0: 39, X1: 40, Y1: 40}}, []impl.Rect{{X0: -40, Y0: 39, X1: 40, Y1: 40}}},
		{"both checkerboards", checkerboard(0), checkerboard(1), wholeChip(), nil, checkerboard(0), wholeChip()},
	}
	for _, c := range cases {
		checkSame(t, c.name+", union", impl.Union(c.a, c.b), c.union)
		checkSame(t, c.name+", intersection", impl.Intersection(c.a, c.b), c.intersection)
		checkSame(t, c.name+", difference", impl.Difference(c.a, c.b), c.difference)
		checkSame(t, c.name+", symmetric difference", impl.SymmetricDifference(c.a, c.b), c.other)
		if covers, want := impl.Covers(c.b, c.a), len(c.difference) == 0; covers != want {
			t.Errorf("%s: the second operand covers the first one: %v", c.name, covers)
		}
		if overlaps, want := impl.Overlaps(c.a, c.b), len(c.intersection) > 0; overlaps != want {
			t.Errorf("%s: they overlap: %v", c.name, overlaps)
		}
	}
}

// setsOfCells returns the region of each set of unit cells of a grid of rows and columns: bit n of a set's number
// stands for one unit cell.
func setsOfCells(corner impl.Point, width, height int64) [][]impl.Rect {
	var regions [][]impl.Rect
	for set := range 1 << (width * height) {
		var points []impl.Point
		for n := range width * height {
			if set>>n&1 == 1 {
				points = append(points, impl.Point{X: corner.X + n%width, Y: corner.Y + n/width})
			}
		}
		regions = append(regions, paint(unitRects(points)...).regionByDefinition())
	}
	return regions
}

// checkAllPairs relies on the numbers of the sets being combined bit by bit as the sets are.
func checkAllPairs(t *testing.T, regions [][]impl.Rect) {
	t.Helper()
	for i, a := range regions {
		for j, b := range regions {
			want := []int{i | j, i & j, i &^ j, i ^ j}
			for n, o := range booleanOperations() {
				if got := o.apply(a, b); !slices.Equal(got, regions[want[n]]) {
					t.Fatalf("%s(%v, %v) = %v, want %v", o.name, a, b, got, regions[want[n]])
				}
			}
			if covers, overlaps := impl.Covers(a, b), impl.Overlaps(a, b); covers != (i|j == i) || overlaps != (i&j != 0) {
				t.Fatalf("Covers(%v, %v) = %v, Overlaps = %v", a, b, covers, overlaps)
			}
		}
	}
}

// TestAllPairsOfSmallSets goes through all pairs of sets of six unit cells, and in the middle of nine.
func TestAllPairsOfSmallSets(t *testing.T) {
	for _, corner := range chipPlaces() {
		checkAllPairs(t, setsOfCells(corner, 3, 2))
		checkAllPairs(t, setsOfCells(impl.Point{X: corner.X + 1, Y: corner.Y + 1}, 2, 3))
		for _, r := range setsOfCells(corner, 4, 2) {
			checkComplement(t, r)
		}
	}
	checkAllPairs(t, setsOfCells(impl.Point{X: 22, Y: -1}, 3, 3))
}

func TestOperationsOnSampleRegions(t *testing.T) {
	samples := sampleRegions()
	for _, a := range samples {
		checkComplement(t, a)
		for _, b := range samples {
			checkOperations(t, a, b)
		}
	}
}

// TestOperationsOnLargeRegions uses rectangles of all sizes, which cover and cut each other.
func TestOperationsOnLargeRegions(t *testing.T) {
	for seed := range uint64(40) {
		for _, size := range []int64{3, 20, limit} {
			a := paint(randomRects(seed, 1+int(seed), size)...).regionByDefinition()
			b := paint(randomRects(seed+100, 40-int(seed), size)...).regionByDefinition()
			checkOperations(t, a, b)
			checkComplement(t, a)
		}
	}
}

// TestEveryUnitCellOfTheChip takes each of them away from the chip and adds it again.
func TestEveryUnitCellOfTheChip(t *testing.T) {
	all := wholeChip()
	for _, p := range paint(all...).points() {
		cell := []impl.Rect{unitRect(p)}
		rest := impl.Complement(cell)
		if impl.RegionArea(rest) != limit*limit-1 || impl.RegionContains(rest, p.X, p.Y) || !slices.Equal(impl.Complement(rest), cell) {
			t.Fatalf("the complement of %v is %v", cell, rest)
		}
		checkSame(t, "union with the complement", impl.Union(rest, cell), all)
		checkSame(t, "difference from the chip", impl.Difference(all, cell), rest)
		if impl.Overlaps(rest, cell) || impl.Covers(rest, cell) || !impl.Covers(all, cell) || !impl.Overlaps(all, cell) {
			t.Fatalf("the relations of %v and its complement", cell)
		}
	}
}

func TestTheChipAndItsComplement(t *testing.T) {
	checkSame(t, "Complement of nothing", impl.Complement(nil), wholeChip())
	checkSame(t, "Complement of an empty list", impl.Complement([]impl.Rect{}), wholeChip())
	checkSame(t, "Complement of the chip", impl.Complement(wholeChip()), nil)
	checkSame(t, "Complement of a checkerboard", impl.Complement(checkerboard(0)), checkerboard(1))
	frame := []impl.Rect{{X0: -40, Y0: -40, X1: 40, Y1: -39}, {X0: -40, Y0: -39, X1: -39, Y1: 39}, {X0: 39, Y0: -39, X1: 40, Y1: 39}, {X0: -40, Y0: 39, X1: 40, Y1: 40}}
	checkSame(t, "Complement of a frame", impl.Complement(frame), []impl.Rect{{X0: -39, Y0: -39, X1: 39, Y1: 39}})
	for _, r := range append(sampleRegions(), nil) {
		checkSame(t, "union with the chip", impl.Union(r, wholeChip()), wholeChip())
		checkSame(t, "intersection with the chip", impl.Intersection(wholeChip(), r), r)
		if !impl.Covers(wholeChip(), r) || !impl.Covers(r, nil) || impl.Overlaps(r, nil) || impl.Overlaps(nil, r) {
			t.Errorf("%.99v beside the chip and nothing", fmt.Sprint(r))
		}
		if impl.Overlaps(wholeChip(), r) != (len(r) > 0) || impl.Covers(nil, r) != (len(r) == 0) {
			t.Errorf("%.99v beside the chip and nothing", fmt.Sprint(r))
		}
	}
}

// lawRegions holds regions that overlap, touch and are apart, all of which the laws take three at a time.
func lawRegions() [][]impl.Rect {
	list := [][]impl.Rect{
		nil, wholeChip(), checkerboard(0),
		{{X0: 0, Y0: 0, X1: 4, Y1: 4}}, {{X0: 4, Y0: 0, X1: 6, Y1: 4}}, {{X0: 4, Y0: 4, X1: 5, Y1: 5}}, {{X0: 1, Y0: 1, X1: 2, Y1: 2}},
	}
	for seed := range uint64(3) {
		list = append(list, paint(randomRects(seed, 10, 50)...).regionByDefinition(), paint(randomRects(seed, 300, 5)...).regionByDefinition())
	}
	return list
}

// TestLawsOfABooleanAlgebra checks the laws of two operands; Complement takes the place of "not".
func TestLawsOfABooleanAlgebra(t *testing.T) {
	union, intersection, not := impl.Union, impl.Intersection, impl.Complement
	for _, a := range lawRegions() {
		checkSame(t, "union with itself", union(a, a), a)
		checkSame(t, "intersection with itself", intersection(a, a), a)
		checkSame(t, "union with nothing", union(a, nil), a)
		checkSame(t, "union of nothing", union(nil, a), a)
		checkSame(t, "intersection with nothing", intersection(a, nil), nil)
		checkSame(t, "intersection with the complement", intersection(a, not(a)), nil)
		checkSame(t, "union with the complement", union(a, not(a)), wholeChip())
		checkSame(t, "complement twice", not(not(a)), a)
		for _, b := range lawRegions() {
			checkSame(t, "union commutes", union(a, b), union(b, a))
			checkSame(t, "intersection commutes", intersection(a, b), intersection(b, a))
			checkSame(t, "union absorbs", union(a, intersection(a, b)), a)
			checkSame(t, "intersection absorbs", intersection(a, union(a, b)), a)
			checkSame(t, "complement of a union", not(union(a, b)), intersection(not(a), not(b)))
			checkSame(t, "complement of an intersection", not(intersection(a, b)), union(not(a), not(b)))
			checkSame(t, "difference", impl.Difference(a, b), intersection(a, not(b)))
			checkSame(t, "symmetric difference", impl.SymmetricDifference(a, b), union(impl.Difference(a, b), impl.Difference(b, a)))
			checkSame(t, "symmetric difference twice", impl.SymmetricDifference(impl.SymmetricDifference(a, b), b), a)
		}
	}
}

func TestLawsOfThreeOperands(t *testing.T) {
	union, intersection, other := impl.Union, impl.Intersection, impl.SymmetricDifference
	list := lawRegions()
	for _, a := range list {
		for _, b := range list {
			for _, c := range list {
				checkSame(t, "union associates", union(union(a, b), c), union(a, union(b, c)))
				checkSame(t, "intersection associates", intersection(intersection(a, b), c), intersection(a, intersection(b, c)))
				checkSame(t, "symmetric difference associates", other(other(a, b), c), other(a, other(b, c)))
				checkSame(t, "union distributes", union(a, intersection(b, c)), intersection(union(a, b), union(a, c)))
				checkSame(t, "intersection distributes", intersection(a, union(b, c)), union(intersection(a, b), intersection(a, c)))
			}
		}
	}
}

// TestAreasAreAdditive also checks that the relations follow from the operations.
func TestAreasAreAdditive(t *testing.T) {
	area := impl.RegionArea
	for _, a := range append(lawRegions(), sampleRegions()...) {
		if got := area(impl.Complement(a)); got != limit*limit-area(a) {
			t.Fatalf("the area of the complement of %.99v is %d", fmt.Sprint(a), got)
		}
		for _, b := range append(lawRegions(), sampleRegions()...) {
			common := area(impl.Intersection(a, b))
			if area(impl.Union(a, b)) != area(a)+area(b)-common || area(impl.Difference(a, b)) != area(a)-common {
				t.Fatalf("the areas of %.99v and %.99v are not additive", fmt.Sprint(a), fmt.Sprint(b))
			}
			if area(impl.SymmetricDifference(a, b)) != area(a)+area(b)-2*common {
				t.Fatalf("the area of the symmetric difference of %.99v and %.99v", fmt.Sprint(a), fmt.Sprint(b))
			}
			if impl.Overlaps(a, b) != (common > 0) || impl.Covers(a, b) != (common == area(b)) {
				t.Fatalf("the relations of %.99v and %.99v", fmt.Sprint(a), fmt.Sprint(b))
			}
		}
	}
}

// checkUnionAll gives the list in several orders.
func checkUnionAll(t *testing.T, list [][]impl.Rect) {
	t.Helper()
	var rects []impl.Rect
	var folded []impl.Rect
	for _, r := range list {
		rects = append(rects, r...)
		folded = impl.Union(folded, r)
	}
	want := paint(rects...).regionByDefinition()
	checkSame(t, "unions one by one", folded, want)
	checkSame(t, fmt.Sprintf("UnionAll of %d regions", len(list)), impl.UnionAll(list), want)
	reversed := slices.Clone(list)
	slices.Reverse(reversed)
	checkSame(t, fmt.Sprintf("UnionAll of %d regions in the opposite order", len(list)), impl.UnionAll(reversed), want)
}

func TestUnionAllOfLists(t *testing.T) {
	checkUnionAll(t, nil)
	checkUnionAll(t, [][]impl.Rect{})
	checkUnionAll(t, sampleRegions())
	checkUnionAll(t, lawRegions())
	for _, r := range sampleRegions() {
		checkUnionAll(t, [][]impl.Rect{r})
		checkUnionAll(t, [][]impl.Rect{r, nil})
		checkUnionAll(t, [][]impl.Rect{nil, r, nil, r})
		checkUnionAll(t, [][]impl.Rect{r, wholeChip(), r})
	}
	for _, length := range []int{1, 2, 3, 10, impl.MaxOperands - 1, impl.MaxOperands} {
		var list [][]impl.Rect
		for n := range length {
			list = append(list, paint(randomRects(uint64(n), 3, 9)...).regionByDefinition())
		}
		checkUnionAll(t, list)
	}
}

// TestUnionAllOfMaxOperands has, with one region more, the same unit cells: only their number differs.
func TestUnionAllOfMaxOperands(t *testing.T) {
	cell := []impl.Rect{{X0: 5, Y0: 5, X1: 6, Y1: 6}}
	for _, r := range [][]impl.Rect{nil, cell, wholeChip(), checkerboard(0)} {
		most := slices.Repeat([][]impl.Rect{r}, impl.MaxOperands)
		checkSame(t, "UnionAll of MaxOperands regions", impl.UnionAll(most), r)
		if got := impl.UnionAll(append(most, r)); got != nil {
			t.Errorf("UnionAll of MaxOperands + 1 regions: %.99v", fmt.Sprint(got))
		}
		if got := impl.UnionAll(slices.Repeat([][]impl.Rect{r}, 2*impl.MaxOperands)); got != nil {
			t.Errorf("UnionAll of twice MaxOperands regions: %.99v", fmt.Sprint(got))
		}
	}
	var pieces [][]impl.Rect
	for n := range int64(impl.MaxOperands) {
		pieces = append(pieces, []impl.Rect{{X0: n - 32, Y0: -3, X1: n - 31, Y1: 7}})
	}
	checkSame(t, "UnionAll of neighbors", impl.UnionAll(pieces), []impl.Rect{{X0: -32, Y0: -3, X1: 32, Y1: 7}})
	if got := impl.UnionAll(append(pieces, nil)); got != nil {
		t.Errorf("UnionAll of neighbors and nothing: %v", got)
	}
}

// TestOperationsRejectNonRegions puts each list that is no region in each place, beside regions and beside another one.
func TestOperationsRejectNonRegions(t *testing.T) {
	for _, bad := range nonRegions() {
		cell := []impl.Rect{{X0: 0, Y0: 0, X1: 1, Y1: 1}}
		others := [][]impl.Rect{nil, cell, wholeChip(), checkerboard(0), bad, {{X0: 3, Y0: 3, X1: 3, Y1: 4}}}
		for _, other := range others {
			for _, o := range booleanOperations() {
				if first, second := o.apply(bad, other), o.apply(other, bad); first != nil || second != nil {
					t.Errorf("%s with %.99v: %.99v, %.99v", o.name, fmt.Sprint(bad), fmt.Sprint(first), fmt.Sprint(second))
				}
			}
			if impl.Covers(bad, other) || impl.Covers(other, bad) || impl.Overlaps(bad, other) || impl.Overlaps(other, bad) {
				t.Errorf("%.99v covers, is covered by or overlaps %.99v", fmt.Sprint(bad), fmt.Sprint(other))
			}
		}
		if got := impl.Complement(bad); got != nil {
			t.Errorf("Complement(%.99v) = %.99v", fmt.Sprint(bad), fmt.Sprint(got))
		}
	}
}

func TestUnionAllRejectsNonRegions(t *testing.T) {
	for _, bad := range nonRegions() {
		for _, length := range []int{1, 2, 5, impl.MaxOperands, impl.MaxOperands + 1} {
			for place := range length {
				list := slices.Repeat([][]impl.Rect{{{X0: 0, Y0: 0, X1: 1, Y1: 1}}}, length)
				list[place] = bad
				if got := impl.UnionAll(list); got != nil {
					t.Fatalf("UnionAll with %.99v at %d of %d: %.99v", fmt.Sprint(bad), place, length, fmt.Sprint(got))
				}
			}
		}
	}
}

// checkMovedUnion moves two regions before and after they are united.
func checkMovedUnion(t *testing.T, u impl.Transform, a, b []impl.Rect) {
	t.Helper()
	movedA, okA := impl.MoveRegion(u, a)
	movedB, okB := impl.MoveRegion(u, b)
	moved, ok := impl.MoveRegion(u, impl.Union(a, b))
	if ok != (okA && okB) {
		t.Fatalf("%v moves %.99v: %v, %.99v: %v, their union: %v", u, fmt.Sprint(a), okA, fmt.Sprint(b), okB, ok)
	}
	if !ok {
		return
	}
	checkSame(t, "the union of the images", impl.Union(movedA, movedB), moved)
	checkSame(t, "UnionAll of the images", impl.UnionAll([][]impl.Rect{movedB, movedA}), moved)
	if common := impl.RegionArea(impl.Intersection(movedA, movedB)); impl.RegionArea(moved) != impl.RegionArea(a)+impl.RegionArea(b)-common {
		t.Fatalf("%v changes the area of the union of %.99v and %.99v", u, fmt.Sprint(a), fmt.Sprint(b))
	}
}

// TestMovesCommuteWithOperations uses all orientations; of the other operations only images on the chip are compared.
func TestMovesCommuteWithOperations(t *testing.T) {
	for _, a := range lawRegions() {
		for _, b := range lawRegions() {
			for _, u := range pairTransforms() {
				checkMovedUnion(t, u, a, b)
			}
			for orientation := range int64(8) {
				u := impl.Transform{Orientation: orientation}
				movedA, _ := impl.MoveRegion(u, a)
				movedB, _ := impl.MoveRegion(u, b)
				for _, o := range booleanOperations() {
					moved, ok := impl.MoveRegion(u, o.apply(a, b))
					if !ok {
						t.Fatalf("%v moves a result of %s off the chip", u, o.name)
					}
					checkSame(t, o.name+" of the images", o.apply(movedA, movedB), moved)
				}
			}
		}
	}
}

// TestMovedUnionsAtTheBorder moves two regions up to, onto and over every border, where one leaves the chip first.
func TestMovedUnionsAtTheBorder(t *testing.T) {
	a, b := []impl.Rect{{X0: -30, Y0: -30, X1: -28, Y1: -29}}, []impl.Rect{{X0: 20, Y0: 3, X1: 21, Y1: 5}}
	for orientation := range int64(8) {
		for n := int64(-limit - 1); n <= limit+1; n++ {
			checkMovedUnion(t, impl.Transform{Orientation: orientation, X: n}, a, b)
			checkMovedUnion(t, impl.Transform{Orientation: orientation, Y: n}, a, b)
		}
	}
}

// booleanResults calls every function that returns rectangles, such that each result is its first argument or could be.
func booleanResults(r []impl.Rect) [][]impl.Rect {
	return [][]impl.Rect{
		impl.Union(r, nil), impl.Union(nil, r), impl.Union(r, r), impl.Intersection(r, r), impl.Intersection(r, wholeChip()),
		impl.Intersection(wholeChip(), r), impl.Difference(r, nil), impl.SymmetricDifference(r, nil), impl.SymmetricDifference(nil, r),
		impl.Complement(impl.Complement(r)), impl.UnionAll([][]impl.Rect{r}), impl.UnionAll([][]impl.Rect{nil, r, r}),
	}
}

// TestOperationsKeepTheirArguments also looks at the memory behind an argument and overwrites the results.
func TestOperationsKeepTheirArguments(t *testing.T) {
	whole := []impl.Rect{{X0: 0, Y0: 0, X1: 4, Y1: 2}, {X0: 1, Y0: 2, X1: 2, Y1: 5}, {X0: 9, Y0: 9, X1: 8, Y1: 8}, {X0: 3}}
	old := slices.Clone(whole)
	r := whole[:2]
	results := booleanResults(r)
	for i, result := range results {
		if !slices.Equal(result, r) {
			t.Fatalf("result %d is %v", i, result)
		}
		clear(result)
		_ = append(result, impl.Rect{X0: 7})
	}
	impl.Covers(r, r)
	impl.Overlaps(r, r)
	list := [][]impl.Rect{r, {{X0: 7, Y0: 7, X1: 8, Y1: 8}}, r, whole}
	impl.UnionAll(list[:3])
	if !slices.Equal(list[0], r) || !slices.Equal(list[1], []impl.Rect{{X0: 7, Y0: 7, X1: 8, Y1: 8}}) || !slices.Equal(list[3], old) {
		t.Errorf("the list became %v", list)
	}
	if !slices.Equal(whole, old) {
		t.Errorf("the argument became %v", whole)
	}
	checkSame(t, "Complement after its result was overwritten", impl.Complement(nil), wholeChip())
	clear(impl.Complement(nil))
	checkSame(t, "Complement after its result was overwritten", impl.Complement(nil), wholeChip())
}

func TestChapter4Examples(t *testing.T) {
	checkSame(t, "Union", impl.Union([]impl.Rect{{X0: 0, Y0: 0, X1: 2, Y1: 2}}, []impl.Rect{{X0: 2, Y0: 0, X1: 4, Y1: 2}}), []impl.Rect{{X0: 0, Y0: 0, X1: 4, Y1: 2}})
	square := []impl.Rect{{X0: 0, Y0: 0, X1: 3, Y1: 3}}
	checkSame(t, "Intersection", impl.Intersection(square, []impl.Rect{{X0: 2, Y0: 1, X1: 5, Y1: 2}}), []impl.Rect{{X0: 2, Y0: 1, X1: 3, Y1: 2}})
	ring := []impl.Rect{{X0: 0, Y0: 0, X1: 3, Y1: 1}, {X0: 0, Y0: 1, X1: 1, Y1: 2}, {X0: 2, Y0: 1, X1: 3, Y1: 2}, {X0: 0, Y0: 2, X1: 3, Y1: 3}}
	checkSame(t, "Difference", impl.Difference(square, []impl.Rect{{X0: 1, Y0: 1, X1: 2, Y1: 2}}), ring)
	ends := []impl.Rect{{X0: 0, Y0: 0, X1: 1, Y1: 1}, {X0: 2, Y0: 0, X1: 3, Y1: 1}}
	checkSame(t, "SymmetricDifference", impl.SymmetricDifference([]impl.Rect{{X0: 0, Y0: 0, X1: 2, Y1: 1}}, []impl.Rect{{X0: 1, Y0: 0, X1: 3, Y1: 1}}), ends)
	checkSame(t, "Complement", impl.Complement([]impl.Rect{}), []impl.Rect{{X0: -40, Y0: -40, X1: 40, Y1: 40}})
}
