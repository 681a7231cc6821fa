package tests

import (
	"fmt"
	"math/rand/v2"
	"slices"
	"testing"

	"loop.example/g00890/impl"
)

// sidesByDefinition returns the sides of unit cells that separate a set from what is not in it, directed such that the
// set is on the left.
func (c *chipCells) sidesByDefinition() map[impl.Edge]bool {
	sides := map[impl.Edge]bool{}
	for _, p := range c.points() {
		for _, side := range sidesOfCell(p) {
			// The unit cell on the right of the side from (0, 0) to (1, 0) is (0, -1).
			dx, dy := side.X1-side.X0, side.Y1-side.Y0
			if !c.has(p.X+dy, p.Y-dx) {
				sides[side] = true
			}
		}
	}
	return sides
}

func edge(x0, y0, x1, y1 int64) impl.Edge {
	return impl.Edge{X0: x0, Y0: y0, X1: x1, Y1: y1}
}

func facing(first, second impl.Edge, distance int64) impl.EdgePair {
	return impl.EdgePair{First: first, Second: second, Distance: distance}
}

// sidesOfCell goes counterclockwise around a unit cell.
func sidesOfCell(p impl.Point) []impl.Edge {
	return []impl.Edge{
		{X0: p.X, Y0: p.Y, X1: p.X + 1, Y1: p.Y}, {X0: p.X + 1, Y0: p.Y, X1: p.X + 1, Y1: p.Y + 1},
		{X0: p.X + 1, Y0: p.Y + 1, X1: p.X, Y1: p.Y + 1}, {X0: p.X, Y0: p.Y + 1, X1: p.X, Y1: p.Y},
	}
}

// edgesBySide returns the edge of each side: it begins where no side with its direction leads on.
func edgesBySide(sides map[impl.Edge]bool) map[impl.Edge]impl.Edge {
	edges := map[impl.Edge]impl.Edge{}
	for side := range sides {
		dx, dy := side.X1-side.X0, side.Y1-side.Y0
		whole := side
		for sides[impl.Edge{X0: whole.X0 - dx, Y0: whole.Y0 - dy, X1: whole.X0, Y1: whole.Y0}] {
			whole.X0, whole.Y0 = whole.X0-dx, whole.Y0-dy
		}
		for sides[impl.Edge{X0: whole.X1, Y0: whole.Y1, X1: whole.X1 + dx, Y1: whole.Y1 + dy}] {
			whole.X1, whole.Y1 = whole.X1+dx, whole.Y1+dy
		}
		edges[side] = whole
	}
	return edges
}

func compareEdges(a, b impl.Edge) int {
	return slices.Compare([]int64{a.Y0, a.X0, a.Y1, a.X1}, []int64{b.Y0, b.X0, b.Y1, b.X1})
}

func edgesByDefinition(sides map[impl.Edge]bool) []impl.Edge {
	var edges []impl.Edge
	for _, e := range edgesBySide(sides) {
		edges = append(edges, e)
	}
	slices.SortFunc(edges, compareEdges)
	return slices.Compact(edges)
}

// cornersByDefinition counts the unit cells around each point of the chip that is a corner of one of the set.
func (c *chipCells) cornersByDefinition() [3]int64 {
	points := map[impl.Point]bool{}
	for _, p := range c.points() {
		for _, side := range sidesOfCell(p) {
			points[impl.Point{X: side.X0, Y: side.Y0}] = true
		}
	}
	var counts [3]int64
	for p := range points {
		lower := [2]bool{c.has(p.X-1, p.Y-1), c.has(p.X, p.Y-1)}
		upper := [2]bool{c.has(p.X-1, p.Y), c.has(p.X, p.Y)}
		around := 0
		for _, in := range []bool{lower[0], lower[1], upper[0], upper[1]} {
			if in {
				around++
			}
		}
		switch {
		case around == 1:
			counts[0]++
		case around == 3:
			counts[1]++
		case around == 2 && lower[0] == upper[1]:
			counts[2]++
		}
	}
	return counts
}

func cornersOf(r []impl.Rect) [3]int64 {
	convex, reflex, touching := impl.CornerCounts(r)
	return [3]int64{convex, reflex, touching}
}

func checkEdgeList(t *testing.T, what string, got, want []impl.Edge) {
	t.Helper()
	if !slices.Equal(got, want) {
		t.Fatalf("%s: %.299v, want %.299v", what, fmt.Sprint(got), fmt.Sprint(want))
	}
}

// checkBoundary compares the edges, lengths and corners of a region with the definition and recovers the region.
func checkBoundary(t *testing.T, r []impl.Rect) {
	t.Helper()
	name := fmt.Sprintf("%.99v", fmt.Sprint(r))
	cells := paint(r...)
	sides := cells.sidesByDefinition()
	edges := impl.BoundaryEdges(r)
	checkEdgeList(t, "the edges of "+name, edges, edgesByDefinition(sides))
	if got := impl.Perimeter(r); got != int64(len(sides)) {
		t.Fatalf("Perimeter(%s) = %d, want %d", name, got, len(sides))
	}
	got, want := cornersOf(r), cells.cornersByDefinition()
	if got != want {
		t.Fatalf("CornerCounts(%s) = %v, want %v", name, got, want)
	}
	if begin := got[0] + got[1] + 2*got[2]; begin != int64(len(edges)) {
		t.Fatalf("%s has %d edges, but %d begin at its corners", name, len(edges), begin)
	}
	back, ok := impl.RegionFromEdges(edges)
	if !ok || !slices.Equal(back, r) {
		t.Fatalf("%s is recovered as %.99v, %v", name, fmt.Sprint(back), ok)
	}
}

// TestBoundariesByHand names the ways in which edges meet.
func TestBoundariesByHand(t *testing.T) {
	cases := []struct {
		name    string
		r       []impl.Rect
		edges   []impl.Edge
		length  int64
		corners [3]int64
	}{
		{"nothing", nil, nil, 0, [3]int64{}},
		{"a unit cell", []impl.Rect{{X0: 5, Y0: 6, X1: 6, Y1: 7}},
			[]impl.Edge{edge(5, 6, 6, 6), edge(6, 6, 6, 7), edge(5, 7, 5, 6), edge(6, 7, 5, 7)}, 4, [3]int64{4, 0, 0}},
		{"the whole chip", wholeChip(),
			[]impl.Edge{edge(-40, -40, 40, -40), edge(40, -40, 40, 40), edge(-40, 40, -40, -40), edge(40, 40, -40, 40)}, 320, [3]int64{4, 0, 0}},
		{"the lower left corner of the chip", []impl.Rect{{X0: -40, Y0: -40, X1: -39, Y1: -39}},
			[]impl.Edge{edge(-40, -40, -39, -40), edge(-39, -40, -39, -39), edge(-40, -39, -40, -40), edge(-39, -39, -40, -39)}, 4, [3]int64{4, 0, 0}},
		{"the upper right corner of the chip", []impl.Rect{{X0: 39, Y0: 39, X1: 40, Y1: 40}},
			[]impl.Edge{edge(39, 39, 40, 39), edge(40, 39, 40, 40), edge(39, 40, 39, 39), edge(40, 40, 39, 40)}, 4, [3]int64{4, 0, 0}},
		{"a bar from border to border", []impl.Rect{{X0: -40, Y0: 2, X1: 40, Y1: 3}},
			[]impl.Edge{edge(-40, 2, 40, 2), edge(40, 2, 40, 3), edge(-40, 3, -40, 2), edge(40, 3, -40, 3)}, 162, [3]int64{4, 0, 0}},
		{"two bands", []impl.Rect{{X0: 0, Y0: 0, X1: 2, Y1: 1}, {X0: 0, Y0: 1, X1: 1, Y1: 2}},
			[]impl.Edge{edge(0, 0, 2, 0), edge(2, 0, 2, 1), edge(1, 1, 1, 2), edge(2, 1, 1, 1), edge(0, 2, 0, 0), edge(1, 2, 0, 2)}, 8, [3]int64{5, 1, 0}},
		{"touching at a corner, rising", []impl.Rect{{X0: 0, Y0: 0, X1: 1, Y1: 1}, {X0: 1, Y0: 1, X1: 2, Y1: 2}},
			[]impl.Edge{edge(0, 0, 1, 0), edge(1, 0, 1, 1), edge(0, 1, 0, 0), edge(1, 1, 0, 1), edge(1, 1, 2, 1), edge(2, 1, 2, 2), edge(1, 2, 1, 1), edge(2, 2, 1, 2)},
			8, [3]int64{6, 0, 1}},
		{"touching at a corner, falling", []impl.Rect{{X0: 1, Y0: 0, X1: 2, Y1: 1}, {X0: 0, Y0: 1, X1: 1, Y1: 2}},
			[]impl.Edge{edge(1, 0, 2, 0), edge(2, 0, 2, 1), edge(0, 1, 1, 1), edge(1, 1, 1, 0), edge(1, 1, 1, 2), edge(2, 1, 1, 1), edge(0, 2, 0, 1), edge(1, 2, 0, 2)},
			8, [3]int64{6, 0, 1}},
		{"a hole", []impl.Rect{{X0: 0, Y0: 0, X1: 3, Y1: 1}, {X0: 0, Y0: 1, X1: 1, Y1: 2}, {X0: 2, Y0: 1, X1: 3, Y1: 2}, {X0: 0, Y0: 2, X1: 3, Y1: 3}},
			[]impl.Edge{edge(0, 0, 3, 0), edge(3, 0, 3, 3), edge(1, 1, 1, 2), edge(2, 1, 1, 1), edge(1, 2, 2, 2), edge(2, 2, 2, 1), edge(0, 3, 0, 0), edge(3, 3, 0, 3)},
			16, [3]int64{4, 4, 0}},
		{"parts in line", []impl.Rect{{X0: 0, Y0: 0, X1: 1, Y1: 1}, {X0: 2, Y0: 0, X1: 3, Y1: 1}},
			[]impl.Edge{edge(0, 0, 1, 0), edge(1, 0, 1, 1), edge(2, 0, 3, 0), edge(3, 0, 3, 1), edge(0, 1, 0, 0), edge(1, 1, 0, 1), edge(2, 1, 2, 0), edge(3, 1, 2, 1)},
			8, [3]int64{8, 0, 0}},
		{"parts above each other", []impl.Rect{{X0: 0, Y0: 0, X1: 1, Y1: 1}, {X0: 0, Y0: 2, X1: 1, Y1: 3}},
			[]impl.Edge{edge(0, 0, 1, 0), edge(1, 0, 1, 1), edge(0, 1, 0, 0), edge(1, 1, 0, 1), edge(0, 2, 1, 2), edge(1, 2, 1, 3), edge(0, 3, 0, 2), edge(1, 3, 0, 3)},
			8, [3]int64{8, 0, 0}},
		{"an edge of two bands", []impl.Rect{{X0: 0, Y0: 0, X1: 1, Y1: 1}, {X0: 0, Y0: 1, X1: 2, Y1: 2}, {X0: 0, Y0: 2, X1: 1, Y1: 3}},
			[]impl.Edge{edge(0, 0, 1, 0), edge(1, 0, 1, 1), edge(1, 1, 2, 1), edge(2, 1, 2, 2), edge(1, 2, 1, 3), edge(2, 2, 1, 2), edge(0, 3, 0, 0), edge(1, 3, 0, 3)},
			10, [3]int64{6, 2, 0}},
	}
	for _, c := range cases {
		t.Run(c.name, func(t *testing.T) {
			checkEdgeList(t, "the edges", impl.BoundaryEdges(c.r), c.edges)
			if got := impl.Perimeter(c.r); got != c.length {
				t.Errorf("Perimeter = %d, want %d", got, c.length)
			}
			if got := cornersOf(c.r); got != c.corners {
				t.Errorf("CornerCounts = %v, want %v", got, c.corners)
			}
			back, ok := impl.RegionFromEdges(c.edges)
			if !ok {
				t.Error("the edges have no region")
			}
			checkSame(t, "the region of the edges", back, c.r)
			checkBoundary(t, c.r)
		})
	}
}

func TestBoundariesOfSmallSets(t *testing.T) {
	for _, corner := range chipPlaces() {
		for _, r := range setsOfCells(corner, 4, 2) {
			checkBoundary(t, r)
		}
		for _, r := range setsOfCells(impl.Point{X: corner.X + 1, Y: corner.Y + 1}, 3, 3) {
			checkBoundary(t, r)
		}
	}
	for _, r := range setsOfCells(impl.Point{X: 22, Y: -2}, 4, 3) {
		checkBoundary(t, r)
	}
}

func TestEveryUnitCellHasFourEdges(t *testing.T) {
	for _, p := range paint(wholeChip()...).points() {
		want := sidesOfCell(p)
		slices.SortFunc(want, compareEdges)
		r := []impl.Rect{unitRect(p)}
		checkEdgeList(t, fmt.Sprintf("the edges of %v", p), impl.BoundaryEdges(r), want)
		if got := cornersOf(r); impl.Perimeter(r) != 4 || got != [3]int64{4, 0, 0} {
			t.Fatalf("the unit cell %v: perimeter %d, corners %v", p, impl.Perimeter(r), got)
		}
	}
}

// edgeRegions holds regions of all kinds, among them some with holes and the complements of others.
func edgeRegions() [][]impl.Rect {
	list := sampleRegions()
	for seed := range uint64(5) {
		for _, size := range []int64{2, 8, 40} {
			r := paint(randomRects(seed, 8+int(seed)*20/int(size), size)...).regionByDefinition()
			list = append(list, r, impl.Complement(r))
		}
	}
	return list
}

func TestBoundariesOfSampleRegions(t *testing.T) {
	for _, r := range edgeRegions() {
		checkBoundary(t, r)
		checkBoundary(t, impl.Complement(r))
	}
}

// TestBoundariesAtEveryBorder moves a region with a hole and a touching corner up to each border.
func TestBoundariesAtEveryBorder(t *testing.T) {
	r := []impl.Rect{{X0: 0, Y0: 0, X1: 4, Y1: 1}, {X0: 0, Y0: 1, X1: 1, Y1: 3}, {X0: 2, Y0: 1, X1: 3, Y1: 3}, {X0: 0, Y0: 3, X1: 3, Y1: 4}, {X0: 3, Y0: 4, X1: 5, Y1: 5}}
	for _, dx := range []int64{-40, -39, 0, 19, 20, 21, 22, 34, 35} {
		for _, dy := range []int64{-40, -39, 0, 34, 35} {
			shifted, ok := impl.ShiftRegion(r, dx, dy)
			if !ok {
				t.Fatalf("the shift by %d, %d leaves the chip", dx, dy)
			}
			checkBoundary(t, shifted)
		}
	}
}

func TestBoundariesOfMaxEdges(t *testing.T) {
	for first := range int64(2) {
		r := checkerboard(first)
		edges := impl.BoundaryEdges(r)
		if len(edges) != impl.MaxEdges || impl.Perimeter(r) != impl.MaxEdges {
			t.Fatalf("%d edges, perimeter %d", len(edges), impl.Perimeter(r))
		}
		back, ok := impl.RegionFromEdges(edges)
		if !ok {
			t.Fatal("MaxEdges edges are too many")
		}
		checkSame(t, "a checkerboard", back, r)
		// At the border a point has one unit cell, except in two corners of the chip; inside, two touch at each point.
		if got := cornersOf(r); got != [3]int64{4*79 + 2, 0, 79 * 79} {
			t.Errorf("CornerCounts = %v", got)
		}
		checkNoRegion(t, "one edge more", append(slices.Clone(edges), edges[0]))
		checkNoRegion(t, "one edge more that comes last", append(slices.Clone(edges), impl.Edge{X0: 40, Y0: 40, X1: 39, Y1: 40}))
		checkNoRegion(t, "MaxEdges edges, two of them exchanged", exchanged(edges, 7000, 7001))
		checkNoRegion(t, "all edges twice", append(slices.Clone(edges), edges...))
	}
	same := slices.Repeat([]impl.Edge{{X0: 0, Y0: 0, X1: 1, Y1: 0}}, impl.MaxEdges+1)
	checkNoRegion(t, "MaxEdges times the same edge", same[1:])
	checkNoRegion(t, "MaxEdges + 1 times the same edge", same)
}

func exchanged(edges []impl.Edge, i, j int) []impl.Edge {
	other := slices.Clone(edges)
	other[i], other[j] = other[j], other[i]
	return other
}

func reversed(e impl.Edge) impl.Edge {
	return impl.Edge{X0: e.X1, Y0: e.Y1, X1: e.X0, Y1: e.Y0}
}

func checkNoRegion(t *testing.T, what string, edges []impl.Edge) {
	t.Helper()
	if got, ok := impl.RegionFromEdges(edges); ok || got != nil {
		t.Fatalf("%s: %.299v has the region %.99v, %v", what, fmt.Sprint(edges), fmt.Sprint(got), ok)
	}
}

// checkEveryChange changes each edge of a region's boundary in several ways: none of them leaves the edges of a region
// in their order.
func checkEveryChange(t *testing.T, edges []impl.Edge) {
	t.Helper()
	for i, e := range edges {
		with := func(instead ...impl.Edge) []impl.Edge {
			return slices.Concat(edges[:i], instead, edges[i+1:])
		}
		sorted := func(list []impl.Edge) []impl.Edge {
			slices.SortFunc(list, compareEdges)
			return list
		}
		checkNoRegion(t, "missing", with())
		checkNoRegion(t, "doubled", with(e, e))
		checkNoRegion(t, "doubled at the end", append(slices.Clone(edges), e))
		checkNoRegion(t, "reversed", with(reversed(e)))
		checkNoRegion(t, "reversed and sorted", sorted(with(reversed(e))))
		checkNoRegion(t, "both ways", sorted(with(e, reversed(e))))
		dx, dy := sign(e.X1-e.X0), sign(e.Y1-e.Y0)
		if impl.EdgeLength(e) > 1 {
			middle := impl.Point{X: e.X0 + dx, Y: e.Y0 + dy}
			first, second := impl.Edge{X0: e.X0, Y0: e.Y0, X1: middle.X, Y1: middle.Y}, impl.Edge{X0: middle.X, Y0: middle.Y, X1: e.X1, Y1: e.Y1}
			checkNoRegion(t, "divided", with(first, second))
			checkNoRegion(t, "divided and sorted", sorted(with(first, second)))
			checkNoRegion(t, "shorter", sorted(with(first)))
			checkNoRegion(t, "shorter at its begin", sorted(with(second)))
		}
		checkNoRegion(t, "longer", with(impl.Edge{X0: e.X0, Y0: e.Y0, X1: e.X1 + dx, Y1: e.Y1 + dy}))
		checkNoRegion(t, "longer at its begin", sorted(with(impl.Edge{X0: e.X0 - dx, Y0: e.Y0 - dy, X1: e.X1, Y1: e.Y1})))
		checkNoRegion(t, "one to the left", sorted(with(impl.Edge{X0: e.X0 - dy, Y0: e.Y0 + dx, X1: e.X1 - dy, Y1: e.Y1 + dx})))
		for j := range i {
			checkNoRegion(t, "in another order", exchanged(edges, i, j))
		}
	}
}

func sign(n int64) int64 {
	return max(-1, min(1, n))
}

func TestEveryChangeOfTheEdgesIsNoticed(t *testing.T) {
	regions := [][]impl.Rect{
		{{X0: 0, Y0: 0, X1: 1, Y1: 1}}, {{X0: 0, Y0: 0, X1: 3, Y1: 2}}, wholeChip(),
		{{X0: 0, Y0: 0, X1: 1, Y1: 1}, {X0: 1, Y0: 1, X1: 2, Y1: 2}},
		{{X0: 0, Y0: 0, X1: 3, Y1: 1}, {X0: 0, Y0: 1, X1: 1, Y1: 2}, {X0: 2, Y0: 1, X1: 3, Y1: 2}, {X0: 0, Y0: 2, X1: 3, Y1: 3}},
		{{X0: -40, Y0: -40, X1: -38, Y1: -39}, {X0: 38, Y0: 39, X1: 40, Y1: 40}},
		paint(randomRects(1, 5, 9)...).regionByDefinition(),
	}
	for _, r := range regions {
		checkEveryChange(t, impl.BoundaryEdges(r))
	}
}

// TestListsThatAreNoBoundary holds closed lines that are not those of a region.
func TestListsThatAreNoBoundary(t *testing.T) {
	cases := []struct {
		name  string
		edges []impl.Edge
	}{
		{"clockwise", []impl.Edge{edge(0, 0, 0, 2), edge(3, 0, 0, 0), edge(0, 2, 3, 2), edge(3, 2, 3, 0)}},
		{"clockwise around the chip", []impl.Edge{edge(-40, -40, -40, 40), edge(40, -40, -40, -40), edge(-40, 40, 40, 40), edge(40, 40, 40, -40)}},
		{"vertical edges only", []impl.Edge{edge(3, 0, 3, 2), edge(0, 2, 0, 0)}},
		{"horizontal edges only", []impl.Edge{edge(0, 0, 3, 0), edge(3, 2, 0, 2)}},
		{"a square in a square, both counterclockwise",
			[]impl.Edge{edge(0, 0, 3, 0), edge(3, 0, 3, 3), edge(1, 1, 2, 1), edge(2, 1, 2, 2), edge(1, 2, 1, 1), edge(2, 2, 1, 2), edge(0, 3, 0, 0), edge(3, 3, 0, 3)}},
		{"two squares with a side in common",
			[]impl.Edge{edge(0, 0, 1, 0), edge(1, 0, 1, 1), edge(1, 0, 2, 0), edge(2, 0, 2, 1), edge(0, 1, 0, 0), edge(1, 1, 0, 1), edge(1, 1, 1, 0), edge(2, 1, 1, 1)}},
		{"overlapping squares",
			[]impl.Edge{edge(0, 0, 2, 0), edge(2, 0, 2, 2), edge(1, 1, 3, 1), edge(3, 1, 3, 3), edge(0, 2, 0, 0), edge(2, 2, 0, 2), edge(1, 3, 1, 1), edge(3, 3, 1, 3)}},
		{"twice the same square",
			[]impl.Edge{edge(0, 0, 1, 0), edge(0, 0, 1, 0), edge(1, 0, 1, 1), edge(1, 0, 1, 1), edge(0, 1, 0, 0), edge(0, 1, 0, 0), edge(1, 1, 0, 1), edge(1, 1, 0, 1)}},
		{"there and back", []impl.Edge{edge(0, 0, 1, 0), edge(1, 0, 0, 0)}},
		{"up and down", []impl.Edge{edge(0, 0, 0, 1), edge(0, 1, 0, 0)}},
		{"a vertical edge in two parts", []impl.Edge{edge(0, 0, 3, 0), edge(3, 0, 3, 1), edge(3, 1, 3, 2), edge(0, 2, 0, 0), edge(3, 2, 0, 2)}},
		{"a horizontal edge in two parts", []impl.Edge{edge(0, 0, 1, 0), edge(1, 0, 3, 0), edge(3, 0, 3, 2), edge(0, 2, 0, 0), edge(3, 2, 0, 2)}},
		{"a vertical edge three times", []impl.Edge{edge(0, 0, 1, 0), edge(1, 0, 1, 1), edge(1, 0, 1, 1), edge(1, 0, 1, 1), edge(0, 1, 0, 0), edge(1, 1, 0, 1)}},
		{"an edge in two parts that overlap", []impl.Edge{edge(0, 0, 2, 0), edge(1, 0, 3, 0), edge(3, 0, 3, 2), edge(0, 2, 0, 0), edge(3, 2, 0, 2)}},
	}
	for _, c := range cases {
		checkNoRegion(t, c.name, c.edges)
	}
}

// unitBoxEdges returns all edges in a box of two unit cells beside each other, in the order of BoundaryEdges.
func unitBoxEdges() []impl.Edge {
	var edges []impl.Edge
	for p := range int64(36) {
		if e := (impl.Edge{X0: p % 3, Y0: p / 3 % 2, X1: p / 6 % 3, Y1: p / 18}); impl.EdgeLength(e) > 0 {
			edges = append(edges, e)
		}
	}
	slices.SortFunc(edges, compareEdges)
	return edges
}

// TestFewEdgesHaveARegion goes through all lists of at most five edges in a small box: four of them are boundaries.
func TestFewEdgesHaveARegion(t *testing.T) {
	all := unitBoxEdges()
	if len(all) != 18 {
		t.Fatalf("%d edges", len(all))
	}
	boundaries := map[string][]impl.Rect{}
	for _, r := range setsOfCells(impl.Point{}, 2, 1) {
		boundaries[fmt.Sprint(edgesByDefinition(paint(r...).sidesByDefinition()))] = r
	}
	found := 0
	var choose func(from int, chosen []impl.Edge)
	choose = func(from int, chosen []impl.Edge) {
		want, isBoundary := boundaries[fmt.Sprint(chosen)]
		got, ok := impl.RegionFromEdges(chosen)
		if ok != isBoundary || !slices.Equal(got, want) {
			t.Fatalf("RegionFromEdges(%v) = %v, %v, want %v, %v", chosen, got, ok, want, isBoundary)
		}
		if ok {
			found++
		}
		if len(chosen) == 5 {
			return
		}
		for i := from; i < len(all); i++ {
			choose(i+1, append(slices.Clone(chosen), all[i]))
		}
	}
	choose(0, nil)
	if found != 4 {
		t.Errorf("%d lists have a region", found)
	}
}

// TestOneOrderHasARegion goes through all orders of the edges of two unit cells that touch, where edges begin at the
// same point.
func TestOneOrderHasARegion(t *testing.T) {
	for _, r := range [][]impl.Rect{
		{{X0: 0, Y0: 0, X1: 1, Y1: 1}, {X0: 1, Y0: 1, X1: 2, Y1: 2}}, {{X0: 1, Y0: 0, X1: 2, Y1: 1}, {X0: 0, Y0: 1, X1: 1, Y1: 2}},
	} {
		edges := impl.BoundaryEdges(r)
		found := 0
		var permute func(from int)
		permute = func(from int) {
			if from == len(edges) {
				if got, ok := impl.RegionFromEdges(edges); ok {
					found++
					checkSame(t, "the region", got, r)
					checkEdgeList(t, "the order", edges, impl.BoundaryEdges(r))
				}
				return
			}
			for i := from; i < len(edges); i++ {
				edges[from], edges[i] = edges[i], edges[from]
				permute(from + 1)
				edges[from], edges[i] = edges[i], edges[from]
			}
		}
		permute(0)
		if found != 1 {
			t.Errorf("%d orders of %v have a region", found, edges)
		}
	}
}

// TestBoundariesDiffer checks that different regions have different edges.
func TestBoundariesDiffer(t *testing.T) {
	seen := map[string]bool{}
	for _, r := range setsOfCells(impl.Point{X: -1, Y: -2}, 3, 4) {
		edges := fmt.Sprint(impl.BoundaryEdges(r))
		if seen[edges] {
			t.Fatalf("the edges of %v are those of another region", r)
		}
		seen[edges] = true
	}
}

func TestRegionFromEdgesRejectsWhatIsNoEdge(t *testing.T) {
	bad := invalidEdges()
	good := impl.BoundaryEdges([]impl.Rect{{X0: 0, Y0: 0, X1: 3, Y1: 2}})
	for _, e := range bad {
		checkNoRegion(t, "alone", []impl.Edge{e})
		for i := range len(good) + 1 {
			checkNoRegion(t, "inserted", slices.Insert(slices.Clone(good), i, e))
		}
		for i := range good {
			checkNoRegion(t, "instead", slices.Concat(good[:i], []impl.Edge{e}, good[i+1:]))
		}
		checkNoRegion(t, "twice", []impl.Edge{e, e})
		checkNoRegion(t, "there and back", []impl.Edge{e, reversed(e)})
	}
	beyond := []impl.Edge{edge(39, 39, 41, 39), edge(41, 39, 41, 40), edge(39, 40, 39, 39), edge(41, 40, 39, 40)}
	checkNoRegion(t, "a rectangle beyond the right border", beyond)
	checkNoRegion(t, "a rectangle above the chip", []impl.Edge{edge(0, 40, 1, 40), edge(1, 40, 1, 41), edge(0, 41, 0, 40), edge(1, 41, 0, 41)})
	checkNoRegion(t, "a rectangle below the chip", []impl.Edge{edge(0, -41, 1, -41), edge(1, -41, 1, -40), edge(0, -40, 0, -41), edge(1, -40, 0, -40)})
	checkNoRegion(t, "a rectangle beyond the left border", []impl.Edge{edge(-41, 0, -40, 0), edge(-40, 0, -40, 1), edge(-41, 1, -41, 0), edge(-40, 1, -41, 1)})
}

// invalidEdges holds edges without a length.
func invalidEdges() []impl.Edge {
	list := []impl.Edge{
		{}, {X0: 3, Y0: 4, X1: 3, Y1: 4}, {X0: 40, Y0: 40, X1: 40, Y1: 40},
		{X1: 1, Y1: 1}, {X0: 2, Y0: 1, X1: 1, Y1: 2}, {X0: -40, Y0: -40, X1: 40, Y1: 40}, {X1: 3, Y1: -1},
		{X0: 40, Y0: 0, X1: 41, Y1: 0}, {X0: -41, Y0: 0, X1: -40, Y1: 0}, {X0: 0, Y0: 40, X1: 0, Y1: 41}, {X0: 0, Y0: -41, X1: 0, Y1: -40},
		{X0: 41, Y0: 0, X1: 41, Y1: 1}, {X0: 0, Y0: -41, X1: 1, Y1: -41}, {X0: 41, Y0: 0, X1: 0, Y1: 0}, {X0: 41, Y0: 5, X1: 41, Y1: 5},
	}
	for _, n := range outside {
		list = append(list, impl.Edge{X0: n}, impl.Edge{Y0: n}, impl.Edge{X1: n}, impl.Edge{Y1: n})
		list = append(list, impl.Edge{X0: n, X1: n, Y1: 1}, impl.Edge{Y0: n, X1: 1, Y1: n}, impl.Edge{X0: n, Y0: n, X1: n, Y1: n}, impl.Edge{X0: n, X1: -n})
	}
	return list
}

// lengthByDefinition walks along an edge. The end points must be on the chip.
func lengthByDefinition(e impl.Edge) int64 {
	for length := int64(1); length <= limit; length++ {
		for _, end := range []impl.Point{{X: e.X0 + length, Y: e.Y0}, {X: e.X0 - length, Y: e.Y0}, {X: e.X0, Y: e.Y0 + length}, {X: e.X0, Y: e.Y0 - length}} {
			if (impl.Point{X: e.X1, Y: e.Y1}) == end {
				return length
			}
		}
	}
	return -1
}

func TestEdgeLengthFollowsTheDefinition(t *testing.T) {
	numbers := append([]int64{-41, -40, -39, -1, 0, 1, 7, 39, 40, 41}, outside...)
	for _, x0 := range numbers {
		for _, y0 := range numbers {
			for _, x1 := range numbers {
				for _, y1 := range numbers {
					e := impl.Edge{X0: x0, Y0: y0, X1: x1, Y1: y1}
					want := int64(-1)
					if onChip([]impl.Point{{X: x0, Y: y0}, {X: x1, Y: y1}}) {
						want = lengthByDefinition(e)
					}
					if got := impl.EdgeLength(e); got != want {
						t.Fatalf("EdgeLength(%v) = %d, want %d", e, got, want)
					}
				}
			}
		}
	}
	for _, e := range invalidEdges() {
		if got := impl.EdgeLength(e); got != -1 {
			t.Errorf("EdgeLength(%v) = %d", e, got)
		}
	}
}

// lineRuns returns the maximal runs of a line of the chip in which in holds.
func lineRuns(in func(int64) bool) [][2]int64 {
	var runs [][2]int64
	for n := int64(-impl.Extent); n < impl.Extent; n++ {
		switch {
		case !in(n):
		case len(runs) > 0 && runs[len(runs)-1][1] == n:
			runs[len(runs)-1][1]++
		default:
			runs = append(runs, [2]int64{n, n + 1})
		}
	}
	return runs
}

// facingByDefinition follows the words of chapter 6 for each row and each column.
func (c *chipCells) facingByDefinition(d int64, inside bool) []impl.EdgePair {
	edges := edgesBySide(c.sidesByDefinition())
	found := map[impl.EdgePair]bool{}
	add := func(run [2]int64, has func(int64) bool, side func(cell int64, after bool) impl.Edge) {
		length := run[1] - run[0]
		switch {
		case length >= d:
		case inside:
			found[impl.EdgePair{First: edges[side(run[0], false)], Second: edges[side(run[1]-1, true)], Distance: length}] = true
		case has(run[0]-1) && has(run[1]):
			found[impl.EdgePair{First: edges[side(run[0]-1, true)], Second: edges[side(run[1], false)], Distance: length}] = true
		}
	}
	for n := int64(-impl.Extent); n < impl.Extent; n++ {
		inRow, inColumn := func(x int64) bool { return c.has(x, n) }, func(y int64) bool { return c.has(n, y) }
		for _, run := range lineRuns(func(x int64) bool { return inRow(x) == inside }) {
			add(run, inRow, func(x int64, after bool) impl.Edge {
				if after {
					return sidesOfCell(impl.Point{X: x, Y: n})[1]
				}
				return sidesOfCell(impl.Point{X: x, Y: n})[3]
			})
		}
		for _, run := range lineRuns(func(y int64) bool { return inColumn(y) == inside }) {
			add(run, inColumn, func(y int64, after bool) impl.Edge {
				if after {
					return sidesOfCell(impl.Point{X: n, Y: y})[2]
				}
				return sidesOfCell(impl.Point{X: n, Y: y})[0]
			})
		}
	}
	return sortedPairs(found)
}

func sortedPairs(pairs map[impl.EdgePair]bool) []impl.EdgePair {
	var list []impl.EdgePair
	for p := range pairs {
		list = append(list, p)
	}
	slices.SortFunc(list, func(a, b impl.EdgePair) int {
		if first := compareEdges(a.First, b.First); first != 0 {
			return first
		}
		return compareEdges(a.Second, b.Second)
	})
	return list
}

func checkFacing(t *testing.T, r []impl.Rect, distances ...int64) {
	t.Helper()
	cells := paint(r...)
	for _, d := range distances {
		for _, inside := range []bool{true, false} {
			want := cells.facingByDefinition(d, inside)
			if got := impl.FacingEdges(r, d, inside); !slices.Equal(got, want) {
				t.Fatalf("FacingEdges(%.99v, %d, %v) = %.299v, want %.299v", fmt.Sprint(r), d, inside, fmt.Sprint(got), fmt.Sprint(want))
			}
		}
	}
}

// TestFacingEdgesByHand names the ways in which edges face each other.
func TestFacingEdgesByHand(t *testing.T) {
	bars := []impl.Rect{{X0: 0, Y0: 0, X1: 2, Y1: 4}, {X0: 5, Y0: 0, X1: 9, Y1: 4}}
	stairs := []impl.Rect{{X0: 0, Y0: 0, X1: 2, Y1: 2}, {X0: 2, Y0: 2, X1: 4, Y1: 4}}
	shared := []impl.Rect{{X0: 0, Y0: 0, X1: 1, Y1: 3}, {X0: 3, Y0: 0, X1: 4, Y1: 1}, {X0: 3, Y0: 1, X1: 5, Y1: 2}, {X0: 3, Y0: 2, X1: 4, Y1: 3}}
	shared, _ = impl.RegionOf(shared)
	cases := []struct {
		name   string
		r      []impl.Rect
		d      int64
		inside bool
		want   []impl.EdgePair
	}{
		{"nothing", nil, 80, true, nil},
		{"nothing outside", nil, 80, false, nil},
		{"the chip is as long as d", wholeChip(), 80, true, nil},
		{"nothing outside the chip", wholeChip(), 80, false, nil},
		{"no run is shorter than one", checkerboard(0), 1, true, nil},
		{"no run outside is shorter than one", checkerboard(0), 1, false, nil},
		{"as wide as d", []impl.Rect{{X0: 0, Y0: 0, X1: 3, Y1: 3}}, 3, true, nil},
		{"one less than d, both ways", []impl.Rect{{X0: 0, Y0: 0, X1: 3, Y1: 3}}, 4, true,
			[]impl.EdgePair{facing(edge(0, 0, 3, 0), edge(3, 3, 0, 3), 3), facing(edge(0, 3, 0, 0), edge(3, 0, 3, 3), 3)}},
		{"one part is narrow", bars, 3, true, []impl.EdgePair{facing(edge(0, 4, 0, 0), edge(2, 0, 2, 4), 2)}},
		{"a gap as wide as d", bars, 3, false, nil},
		{"a gap one less than d", bars, 4, false, []impl.EdgePair{facing(edge(2, 0, 2, 4), edge(5, 4, 5, 0), 3)}},
		{"corners face nothing outside", stairs, 80, false, nil},
		{"in a corner of the chip", []impl.Rect{{X0: 38, Y0: 38, X1: 40, Y1: 40}}, 3, true,
			[]impl.EdgePair{facing(edge(38, 38, 40, 38), edge(40, 40, 38, 40), 2), facing(edge(38, 40, 38, 38), edge(40, 38, 40, 40), 2)}},
		{"the way to the border is no run", []impl.Rect{{X0: -39, Y0: -39, X1: 39, Y1: 39}}, 80, false, nil},
		{"a bar of 79 unit cells", []impl.Rect{{X0: -40, Y0: 0, X1: 39, Y1: 1}}, 80, true,
			[]impl.EdgePair{facing(edge(-40, 0, 39, 0), edge(39, 1, -40, 1), 1), facing(edge(-40, 1, -40, 0), edge(39, 0, 39, 1), 79)}},
		{"a bar of 80 unit cells", []impl.Rect{{X0: -40, Y0: 0, X1: 40, Y1: 1}}, 80, true,
			[]impl.EdgePair{facing(edge(-40, 0, 40, 0), edge(40, 1, -40, 1), 1)}},
		{"from border to border", []impl.Rect{{X0: -40, Y0: 0, X1: -39, Y1: 1}, {X0: 39, Y0: 0, X1: 40, Y1: 1}}, 79, false,
			[]impl.EdgePair{facing(edge(-39, 0, -39, 1), edge(39, 1, 39, 0), 78)}},
		{"two runs with the same edges", shared, 3, false, []impl.EdgePair{facing(edge(1, 0, 1, 3), edge(3, 3, 3, 0), 2)}},
		{"a hole", []impl.Rect{{X0: 0, Y0: 0, X1: 6, Y1: 2}, {X0: 0, Y0: 2, X1: 2, Y1: 3}, {X0: 3, Y0: 2, X1: 6, Y1: 3}, {X0: 0, Y0: 3, X1: 6, Y1: 5}}, 2, false,
			[]impl.EdgePair{facing(edge(2, 2, 2, 3), edge(3, 3, 3, 2), 1), facing(edge(3, 2, 2, 2), edge(2, 3, 3, 3), 1)}},
	}
	for _, c := range cases {
		t.Run(c.name, func(t *testing.T) {
			if got := impl.FacingEdges(c.r, c.d, c.inside); !slices.Equal(got, c.want) {
				t.Errorf("%v, want %v", got, c.want)
			}
			checkFacing(t, c.r, c.d)
		})
	}
}

func TestFacingEdgesOfSmallSets(t *testing.T) {
	for _, corner := range chipPlaces()[:6] {
		for _, r := range setsOfCells(corner, 4, 2) {
			checkFacing(t, r, 2, 3, 4, limit)
		}
		for _, r := range setsOfCells(corner, 2, 4) {
			checkFacing(t, r, 2, 3, 4, limit)
		}
	}
	for _, r := range setsOfCells(impl.Point{X: 22, Y: -2}, 3, 3) {
		checkFacing(t, r, 1, 2, 3, 4)
	}
}

func TestFacingEdgesOfSampleRegions(t *testing.T) {
	for _, r := range edgeRegions() {
		checkFacing(t, r, 1, 2, 3, 4, 10, 79, limit)
	}
	for _, r := range lawRegions() {
		checkFacing(t, impl.Complement(r), 1, 2, 5, limit)
	}
}

// TestFacingEdgesAtEveryDistance has bars and gaps of many lengths.
func TestFacingEdgesAtEveryDistance(t *testing.T) {
	var bars []impl.Rect
	for y := int64(-impl.Extent); y+2 <= impl.Extent; y += 2 {
		n := y + impl.Extent
		bars = append(bars, impl.Rect{X0: -40, Y0: y, X1: -40 + n/2, Y1: y + 1}, impl.Rect{X0: 39 - n/4, Y0: y, X1: 40, Y1: y + 1})
	}
	r, ok := impl.RegionOf(bars[2:])
	if !ok {
		t.Fatal("the bars are not valid")
	}
	upright, _ := impl.MoveRegion(impl.Transform{Orientation: 1}, r)
	for d := int64(1); d <= limit; d += 2 {
		checkFacing(t, r, d)
		checkFacing(t, upright, d+1)
	}
}

func TestFacingEdgesRejectDistances(t *testing.T) {
	distances := append([]int64{0, -1, limit + 1, -limit, 1 << 32, 1<<32 + 1, -1 << 62}, outside...)
	for _, r := range [][]impl.Rect{nil, {{X0: 0, Y0: 0, X1: 1, Y1: 1}}, checkerboard(0), wholeChip(), {{X0: 0, Y0: 0, X1: 1, Y1: 1}, {X0: 2, Y0: 0, X1: 3, Y1: 1}}} {
		for _, d := range distances {
			for _, inside := range []bool{true, false} {
				if got := impl.FacingEdges(r, d, inside); got != nil {
					t.Errorf("FacingEdges(%.99v, %d, %v) = %.99v", fmt.Sprint(r), d, inside, fmt.Sprint(got))
				}
			}
		}
	}
}

// checkMoveEdge compares the image of an edge with the images of its end points. Both arguments must be valid.
func checkMoveEdge(t *testing.T, u impl.Transform, e impl.Edge) {
	t.Helper()
	begin := imageByDefinition(u, impl.Point{X: e.X0, Y: e.Y0})
	end := imageByDefinition(u, impl.Point{X: e.X1, Y: e.Y1})
	var want impl.Edge
	fits := onChip([]impl.Point{begin, end})
	if fits {
		want = impl.Edge{X0: begin.X, Y0: begin.Y, X1: end.X, Y1: end.Y}
		if u.Orientation >= 4 {
			want = reversed(want)
		}
	}
	if got, ok := impl.MoveEdge(u, e); got != want || ok != fits {
		t.Fatalf("MoveEdge(%v, %v) = %v, %v, want %v, %v", u, e, got, ok, want, fits)
	}
}

func sampleEdges() []impl.Edge {
	list := []impl.Edge{
		edge(-40, -40, 40, -40), edge(40, 40, 40, -40), edge(40, 40, -40, 40), edge(-40, -40, -40, 40), edge(-40, 39, -40, 40), edge(40, -40, 39, -40),
		edge(0, 0, 3, 0), edge(3, 0, 0, 0), edge(0, 0, 0, 1), edge(0, 1, 0, 0), edge(-5, 7, 12, 7), edge(9, -20, 9, -30),
	}
	return list
}

func TestMoveEdgeMovesTheEndPoints(t *testing.T) {
	for _, u := range sampleTransforms() {
		for _, e := range sampleEdges() {
			checkMoveEdge(t, u, e)
		}
	}
}

// TestMoveEdgeAtTheBorder moves an edge up to, onto and over each border in every orientation.
func TestMoveEdgeAtTheBorder(t *testing.T) {
	for o := range int64(8) {
		onBorder := 0
		for n := int64(-limit); n <= limit; n++ {
			for _, e := range []impl.Edge{edge(-2, 3, 5, 3), edge(4, 6, 4, -1)} {
				for _, u := range []impl.Transform{{Orientation: o, X: n}, {Orientation: o, Y: n}, {Orientation: o, X: n, Y: n}} {
					checkMoveEdge(t, u, e)
					image, ok := impl.MoveEdge(u, e)
					if ok && max(image.X0, image.X1, image.Y0, image.Y1, -image.X0, -image.X1, -image.Y0, -image.Y1) == impl.Extent {
						onBorder++
					}
				}
			}
		}
		if onBorder < 8 {
			t.Errorf("orientation %d: %d images are on the border", o, onBorder)
		}
	}
}

func TestMoveEdgeRejects(t *testing.T) {
	for _, u := range invalidTransforms() {
		for _, e := range sampleEdges() {
			if got, ok := impl.MoveEdge(u, e); ok || got != (impl.Edge{}) {
				t.Errorf("MoveEdge(%v, %v) = %v, %v", u, e, got, ok)
			}
		}
	}
	for _, e := range invalidEdges() {
		for _, u := range append(pairTransforms(), impl.Transform{X: -1}, impl.Transform{X: 1}, impl.Transform{Y: -1}, impl.Transform{Y: 1}, impl.Transform{Orientation: 8}) {
			if got, ok := impl.MoveEdge(u, e); ok || got != (impl.Edge{}) {
				t.Errorf("MoveEdge(%v, %v) = %v, %v", u, e, got, ok)
			}
		}
	}
}

// movedEdges returns the images of edges in the order of BoundaryEdges, or false if one of them is not on the chip.
func movedEdges(u impl.Transform, edges []impl.Edge) ([]impl.Edge, bool) {
	var images []impl.Edge
	for _, e := range edges {
		image, ok := impl.MoveEdge(u, e)
		if !ok {
			return nil, false
		}
		images = append(images, image)
	}
	slices.SortFunc(images, compareEdges)
	return images, true
}

// checkEdgesMove checks the second part of promise 6: the edges of the image are the images of the edges.
func checkEdgesMove(t *testing.T, u impl.Transform, r []impl.Rect) {
	t.Helper()
	what := fmt.Sprintf("the edges of %.99v under %v", fmt.Sprint(r), u)
	image, onChip := impl.MoveRegion(u, r)
	want, allOnChip := movedEdges(u, impl.BoundaryEdges(r))
	if onChip != allOnChip {
		t.Fatalf("%s: the region moves: %v, its edges move: %v", what, onChip, allOnChip)
	}
	checkEdgeList(t, what, impl.BoundaryEdges(image), want)
	back, ok := impl.RegionFromEdges(want)
	if !ok || !slices.Equal(back, image) {
		t.Fatalf("%s: the region of the moved edges is %.99v, %v", what, fmt.Sprint(back), ok)
	}
	if onChip && (impl.Perimeter(image) != impl.Perimeter(r) || cornersOf(image) != cornersOf(r)) {
		t.Fatalf("%s: perimeter %d, corners %v, want %d, %v", what, impl.Perimeter(image), cornersOf(image), impl.Perimeter(r), cornersOf(r))
	}
}

func TestEdgesMoveWithTheRegion(t *testing.T) {
	for _, r := range edgeRegions() {
		for _, u := range pairTransforms() {
			checkEdgesMove(t, u, r)
		}
	}
	for _, r := range setsOfCells(impl.Point{X: 1, Y: -2}, 3, 3) {
		for _, u := range pairTransforms() {
			checkEdgesMove(t, u, r)
		}
	}
}

// TestEdgesMoveToTheBorder goes through shifts up to, onto and over each border, in every orientation.
func TestEdgesMoveToTheBorder(t *testing.T) {
	r := []impl.Rect{{X0: -1, Y0: -1, X1: 3, Y1: 1}, {X0: 0, Y0: 1, X1: 1, Y1: 4}, {X0: 1, Y0: 4, X1: 2, Y1: 5}}
	for o := range int64(8) {
		for n := int64(-48); n <= 48; n++ {
			checkEdgesMove(t, impl.Transform{Orientation: o, X: n}, r)
			checkEdgesMove(t, impl.Transform{Orientation: o, Y: n, X: -n / 2}, r)
		}
	}
}

// movedPairs returns the images of pairs: the one with the smaller coordinate comes first.
func movedPairs(t *testing.T, u impl.Transform, pairs []impl.EdgePair) []impl.EdgePair {
	t.Helper()
	images := map[impl.EdgePair]bool{}
	for _, p := range pairs {
		first, ok := impl.MoveEdge(u, p.First)
		second, okSecond := impl.MoveEdge(u, p.Second)
		if !ok || !okSecond {
			t.Fatalf("%v leaves the chip", p)
		}
		if first.X0 == first.X1 && first.X0 > second.X0 || first.Y0 == first.Y1 && first.Y0 > second.Y0 {
			first, second = second, first
		}
		images[impl.EdgePair{First: first, Second: second, Distance: p.Distance}] = true
	}
	return sortedPairs(images)
}

func TestFacingEdgesMoveWithTheRegion(t *testing.T) {
	for _, r := range edgeRegions() {
		for o := range int64(8) {
			u := impl.Transform{Orientation: o}
			image, _ := impl.MoveRegion(u, r)
			for _, inside := range []bool{true, false} {
				want := movedPairs(t, u, impl.FacingEdges(r, 5, inside))
				if got := impl.FacingEdges(image, 5, inside); !slices.Equal(got, want) {
					t.Fatalf("FacingEdges of %.99v under %v: %.299v, want %.299v", fmt.Sprint(r), u, fmt.Sprint(got), fmt.Sprint(want))
				}
			}
		}
	}
}

func TestEdgesRejectNonRegions(t *testing.T) {
	for _, bad := range nonRegions() {
		name := fmt.Sprintf("%.99v", fmt.Sprint(bad))
		if got := impl.BoundaryEdges(bad); got != nil {
			t.Errorf("BoundaryEdges(%s) = %.99v", name, fmt.Sprint(got))
		}
		if got := impl.Perimeter(bad); got != -1 {
			t.Errorf("Perimeter(%s) = %d", name, got)
		}
		if got := cornersOf(bad); got != [3]int64{-1, -1, -1} {
			t.Errorf("CornerCounts(%s) = %v", name, got)
		}
		for _, d := range []int64{0, 1, 2, 3, 10, limit, limit + 1} {
			for _, inside := range []bool{true, false} {
				if got := impl.FacingEdges(bad, d, inside); got != nil {
					t.Errorf("FacingEdges(%s, %d, %v) = %.99v", name, d, inside, fmt.Sprint(got))
				}
			}
		}
	}
}

// TestEdgesKeepTheirArguments also looks at the memory behind an argument and overwrites the results.
func TestEdgesKeepTheirArguments(t *testing.T) {
	whole := []impl.Rect{{X0: 0, Y0: 0, X1: 3, Y1: 2}, {X0: 1, Y0: 2, X1: 2, Y1: 3}, {X0: 9, Y0: 9, X1: 8, Y1: 8}, {X0: 3}}
	oldRects := slices.Clone(whole)
	r := whole[:2]
	edges := impl.BoundaryEdges(r)
	pairs := impl.FacingEdges(r, 10, true)
	clear(impl.BoundaryEdges(r))
	clear(impl.FacingEdges(r, 10, true))
	impl.Perimeter(r)
	impl.CornerCounts(r)
	checkEdgeList(t, "the edges a second time", impl.BoundaryEdges(r), edges)
	if again := impl.FacingEdges(r, 10, true); !slices.Equal(again, pairs) {
		t.Errorf("the pairs a second time: %v, want %v", again, pairs)
	}
	if !slices.Equal(whole, oldRects) {
		t.Errorf("the region became %v", whole)
	}
	list := append(slices.Clone(edges), impl.Edge{X0: 7}, impl.Edge{X1: 9})
	old := slices.Clone(list)
	for _, length := range []int{len(edges), len(edges) - 1, len(list)} {
		back, _ := impl.RegionFromEdges(list[:length])
		clear(back)
		_ = append(back, impl.Rect{X0: 5})
	}
	checkEdgeList(t, "the argument of RegionFromEdges", list, old)
	random := rand.New(rand.NewPCG(6, 6))
	random.Shuffle(len(list), func(i, j int) { list[i], list[j] = list[j], list[i] })
	old = slices.Clone(list)
	impl.RegionFromEdges(list)
	checkEdgeList(t, "an argument in another order", list, old)
}

// TestEdgesAreTheSameEachTime relies on a map being ranged over in another order each time.
func TestEdgesAreTheSameEachTime(t *testing.T) {
	r := paint(randomRects(5, 60, 6)...).regionByDefinition()
	edges, pairs := impl.BoundaryEdges(r), impl.FacingEdges(r, 4, false)
	for range 50 {
		checkEdgeList(t, "the edges", impl.BoundaryEdges(r), edges)
		if again := impl.FacingEdges(r, 4, false); !slices.Equal(again, pairs) {
			t.Fatalf("the pairs: %v, want %v", again, pairs)
		}
	}
}

func TestChapter6Examples(t *testing.T) {
	if impl.MaxEdges != 12800 {
		t.Errorf("MaxEdges = %d", impl.MaxEdges)
	}
	r := []impl.Rect{{X0: 0, Y0: 0, X1: 3, Y1: 2}}
	edges := []impl.Edge{edge(0, 0, 3, 0), edge(3, 0, 3, 2), edge(0, 2, 0, 0), edge(3, 2, 0, 2)}
	checkEdgeList(t, "BoundaryEdges", impl.BoundaryEdges(r), edges)
	if got := impl.Perimeter(r); got != 10 {
		t.Errorf("Perimeter: %d", got)
	}
	back, ok := impl.RegionFromEdges(edges)
	if !ok {
		t.Error("RegionFromEdges: false")
	}
	checkSame(t, "RegionFromEdges", back, r)
	if got := cornersOf([]impl.Rect{{X0: 0, Y0: 0, X1: 2, Y1: 1}, {X0: 0, Y0: 1, X1: 1, Y1: 2}}); got != [3]int64{5, 1, 0} {
		t.Errorf("CornerCounts: %v", got)
	}
	pairs := []impl.EdgePair{{First: edge(0, 0, 3, 0), Second: edge(3, 2, 0, 2), Distance: 2}}
	if got := impl.FacingEdges(r, 3, true); !slices.Equal(got, pairs) {
		t.Errorf("FacingEdges: %v", got)
	}
	if got, ok := impl.MoveEdge(impl.Transform{Orientation: 4}, edge(0, 0, 3, 0)); !ok || got != (edge(3, 0, 0, 0)) {
		t.Errorf("MoveEdge: %v, %v", got, ok)
	}
}
