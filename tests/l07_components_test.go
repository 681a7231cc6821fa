package tests

import (
	"fmt"
	"math"
	"slices"
	"testing"

	"loop.example/g00890/impl"
)

// sideSteps lead from a unit cell to those with which it has a side in common.
func sideSteps() []impl.Point {
	return []impl.Point{{X: 1}, {X: -1}, {Y: 1}, {Y: -1}}
}

// cornerSteps lead from a unit cell to those with which it has a side or a corner in common.
func cornerSteps() []impl.Point {
	return append(sideSteps(), impl.Point{X: 1, Y: 1}, impl.Point{X: -1, Y: 1}, impl.Point{X: 1, Y: -1}, impl.Point{X: -1, Y: -1})
}

// take removes and returns the unit cells to which steps lead from p, which is in the set, within the set.
func (c *chipCells) take(p impl.Point, steps []impl.Point) []impl.Point {
	c[p.Y+impl.Extent][p.X+impl.Extent] = false
	taken := []impl.Point{p}
	for n := 0; n < len(taken); n++ {
		for _, step := range steps {
			if x, y := taken[n].X+step.X, taken[n].Y+step.Y; c.has(x, y) {
				c[y+impl.Extent][x+impl.Extent] = false
				taken = append(taken, impl.Point{X: x, Y: y})
			}
		}
	}
	return taken
}

// partsByDefinition divides a set into the maximal sets that are connected by steps.
func (c *chipCells) partsByDefinition(steps []impl.Point) [][]impl.Point {
	var parts [][]impl.Point
	rest := *c
	for _, p := range c.points() {
		if rest.has(p.X, p.Y) {
			parts = append(parts, rest.take(p, steps))
		}
	}
	return parts
}

// sortedRegions returns the regions of parts, sorted by their first rectangles.
func sortedRegions(parts [][]impl.Point) [][]impl.Rect {
	var list [][]impl.Rect
	for _, part := range parts {
		list = append(list, paint(unitRects(part)...).regionByDefinition())
	}
	slices.SortFunc(list, func(a, b []impl.Rect) int {
		return compareEdges(impl.Edge(a[0]), impl.Edge(b[0]))
	})
	return list
}

func (c *chipCells) componentsByDefinition() [][]impl.Rect {
	return sortedRegions(c.partsByDefinition(sideSteps()))
}

// holesByDefinition looks only into the box of the set: all around the box is connected with the outside of the chip.
func (c *chipCells) holesByDefinition() [][]impl.Rect {
	points := c.points()
	if len(points) == 0 {
		return nil
	}
	box := boxByDefinition(points)
	outside := combined(paint(box), c, func(inBox, in bool) bool { return inBox && !in })
	return sortedRegions(slices.DeleteFunc(outside.partsByDefinition(cornerSteps()), func(part []impl.Point) bool {
		return slices.ContainsFunc(part, func(p impl.Point) bool {
			return p.X == box.X0 || p.Y == box.Y0 || p.X == box.X1-1 || p.Y == box.Y1-1
		})
	}))
}

func flat(list [][]impl.Rect) []impl.Rect {
	return slices.Concat(list...)
}

func checkList(t *testing.T, what string, got, want [][]impl.Rect) {
	t.Helper()
	if !slices.EqualFunc(got, want, slices.Equal) {
		t.Fatalf("%s: %.299v, want %.299v", what, fmt.Sprint(got), fmt.Sprint(want))
	}
}

// checkParts compares the components and holes of a region with the definition.
func checkParts(t *testing.T, r []impl.Rect) {
	t.Helper()
	name := fmt.Sprintf("%.199v", fmt.Sprint(r))
	cells := paint(r...)
	components, holes := cells.componentsByDefinition(), cells.holesByDefinition()
	checkList(t, "the components of "+name, impl.Components(r), components)
	checkList(t, "the holes of "+name, impl.Holes(r), holes)
	filled := paint(append(flat(holes), r...)...).regionByDefinition()
	checkSame(t, "FillHoles of "+name, impl.FillHoles(r), filled)
	if got := impl.ComponentCount(r); got != int64(len(components)) {
		t.Fatalf("ComponentCount(%s) = %d, want %d", name, got, len(components))
	}
	if got := impl.IsConnected(r); got != (len(components) == 1) {
		t.Fatalf("IsConnected(%s) = %v", name, got)
	}
	checkDivision(t, r)
	checkCornerNumbers(t, r)
	checkFilled(t, r)
}

// checkDivision checks the first part of promise 7: the components have no unit cell in common, and together all of r.
func checkDivision(t *testing.T, r []impl.Rect) {
	t.Helper()
	var all []impl.Rect
	area := int64(0)
	for _, component := range impl.Components(r) {
		if len(component) == 0 || !impl.IsRegion(component) || !impl.IsConnected(component) || impl.ComponentCount(component) != 1 {
			t.Fatalf("%.99v has the component %.99v", fmt.Sprint(r), fmt.Sprint(component))
		}
		all = append(all, component...)
		area += impl.RegionArea(component)
	}
	joined, ok := impl.RegionOf(all)
	if !ok || !slices.Equal(joined, r) || area != impl.RegionArea(r) {
		t.Fatalf("the components of %.99v have the area %d and the union %.99v", fmt.Sprint(r), area, fmt.Sprint(joined))
	}
}

// checkCornerNumbers checks the second part of promise 7: around a component the boundary turns left four times more
// often than right, around a hole it is the other way round, and at a touching corner two boundaries turn left.
func checkCornerNumbers(t *testing.T, r []impl.Rect) {
	t.Helper()
	corners := cornersOf(r)
	turns := corners[0] - corners[1] + 2*corners[2]
	components, holes := impl.ComponentCount(r), int64(len(impl.Holes(r)))
	if turns != 4*(components-holes) {
		t.Fatalf("%.199v has %d components, %d holes and the corners %v", fmt.Sprint(r), components, holes, corners)
	}
}

// checkFilled checks the last part of promise 7.
func checkFilled(t *testing.T, r []impl.Rect) {
	t.Helper()
	filled := impl.FillHoles(r)
	if holes := impl.Holes(filled); len(holes) != 0 {
		t.Fatalf("%.199v has the holes %.199v after it was filled", fmt.Sprint(r), fmt.Sprint(holes))
	}
	checkSame(t, "a region filled twice", impl.FillHoles(filled), filled)
	holes, ok := impl.RegionOf(flat(impl.Holes(r)))
	if !ok || !impl.Covers(filled, r) || impl.Overlaps(holes, r) {
		t.Fatalf("the holes of %.199v are in it: %.199v", fmt.Sprint(r), fmt.Sprint(holes))
	}
	checkSame(t, "what was filled", impl.Difference(filled, r), holes)
	checkCornerNumbers(t, filled)
}

// checkSelections compares the functions that select components with the definition: by a place, by an area and by
// another region. The places are those of the first and the last unit cell of each component.
func checkSelections(t *testing.T, r []impl.Rect, by ...[]impl.Rect) {
	t.Helper()
	components := paint(r...).componentsByDefinition()
	var largest []impl.Rect
	for _, component := range components {
		points := paint(component...).points()
		for _, p := range []impl.Point{points[0], points[len(points)-1]} {
			checkSame(t, fmt.Sprintf("ComponentAt(%.99v, %v)", fmt.Sprint(r), p), impl.ComponentAt(r, p.X, p.Y), component)
		}
		if len(points) > len(paint(largest...).points()) {
			largest = component
		}
		for area := int64(len(points)) - 1; area <= int64(len(points))+1; area++ {
			checkSmall(t, r, components, area)
		}
	}
	checkSame(t, fmt.Sprintf("LargestComponent(%.99v)", fmt.Sprint(r)), impl.LargestComponent(r), largest)
	for _, area := range []int64{math.MinInt64, -1, 0, 1, 2, math.MaxInt64} {
		checkSmall(t, r, components, area)
	}
	for _, other := range by {
		checkOverlapping(t, r, components, other)
	}
}

func checkSmall(t *testing.T, r []impl.Rect, components [][]impl.Rect, area int64) {
	t.Helper()
	want := &chipCells{}
	for _, component := range components {
		if cells := paint(component...); int64(len(cells.points())) < area {
			want = combined(want, cells, func(inA, inB bool) bool { return inA || inB })
		}
	}
	checkSame(t, fmt.Sprintf("SelectSmall(%.99v, %d)", fmt.Sprint(r), area), impl.SelectSmall(r, area), want.regionByDefinition())
}

func checkOverlapping(t *testing.T, r []impl.Rect, components [][]impl.Rect, by []impl.Rect) {
	t.Helper()
	others := paint(by...)
	var selected []impl.Rect
	for _, component := range components {
		if slices.ContainsFunc(paint(component...).points(), func(p impl.Point) bool { return others.has(p.X, p.Y) }) {
			selected = append(selected, component...)
		}
	}
	what := fmt.Sprintf("SelectOverlapping(%.99v, %.99v)", fmt.Sprint(r), fmt.Sprint(by))
	checkSame(t, what, impl.SelectOverlapping(r, by), paint(selected...).regionByDefinition())
}

// picture returns the region of the places with an x in rows of text, the lowest row last, from the corner on.
func picture(corner impl.Point, rows ...string) []impl.Rect {
	var points []impl.Point
	for n, row := range rows {
		for i, letter := range row {
			if letter == 'x' {
				points = append(points, impl.Point{X: corner.X + int64(i), Y: corner.Y + int64(len(rows)-1-n)})
			}
		}
	}
	return paint(unitRects(points)...).regionByDefinition()
}

// partCase is a picture with the pictures of its components and holes, which have the same corner.
type partCase struct {
	name       string
	rows       []string
	components [][]string
	holes      [][]string
}

// componentCases name the ways in which unit cells are connected or only touch.
func componentCases() []partCase {
	return []partCase{
		{"nothing", nil, nil, nil},
		{"a unit cell", []string{"x"}, [][]string{{"x"}}, nil},
		{"side by side", []string{"xx"}, [][]string{{"xx"}}, nil},
		{"one above the other, of different widths", []string{"xx", "x."}, [][]string{{"xx", "x."}}, nil},
		{"stairs of two columns", []string{".xx", "xx."}, [][]string{{".xx", "xx."}}, nil},
		{"touching at a rising corner", []string{".x", "x."}, [][]string{{"..", "x."}, {".x", ".."}}, nil},
		{"touching at a falling corner", []string{"x.", ".x"}, [][]string{{"..", ".x"}, {"x.", ".."}}, nil},
		{"a gap of a column", []string{"x.x"}, [][]string{{"x.."}, {"..x"}}, nil},
		{"a gap of a row", []string{"x", ".", "x"}, [][]string{{".", ".", "x"}, {"x", ".", "."}}, nil},
		{"above a gap", []string{".x.", "x.x"}, [][]string{{"...", "x.."}, {"...", "..x"}, {".x.", "..."}}, nil},
		{"arms that join above", []string{"xxx", "x.x"}, [][]string{{"xxx", "x.x"}}, nil},
		{"arms that join below", []string{"x.x", "xxx"}, [][]string{{"x.x", "xxx"}}, nil},
		{"arms around another component", []string{"xxxxx", "x...x", "x.x.x"}, [][]string{{"xxxxx", "x...x", "x...x"}, {".....", ".....", "..x.."}}, nil},
		{"arms that divide bands of another component", []string{"x.xxx", "x.x.x", "x...x"}, [][]string{{"x....", "x....", "x...."}, {"..xxx", "..x.x", "....x"}}, nil},
		{"a lower arm farther to the right", []string{"xxxx", "x..x", "...x", ".x.x"}, [][]string{{"....", "....", "....", ".x.."}, {"xxxx", "x..x", "...x", "...x"}}, nil},
		{"three arms that join at different heights", []string{"xxxxx", "xxx.x", "x.x.x"}, [][]string{{"xxxxx", "xxx.x", "x.x.x"}}, nil},
		{"the first rectangle is the higher one of a row", []string{"x..", "x.x"}, [][]string{{"x..", "x.."}, {"...", "..x"}}, nil},
		{"the left one begins above", []string{"x.x", "..x"}, [][]string{{"..x", "..x"}, {"x..", "..."}}, nil},
	}
}

// holeCases name the ways in which the boundary of a hole is closed or open.
func holeCases() []partCase {
	ring := []string{"xxx", "x.x", "xxx"}
	return []partCase{
		{"a hole", ring, [][]string{ring}, [][]string{{"...", ".x.", "..."}}},
		{"open at a side", []string{"xxx", "x..", "xxx"}, [][]string{{"xxx", "x..", "xxx"}}, nil},
		{"open at a corner only", []string{"xxx", "x.x", "xx."}, [][]string{{"xxx", "x.x", "xx."}}, nil},
		{"components around it that only touch", []string{".x.", "x.x", ".x."},
			[][]string{{"...", "...", ".x."}, {"...", "x..", "..."}, {"...", "..x", "..."}, {".x.", "...", "..."}}, nil},
		{"two halves that only touch", []string{"xx.", "x.x", ".xx"}, [][]string{{"...", "..x", ".xx"}, {"xx.", "x..", "..."}}, nil},
		{"two holes", []string{"xxxxx", "x.x.x", "xxxxx"}, [][]string{{"xxxxx", "x.x.x", "xxxxx"}},
			[][]string{{".....", ".x...", "....."}, {".....", "...x.", "....."}}},
		{"holes that touch at a corner are one", []string{"xxxx", "xx.x", "x.xx", "xxxx"}, [][]string{{"xxxx", "xx.x", "x.xx", "xxxx"}},
			[][]string{{"....", "..x.", ".x..", "...."}}},
		{"a hole that a touching corner divides in two rows", []string{"xxxxx", "x.xxx", "xx..x", "xxxxx"}, [][]string{{"xxxxx", "x.xxx", "xx..x", "xxxxx"}},
			[][]string{{".....", ".x...", "..xx.", "....."}}},
		{"a component in a hole", []string{"xxxxx", "x...x", "x.x.x", "x...x", "xxxxx"},
			[][]string{{"xxxxx", "x...x", "x...x", "x...x", "xxxxx"}, {".....", ".....", "..x..", ".....", "....."}},
			[][]string{{".....", ".xxx.", ".x.x.", ".xxx.", "....."}}},
		{"a component in a hole touches its border at a corner", []string{"xxxx", "x..x", "xx.x", "x.xx", "xxxx"},
			[][]string{{"xxxx", "x..x", "xx.x", "x.xx", "xxxx"}}, [][]string{{"....", ".xx.", "..x.", ".x..", "...."}}},
		{"a hole in a component in a hole", []string{"xxxxxxx", "x.....x", "x.xxx.x", "x.x.x.x", "x.xxx.x", "x.....x", "xxxxxxx"},
			[][]string{{"xxxxxxx", "x.....x", "x.....x", "x.....x", "x.....x", "x.....x", "xxxxxxx"}, {"", "", "..xxx..", "..x.x..", "..xxx..", "", ""}},
			[][]string{{"", ".xxxxx.", ".x...x.", ".x...x.", ".x...x.", ".xxxxx.", ""}, {"", "", "", "...x...", "", "", ""}}},
		{"the lower hole is farther to the right", []string{"xxxxx", "x.xxx", "xxxxx", "xxx.x", "xxxxx"}, [][]string{{"xxxxx", "x.xxx", "xxxxx", "xxx.x", "xxxxx"}},
			[][]string{{"", "", "", "...x.", ""}, {"", ".x...", "", "", ""}}},
		{"holes whose arms divide each other's bands", []string{"xxxxxxx", "x...x.x", "xxx.x.x", "x.x.x.x", "xxx...x", "xxxxxxx"},
			[][]string{{"xxxxxxx", "x...x.x", "xxx.x.x", "x.x.x.x", "xxx...x", "xxxxxxx"}},
			[][]string{{"", ".xxx.x.", "...x.x.", "...x.x.", "...xxx.", ""}, {"", "", "", ".x.....", "", ""}}},
	}
}

// picturePlaces holds the corners of squares of seven by seven unit cells.
func picturePlaces() []impl.Point {
	return []impl.Point{{X: 0, Y: 0}, {X: -40, Y: -40}, {X: 33, Y: 33}, {X: -40, Y: 33}, {X: 33, Y: -40}, {X: 21, Y: -3}, {X: -40, Y: 7}, {X: 33, Y: -2}, {X: 5, Y: -40}, {X: 19, Y: 33}}
}

func TestPartsByHand(t *testing.T) {
	for _, c := range append(componentCases(), holeCases()...) {
		t.Run(c.name, func(t *testing.T) {
			for _, corner := range picturePlaces() {
				var components, holes [][]impl.Rect
				for _, rows := range c.components {
					components = append(components, picture(corner, rows...))
				}
				for _, rows := range c.holes {
					holes = append(holes, picture(corner, rows...))
				}
				r := picture(corner, c.rows...)
				checkList(t, "the components", impl.Components(r), components)
				checkList(t, "the holes", impl.Holes(r), holes)
				checkParts(t, r)
				checkSelections(t, r, nil, r, wholeChip(), impl.Complement(r))
			}
		})
	}
}

func TestPartsOfSmallSets(t *testing.T) {
	for i, corner := range chipPlaces() {
		sets := setsOfCells(corner, 3, 3)
		if i < 2 {
			sets = setsOfCells(corner, 4, 3)
		}
		for _, r := range sets {
			checkParts(t, r)
		}
		for _, r := range setsOfCells(impl.Point{X: corner.X + 1, Y: corner.Y + 2}, 3, 2) {
			checkParts(t, impl.Complement(r))
			checkSelections(t, r, nil, wholeChip(), impl.Complement(r), []impl.Rect{unitRect(impl.Point{X: corner.X + 1, Y: corner.Y + 2})})
		}
	}
}

// TestHolesInFrames has each set of nine unit cells within a frame. One unit cell is left out, either of the frame or
// in its middle, where it is closed anyway.
func TestHolesInFrames(t *testing.T) {
	frame := []impl.Rect{{X0: 21, Y0: 0, X1: 26, Y1: 5}}
	inner := []impl.Rect{{X0: 22, Y0: 1, X1: 25, Y1: 4}}
	sets := setsOfCells(impl.Point{X: 22, Y: 1}, 3, 3)
	for _, p := range paint(frame...).points() {
		if paint(inner...).has(p.X, p.Y) && p != (impl.Point{X: 23, Y: 2}) {
			continue
		}
		around := impl.Difference(frame, impl.Union(inner, []impl.Rect{unitRect(p)}))
		for _, r := range sets {
			checkParts(t, impl.Union(around, r))
		}
	}
}

func TestEveryUnitCellIsAComponent(t *testing.T) {
	for _, p := range paint(wholeChip()...).points() {
		r := []impl.Rect{unitRect(p)}
		checkList(t, "the components of a unit cell", impl.Components(r), [][]impl.Rect{r})
		checkSame(t, "the component there", impl.ComponentAt(r, p.X, p.Y), r)
		checkSame(t, "the largest component", impl.LargestComponent(r), r)
		checkSame(t, "the filled unit cell", impl.FillHoles(r), r)
		if !impl.IsConnected(r) || impl.ComponentCount(r) != 1 || len(impl.Holes(r)) != 0 {
			t.Fatalf("the unit cell %v is not connected or has a hole", p)
		}
	}
}

// TestEveryUnitCellIsAHole leaves one unit cell out of the chip: it is a hole if it does not reach the border.
func TestEveryUnitCellIsAHole(t *testing.T) {
	for _, p := range paint(wholeChip()...).points() {
		cell := []impl.Rect{unitRect(p)}
		r := impl.Complement(cell)
		var holes [][]impl.Rect
		filled := r
		if max(p.X, p.Y) < 39 && min(p.X, p.Y) > -40 {
			holes, filled = [][]impl.Rect{cell}, wholeChip()
		}
		checkList(t, fmt.Sprintf("the holes without %v", p), impl.Holes(r), holes)
		checkSame(t, fmt.Sprintf("filled without %v", p), impl.FillHoles(r), filled)
		checkList(t, fmt.Sprintf("the components without %v", p), impl.Components(r), [][]impl.Rect{r})
	}
}

// TestWaysToTheBorder leaves unit cells out of the chip that are connected with its outside by the last of them or not
// at all, and turns them to each border.
func TestWaysToTheBorder(t *testing.T) {
	cases := []struct {
		name  string
		left  []impl.Point
		holes int
	}{
		{"in the corner", []impl.Point{{X: -40, Y: -40}}, 0},
		{"beside the corner", []impl.Point{{X: -39, Y: -39}}, 1},
		{"to the corner by a corner", []impl.Point{{X: -39, Y: -39}, {X: -40, Y: -40}}, 0},
		{"to a side by a corner", []impl.Point{{X: 3, Y: -39}, {X: 4, Y: -40}}, 0},
		{"to a side by a side", []impl.Point{{X: 3, Y: -39}, {X: 3, Y: -40}}, 0},
		{"beside a side", []impl.Point{{X: 3, Y: -39}, {X: 4, Y: -39}}, 1},
		{"one more column between them", []impl.Point{{X: 3, Y: -39}, {X: 5, Y: -40}}, 1},
		{"one more row between them", []impl.Point{{X: 3, Y: -38}, {X: 4, Y: -40}}, 1},
		{"by corners only", []impl.Point{{X: 6, Y: -36}, {X: 5, Y: -37}, {X: 6, Y: -38}, {X: 5, Y: -39}, {X: 4, Y: -40}}, 0},
		{"by corners only, cut off", []impl.Point{{X: 6, Y: -36}, {X: 5, Y: -37}, {X: 6, Y: -38}, {X: 5, Y: -39}, {X: 3, Y: -40}}, 1},
		{"along the border", []impl.Point{{X: -39, Y: -39}, {X: -39, Y: -38}, {X: -39, Y: -37}, {X: -38, Y: -37}}, 1},
		{"two holes and a way out", []impl.Point{{X: 0, Y: -39}, {X: 4, Y: -39}, {X: 2, Y: -40}}, 2},
	}
	for _, c := range cases {
		r := impl.Complement(paint(unitRects(c.left)...).regionByDefinition())
		for o := range int64(8) {
			turned, ok := impl.MoveRegion(impl.Transform{Orientation: o}, r)
			if holes := impl.Holes(turned); !ok || len(holes) != c.holes {
				t.Errorf("%s in orientation %d: the holes %v, want %d", c.name, o, holes, c.holes)
			}
			checkParts(t, turned)
		}
	}
}

// TestTheBorderClosesNoHole has unit cells that the region parts from all others of the chip.
func TestTheBorderClosesNoHole(t *testing.T) {
	cases := []struct {
		name string
		r    []impl.Rect
	}{
		{"in the corner", picture(impl.Point{X: -40, Y: -40}, "xx", ".x")},
		{"at a side", picture(impl.Point{X: 5, Y: -40}, "xxx", "x.x")},
		{"from side to side", []impl.Rect{{X0: -40, Y0: -3, X1: 40, Y1: -2}}},
		{"around a corner", []impl.Rect{{X0: -20, Y0: -40, X1: -19, Y1: 0}, {X0: -40, Y0: 0, X1: -19, Y1: 1}}},
		{"two bars", []impl.Rect{{X0: -40, Y0: -3, X1: 40, Y1: -2}, {X0: -40, Y0: 5, X1: 40, Y1: 6}}},
	}
	for _, c := range cases {
		for o := range int64(8) {
			r, ok := impl.MoveRegion(impl.Transform{Orientation: o}, c.r)
			if holes := impl.Holes(r); !ok || len(holes) != 0 {
				t.Errorf("%s in orientation %d: the holes %v", c.name, o, holes)
			}
			checkSame(t, c.name, impl.FillHoles(r), r)
			checkParts(t, r)
		}
	}
}

// spiral winds from the corner of the chip to its middle.
func spiral() []impl.Rect {
	p, step := impl.Point{X: -40, Y: -40}, impl.Point{X: 1}
	cells := paint(unitRect(p))
	for turns := 0; turns < 2; {
		next := impl.Point{X: p.X + step.X, Y: p.Y + step.Y}
		if wantValid(unitRect(next)) && !cells.has(next.X, next.Y) && !cells.has(next.X+step.X, next.Y+step.Y) {
			p, turns = next, 0
			cells[p.Y+impl.Extent][p.X+impl.Extent] = true
		} else {
			step, turns = impl.Point{X: -step.Y, Y: step.X}, turns+1
		}
	}
	return cells.regionByDefinition()
}

// cellsWhere returns the region of the unit cells of the chip that are in it; their numbers begin at 0.
func cellsWhere(in func(x, y int) bool) []impl.Rect {
	cells := &chipCells{}
	for y := range cells {
		for x := range cells[y] {
			cells[y][x] = in(x, y)
		}
	}
	return cells.regionByDefinition()
}

// chipPattern is a region that reaches over the whole chip, with the numbers of its components and holes and of those of
// its complement.
type chipPattern struct {
	name    string
	r       []impl.Rect
	numbers [4]int
}

func chipPatterns() []chipPattern {
	depth := func(x, y int) int { return min(x, y, limit-1-x, limit-1-y) }
	comb := func(x, y int) bool { return y == 0 || x%2 == 0 }
	return []chipPattern{
		{"nothing", nil, [4]int{0, 0, 1, 0}},
		{"a comb", cellsWhere(comb), [4]int{1, 0, 40, 0}},
		{"a comb upside down", cellsWhere(func(x, y int) bool { return comb(x, limit-1-y) }), [4]int{1, 0, 40, 0}},
		{"a lying comb", cellsWhere(func(x, y int) bool { return comb(y, x) }), [4]int{1, 0, 40, 0}},
		{"two combs in each other", cellsWhere(func(x, y int) bool { return y == 0 || y == 79 || x%4 == 0 && y < 78 || x%4 == 2 && y > 1 }), [4]int{2, 0, 1, 0}},
		{"a meander", cellsWhere(func(x, y int) bool { return y%2 == 0 || x == 0 && y%4 == 1 || x == 79 && y%4 == 3 }), [4]int{1, 0, 40, 0}},
		{"a spiral", spiral(), [4]int{1, 0, 1, 0}},
		{"a chessboard", checkerboard(0), [4]int{3200, 0, 3200, 0}},
		{"the other chessboard", checkerboard(1), [4]int{3200, 0, 3200, 0}},
		{"rings", cellsWhere(func(x, y int) bool { return depth(x, y)%2 == 0 }), [4]int{20, 20, 20, 19}},
		{"a grid", cellsWhere(func(x, y int) bool { return x%2 == 0 || y%2 == 0 }), [4]int{1, 39 * 39, 1600, 0}},
		{"a chessboard in a frame", cellsWhere(func(x, y int) bool { return depth(x, y) == 0 || (x+y)%2 == 0 }), [4]int{2889, 1, 3042, 0}},
		{"diagonals", cellsWhere(func(x, y int) bool { return (x+y)%3 == 0 }), [4]int{2133, 0, 53, 0}},
		{"stairs", cellsWhere(func(x, y int) bool { return (x+y)%4 < 2 }), [4]int{40, 0, 40, 0}},
	}
}

func TestPartsOfTheWholeChip(t *testing.T) {
	for _, c := range chipPatterns() {
		t.Run(c.name, func(t *testing.T) {
			other := impl.Complement(c.r)
			got := [4]int{len(impl.Components(c.r)), len(impl.Holes(c.r)), len(impl.Components(other)), len(impl.Holes(other))}
			if got != c.numbers {
				t.Errorf("the numbers of components and holes are %v, want %v", got, c.numbers)
			}
			for o := range int64(4) {
				turned, _ := impl.MoveRegion(impl.Transform{Orientation: o}, c.r)
				checkParts(t, turned)
				checkParts(t, impl.Complement(turned))
			}
		})
	}
}

// partRegions holds regions of all kinds.
func partRegions() [][]impl.Rect {
	list := edgeRegions()
	for seed := range uint64(6) {
		list = append(list, paint(randomRects(seed, 500+int(seed)*200, 3)...).regionByDefinition())
		list = append(list, paint(randomRects(seed, 30+int(seed)*20, 12)...).regionByDefinition())
		list = append(list, impl.Outline(paint(randomRects(seed, 60, 12)...).regionByDefinition(), 1))
	}
	return list
}

func TestPartsOfSampleRegions(t *testing.T) {
	holes := 0
	for _, r := range partRegions() {
		checkParts(t, r)
		checkParts(t, impl.Complement(r))
		holes += len(impl.Holes(r))
	}
	if holes < 500 {
		t.Errorf("the sample regions have %d holes", holes)
	}
}

// fewComponents leaves out the regions of which a check of each component would take long.
func fewComponents(regions [][]impl.Rect) [][]impl.Rect {
	return slices.DeleteFunc(regions, func(r []impl.Rect) bool { return impl.ComponentCount(r) > 100 })
}

func TestSelectionsOfSampleRegions(t *testing.T) {
	regions := fewComponents(partRegions())
	if len(regions) < 30 {
		t.Errorf("only %d regions have few components", len(regions))
	}
	for i, r := range regions {
		checkSelections(t, r, nil, r, wholeChip(), impl.Complement(r), regions[(i+1)%len(regions)], regions[(i+7)%len(regions)])
	}
}

// TestComponentAtEveryPlace also asks for the places beside a region and beyond the border.
func TestComponentAtEveryPlace(t *testing.T) {
	for _, r := range [][]impl.Rect{nil, wholeChip(), picture(impl.Point{X: -40, Y: -40}, ".x", "x."), picture(impl.Point{X: 35, Y: 35}, "x.xxx", "..x.x", "xxxxx", ".....", "x.x.x")} {
		components := paint(r...).componentsByDefinition()
		for y := int64(-42); y <= 42; y++ {
			for x := int64(-42); x <= 42; x++ {
				var want []impl.Rect
				for _, component := range components {
					if paint(component...).has(x, y) {
						want = component
					}
				}
				checkSame(t, fmt.Sprintf("ComponentAt(%v, %d, %d)", r, x, y), impl.ComponentAt(r, x, y), want)
			}
		}
		for _, n := range append([]int64{1 << 32, -1 << 32, 1<<32 + 1, math.MaxInt64 - 1, math.MinInt64 + 1}, outside...) {
			for _, p := range []impl.Point{{X: n}, {Y: n}, {X: n, Y: n}, {X: -40, Y: n}, {X: n, Y: 39}} {
				if got := impl.ComponentAt(r, p.X, p.Y); got != nil {
					t.Errorf("ComponentAt(%v, %v) = %v", r, p, got)
				}
			}
		}
	}
}

func TestComponentAtOnTheWholeChip(t *testing.T) {
	for _, c := range chipPatterns() {
		cells := paint(c.r...)
		for n := int64(0); n < limit*limit; n += 797 {
			x, y := n%limit-impl.Extent, n/limit-impl.Extent
			var want []impl.Rect
			if cells.has(x, y) {
				rest := *cells
				want = paint(unitRects(rest.take(impl.Point{X: x, Y: y}, sideSteps()))...).regionByDefinition()
			}
			checkSame(t, fmt.Sprintf("%s, the component at %d, %d", c.name, x, y), impl.ComponentAt(c.r, x, y), want)
		}
	}
}

// TestLargestComponentIsTheFirst has several components with the greatest area in each order.
func TestLargestComponentIsTheFirst(t *testing.T) {
	cases := []struct {
		name       string
		r, largest []string
	}{
		{"only one", []string{"xx"}, []string{"xx"}},
		{"all the same", []string{"x.x.x"}, []string{"x...."}},
		{"the last two", []string{"x.xx.xx"}, []string{"..xx..."}},
		{"the first two", []string{"xx.xx.x"}, []string{"xx....."}},
		{"the first and the last one", []string{"xx.x.xx"}, []string{"xx....."}},
		{"the last one", []string{"x.xx.xxx"}, []string{".....xxx"}},
		{"the middle one", []string{"xx.xxx.xx"}, []string{"...xxx..."}},
		{"the lower one, farther to the right", []string{"xx..", "..xx"}, []string{"....", "..xx"}},
		{"the higher one is larger", []string{"xxx.", "...x"}, []string{"xxx.", "...."}},
		{"with more rectangles but less area", []string{"x.xxx", "x.xxx", "xx..."}, []string{"..xxx", "..xxx", "....."}},
		{"more rectangles and the same area", []string{"xx..xx", "xx.xx."}, []string{"xx....", "xx...."}},
		{"a wider box but less area", []string{"x...x", "xxxxx", ".....", ".xxx.", ".xxx.", ".xxx."}, []string{"", "", "", ".xxx.", ".xxx.", ".xxx."}},
	}
	for _, c := range cases {
		for _, corner := range picturePlaces()[:4] {
			corner.X = min(corner.X, 31)
			checkSame(t, c.name, impl.LargestComponent(picture(corner, c.r...)), picture(corner, c.largest...))
		}
	}
	checkSame(t, "nothing", impl.LargestComponent(nil), nil)
	checkSame(t, "a chessboard", impl.LargestComponent(checkerboard(1)), []impl.Rect{{X0: -39, Y0: -40, X1: -38, Y1: -39}})
	checkSame(t, "the chip", impl.LargestComponent(wholeChip()), wholeChip())
}

// TestSelectSmallAtEachArea has components of one to five unit cells, two of each.
func TestSelectSmallAtEachArea(t *testing.T) {
	r := picture(impl.Point{X: -5, Y: -3}, "x.xx.xxx.xxxx.xxxxx", "...................", "x.x.xx..xx.xx......", "..x.x...xx.xxx.....")
	for area := int64(-2); area <= 7; area++ {
		got := impl.SelectSmall(r, area)
		want := int64(0)
		for n := int64(1); n <= 5 && n < area; n++ {
			want += 2 * n
		}
		if !impl.IsRegion(got) || impl.RegionArea(got) != want || impl.ComponentCount(got) != 2*max(0, min(area-1, 5)) {
			t.Errorf("SelectSmall(%d) = %v", area, got)
		}
	}
	checkSelections(t, r)
	board := checkerboard(0)
	checkSame(t, "no unit cell", impl.SelectSmall(board, 1), nil)
	checkSame(t, "every unit cell", impl.SelectSmall(board, 2), board)
	checkSame(t, "the chip", impl.SelectSmall(wholeChip(), limit*limit), nil)
	checkSame(t, "the chip", impl.SelectSmall(wholeChip(), limit*limit+1), wholeChip())
	for _, area := range []int64{0, -1, math.MinInt64, -1 << 32, -1<<32 + 2} {
		checkSame(t, "no area", impl.SelectSmall(board, area), nil)
	}
	for _, area := range []int64{math.MaxInt64, 1 << 32, 1<<32 + 1} {
		checkSame(t, "each area", impl.SelectSmall(board, area), board)
	}
}

// TestSelectOverlappingByHand names the ways in which a component and another region lie.
func TestSelectOverlappingByHand(t *testing.T) {
	r := []string{"x.xx.", "x.x.x", "x...x", "xxx.x"}
	left, middle, right := []string{"x....", "x....", "x....", "xxx.."}, []string{"..xx.", "..x..", "", ""}, []string{"", "....x", "....x", "....x"}
	cases := []struct {
		name     string
		by       []string
		selected [][]string
	}{
		{"nothing", nil, nil},
		{"all of it", r, [][]string{left, middle, right}},
		{"one unit cell", []string{"", "", "x", ""}, [][]string{left}},
		{"the last unit cell", []string{"", "....x", "", ""}, [][]string{right}},
		{"touching sides only", []string{".x...", ".x.x.", ".xxx.", "...x."}, nil},
		{"touching corners only", []string{"....x", "", "", ""}, nil},
		{"in the box of a component but beside it", []string{"", "", ".xx..", ""}, nil},
		{"a bar over two of them", []string{"", "", "xxxxx", ""}, [][]string{left, right}},
		{"two parts over two of them", []string{"...x.", "", "", "..x.."}, [][]string{left, middle}},
		{"one part in several unit cells", []string{"..xx.", "..x..", "", ""}, [][]string{middle}},
	}
	for _, c := range cases {
		for _, corner := range picturePlaces() {
			var selected []impl.Rect
			for _, rows := range c.selected {
				selected = impl.Union(selected, picture(corner, rows...))
			}
			whole, by := picture(corner, r...), picture(corner, c.by...)
			checkSame(t, c.name, impl.SelectOverlapping(whole, by), selected)
			checkSame(t, c.name+", nothing selected", impl.SelectOverlapping(nil, by), nil)
		}
	}
}

func TestSelectOverlappingOnTheWholeChip(t *testing.T) {
	board := checkerboard(0)
	checkSame(t, "nothing", impl.SelectOverlapping(board, nil), nil)
	checkSame(t, "the other chessboard", impl.SelectOverlapping(board, checkerboard(1)), nil)
	checkSame(t, "itself", impl.SelectOverlapping(board, board), board)
	checkSame(t, "the chip", impl.SelectOverlapping(board, wholeChip()), board)
	checkSame(t, "the chip by a chessboard", impl.SelectOverlapping(wholeChip(), board), wholeChip())
	square := []impl.Rect{{X0: -3, Y0: 20, X1: 9, Y1: 31}}
	checkSame(t, "a square", impl.SelectOverlapping(board, square), impl.Intersection(board, square))
	for _, p := range paint(wholeChip()...).points() {
		if (p.X+p.Y)%7 == 0 {
			cell := []impl.Rect{unitRect(p)}
			checkSame(t, fmt.Sprintf("the chip by %v", p), impl.SelectOverlapping(wholeChip(), cell), wholeChip())
			checkSame(t, fmt.Sprintf("%v by the chip", p), impl.SelectOverlapping(cell, wholeChip()), cell)
			checkSame(t, fmt.Sprintf("%v by all others", p), impl.SelectOverlapping(cell, impl.Complement(cell)), nil)
		}
	}
}

// TestPartsMoveWithTheRegion moves components and holes one by one and sorts them again.
func TestPartsMoveWithTheRegion(t *testing.T) {
	moved := func(u impl.Transform, parts [][]impl.Rect) [][]impl.Rect {
		var images [][]impl.Point
		for _, part := range parts {
			image, ok := impl.MoveRegion(u, part)
			if !ok {
				t.Fatalf("%v leaves the chip", part)
			}
			images = append(images, paint(image...).points())
		}
		return sortedRegions(images)
	}
	for _, r := range fewComponents(partRegions()) {
		for o := range int64(8) {
			u := impl.Transform{Orientation: o}
			image, _ := impl.MoveRegion(u, r)
			checkList(t, fmt.Sprintf("the components of %.99v under %v", fmt.Sprint(r), u), impl.Components(image), moved(u, impl.Components(r)))
			checkList(t, fmt.Sprintf("the holes of %.99v under %v", fmt.Sprint(r), u), impl.Holes(image), moved(u, impl.Holes(r)))
		}
	}
}

func TestPartsRejectNonRegions(t *testing.T) {
	for _, bad := range nonRegions() {
		name := fmt.Sprintf("%.99v", fmt.Sprint(bad))
		if components, holes := impl.Components(bad), impl.Holes(bad); components != nil || holes != nil {
			t.Errorf("%s has the components %.99v and the holes %.99v", name, fmt.Sprint(components), fmt.Sprint(holes))
		}
		if count := impl.ComponentCount(bad); count != -1 || impl.IsConnected(bad) {
			t.Errorf("%s has %d components, connected: %v", name, count, impl.IsConnected(bad))
		}
		for _, p := range []impl.Point{{}, {X: 1}, {X: 2, Y: 1}, {X: 39, Y: 39}, {X: -40, Y: -40}, {X: 40, Y: 40}, {X: math.MaxInt64, Y: math.MinInt64}} {
			if got := impl.ComponentAt(bad, p.X, p.Y); got != nil {
				t.Errorf("ComponentAt(%s, %v) = %.99v", name, p, fmt.Sprint(got))
			}
		}
		for _, area := range []int64{math.MinInt64, -1, 0, 1, 2, limit * limit, math.MaxInt64} {
			if got := impl.SelectSmall(bad, area); got != nil {
				t.Errorf("SelectSmall(%s, %d) = %.99v", name, area, fmt.Sprint(got))
			}
		}
		if largest, filled := impl.LargestComponent(bad), impl.FillHoles(bad); largest != nil || filled != nil {
			t.Errorf("%s has the largest component %.99v and is filled to %.99v", name, fmt.Sprint(largest), fmt.Sprint(filled))
		}
		for _, other := range [][]impl.Rect{nil, {{X0: 0, Y0: 0, X1: 1, Y1: 1}}, wholeChip(), checkerboard(0), bad} {
			if first, second := impl.SelectOverlapping(bad, other), impl.SelectOverlapping(other, bad); first != nil || second != nil {
				t.Errorf("SelectOverlapping of %s and %.99v: %.99v and %.99v", name, fmt.Sprint(other), fmt.Sprint(first), fmt.Sprint(second))
			}
		}
	}
}

// TestPartsOfTheEmptyRegion takes nil and an empty list for the same value.
func TestPartsOfTheEmptyRegion(t *testing.T) {
	for _, nothing := range [][]impl.Rect{nil, {}} {
		checkParts(t, nothing)
		checkSelections(t, nothing, nil, []impl.Rect{}, wholeChip())
		if impl.ComponentCount(nothing) != 0 || impl.IsConnected(nothing) || len(impl.ComponentAt(nothing, 0, 0)) != 0 {
			t.Error("the empty region has a component")
		}
		checkSame(t, "the chip by nothing", impl.SelectOverlapping(wholeChip(), nothing), nil)
	}
}

// checkUnshared overwrites each part and what lies behind it and looks at the others.
func checkUnshared(t *testing.T, parts [][]impl.Rect) {
	t.Helper()
	for i, part := range parts {
		var old [][]impl.Rect
		for _, other := range parts {
			old = append(old, slices.Clone(other))
		}
		old[i] = make([]impl.Rect, len(part))
		clear(part[:cap(part)])
		checkList(t, fmt.Sprintf("part %d was overwritten", i), parts, old)
	}
}

// TestPartsKeepTheirArguments also looks at the memory behind an argument and overwrites the results.
func TestPartsKeepTheirArguments(t *testing.T) {
	whole := append(picture(impl.Point{}, "xxx.xxx", "x.x.x.x", "xxx.xxx", ".......", ".xx.x.x"), impl.Rect{X0: 9, Y0: 9, X1: 8, Y1: 8}, impl.Rect{X0: 3})
	old := slices.Clone(whole)
	r := whole[:len(whole)-2]
	components, holes := impl.Components(r), impl.Holes(r)
	if len(components) != 5 || len(holes) != 2 {
		t.Fatalf("the components %v, the holes %v", components, holes)
	}
	checkUnshared(t, impl.Components(r))
	checkUnshared(t, impl.Holes(r))
	for _, result := range [][]impl.Rect{
		impl.ComponentAt(r, 4, 0), impl.LargestComponent(r), impl.SelectOverlapping(r, r), impl.SelectSmall(r, 99), impl.FillHoles(r), impl.FillHoles(r[:2]),
	} {
		clear(result[:cap(result)])
	}
	impl.ComponentCount(r)
	impl.IsConnected(r)
	if !slices.Equal(whole, old) {
		t.Errorf("the argument became %v", whole)
	}
	checkList(t, "the components a second time", impl.Components(r), components)
	checkList(t, "the holes a second time", impl.Holes(r), holes)
	checkParts(t, r)
	// What is one component or has no hole could be its own result.
	square := []impl.Rect{{X0: 0, Y0: 0, X1: 2, Y1: 2}, {X0: 7}}
	for _, result := range [][]impl.Rect{impl.Components(square[:1])[0], impl.LargestComponent(square[:1]), impl.FillHoles(square[:1]), impl.SelectSmall(square[:1], 5)} {
		clear(result[:cap(result)])
	}
	checkSame(t, "a square", square, []impl.Rect{{X0: 0, Y0: 0, X1: 2, Y1: 2}, {X0: 7}})
}

func TestChapter7Examples(t *testing.T) {
	touching := []impl.Rect{{X0: 0, Y0: 0, X1: 1, Y1: 1}, {X0: 1, Y0: 1, X1: 2, Y1: 2}}
	checkList(t, "Components", impl.Components(touching), [][]impl.Rect{{{X0: 0, Y0: 0, X1: 1, Y1: 1}}, {{X0: 1, Y0: 1, X1: 2, Y1: 2}}})
	two := []impl.Rect{{X0: 0, Y0: 0, X1: 1, Y1: 1}, {X0: 5, Y0: 0, X1: 7, Y1: 1}}
	checkSame(t, "LargestComponent", impl.LargestComponent(two), []impl.Rect{{X0: 5, Y0: 0, X1: 7, Y1: 1}})
	wide := []impl.Rect{{X0: 0, Y0: 0, X1: 3, Y1: 1}, {X0: 5, Y0: 0, X1: 7, Y1: 1}}
	checkSame(t, "SelectOverlapping", impl.SelectOverlapping(wide, []impl.Rect{{X0: 2, Y0: 0, X1: 4, Y1: 1}}), []impl.Rect{{X0: 0, Y0: 0, X1: 3, Y1: 1}})
	checkSame(t, "SelectSmall", impl.SelectSmall(two, 2), []impl.Rect{{X0: 0, Y0: 0, X1: 1, Y1: 1}})
	ring := []impl.Rect{{X0: 0, Y0: 0, X1: 3, Y1: 1}, {X0: 0, Y0: 1, X1: 1, Y1: 2}, {X0: 2, Y0: 1, X1: 3, Y1: 2}, {X0: 0, Y0: 2, X1: 3, Y1: 3}}
	checkList(t, "Holes", impl.Holes(ring), [][]impl.Rect{{{X0: 1, Y0: 1, X1: 2, Y1: 2}}})
	checkSame(t, "FillHoles", impl.FillHoles(ring), []impl.Rect{{X0: 0, Y0: 0, X1: 3, Y1: 3}})
}
