package tests

import (
	"fmt"
	"math/rand/v2"
	"slices"
	"testing"

	"loop.example/g00890/impl"
)

// chipCells is a set of unit cells of the chip: [y + Extent][x + Extent] tells of the unit cell (x, y).
type chipCells [limit][limit]bool

// paint follows the words of chapter 2 for the unit cells of valid rectangles.
func paint(list ...impl.Rect) *chipCells {
	cells := &chipCells{}
	for _, r := range list {
		for y := r.Y0; y < r.Y1; y++ {
			for x := r.X0; x < r.X1; x++ {
				cells[y+impl.Extent][x+impl.Extent] = true
			}
		}
	}
	return cells
}

func (c *chipCells) has(x, y int64) bool {
	return -impl.Extent <= min(x, y) && max(x, y) < impl.Extent && c[y+impl.Extent][x+impl.Extent]
}

func (c *chipCells) points() []impl.Point {
	var list []impl.Point
	for y := range c {
		for x, in := range c[y] {
			if in {
				list = append(list, impl.Point{X: int64(x) - impl.Extent, Y: int64(y) - impl.Extent})
			}
		}
	}
	return list
}

func unitRect(p impl.Point) impl.Rect {
	return impl.Rect{X0: p.X, Y0: p.Y, X1: p.X + 1, Y1: p.Y + 1}
}

func unitRects(points []impl.Point) []impl.Rect {
	var list []impl.Rect
	for _, p := range points {
		list = append(list, unitRect(p))
	}
	return list
}

// runsByDefinition returns the maximal runs in row y of the chip.
func (c *chipCells) runsByDefinition(y int64) []int64 {
	var runs []int64
	for x := int64(-impl.Extent); x < impl.Extent; x++ {
		if c.has(x, y) && !c.has(x-1, y) {
			runs = append(runs, x)
		}
		if c.has(x, y) && !c.has(x+1, y) {
			runs = append(runs, x+1)
		}
	}
	return runs
}

// regionByDefinition follows the words of chapter 3: bands from the lowest one up, in each its runs from left to right.
func (c *chipCells) regionByDefinition() []impl.Rect {
	var list []impl.Rect
	for y := range c {
		if y > 0 && c[y] == c[y-1] {
			continue
		}
		top := y + 1
		for top < limit && c[top] == c[y] {
			top++
		}
		bottom := int64(y) - impl.Extent
		runs := c.runsByDefinition(bottom)
		for i := 0; i < len(runs); i += 2 {
			list = append(list, impl.Rect{X0: runs[i], Y0: bottom, X1: runs[i+1], Y1: int64(top) - impl.Extent})
		}
	}
	return list
}

// chipPlaces holds the lower left corners of squares of four by four unit cells: in the corners of the chip, at its
// sides, in its middle, and where a row does not fit into 64 bits.
func chipPlaces() []impl.Point {
	return []impl.Point{
		{X: -2, Y: -2}, {X: -40, Y: -40}, {X: 36, Y: 36}, {X: -40, Y: 36}, {X: 36, Y: -40},
		{X: 22, Y: 5}, {X: -40, Y: 0}, {X: 36, Y: 1}, {X: 3, Y: -40}, {X: 23, Y: 36},
	}
}

// randomRects returns rectangles of all sizes, the same ones for the same seed.
func randomRects(seed uint64, count int, size int64) []impl.Rect {
	random := rand.New(rand.NewPCG(seed, 3))
	var list []impl.Rect
	for range count {
		width, height := 1+random.Int64N(size), 1+random.Int64N(size)
		x, y := random.Int64N(limit-width+1)-impl.Extent, random.Int64N(limit-height+1)-impl.Extent
		list = append(list, impl.Rect{X0: x, Y0: y, X1: x + width, Y1: y + height})
	}
	return list
}

func shuffled(seed uint64, list []impl.Rect) []impl.Rect {
	other := slices.Clone(list)
	rand.New(rand.NewPCG(seed, 4)).Shuffle(len(other), func(i, j int) { other[i], other[j] = other[j], other[i] })
	return other
}

// checkerboard has as many rectangles as a region can have.
func checkerboard(first int64) []impl.Rect {
	var list []impl.Rect
	for y := int64(-impl.Extent); y < impl.Extent; y++ {
		for x := -impl.Extent + (y+first)&1; x < impl.Extent; x += 2 {
			list = append(list, unitRect(impl.Point{X: x, Y: y}))
		}
	}
	return list
}

// sampleRegions holds regions in the canonical form, from the empty one to one with MaxRects rectangles.
func sampleRegions() [][]impl.Rect {
	chip := impl.Rect{X0: -40, Y0: -40, X1: 40, Y1: 40}
	list := [][]impl.Rect{
		{}, {chip}, checkerboard(0), checkerboard(1),
		{{X0: 0, Y0: 0, X1: 1, Y1: 1}}, {{X0: -40, Y0: -40, X1: -39, Y1: -39}}, {{X0: 39, Y0: 39, X1: 40, Y1: 40}},
		{{X0: 0, Y0: 0, X1: 4, Y1: 2}, {X0: 1, Y0: 2, X1: 2, Y1: 5}},
		{{X0: 23, Y0: -3, X1: 24, Y1: -2}, {X0: 24, Y0: -2, X1: 25, Y1: -1}},
		{{X0: -40, Y0: -40, X1: 40, Y1: -39}, {X0: -40, Y0: -39, X1: -39, Y1: 39}, {X0: 39, Y0: -39, X1: 40, Y1: 39}, {X0: -40, Y0: 39, X1: 40, Y1: 40}},
		{{X0: -40, Y0: -1, X1: -38, Y1: 1}, {X0: 38, Y0: -1, X1: 40, Y1: 1}},
		{{X0: 0, Y0: -40, X1: 1, Y1: -30}, {X0: 0, Y0: 30, X1: 1, Y1: 40}},
	}
	for seed := range uint64(4) {
		list = append(list, paint(randomRects(seed, 12, 9)...).regionByDefinition(), paint(randomRects(seed, 900, 3)...).regionByDefinition())
	}
	return list
}

// nonRegions holds lists that are not in the canonical form although they name a set of unit cells, and lists with
// rectangles that are not valid.
func nonRegions() [][]impl.Rect {
	list := [][]impl.Rect{
		{{X0: 0, Y0: 0, X1: 2, Y1: 1}, {X0: 0, Y0: 1, X1: 2, Y1: 3}},
		{{X0: 0, Y0: 0, X1: 2, Y1: 2}, {X0: 2, Y0: 0, X1: 4, Y1: 2}},
		{{X0: 0, Y0: 0, X1: 3, Y1: 2}, {X0: 2, Y0: 0, X1: 4, Y1: 2}},
		{{X0: 0, Y0: 0, X1: 2, Y1: 2}, {X0: 0, Y0: 0, X1: 2, Y1: 2}},
		{{X0: 3, Y0: 0, X1: 4, Y1: 1}, {X0: 0, Y0: 0, X1: 1, Y1: 1}},
		{{X0: 0, Y0: 5, X1: 1, Y1: 6}, {X0: 0, Y0: 0, X1: 1, Y1: 1}},
		{{X0: 0, Y0: 0, X1: 1, Y1: 3}, {X0: 2, Y0: 0, X1: 3, Y1: 2}},
		{{X0: 0, Y0: 0, X1: 1, Y1: 2}, {X0: 2, Y0: 1, X1: 3, Y1: 3}},
		{{X0: 0, Y0: 0, X1: 3, Y1: 3}, {X0: 1, Y0: 1, X1: 2, Y1: 2}},
		{{X0: 0, Y0: 0, X1: 1, Y1: 1}, {X0: 2, Y0: 0, X1: 3, Y1: 1}, {X0: 0, Y0: 1, X1: 1, Y1: 2}, {X0: 2, Y0: 1, X1: 3, Y1: 2}},
		{{X0: -40, Y0: -40, X1: 0, Y1: 40}, {X0: 0, Y0: -40, X1: 40, Y1: 40}},
		{{X0: -40, Y0: -40, X1: 40, Y1: 0}, {X0: -40, Y0: 0, X1: 40, Y1: 40}},
		slices.Repeat([]impl.Rect{{X0: 0, Y0: 0, X1: 1, Y1: 1}}, impl.MaxRects+1),
		append(checkerboard(0), impl.Rect{X0: 39, Y0: 39, X1: 40, Y1: 40}),
		append(checkerboard(0), impl.Rect{X0: -40, Y0: 40, X1: -39, Y1: 41}),
	}
	for _, bad := range invalidRects() {
		good := impl.Rect{X0: 0, Y0: 0, X1: 1, Y1: 1}
		list = append(list, []impl.Rect{bad}, []impl.Rect{good, bad}, []impl.Rect{bad, good}, []impl.Rect{good, bad, {X0: 0, Y0: 7, X1: 1, Y1: 8}})
	}
	return list
}

func checkRegionOf(t *testing.T, list, want []impl.Rect) {
	t.Helper()
	if got, ok := impl.RegionOf(list); !ok || !slices.Equal(got, want) {
		t.Fatalf("RegionOf(%v) = %v, %v, want %v", list, got, ok, want)
	}
}

// TestRegionsByHand names the ways in which rectangles make bands and runs.
func TestRegionsByHand(t *testing.T) {
	cases := []struct {
		name string
		list []impl.Rect
		want []impl.Rect
	}{
		{"nothing", nil, nil},
		{"a unit cell", []impl.Rect{{X0: 5, Y0: 6, X1: 6, Y1: 7}}, []impl.Rect{{X0: 5, Y0: 6, X1: 6, Y1: 7}}},
		{"repeated", []impl.Rect{{X0: 0, Y0: 0, X1: 2, Y1: 2}, {X0: 0, Y0: 0, X1: 2, Y1: 2}}, []impl.Rect{{X0: 0, Y0: 0, X1: 2, Y1: 2}}},
		{"inside another one", []impl.Rect{{X0: 1, Y0: 1, X1: 2, Y1: 2}, {X0: 0, Y0: 0, X1: 3, Y1: 3}}, []impl.Rect{{X0: 0, Y0: 0, X1: 3, Y1: 3}}},
		{"runs that join", []impl.Rect{{X0: 2, Y0: 0, X1: 4, Y1: 2}, {X0: 0, Y0: 0, X1: 2, Y1: 2}}, []impl.Rect{{X0: 0, Y0: 0, X1: 4, Y1: 2}}},
		{"bands that join", []impl.Rect{{X0: 0, Y0: 2, X1: 2, Y1: 5}, {X0: 0, Y0: 0, X1: 2, Y1: 2}}, []impl.Rect{{X0: 0, Y0: 0, X1: 2, Y1: 5}}},
		{"bands of two runs that join",
			[]impl.Rect{{X0: 0, Y0: 0, X1: 1, Y1: 3}, {X0: 2, Y0: 0, X1: 3, Y1: 1}, {X0: 2, Y0: 1, X1: 3, Y1: 3}},
			[]impl.Rect{{X0: 0, Y0: 0, X1: 1, Y1: 3}, {X0: 2, Y0: 0, X1: 3, Y1: 3}}},
		{"a run that divides a band",
			[]impl.Rect{{X0: 0, Y0: 0, X1: 1, Y1: 3}, {X0: 2, Y0: 1, X1: 3, Y1: 2}},
			[]impl.Rect{{X0: 0, Y0: 0, X1: 1, Y1: 1}, {X0: 0, Y0: 1, X1: 1, Y1: 2}, {X0: 2, Y0: 1, X1: 3, Y1: 2}, {X0: 0, Y0: 2, X1: 1, Y1: 3}}},
		{"touching at a corner",
			[]impl.Rect{{X0: 1, Y0: 1, X1: 2, Y1: 2}, {X0: 0, Y0: 0, X1: 1, Y1: 1}},
			[]impl.Rect{{X0: 0, Y0: 0, X1: 1, Y1: 1}, {X0: 1, Y0: 1, X1: 2, Y1: 2}}},
		{"touching along a part of a side",
			[]impl.Rect{{X0: 0, Y0: 0, X1: 1, Y1: 2}, {X0: 1, Y0: 1, X1: 2, Y1: 3}},
			[]impl.Rect{{X0: 0, Y0: 0, X1: 1, Y1: 1}, {X0: 0, Y0: 1, X1: 2, Y1: 2}, {X0: 1, Y0: 2, X1: 2, Y1: 3}}},
		{"overlapping",
			[]impl.Rect{{X0: 1, Y0: 1, X1: 3, Y1: 3}, {X0: 0, Y0: 0, X1: 2, Y1: 2}},
			[]impl.Rect{{X0: 0, Y0: 0, X1: 2, Y1: 1}, {X0: 0, Y0: 1, X1: 3, Y1: 2}, {X0: 1, Y0: 2, X1: 3, Y1: 3}}},
		{"an empty row between equal ones",
			[]impl.Rect{{X0: 0, Y0: 2, X1: 2, Y1: 3}, {X0: 0, Y0: 0, X1: 2, Y1: 1}},
			[]impl.Rect{{X0: 0, Y0: 0, X1: 2, Y1: 1}, {X0: 0, Y0: 2, X1: 2, Y1: 3}}},
		{"halves of the chip",
			[]impl.Rect{{X0: 0, Y0: -40, X1: 40, Y1: 40}, {X0: -40, Y0: -40, X1: 0, Y1: 40}},
			[]impl.Rect{{X0: -40, Y0: -40, X1: 40, Y1: 40}}},
		{"the corners of the chip",
			[]impl.Rect{{X0: 39, Y0: 39, X1: 40, Y1: 40}, {X0: -40, Y0: 39, X1: -39, Y1: 40}, {X0: 39, Y0: -40, X1: 40, Y1: -39}, {X0: -40, Y0: -40, X1: -39, Y1: -39}},
			[]impl.Rect{{X0: -40, Y0: -40, X1: -39, Y1: -39}, {X0: 39, Y0: -40, X1: 40, Y1: -39}, {X0: -40, Y0: 39, X1: -39, Y1: 40}, {X0: 39, Y0: 39, X1: 40, Y1: 40}}},
	}
	for _, c := range cases {
		got, ok := impl.RegionOf(c.list)
		if !ok || !slices.Equal(got, c.want) || !impl.IsRegion(c.want) {
			t.Errorf("%s: %v, %v, want %v", c.name, got, ok, c.want)
		}
		if isRegion := slices.Equal(c.list, c.want); impl.IsRegion(c.list) != isRegion {
			t.Errorf("%s: IsRegion = %v", c.name, !isRegion)
		}
	}
}

// TestEverySetHasItsRegion goes through all sets of unit cells of three rows and four columns, each given as unit cells.
func TestEverySetHasItsRegion(t *testing.T) {
	for _, corner := range chipPlaces() {
		for set := range 1 << 12 {
			checkSet(t, corner, set)
			checkSet(t, impl.Point{X: corner.X, Y: corner.Y + 1}, set)
		}
	}
}

func checkSet(t *testing.T, corner impl.Point, set int) {
	t.Helper()
	var points []impl.Point
	for i := range int64(12) {
		if set>>i&1 == 1 {
			points = append(points, impl.Point{X: corner.X + i%4, Y: corner.Y + i/4})
		}
	}
	list := unitRects(points)
	want := paint(list...).regionByDefinition()
	checkRegionOf(t, list, want)
	slices.Reverse(list)
	checkRegionOf(t, list, want)
	if !impl.IsRegion(want) || impl.RegionArea(want) != int64(len(points)) {
		t.Fatalf("IsRegion(%v) = %v, area %d, want %d", want, impl.IsRegion(want), impl.RegionArea(want), len(points))
	}
}

func TestEveryUnitCellIsARegion(t *testing.T) {
	for _, p := range paint(impl.Rect{X0: -40, Y0: -40, X1: 40, Y1: 40}).points() {
		list := []impl.Rect{unitRect(p)}
		checkRegionOf(t, list, list)
		if !impl.IsRegion(list) || impl.RegionArea(list) != 1 || !impl.RegionContains(list, p.X, p.Y) {
			t.Fatalf("the unit cell %v is no region or not in it", p)
		}
	}
}

// TestRegionsDoNotDependOnTheRectangles gives each set in several ways: in another order, with repetitions, by its
// unit cells, and by the rectangles of its region.
func TestRegionsDoNotDependOnTheRectangles(t *testing.T) {
	for seed := range uint64(60) {
		for _, size := range []int64{2, 5, 30, limit} {
			list := randomRects(seed, 1+int(seed), size)
			cells := paint(list...)
			want := cells.regionByDefinition()
			if points := cells.points(); len(points) <= impl.MaxRects {
				checkRegionOf(t, shuffled(seed, unitRects(points)), want)
			}
			for _, same := range [][]impl.Rect{list, shuffled(seed, list), slices.Repeat(list, 3), want, shuffled(seed, want), append(shuffled(seed, want), list...)} {
				checkRegionOf(t, same, want)
			}
		}
	}
}

// TestTheWholeChip builds it from bars and from exactly MaxRects pieces of two unit cells.
func TestTheWholeChip(t *testing.T) {
	chip := impl.Rect{X0: -40, Y0: -40, X1: 40, Y1: 40}
	var rows, columns, lying, standing []impl.Rect
	for n := int64(-impl.Extent); n < impl.Extent; n++ {
		rows = append(rows, impl.Rect{X0: -40, Y0: n, X1: 40, Y1: n + 1})
		columns = append(columns, impl.Rect{X0: n, Y0: -40, X1: n + 1, Y1: 40})
		for m := int64(-impl.Extent); m < impl.Extent; m += 2 {
			lying = append(lying, impl.Rect{X0: m, Y0: n, X1: m + 2, Y1: n + 1})
			standing = append(standing, impl.Rect{X0: n, Y0: m, X1: n + 1, Y1: m + 2})
		}
	}
	for _, list := range [][]impl.Rect{{chip}, rows, columns, lying, standing, slices.Repeat([]impl.Rect{chip}, impl.MaxRects)} {
		checkRegionOf(t, list, []impl.Rect{chip})
		checkRegionOf(t, shuffled(1, list), []impl.Rect{chip})
	}
	if area := impl.RegionArea([]impl.Rect{chip}); area != limit*limit {
		t.Errorf("its area is %d", area)
	}
}

func TestRegionsOfMaxRects(t *testing.T) {
	for first := range int64(2) {
		board := checkerboard(first)
		if len(board) != impl.MaxRects || !impl.IsRegion(board) || impl.RegionArea(board) != impl.MaxRects {
			t.Errorf("%d rectangles: IsRegion %v, area %d", len(board), impl.IsRegion(board), impl.RegionArea(board))
		}
		checkRegionOf(t, shuffled(2, board), board)
		for _, more := range []impl.Rect{board[0], {X0: -40, Y0: -40, X1: 40, Y1: 40}} {
			list := append(slices.Clone(board), more)
			if got, ok := impl.RegionOf(list); ok || got != nil || impl.IsRegion(list) {
				t.Errorf("MaxRects + 1 rectangles have a region of %d rectangles, %v", len(got), ok)
			}
		}
	}
}

// TestIsRegionAcceptsOnlyTheCanonicalForm goes through all lists of up to three rectangles of a small square.
func TestIsRegionAcceptsOnlyTheCanonicalForm(t *testing.T) {
	for _, corner := range chipPlaces() {
		grid := slices.DeleteFunc(gridRects(corner.X, corner.Y), func(r impl.Rect) bool {
			return r.X0 == corner.X || r.Y0 == corner.Y
		})
		checkIsRegion(t, nil)
		for _, a := range grid {
			checkIsRegion(t, []impl.Rect{a})
			for _, b := range grid {
				checkIsRegion(t, []impl.Rect{a, b})
				for _, c := range grid {
					if corner == chipPlaces()[0] {
						checkIsRegion(t, []impl.Rect{a, b, c})
					}
				}
			}
		}
	}
}

func checkIsRegion(t *testing.T, list []impl.Rect) {
	t.Helper()
	want := slices.Equal(list, paint(list...).regionByDefinition())
	if got := impl.IsRegion(list); got != want {
		t.Fatalf("IsRegion(%v) = %v", list, got)
	}
}

// TestIsRegionNoticesEveryChange changes one rectangle of a region at a time.
func TestIsRegionNoticesEveryChange(t *testing.T) {
	for seed := range uint64(3) {
		region := paint(randomRects(seed, 40, 12)...).regionByDefinition()
		for i := range region {
			for _, d := range []impl.Rect{{X0: 1}, {X0: -1}, {Y0: 1}, {Y0: -1}, {X1: 1}, {X1: -1}, {Y1: 1}, {Y1: -1}} {
				list := slices.Clone(region)
				r := &list[i]
				*r = impl.Rect{X0: r.X0 + d.X0, Y0: r.Y0 + d.Y0, X1: r.X1 + d.X1, Y1: r.Y1 + d.Y1}
				if wantValid(*r) {
					checkIsRegion(t, list)
				} else if impl.IsRegion(list) {
					t.Fatalf("a region with the rectangle %v", *r)
				}
			}
			checkIsRegion(t, slices.Delete(slices.Clone(region), i, i+1))
			checkIsRegion(t, slices.Insert(slices.Clone(region), i, region[i]))
			checkIsRegion(t, append(slices.Clone(region[i:]), region[:i]...))
		}
	}
}

// TestRegionsAreEqualExactlyIfTheirCellsAre compares all regions of two rectangles with each other by way of maps.
func TestRegionsAreEqualExactlyIfTheirCellsAre(t *testing.T) {
	grid := gridRects(22, -40)
	texts := map[chipCells]string{}
	different := map[string]bool{}
	for _, a := range grid {
		for _, b := range grid {
			region, ok := impl.RegionOf([]impl.Rect{a, b})
			cells, text := *paint(a, b), fmt.Sprint(region)
			if old, known := texts[cells]; !ok || known && old != text {
				t.Fatalf("the cells of %v and %v have the regions %s and %s", a, b, old, text)
			}
			texts[cells] = text
			different[text] = true
		}
	}
	if len(texts) != len(different) {
		t.Errorf("%d sets of unit cells have %d regions", len(texts), len(different))
	}
}

func TestRegionOfRejects(t *testing.T) {
	for _, bad := range invalidRects() {
		for _, length := range []int{1, 3, impl.MaxRects} {
			for _, place := range []int{0, length / 2, length - 1} {
				list := slices.Repeat([]impl.Rect{{X0: 0, Y0: 0, X1: 1, Y1: 1}}, length)
				list[place] = bad
				if got, ok := impl.RegionOf(list); ok || got != nil {
					t.Fatalf("%v at %d of %d: %v, %v", bad, place, length, got, ok)
				}
			}
		}
	}
}

// TestNonRegionsAreRejected asks every function, with other arguments that are valid and fit the list.
func TestNonRegionsAreRejected(t *testing.T) {
	for _, list := range nonRegions() {
		if impl.IsRegion(list) || impl.RegionArea(list) != -1 {
			t.Errorf("%.99v: a region, or the area %d", fmt.Sprint(list), impl.RegionArea(list))
		}
		for _, r := range list[:min(len(list), 3)] {
			if impl.RegionContains(list, r.X0, r.Y0) || impl.RegionRow(list, r.Y0) != nil {
				t.Errorf("%.99v contains %d %d", fmt.Sprint(list), r.X0, r.Y0)
			}
		}
		if impl.RegionContains(list, 0, 0) || impl.RegionRow(list, 0) != nil {
			t.Errorf("%.99v contains 0 0", fmt.Sprint(list))
		}
		if box, ok := impl.RegionBox(list); ok || box != (impl.Rect{}) {
			t.Errorf("%.99v has the box %v, %v", fmt.Sprint(list), box, ok)
		}
		for _, box := range []impl.Rect{{X0: -40, Y0: -40, X1: 40, Y1: 40}, {X0: 0, Y0: 0, X1: 1, Y1: 1}} {
			if clipped := impl.ClipRegion(list, box); clipped != nil {
				t.Errorf("%.99v is clipped to %v", fmt.Sprint(list), clipped)
			}
		}
		for o := range int64(8) {
			if moved, ok := impl.MoveRegion(impl.Transform{Orientation: o}, list); ok || moved != nil {
				t.Errorf("%.99v is moved to %.99v, %v", fmt.Sprint(list), fmt.Sprint(moved), ok)
			}
		}
	}
}

// TestRegionQueriesFollowTheDefinition asks for every unit cell and row of the chip and for those around it.
func TestRegionQueriesFollowTheDefinition(t *testing.T) {
	for _, r := range sampleRegions() {
		cells := paint(r...)
		if area := impl.RegionArea(r); area != int64(len(cells.points())) {
			t.Errorf("RegionArea(%.99v) = %d, want %d", fmt.Sprint(r), area, len(cells.points()))
		}
		for y := int64(-42); y <= 42; y++ {
			if got, want := impl.RegionRow(r, y), cells.runsByDefinition(y); !slices.Equal(got, want) {
				t.Fatalf("RegionRow(%.99v, %d) = %v, want %v", fmt.Sprint(r), y, got, want)
			}
			for x := int64(-42); x <= 42; x++ {
				if impl.RegionContains(r, x, y) != cells.has(x, y) {
					t.Fatalf("RegionContains(%.99v, %d, %d) = %v", fmt.Sprint(r), x, y, !cells.has(x, y))
				}
			}
		}
		for _, n := range outside {
			if impl.RegionRow(r, n) != nil || impl.RegionContains(r, n, 0) || impl.RegionContains(r, 0, n) || impl.RegionContains(r, n, n) {
				t.Errorf("%.99v reaches to %d", fmt.Sprint(r), n)
			}
		}
	}
}

// TestRegionRowAtItsEnds names the first and the last row of a region and the rows one beyond them.
func TestRegionRowAtItsEnds(t *testing.T) {
	r := []impl.Rect{{X0: -40, Y0: 3, X1: 2, Y1: 5}, {X0: 3, Y0: 3, X1: 40, Y1: 5}, {X0: 0, Y0: 8, X1: 1, Y1: 9}}
	rows := map[int64][]int64{2: nil, 3: {-40, 2, 3, 40}, 4: {-40, 2, 3, 40}, 5: nil, 7: nil, 8: {0, 1}, 9: nil}
	for y, want := range rows {
		if got := impl.RegionRow(r, y); !slices.Equal(got, want) {
			t.Errorf("row %d: %v, want %v", y, got, want)
		}
	}
	chip := []impl.Rect{{X0: -40, Y0: -40, X1: 40, Y1: 40}}
	for y, want := range map[int64][]int64{-41: nil, -40: {-40, 40}, 39: {-40, 40}, 40: nil} {
		if got := impl.RegionRow(chip, y); !slices.Equal(got, want) {
			t.Errorf("row %d of the chip: %v, want %v", y, got, want)
		}
	}
}

// boxByDefinition returns the box of the points of a set that is not empty.
func boxByDefinition(points []impl.Point) impl.Rect {
	box := unitRect(points[0])
	for _, p := range points {
		box = impl.Rect{X0: min(box.X0, p.X), Y0: min(box.Y0, p.Y), X1: max(box.X1, p.X+1), Y1: max(box.Y1, p.Y+1)}
	}
	return box
}

func TestRegionBoxIsTheSmallest(t *testing.T) {
	if box, ok := impl.RegionBox(nil); ok || box != (impl.Rect{}) {
		t.Errorf("the box of the empty region is %v, %v", box, ok)
	}
	regions := sampleRegions()
	for seed := range uint64(50) {
		regions = append(regions, paint(randomRects(seed, 5, 8)...).regionByDefinition())
	}
	for _, r := range regions {
		if len(r) == 0 {
			continue
		}
		want := boxByDefinition(paint(r...).points())
		if box, ok := impl.RegionBox(r); !ok || box != want {
			t.Errorf("RegionBox(%.99v) = %v, %v, want %v", fmt.Sprint(r), box, ok, want)
		}
	}
}

// insideBox returns the unit cells of a set that the box covers.
func (c *chipCells) insideBox(box impl.Rect) *chipCells {
	both := paint(box)
	for y := range both {
		for x := range both[y] {
			both[y][x] = both[y][x] && c[y][x]
		}
	}
	return both
}

func TestClipRegionKeepsWhatTheBoxCovers(t *testing.T) {
	boxes := append(sampleRects(), randomRects(9, 20, 30)...)
	for _, r := range sampleRegions() {
		cells := paint(r...)
		for _, box := range boxes {
			want := cells.insideBox(box).regionByDefinition()
			if got := impl.ClipRegion(r, box); !slices.Equal(got, want) {
				t.Fatalf("ClipRegion(%.99v, %v) = %.99v, want %.99v", fmt.Sprint(r), box, fmt.Sprint(got), fmt.Sprint(want))
			}
		}
	}
}

// TestClipRegionInSmallSquares clips regions of two rectangles by all boxes of their square: bands join where the box
// leaves out what divided them.
func TestClipRegionInSmallSquares(t *testing.T) {
	for _, corner := range chipPlaces()[:5] {
		grid := gridRects(corner.X, corner.Y)
		for i, a := range grid {
			cells := paint(a, grid[i*37%100])
			for _, box := range grid {
				want := cells.insideBox(box).regionByDefinition()
				if got := impl.ClipRegion(cells.regionByDefinition(), box); !slices.Equal(got, want) {
					t.Fatalf("ClipRegion(%v, %v) = %v, want %v", cells.regionByDefinition(), box, got, want)
				}
			}
		}
	}
}

func TestClipRegionRejects(t *testing.T) {
	for _, box := range invalidRects() {
		for _, r := range [][]impl.Rect{nil, {{X0: -40, Y0: -40, X1: 40, Y1: 40}}, checkerboard(0)} {
			if got := impl.ClipRegion(r, box); got != nil {
				t.Errorf("ClipRegion with the box %v: %.99v", box, fmt.Sprint(got))
			}
		}
	}
}

// imageRegion moves each unit cell's square by two opposite corners. It returns false if one of them leaves the chip.
func imageRegion(u impl.Transform, cells *chipCells) ([]impl.Rect, bool) {
	var images []impl.Rect
	for _, c := range cells.points() {
		p, q := imageByDefinition(u, c), imageByDefinition(u, impl.Point{X: c.X + 1, Y: c.Y + 1})
		image := impl.Rect{X0: min(p.X, q.X), Y0: min(p.Y, q.Y), X1: max(p.X, q.X), Y1: max(p.Y, q.Y)}
		if !wantValid(image) {
			return nil, false
		}
		images = append(images, image)
	}
	return paint(images...).regionByDefinition(), true
}

func checkMoveRegion(t *testing.T, u impl.Transform, r []impl.Rect) {
	t.Helper()
	want, fits := imageRegion(u, paint(r...))
	got, ok := impl.MoveRegion(u, r)
	if ok != fits || !ok && got != nil || !slices.Equal(got, want) {
		t.Fatalf("MoveRegion(%v, %.99v) = %.99v, %v, want %.99v, %v", u, fmt.Sprint(r), fmt.Sprint(got), ok, fmt.Sprint(want), fits)
	}
	if ok && impl.RegionArea(got) != impl.RegionArea(r) {
		t.Fatalf("MoveRegion(%v, %.99v) has another area", u, fmt.Sprint(r))
	}
}

func TestMoveRegionMovesItsCells(t *testing.T) {
	for _, r := range sampleRegions() {
		for _, u := range sampleTransforms() {
			checkMoveRegion(t, u, r)
		}
		for _, u := range pairTransforms() {
			checkMoveRegion(t, u, r)
		}
	}
}

// TestMoveRegionAtTheBorder goes through the translations that lead up to, onto and over every border, where only one
// of two rectangles leaves the chip first.
func TestMoveRegionAtTheBorder(t *testing.T) {
	regions := [][]impl.Rect{
		{{X0: 0, Y0: 0, X1: 4, Y1: 2}, {X0: 1, Y0: 2, X1: 2, Y1: 5}},
		{{X0: -30, Y0: -30, X1: -29, Y1: -29}, {X0: 20, Y0: 3, X1: 21, Y1: 4}},
		{{X0: -40, Y0: -40, X1: -39, Y1: -38}, {X0: 37, Y0: 39, X1: 40, Y1: 40}},
	}
	for o := range int64(8) {
		for _, r := range regions {
			for n := int64(-limit); n <= limit; n++ {
				for _, m := range []int64{-limit, -5, 0, 1, 36, limit} {
					checkMoveRegion(t, impl.Transform{Orientation: o, X: n, Y: m}, r)
					checkMoveRegion(t, impl.Transform{Orientation: o, X: m, Y: n}, r)
				}
			}
		}
	}
}

func TestMoveRegionRejects(t *testing.T) {
	for _, u := range invalidTransforms() {
		for _, r := range [][]impl.Rect{nil, {{X0: 0, Y0: 0, X1: 1, Y1: 1}}, {{X0: -40, Y0: -3, X1: 40, Y1: 2}}, checkerboard(1)} {
			if got, ok := impl.MoveRegion(u, r); ok || got != nil {
				t.Errorf("MoveRegion(%v, %.99v) = %.99v, %v", u, fmt.Sprint(r), fmt.Sprint(got), ok)
			}
		}
	}
}

// TestMoveRegionRejectsWhatWouldFit uses invalid transforms and lists of which the images alone would be a region.
func TestMoveRegionRejectsWhatWouldFit(t *testing.T) {
	if got, ok := impl.MoveRegion(impl.Transform{X: -1}, []impl.Rect{{X0: 0, Y0: 0, X1: 41, Y1: 1}}); ok || got != nil {
		t.Errorf("a rectangle beyond the border: %v, %v", got, ok)
	}
	upsideDown := []impl.Rect{{X0: 0, Y0: 5, X1: 1, Y1: 6}, {X0: 0, Y0: 0, X1: 1, Y1: 1}}
	if got, ok := impl.MoveRegion(impl.Transform{Orientation: 2}, upsideDown); ok || got != nil {
		t.Errorf("a list in the opposite order: %v, %v", got, ok)
	}
	if got, ok := impl.MoveRegion(impl.Transform{X: limit + 1}, nil); ok || got != nil {
		t.Errorf("the empty region by a transform beyond its range: %v, %v", got, ok)
	}
}

// TestMovesCommuteWithUnion moves rectangles before and after they are united to a region.
func TestMovesCommuteWithUnion(t *testing.T) {
	for seed := range uint64(8) {
		a, b := randomRects(seed, 7, 11), randomRects(seed+100, 9, 6)
		regionA, _ := impl.RegionOf(a)
		regionB, _ := impl.RegionOf(b)
		both, _ := impl.RegionOf(append(slices.Clone(regionA), regionB...))
		for o := range int64(8) {
			u := impl.Transform{Orientation: o}
			var images []impl.Rect
			for _, r := range append(slices.Clone(a), b...) {
				image, _ := impl.MoveRect(u, r)
				images = append(images, image)
			}
			want, ok := impl.MoveRegion(u, both)
			if !ok {
				t.Fatalf("%v moves %v off the chip", u, both)
			}
			movedA, _ := impl.MoveRegion(u, regionA)
			movedB, _ := impl.MoveRegion(u, regionB)
			checkRegionOf(t, images, want)
			checkRegionOf(t, append(movedB, movedA...), want)
		}
	}
}

func TestRegionMovesComposeAndAreUndone(t *testing.T) {
	for _, r := range sampleRegions() {
		for _, u := range pairTransforms() {
			moved, ok := impl.MoveRegion(u, r)
			if !ok {
				continue
			}
			back, _ := impl.InvertTransform(u)
			if again, ok := impl.MoveRegion(back, moved); !ok || !slices.Equal(again, r) {
				t.Fatalf("%v does not move %.99v back", back, fmt.Sprint(r))
			}
			next := impl.Transform{Orientation: 5, X: 2, Y: -1}
			twice, ok := impl.MoveRegion(next, moved)
			both, _ := impl.ComposeTransforms(u, next)
			if once, fits := impl.MoveRegion(both, r); fits != ok || !slices.Equal(once, twice) {
				t.Fatalf("%v and %v do not move %.99v as both together", u, next, fmt.Sprint(r))
			}
		}
	}
}

// regionResults calls every function of chapter 3 that returns rectangles, such that each could return its argument.
func regionResults(r []impl.Rect) [][]impl.Rect {
	of, _ := impl.RegionOf(r)
	moved, _ := impl.MoveRegion(impl.Transform{}, r)
	return [][]impl.Rect{of, moved, impl.ClipRegion(r, impl.Rect{X0: -40, Y0: -40, X1: 40, Y1: 40})}
}

// TestRegionFunctionsKeepTheirArguments also looks at the memory behind an argument and overwrites the results.
func TestRegionFunctionsKeepTheirArguments(t *testing.T) {
	whole := []impl.Rect{{X0: 0, Y0: 0, X1: 4, Y1: 2}, {X0: 1, Y0: 2, X1: 2, Y1: 5}, {X0: 9, Y0: 9, X1: 8, Y1: 8}, {X0: 3}}
	old := slices.Clone(whole)
	r := whole[:2]
	results := regionResults(r)
	impl.IsRegion(r)
	impl.RegionArea(r)
	impl.RegionContains(r, 1, 1)
	impl.RegionBox(r)
	impl.RegionRow(r, 1)
	impl.RegionOf([]impl.Rect{r[1], r[0]})
	for i, result := range results {
		if !slices.Equal(result, r) {
			t.Fatalf("result %d is %v", i, result)
		}
		for j := range result {
			result[j] = impl.Rect{}
		}
		_ = append(result, impl.Rect{X0: 7})
	}
	if !slices.Equal(whole, old) {
		t.Errorf("the argument became %v", whole)
	}
	unsorted := []impl.Rect{whole[1], whole[0], whole[1]}
	impl.RegionOf(unsorted)
	if !slices.Equal(unsorted, []impl.Rect{whole[1], whole[0], whole[1]}) {
		t.Errorf("the unsorted list became %v", unsorted)
	}
}

// TestRegionRowsAreNew overwrites a row before the next call.
func TestRegionRowsAreNew(t *testing.T) {
	r := []impl.Rect{{X0: 0, Y0: 0, X1: 2, Y1: 4}, {X0: 3, Y0: 0, X1: 5, Y1: 4}}
	for y := range int64(4) {
		row := impl.RegionRow(r, y)
		if !slices.Equal(row, []int64{0, 2, 3, 5}) {
			t.Fatalf("row %d: %v", y, row)
		}
		clear(row)
	}
}

func TestChapter3Examples(t *testing.T) {
	tower := []impl.Rect{{X0: 0, Y0: 0, X1: 4, Y1: 2}, {X0: 1, Y0: 2, X1: 2, Y1: 5}}
	if impl.IsRegion([]impl.Rect{{X0: 0, Y0: 0, X1: 2, Y1: 1}, {X0: 0, Y0: 1, X1: 2, Y1: 3}}) || !impl.IsRegion([]impl.Rect{{X0: 0, Y0: 0, X1: 2, Y1: 3}}) {
		t.Error("IsRegion")
	}
	checkRegionOf(t, []impl.Rect{{X0: 0, Y0: 0, X1: 4, Y1: 2}, {X0: 1, Y0: 1, X1: 2, Y1: 5}}, tower)
	if area := impl.RegionArea(tower); area != 11 {
		t.Errorf("RegionArea: %d", area)
	}
	if row := impl.RegionRow([]impl.Rect{{X0: 0, Y0: 0, X1: 2, Y1: 1}, {X0: 3, Y0: 0, X1: 5, Y1: 1}}, 0); !slices.Equal(row, []int64{0, 2, 3, 5}) {
		t.Errorf("RegionRow: %v", row)
	}
	clipped := impl.ClipRegion(tower, impl.Rect{X0: 1, Y0: 1, X1: 3, Y1: 4})
	if !slices.Equal(clipped, []impl.Rect{{X0: 1, Y0: 1, X1: 3, Y1: 2}, {X0: 1, Y0: 2, X1: 2, Y1: 4}}) {
		t.Errorf("ClipRegion: %v", clipped)
	}
	moved, ok := impl.MoveRegion(impl.Transform{Orientation: 1}, tower)
	if !ok || !slices.Equal(moved, []impl.Rect{{X0: -2, Y0: 0, X1: 0, Y1: 1}, {X0: -5, Y0: 1, X1: 0, Y1: 2}, {X0: -2, Y0: 2, X1: 0, Y1: 4}}) {
		t.Errorf("MoveRegion: %v, %v", moved, ok)
	}
}
