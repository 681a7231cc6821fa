package tests

import (
	"fmt"
	"math"
	"math/rand/v2"
	"slices"
	"testing"

	"loop.example/g00890/impl"
)

// vertices takes x and y of each point in turn.
func vertices(numbers ...int64) []impl.Point {
	var p []impl.Point
	for pair := range slices.Chunk(numbers, 2) {
		p = append(p, impl.Point{X: pair[0], Y: pair[1]})
	}
	return p
}

// rotated begins with another vertex.
func rotated(p []impl.Point, first int) []impl.Point {
	return slices.Concat(p[first:], p[:first])
}

func backwards(p []impl.Point) []impl.Point {
	other := slices.Clone(p)
	slices.Reverse(other)
	return other
}

func shifted(p []impl.Point, by impl.Point) []impl.Point {
	return imagesOf(impl.Transform{X: by.X, Y: by.Y}, p)
}

func checkVertices(t *testing.T, what string, got, want []impl.Point) {
	t.Helper()
	if !slices.Equal(got, want) {
		t.Fatalf("%s: %.299v, want %.299v", what, fmt.Sprint(got), fmt.Sprint(want))
	}
}

// validByDefinition follows the words of chapter 8.
func validByDefinition(p []impl.Point) bool {
	if len(p)%2 != 0 || len(p) < 4 || len(p) > 12800 || !onChip(p) {
		return false
	}
	for i, from := range p {
		to, after := p[(i+1)%len(p)], p[(i+2)%len(p)]
		acrossThenUp := from.X != to.X && from.Y == to.Y && to.X == after.X && to.Y != after.Y
		upThenAcross := from.X == to.X && from.Y != to.Y && to.X != after.X && to.Y == after.Y
		if !acrossThenUp && !upThenAcross {
			return false
		}
	}
	return true
}

// sideCounts tells of each unit cell how many vertical sides of a polygon are to its left and span its row, and how many
// more of them lead down than up.
type sideCounts struct {
	sides, down [limit][limit]int64
}

func countSides(p []impl.Point) *sideCounts {
	counts := &sideCounts{}
	for i, from := range p {
		to := p[(i+1)%len(p)]
		if from.X != to.X {
			continue
		}
		for y := min(from.Y, to.Y); y < max(from.Y, to.Y); y++ {
			for x := from.X; x < impl.Extent; x++ {
				counts.sides[y+impl.Extent][x+impl.Extent]++
				counts.down[y+impl.Extent][x+impl.Extent] += sign(from.Y - to.Y)
			}
		}
	}
	return counts
}

func (c *sideCounts) inside() *chipCells {
	cells := &chipCells{}
	for y := range cells {
		for x := range cells[y] {
			cells[y][x] = c.sides[y][x]%2 == 1
		}
	}
	return cells
}

// area adds up how often the polygon runs counterclockwise around each unit cell.
func (c *sideCounts) area() int64 {
	area := int64(0)
	for y := range c.down {
		for _, times := range c.down[y] {
			area += times
		}
	}
	return area
}

// checkPolygon compares a valid polygon with the definition.
func checkPolygon(t *testing.T, p []impl.Point) {
	t.Helper()
	name := fmt.Sprintf("%.199v", fmt.Sprint(p))
	if !impl.IsValidPolygon(p) || !validByDefinition(p) {
		t.Fatalf("%s: valid %v, want %v", name, impl.IsValidPolygon(p), validByDefinition(p))
	}
	counts := countSides(p)
	r, ok := impl.PolygonRegion(p)
	if !ok {
		t.Fatalf("%s has no region", name)
	}
	checkSame(t, "the region of "+name, r, counts.inside().regionByDefinition())
	if got := impl.SignedArea(p); got != counts.area() {
		t.Fatalf("SignedArea(%s) = %d, want %d", name, got, counts.area())
	}
}

// checkInside asks for the unit cells in a box and for two more on each side of it.
func checkInside(t *testing.T, p []impl.Point, box impl.Rect) {
	t.Helper()
	want := countSides(p).inside()
	for y := box.Y0 - 2; y < box.Y1+2; y++ {
		for x := box.X0 - 2; x < box.X1+2; x++ {
			if got := impl.PolygonContains(p, x, y); got != want.has(x, y) {
				t.Fatalf("PolygonContains(%.199v, %d, %d) = %v", fmt.Sprint(p), x, y, got)
			}
		}
	}
}

// checkEveryStart checks a polygon in every rotation of its vertices, in both directions around.
func checkEveryStart(t *testing.T, p []impl.Point) {
	t.Helper()
	r, _ := impl.PolygonRegion(p)
	area := impl.SignedArea(p)
	for first := range p {
		for _, direction := range []int64{1, -1} {
			q := rotated(p, first)
			if direction < 0 {
				slices.Reverse(q)
			}
			checkPolygon(t, q)
			other, _ := impl.PolygonRegion(q)
			checkSame(t, fmt.Sprintf("the regions of %v and %v", p, q), other, r)
			if got := impl.SignedArea(q); got != direction*area {
				t.Fatalf("%v has the area %d and %v the area %d", p, area, q, got)
			}
		}
	}
}

// polygonCase is a polygon with the picture of the unit cells inside, whose corner is (0, 0).
type polygonCase struct {
	name   string
	p      []impl.Point
	inside []string
	area   int64
}

// polygonCases name the ways in which sides meet.
func polygonCases() []polygonCase {
	crossed := []string{"..xx", "..xx", "xx..", "xx.."}
	bothWays := vertices(0, 0, 2, 0, 2, 1, 0, 1, 0, 2, 2, 2, 2, 1, 0, 1)
	return []polygonCase{
		{"a unit cell", vertices(0, 0, 1, 0, 1, 1, 0, 1), []string{"x"}, 1},
		{"clockwise", vertices(0, 2, 3, 2, 3, 0, 0, 0), []string{"xxx", "xxx"}, -6},
		{"beside the corner", vertices(1, 1, 4, 1, 4, 3, 1, 3), []string{".xxx", ".xxx", "...."}, 6},
		{"the first side is vertical", vertices(3, 0, 3, 2, 0, 2, 0, 0), []string{"xxx", "xxx"}, 6},
		{"six vertices", vertices(0, 0, 4, 0, 4, 1, 1, 1, 1, 3, 0, 3), []string{"x", "x", "xxxx"}, 6},
		{"two arms", vertices(0, 0, 5, 0, 5, 3, 3, 3, 3, 1, 2, 1, 2, 3, 0, 3), []string{"xx.xx", "xx.xx", "xxxxx"}, 13},
		{"two lying arms", vertices(0, 0, 3, 0, 3, 1, 1, 1, 1, 2, 3, 2, 3, 3, 0, 3), []string{"xxx", "x..", "xxx"}, 7},
		{"a notch down to the lowest side", vertices(0, 0, 5, 0, 5, 3, 3, 3, 3, 0, 2, 0, 2, 3, 0, 3), []string{"xx.xx", "xx.xx", "xx.xx"}, 12},
		{"sides that cross", vertices(0, 0, 2, 0, 2, 4, 4, 4, 4, 2, 0, 2), crossed, 0},
		{"through a vertex twice", vertices(0, 0, 2, 0, 2, 2, 4, 2, 4, 4, 2, 4, 2, 2, 0, 2), crossed, 8},
		{"a crossing and twice around", vertices(0, 0, 6, 0, 6, 4, 3, 4, 3, 1, 5, 1, 5, 3, 2, 3, 2, 4, 0, 4), []string{"xx.xxx", "xxx..x", "xxx..x", "xxxxxx"}, 27},
		{"vertical sides that lie on each other", vertices(0, 0, 2, 0, 2, 3, 4, 3, 4, 1, 2, 1, 2, 4, 0, 4), []string{"xx..", "xxxx", "xxxx", "xx.."}, 4},
		{"horizontal sides that lie on each other", vertices(0, 0, 0, 2, 3, 2, 3, 4, 1, 4, 1, 2, 4, 2, 4, 0), []string{".xx.", ".xx.", "xxxx", "xxxx"}, -4},
		{"a slit to a hole", vertices(0, 0, 4, 0, 4, 3, 2, 3, 2, 1, 1, 1, 1, 2, 2, 2, 2, 3, 0, 3), []string{"xxxx", "x.xx", "xxxx"}, 11},
		{"twice around", vertices(0, 0, 4, 0, 4, 3, 1, 3, 1, 1, 3, 1, 3, 4, 0, 4), []string{"xxx.", "x..x", "x..x", "xxxx"}, 19},
		{"twice along the same sides", vertices(0, 0, 3, 0, 3, 2, 0, 2, 0, 0, 3, 0, 3, 2, 0, 2), nil, 12},
		{"three times along the same sides", slices.Repeat(vertices(0, 0, 2, 0, 2, 1, 0, 1), 3), []string{"xx"}, 6},
		{"twice along one side", vertices(0, 0, 3, 0, 3, 1, 0, 1, 0, 0, 1, 0, 1, 1, 0, 1), []string{".xx"}, 4},
		{"one rectangle each way", bothWays, []string{"xx", "xx"}, 0},
		{"nothing inside and no area", append(bothWays, bothWays...), nil, 0},
	}
}

func TestPolygonsByHand(t *testing.T) {
	for _, c := range polygonCases() {
		t.Run(c.name, func(t *testing.T) {
			for i, corner := range picturePlaces() {
				p := shifted(c.p, corner)
				r, ok := impl.PolygonRegion(p)
				if area := impl.SignedArea(p); !ok || area != c.area {
					t.Fatalf("%v: %v, the area %d", p, ok, area)
				}
				checkSame(t, "inside", r, picture(corner, c.inside...))
				if checkPolygon(t, p); i < 4 {
					checkInside(t, p, impl.Rect{X0: corner.X, Y0: corner.Y, X1: corner.X + 6, Y1: corner.Y + 6})
					checkEveryStart(t, p)
				}
			}
		})
	}
}

// cyclicSequences returns the sequences in which no value is next to itself, nor the last one equal to the first one.
func cyclicSequences(values []int64, length int) [][]int64 {
	sequences := [][]int64{nil}
	for range length {
		var longer [][]int64
		for _, s := range sequences {
			for _, value := range values {
				if len(s) == 0 || s[len(s)-1] != value {
					longer = append(longer, append(slices.Clone(s), value))
				}
			}
		}
		sequences = longer
	}
	return slices.DeleteFunc(sequences, func(s []int64) bool { return s[0] == s[len(s)-1] })
}

// polygonThrough goes across to each x and up or down to each y in turn.
func polygonThrough(xs, ys []int64) []impl.Point {
	var p []impl.Point
	for i, x := range xs {
		p = append(p, impl.Point{X: x, Y: ys[i]}, impl.Point{X: xs[(i+1)%len(xs)], Y: ys[i]})
	}
	return p
}

// gridPolygons returns all polygons with this number of vertices on a grid of lines.
func gridPolygons(xs, ys []int64, count int) [][]impl.Point {
	var polygons [][]impl.Point
	for _, across := range cyclicSequences(xs, count/2) {
		for _, up := range cyclicSequences(ys, count/2) {
			p := polygonThrough(across, up)
			polygons = append(polygons, p, rotated(p, 1))
		}
	}
	return polygons
}

// TestEverySmallPolygon goes through all polygons on nine points: they cross, touch and lie on themselves in every way.
func TestEverySmallPolygon(t *testing.T) {
	numbers := map[int]int{4: 72, 6: 72, 8: 648, 10: 1800}
	for count, want := range numbers {
		polygons := gridPolygons([]int64{22, 23, 25}, []int64{-1, 1, 2}, count)
		if len(polygons) != want {
			t.Fatalf("%d polygons with %d vertices, want %d", len(polygons), count, want)
		}
		for _, p := range polygons {
			checkPolygon(t, p)
			if count < 8 {
				checkInside(t, p, impl.Rect{X0: 22, Y0: -1, X1: 25, Y1: 2})
			}
		}
	}
	for _, p := range gridPolygons([]int64{-40, -39, 40}, []int64{-40, 39, 40}, 8) {
		checkPolygon(t, p)
	}
}

// TestPolygonsAroundTheChip asks for every unit cell at the border and beside the chip.
func TestPolygonsAroundTheChip(t *testing.T) {
	for _, p := range [][]impl.Point{
		vertices(-40, -40, 40, -40, 40, 40, -40, 40),
		vertices(-39, -39, 39, -39, 39, 39, -39, 39),
		vertices(-40, 40, 40, 40, 40, -40, 39, -40, 39, 39, -40, 39),
		vertices(-40, -40, -39, -40, -39, 40, 40, 40, 40, 39, -40, 39),
		vertices(-40, 0, 40, 0, 40, 40, 0, 40, 0, -40, -40, -40),
	} {
		checkEveryStart(t, p)
		checkInside(t, p, wholeChip()[0])
		for _, n := range append([]int64{1 << 32, -1 << 32, 1<<32 + 1, math.MaxInt64 - 1, math.MinInt64 + 1, 1 << 62}, outside...) {
			for _, cell := range vertices(n, 0, 0, n, n, n, -40, n, n, 39, 39, n, n, -40) {
				if impl.PolygonContains(p, cell.X, cell.Y) {
					t.Errorf("PolygonContains(%v, %v)", p, cell)
				}
			}
		}
	}
	r, ok := impl.PolygonRegion(vertices(-40, -40, 40, -40, 40, 40, -40, 40))
	if !ok {
		t.Error("the chip has no region")
	}
	checkSame(t, "around the chip", r, wholeChip())
}

// randomPolygon has its vertices in a box; they are the same ones for the same seed.
func randomPolygon(seed uint64, count int, box impl.Rect) []impl.Point {
	random := rand.New(rand.NewPCG(seed, 8))
	sequence := func(low, high int64) []int64 {
		var s []int64
		for len(s) < count/2 {
			n := low + random.Int64N(high-low+1)
			isLast := len(s) == count/2-1
			if len(s) == 0 || n != s[len(s)-1] && !(isLast && n == s[0]) {
				s = append(s, n)
			}
		}
		return s
	}
	return polygonThrough(sequence(box.X0, box.X1), sequence(box.Y0, box.Y1))
}

func TestRandomPolygons(t *testing.T) {
	for seed := range uint64(40) {
		for _, count := range []int{4, 6, 8, 12, 50, 300} {
			checkPolygon(t, randomPolygon(seed, count, wholeChip()[0]))
			checkPolygon(t, randomPolygon(seed, count, impl.Rect{X0: 20, Y0: 34, X1: 27, Y1: 40}))
		}
	}
	for seed := range uint64(4) {
		checkInside(t, randomPolygon(seed, 30, wholeChip()[0]), wholeChip()[0])
	}
}

// manyVertices has this number of vertices, which is even, from 12 on: it goes around a unit cell again and again and
// ends, where four do not divide the number, with six vertices around three unit cells more.
func manyVertices(count int) []impl.Point {
	cell := vertices(-40, -40, -39, -40, -39, -39, -40, -39)
	p := slices.Repeat(cell, count/4)
	if count%4 == 2 {
		p = append(p[4:], vertices(-40, -40, -38, -40, -38, -39, -39, -39, -39, -38, -40, -38)...)
	}
	return p
}

func TestPolygonsOfMaxVertices(t *testing.T) {
	if impl.MaxVertices != 12800 {
		t.Fatalf("MaxVertices = %d", impl.MaxVertices)
	}
	for _, count := range []int{12, 14, impl.MaxVertices - 4, impl.MaxVertices - 2, impl.MaxVertices} {
		p := manyVertices(count)
		if len(p) != count {
			t.Fatalf("%d vertices, want %d", len(p), count)
		}
		checkPolygon(t, p)
		checkPolygon(t, backwards(p))
		if count%4 == 0 && impl.SignedArea(p) != int64(count)/4 {
			t.Errorf("SignedArea = %d", impl.SignedArea(p))
		}
		if !impl.SamePolygon(p, rotated(p, 5)) {
			t.Errorf("%d vertices are not the same polygon", count)
		}
	}
	checkPolygon(t, randomPolygon(1, impl.MaxVertices, wholeChip()[0]))
	for _, count := range []int{impl.MaxVertices + 2, impl.MaxVertices + 4, 2 * impl.MaxVertices} {
		checkNoPolygon(t, manyVertices(count))
		checkNoPolygon(t, randomPolygon(2, count, wholeChip()[0]))
	}
	checkNoPolygon(t, manyVertices(impl.MaxVertices)[1:])
	checkNoPolygon(t, append(manyVertices(impl.MaxVertices), impl.Point{X: -40, Y: -40}))
}

// checkNoPolygon asks every function. Where the list is on the chip, the transforms keep it there.
func checkNoPolygon(t *testing.T, p []impl.Point) {
	t.Helper()
	name := fmt.Sprintf("%.199v", fmt.Sprint(p))
	if impl.IsValidPolygon(p) {
		t.Fatalf("%s is valid", name)
	}
	for _, cell := range append(vertices(0, 0, 1, 1, -40, -40, 39, 39, math.MaxInt64, math.MinInt64), p[:min(len(p), 8)]...) {
		if impl.PolygonContains(p, cell.X, cell.Y) {
			t.Fatalf("%s contains %v", name, cell)
		}
	}
	if r, ok := impl.PolygonRegion(p); ok || r != nil {
		t.Fatalf("%s has the region %v, %v", name, r, ok)
	}
	if area := impl.SignedArea(p); area != 0 {
		t.Fatalf("%s has the area %d", name, area)
	}
	for o := range int64(9) {
		if image, ok := impl.MovePolygon(impl.Transform{Orientation: o}, p); ok || image != nil {
			t.Fatalf("%s in orientation %d: %v, %v", name, o, image, ok)
		}
	}
	square := vertices(0, 0, 3, 0, 3, 2, 0, 2)
	if impl.SamePolygon(p, p) || impl.SamePolygon(p, square) || impl.SamePolygon(square, p) {
		t.Fatalf("%s is the same as itself or a square", name)
	}
}

// invalidPolygons holds lists that miss one condition each.
func invalidPolygons() [][]impl.Point {
	list := [][]impl.Point{
		nil, {}, vertices(0, 0), vertices(0, 0, 0, 0), vertices(0, 0, 3, 0), vertices(0, 0, 0, 3),
		vertices(0, 0, 3, 0, 3, 2), vertices(0, 0, 3, 0, 0, 0), vertices(0, 0, 3, 0, 3, 2, 0, 2, 0, 1), vertices(0, 0, 3, 0, 3, 2, 0, 2, 0, 0),
		slices.Repeat(vertices(0, 0), 4), slices.Repeat(vertices(0, 0, 3, 0), 2), slices.Repeat(vertices(0, 0, 0, 3), 2), vertices(0, 0, 0, 0, 3, 2, 3, 2),
		vertices(0, 0, 3, 0, 3, 0, 0, 0), vertices(0, 0, 3, 0, 3, 0, 3, 2, 0, 2, 0, 2), vertices(0, 0, 3, 0, 3, 2, 3, 2, 0, 2, 0, 2),
		vertices(0, 0, 3, 0, 3, 2, 0, 2, 0, 2, 0, 0), vertices(0, 0, 0, 0, 3, 0, 3, 2, 3, 2, 0, 2),
		vertices(0, 0, 1, 0, 3, 0, 3, 2, 1, 2, 0, 2), vertices(0, 0, 1, 0, 2, 0, 3, 0, 3, 2, 0, 2), vertices(0, 0, 3, 0, 3, 1, 3, 2, 0, 2, 0, 1),
		vertices(0, 0, 5, 0, 3, 0, 3, 2, -1, 2, 0, 2), vertices(0, 0, 3, 0, 3, 5, 3, 2, 0, 2, 0, -1), vertices(0, 0, 1, 0, 2, 0, 3, 0),
		vertices(0, 0, 3, 0, 3, 2, 1, 2), vertices(0, 0, 3, 1, 3, 2, 0, 2), vertices(0, 0, 3, 3, 0, 3, 3, 0), vertices(0, 0, 1, 1, 0, 2, -1, 1),
		vertices(0, 0, 3, 0, 4, 2, 1, 2), vertices(0, 0, 3, 0, 3, 2, 1, 3, 0, 3, 0, 1), vertices(0, 0, 1, 1, 3, 1, 3, 2, 0, 2, 0, 1),
		vertices(0, 0, 41, 0, 41, 2, 0, 2), vertices(-41, 0, 3, 0, 3, 2, -41, 2), vertices(0, 0, 3, 0, 3, 41, 0, 41), vertices(0, -41, 3, -41, 3, 2, 0, 2),
		vertices(40, 40, 41, 40, 41, 41, 40, 41), vertices(-41, -41, -40, -41, -40, -40, -41, -40), vertices(-41, -41, 41, -41, 41, 41, -41, 41),
	}
	for _, n := range append([]int64{41, -41, 1 << 32, -1 << 32, 1<<32 + 3, 1 << 62}, outside...) {
		list = append(list,
			vertices(0, 0, n, 0, n, 2, 0, 2), vertices(n, 0, 3, 0, 3, 2, n, 2), vertices(0, 0, 3, 0, 3, n, 0, n), vertices(0, n, 3, n, 3, 2, 0, 2),
			vertices(0, 0, 3, 0, 3, 2, n, 2), vertices(0, 0, 3, 0, 3, n, 0, 2), vertices(0, 0, n, n, 3, 2, 0, 2),
			vertices(n, n, n+1, n, n+1, n+1, n, n+1), vertices(-n, n, n, n, n, -n, -n, -n), slices.Repeat(vertices(n, n), 4))
	}
	return list
}

func TestInvalidPolygonsAreRejected(t *testing.T) {
	for _, bad := range invalidPolygons() {
		checkNoPolygon(t, bad)
		for first := range bad {
			checkNoPolygon(t, rotated(bad, first))
			checkNoPolygon(t, backwards(rotated(bad, first)))
		}
	}
}

// checkLists goes through all lists of points on a grid of lines.
func checkLists(t *testing.T, xs, ys []int64, count int) (valid int) {
	t.Helper()
	p := make([]impl.Point, count)
	var choose func(n int)
	choose = func(n int) {
		if n == count {
			want := validByDefinition(p)
			if got := impl.IsValidPolygon(p); got != want {
				t.Fatalf("IsValidPolygon(%v) = %v", p, got)
			}
			if want {
				valid++
			}
			return
		}
		for _, x := range xs {
			for _, y := range ys {
				p[n] = impl.Point{X: x, Y: y}
				choose(n + 1)
			}
		}
	}
	choose(0)
	return valid
}

// TestValidityOfAllLists counts the valid lists as well.
func TestValidityOfAllLists(t *testing.T) {
	for count, want := range []int{0, 0, 0, 0, 72, 0, 72} {
		if valid := checkLists(t, []int64{-3, 0, 1}, []int64{4, 5, 7}, count); valid != want {
			t.Errorf("%d lists of %d points are valid, want %d", valid, count, want)
		}
	}
	for count, want := range []int{0, 0, 0, 0, 8, 0, 0, 0, 8} {
		if valid := checkLists(t, []int64{-40, 40}, []int64{-40, 40}, count); valid != want {
			t.Errorf("%d lists of %d points in the corners are valid, want %d", valid, count, want)
		}
	}
	if valid := checkLists(t, []int64{-41, -40, 40, 41}, []int64{-41, -40, 40, 41}, 4); valid != 8 {
		t.Errorf("%d lists of points at the border are valid", valid)
	}
	for _, n := range outside {
		checkLists(t, []int64{0, 3, n}, []int64{0, n, 1}, 4)
	}
}

// turns returns the sides that may follow one: to the left, straight on and to the right.
func turns(side impl.Edge) []impl.Edge {
	dx, dy := side.X1-side.X0, side.Y1-side.Y0
	var next []impl.Edge
	for _, step := range vertices(-dy, dx, dx, dy, dy, -dx) {
		next = append(next, edge(side.X1, side.Y1, side.X1+step.X, side.Y1+step.Y))
	}
	return next
}

// loopOf follows the sides of unit cells from one side on and begins with the lowest vertex, the leftmost one of several.
func loopOf(sides map[impl.Edge]bool, first impl.Edge) (loop []impl.Point, followed []impl.Edge) {
	lowest := 0
	for side := first; len(followed) == 0 || side != first; {
		followed = append(followed, side)
		choice := turns(side)
		next := slices.IndexFunc(choice, func(e impl.Edge) bool { return sides[e] })
		if next != 1 {
			loop = append(loop, impl.Point{X: side.X1, Y: side.Y1})
			if comparePoints(loop[len(loop)-1], loop[lowest]) < 0 {
				lowest = len(loop) - 1
			}
		}
		side = choice[next]
	}
	return rotated(loop, lowest), followed
}

func comparePoints(a, b impl.Point) int {
	return slices.Compare([]int64{a.Y, a.X}, []int64{b.Y, b.X})
}

func compareLoops(a, b []impl.Point) int {
	return comparePoints(a[0], b[0])
}

// loopsByDefinition follows the words of chapter 8 along the sides of unit cells.
func (c *chipCells) loopsByDefinition() [][]impl.Point {
	sides := c.sidesByDefinition()
	seen := map[impl.Edge]bool{}
	var loops [][]impl.Point
	for side := range sides {
		if !seen[side] {
			loop, followed := loopOf(sides, side)
			loops = append(loops, loop)
			for _, e := range followed {
				seen[e] = true
			}
		}
	}
	slices.SortFunc(loops, compareLoops)
	return loops
}

func checkLoopList(t *testing.T, what string, got, want [][]impl.Point) {
	t.Helper()
	if !slices.EqualFunc(got, want, slices.Equal) {
		t.Fatalf("%s: %.499v, want %.499v", what, fmt.Sprint(got), fmt.Sprint(want))
	}
}

// checkLoops compares the polygons of a region with the definition.
func checkLoops(t *testing.T, r []impl.Rect) {
	t.Helper()
	name := fmt.Sprintf("%.199v", fmt.Sprint(r))
	polygons := impl.RegionPolygons(r)
	checkLoopList(t, "the polygons of "+name, polygons, paint(r...).loopsByDefinition())
	checkLoopEdges(t, r, polygons)
	checkPromise8(t, r, polygons)
}

// checkLoopEdges checks that each boundary edge is a side of one polygon, and that the first vertices are in their order.
func checkLoopEdges(t *testing.T, r []impl.Rect, polygons [][]impl.Point) {
	t.Helper()
	var sides []impl.Edge
	for i, p := range polygons {
		if i > 0 && compareLoops(polygons[i-1], p) >= 0 {
			t.Fatalf("the polygon %.99v comes after %.99v", fmt.Sprint(p), fmt.Sprint(polygons[i-1]))
		}
		for n, vertex := range p {
			if n > 0 && comparePoints(p[0], vertex) >= 0 {
				t.Fatalf("%v comes before the first vertex of %.99v", vertex, fmt.Sprint(p))
			}
			next := p[(n+1)%len(p)]
			sides = append(sides, edge(vertex.X, vertex.Y, next.X, next.Y))
		}
	}
	slices.SortFunc(sides, compareEdges)
	checkEdgeList(t, fmt.Sprintf("the sides of the polygons of %.99v", fmt.Sprint(r)), sides, impl.BoundaryEdges(r))
}

// checkPromise8 also counts: each component and each hole has one polygon around it, in the direction of its sign.
func checkPromise8(t *testing.T, r []impl.Rect, polygons [][]impl.Point) {
	t.Helper()
	name := fmt.Sprintf("%.199v", fmt.Sprint(r))
	var difference []impl.Rect
	var area, around, reversed int64
	for _, p := range polygons {
		inside, ok := impl.PolygonRegion(p)
		if !ok || !impl.IsValidPolygon(p) {
			t.Fatalf("%s has the polygon %.199v", name, fmt.Sprint(p))
		}
		difference = impl.SymmetricDifference(difference, inside)
		signed := impl.SignedArea(p)
		area += signed
		if signed > 0 {
			around++
		} else if signed < 0 {
			reversed++
		}
	}
	checkSame(t, "the symmetric difference of the polygons of "+name, difference, r)
	if area != impl.RegionArea(r) {
		t.Fatalf("the polygons of %s have the area %d, want %d", name, area, impl.RegionArea(r))
	}
	if holes := int64(len(impl.Holes(r))); around != impl.ComponentCount(r) || reversed != holes {
		t.Fatalf("%s has %d components, %d holes, %d polygons around components and %d around holes", name, impl.ComponentCount(r), holes, around, reversed)
	}
}

// loopCase is the picture of a region with its polygons; the corner of the picture is (0, 0).
type loopCase struct {
	name  string
	rows  []string
	loops [][]impl.Point
}

func square(x, y int64) []impl.Point {
	return vertices(x, y, x+1, y, x+1, y+1, x, y+1)
}

// loopCases name the ways in which loops run and touch.
func loopCases() []loopCase {
	outer := vertices(0, 0, 5, 0, 5, 5, 0, 5)
	return []loopCase{
		{"nothing", nil, nil},
		{"a unit cell", []string{"x"}, [][]impl.Point{square(0, 0)}},
		{"a rectangle", []string{"xxx", "xxx"}, [][]impl.Point{vertices(0, 0, 3, 0, 3, 2, 0, 2)}},
		{"six vertices", []string{"x...", "x...", "xxxx"}, [][]impl.Point{vertices(0, 0, 4, 0, 4, 1, 1, 1, 1, 3, 0, 3)}},
		{"the lowest vertex is not the leftmost one", []string{"xx", ".x"}, [][]impl.Point{vertices(1, 0, 2, 0, 2, 2, 0, 2, 0, 1, 1, 1)}},
		{"two lowest vertices", []string{"xxx", "x.x"}, [][]impl.Point{vertices(0, 0, 1, 0, 1, 1, 2, 1, 2, 0, 3, 0, 3, 2, 0, 2)}},
		{"the right foot is lower", []string{"xxx", "x.x", "..x"}, [][]impl.Point{vertices(2, 0, 3, 0, 3, 3, 0, 3, 0, 1, 1, 1, 1, 2, 2, 2)}},
		{"beside each other", []string{"x.x"}, [][]impl.Point{square(0, 0), square(2, 0)}},
		{"the lower one first", []string{"x..", "..x"}, [][]impl.Point{square(2, 0), square(0, 1)}},
		{"touching at a rising corner", []string{".x", "x."}, [][]impl.Point{square(0, 0), square(1, 1)}},
		{"touching at a falling corner", []string{"x.", ".x"}, [][]impl.Point{square(1, 0), square(0, 1)}},
		{"four that touch", []string{".x.", "x.x", ".x."}, [][]impl.Point{square(1, 0), square(0, 1), square(2, 1), square(1, 2)}},
		{"a hole", []string{"xxx", "x.x", "xxx"}, [][]impl.Point{vertices(0, 0, 3, 0, 3, 3, 0, 3), vertices(1, 1, 1, 2, 2, 2, 2, 1)}},
		{"a hole of six vertices", []string{"xxxx", "x.xx", "x..x", "xxxx"},
			[][]impl.Point{vertices(0, 0, 4, 0, 4, 4, 0, 4), vertices(1, 1, 1, 3, 2, 3, 2, 2, 3, 2, 3, 1)}},
		{"two holes", []string{"xxxxx", "x.x.x", "xxxxx"},
			[][]impl.Point{vertices(0, 0, 5, 0, 5, 3, 0, 3), vertices(1, 1, 1, 2, 2, 2, 2, 1), vertices(3, 1, 3, 2, 4, 2, 4, 1)}},
		{"holes that touch at a rising corner", []string{"xxxx", "xx.x", "x.xx", "xxxx"},
			[][]impl.Point{vertices(0, 0, 4, 0, 4, 4, 0, 4), vertices(1, 1, 1, 2, 2, 2, 2, 3, 3, 3, 3, 2, 2, 2, 2, 1)}},
		{"holes that touch at a falling corner", []string{"xxxx", "x.xx", "xx.x", "xxxx"},
			[][]impl.Point{vertices(0, 0, 4, 0, 4, 4, 0, 4), vertices(2, 1, 2, 2, 1, 2, 1, 3, 2, 3, 2, 2, 3, 2, 3, 1)}},
		{"open at a corner only", []string{"xxx", "x.x", "xx."}, [][]impl.Point{vertices(0, 0, 2, 0, 2, 1, 1, 1, 1, 2, 2, 2, 2, 1, 3, 1, 3, 3, 0, 3)}},
		{"two halves that touch at both ends", []string{"xx.", "x.x", ".xx"},
			[][]impl.Point{vertices(1, 0, 3, 0, 3, 2, 2, 2, 2, 1, 1, 1), vertices(0, 1, 1, 1, 1, 2, 2, 2, 2, 3, 0, 3)}},
		{"a part in a hole", []string{"xxxxx", "x...x", "x.x.x", "x...x", "xxxxx"}, [][]impl.Point{outer, vertices(1, 1, 1, 4, 4, 4, 4, 1), square(2, 2)}},
		{"a part in a hole touches its side", []string{"xxxxx", "x...x", "x.x.x", "xx..x", "xxxxx"},
			[][]impl.Point{outer, vertices(2, 1, 2, 2, 1, 2, 1, 4, 4, 4, 4, 1), square(2, 2)}},
		{"a hole touches itself", []string{"xxxx", "x..x", "xx.x", "x.xx", "xxxx"},
			[][]impl.Point{vertices(0, 0, 4, 0, 4, 5, 0, 5), vertices(1, 1, 1, 2, 2, 2, 2, 3, 1, 3, 1, 4, 3, 4, 3, 2, 2, 2, 2, 1)}},
		{"a hole in a part in a hole", []string{"xxxxxxx", "x.....x", "x.xxx.x", "x.x.x.x", "x.xxx.x", "x.....x", "xxxxxxx"},
			[][]impl.Point{vertices(0, 0, 7, 0, 7, 7, 0, 7), vertices(1, 1, 1, 6, 6, 6, 6, 1), vertices(2, 2, 5, 2, 5, 5, 2, 5), vertices(3, 3, 3, 4, 4, 4, 4, 3)}},
	}
}

func TestLoopsByHand(t *testing.T) {
	for _, c := range loopCases() {
		t.Run(c.name, func(t *testing.T) {
			for _, corner := range picturePlaces() {
				r := picture(corner, c.rows...)
				var loops [][]impl.Point
				for _, loop := range c.loops {
					loops = append(loops, shifted(loop, corner))
				}
				checkLoopList(t, "the polygons", impl.RegionPolygons(r), loops)
				checkLoops(t, r)
			}
		})
	}
	around := vertices(-40, -40, 40, -40, 40, 40, -40, 40)
	checkLoopList(t, "the chip", impl.RegionPolygons(wholeChip()), [][]impl.Point{around})
	inner := vertices(-39, -39, -39, 39, 39, 39, 39, -39)
	frame := impl.Complement([]impl.Rect{{X0: -39, Y0: -39, X1: 39, Y1: 39}})
	checkLoopList(t, "a frame", impl.RegionPolygons(frame), [][]impl.Point{around, inner})
}

func TestLoopsOfSmallSets(t *testing.T) {
	for i, corner := range chipPlaces() {
		sets := setsOfCells(corner, 3, 3)
		if i < 2 {
			sets = setsOfCells(corner, 4, 3)
		}
		for _, r := range sets {
			checkLoops(t, r)
		}
		for _, r := range setsOfCells(impl.Point{X: corner.X + 1, Y: corner.Y + 2}, 3, 2) {
			checkLoops(t, impl.Complement(r))
		}
	}
}

// TestLoopsInFrames has each set of nine unit cells within a frame, of which one unit cell in a corner or at a side is
// left out.
func TestLoopsInFrames(t *testing.T) {
	frame := []impl.Rect{{X0: 21, Y0: 0, X1: 26, Y1: 5}}
	inner := []impl.Rect{{X0: 22, Y0: 1, X1: 25, Y1: 4}}
	sets := setsOfCells(impl.Point{X: 22, Y: 1}, 3, 3)
	for _, p := range vertices(23, 2, 21, 0, 25, 0, 21, 4, 25, 4, 22, 0, 25, 1, 23, 4, 21, 3) {
		around := impl.Difference(frame, impl.Union(inner, []impl.Rect{unitRect(p)}))
		for _, r := range sets {
			checkLoops(t, impl.Union(around, r))
		}
	}
}

func TestEveryUnitCellHasOnePolygon(t *testing.T) {
	for _, p := range paint(wholeChip()...).points() {
		r := []impl.Rect{unitRect(p)}
		checkLoopList(t, "a unit cell", impl.RegionPolygons(r), [][]impl.Point{square(p.X, p.Y)})
		back, ok := impl.PolygonRegion(square(p.X, p.Y))
		if !ok || !impl.PolygonContains(square(p.X, p.Y), p.X, p.Y) {
			t.Fatalf("%v is not inside its polygon", p)
		}
		checkSame(t, "the unit cell", back, r)
	}
}

func TestLoopsOfTheWholeChip(t *testing.T) {
	for _, c := range chipPatterns() {
		t.Run(c.name, func(t *testing.T) {
			for _, o := range []int64{0, 5} {
				turned, _ := impl.MoveRegion(impl.Transform{Orientation: o}, c.r)
				checkLoops(t, turned)
				checkLoops(t, impl.Complement(turned))
			}
		})
	}
}

func TestLoopsOfSampleRegions(t *testing.T) {
	for _, r := range partRegions() {
		checkLoops(t, r)
		checkLoops(t, impl.Complement(r))
	}
}

// checkMovePolygon compares the image of a valid polygon under a valid transform with the images of its vertices.
func checkMovePolygon(t *testing.T, u impl.Transform, p []impl.Point) {
	t.Helper()
	want := imagesOf(u, p)
	if u.Orientation >= 4 {
		slices.Reverse(want)
	}
	fits := onChip(want)
	if !fits {
		want = nil
	}
	image, ok := impl.MovePolygon(u, p)
	if ok != fits || !slices.Equal(image, want) {
		t.Fatalf("MovePolygon(%v, %.199v) = %.199v, %v, want %.199v, %v", u, fmt.Sprint(p), fmt.Sprint(image), ok, fmt.Sprint(want), fits)
	}
	if !ok {
		return
	}
	if impl.SignedArea(image) != impl.SignedArea(p) {
		t.Fatalf("%.199v has the area %d and %d under %v", fmt.Sprint(p), impl.SignedArea(p), impl.SignedArea(image), u)
	}
	inside, _ := impl.PolygonRegion(p)
	moved, _ := impl.MoveRegion(u, inside)
	insideImage, _ := impl.PolygonRegion(image)
	checkSame(t, fmt.Sprintf("inside %.199v under %v", fmt.Sprint(p), u), insideImage, moved)
}

// samplePolygons holds polygons of all kinds.
func samplePolygons() [][]impl.Point {
	list := [][]impl.Point{vertices(-40, -40, 40, -40, 40, 40, -40, 40), vertices(40, -40, 40, -39, -40, -39, -40, -40)}
	for _, c := range polygonCases() {
		list = append(list, c.p)
	}
	for seed := range uint64(6) {
		list = append(list, randomPolygon(seed, 30, wholeChip()[0]), randomPolygon(seed, 8, impl.Rect{X0: -4, Y0: 2, X1: 5, Y1: 8}))
	}
	return list
}

func TestMovePolygonMovesTheVertices(t *testing.T) {
	for _, p := range samplePolygons() {
		for _, u := range append(sampleTransforms(), pairTransforms()...) {
			checkMovePolygon(t, u, p)
		}
	}
}

// TestMovePolygonKeepsTheDirection has the images in their order for each orientation.
func TestMovePolygonKeepsTheDirection(t *testing.T) {
	p := vertices(0, 0, 3, 0, 3, 2, 0, 2)
	for o, want := range [][]impl.Point{
		vertices(0, 0, 3, 0, 3, 2, 0, 2), vertices(0, 0, 0, 3, -2, 3, -2, 0), vertices(0, 0, -3, 0, -3, -2, 0, -2), vertices(0, 0, 0, -3, 2, -3, 2, 0),
		vertices(0, -2, 3, -2, 3, 0, 0, 0), vertices(2, 0, 2, 3, 0, 3, 0, 0), vertices(0, 2, -3, 2, -3, 0, 0, 0), vertices(-2, 0, -2, -3, 0, -3, 0, 0),
	} {
		got, ok := impl.MovePolygon(impl.Transform{Orientation: int64(o), X: 5, Y: -7}, p)
		if !ok || impl.SignedArea(got) != 6 {
			t.Fatalf("orientation %d: %v, the area %d", o, ok, impl.SignedArea(got))
		}
		checkVertices(t, fmt.Sprintf("orientation %d", o), got, shifted(want, impl.Point{X: 5, Y: -7}))
	}
}

// TestMovePolygonAtTheBorder moves polygons up to, onto and over each border in every orientation.
func TestMovePolygonAtTheBorder(t *testing.T) {
	for o := range int64(8) {
		onBorder := 0
		for n := int64(-limit); n <= limit; n++ {
			for _, p := range [][]impl.Point{vertices(-2, 3, 5, 3, 5, 4, -2, 4), vertices(1, -1, 1, 6, 0, 6, 0, 1, -1, 1, -1, -1)} {
				for _, u := range []impl.Transform{{Orientation: o, X: n}, {Orientation: o, Y: n}, {Orientation: o, X: n, Y: n}, {Orientation: o, X: -n, Y: n}} {
					checkMovePolygon(t, u, p)
					image, ok := impl.MovePolygon(u, p)
					if ok && slices.ContainsFunc(image, func(q impl.Point) bool { return max(q.X, q.Y, -q.X, -q.Y) == impl.Extent }) {
						onBorder++
					}
				}
			}
		}
		if onBorder < 16 {
			t.Errorf("orientation %d: %d images are on the border", o, onBorder)
		}
	}
}

func TestMovePolygonRejectsTransforms(t *testing.T) {
	for _, u := range invalidTransforms() {
		for _, p := range samplePolygons() {
			if image, ok := impl.MovePolygon(u, p); ok || image != nil {
				t.Errorf("MovePolygon(%v, %v) = %v, %v", u, p, image, ok)
			}
		}
	}
	// Moved back onto the chip, these lists would be polygons.
	for _, bad := range [][]impl.Point{vertices(0, 0, 41, 0, 41, 2, 0, 2), vertices(-41, -5, -40, -5, -40, 2, -41, 2), vertices(3, 41, 3, 45, 7, 45, 7, 41)} {
		for _, u := range append(pairTransforms(), impl.Transform{X: -1}, impl.Transform{X: 1}, impl.Transform{Y: -5}, impl.Transform{X: -limit}) {
			if image, ok := impl.MovePolygon(u, bad); ok || image != nil {
				t.Errorf("MovePolygon(%v, %v) = %v, %v", u, bad, image, ok)
			}
		}
	}
}

// TestPolygonsMoveWithTheRegion moves polygons one by one and sorts them again. Each begins with another vertex.
func TestPolygonsMoveWithTheRegion(t *testing.T) {
	for _, r := range fewComponents(partRegions()) {
		for _, u := range pairTransforms() {
			image, fits := impl.MoveRegion(u, r)
			polygons := impl.RegionPolygons(image)
			matched := 0
			for _, p := range impl.RegionPolygons(r) {
				moved, ok := impl.MovePolygon(u, p)
				if fits && !ok {
					t.Fatalf("%.99v stays on the chip under %v and its polygon %.99v does not", fmt.Sprint(r), u, fmt.Sprint(p))
				}
				if slices.ContainsFunc(polygons, func(q []impl.Point) bool { return impl.SamePolygon(moved, q) }) {
					matched++
				}
			}
			if matched != len(polygons) {
				t.Fatalf("%.99v under %v has %d polygons, of which %d were moved", fmt.Sprint(r), u, len(polygons), matched)
			}
		}
	}
}

func sameByDefinition(p, q []impl.Point) bool {
	for first := range q {
		if slices.Equal(rotated(q, first), p) {
			return true
		}
	}
	return false
}

// TestSamePolygonOfAllPairs compares all small polygons, some of which run along the same sides in another order.
func TestSamePolygonOfAllPairs(t *testing.T) {
	var polygons [][]impl.Point
	for _, count := range []int{4, 6, 8} {
		polygons = append(polygons, gridPolygons([]int64{-1, 0, 2}, []int64{3, 4, 6}, count)...)
	}
	same := map[int]int{}
	for _, p := range polygons {
		for _, q := range polygons {
			got := impl.SamePolygon(p, q)
			if got != sameByDefinition(p, q) {
				t.Fatalf("SamePolygon(%v, %v) = %v", p, q, got)
			}
			if got {
				same[len(p)]++
			}
		}
	}
	// Each has as many rotations as vertices, but half as many if it runs around a rectangle twice.
	if want := map[int]int{4: 72 * 4, 6: 72 * 6, 8: 576*8 + 72*4}; fmt.Sprint(same) != fmt.Sprint(want) {
		t.Errorf("the numbers of pairs are %v, want %v", same, want)
	}
}

func TestSamePolygonInEveryRotation(t *testing.T) {
	for _, p := range samplePolygons() {
		longer := append(slices.Clone(p), p...)
		for first := range p {
			q := rotated(p, first)
			if !impl.SamePolygon(p, q) || !impl.SamePolygon(q, p) {
				t.Fatalf("%v and %v are not the same", p, q)
			}
			back := backwards(q)
			if got, want := impl.SamePolygon(p, back), sameByDefinition(p, back); got != want || want && impl.SignedArea(p) != 0 {
				t.Fatalf("SamePolygon(%v, %v) = %v, want %v", p, back, got, want)
			}
			if impl.SamePolygon(p, rotated(longer, first)) || impl.SamePolygon(rotated(longer, first), p) {
				t.Fatalf("%v and twice the same are the same", p)
			}
			for _, changed := range changedPolygons(q) {
				if impl.SamePolygon(p, changed) != sameByDefinition(p, changed) || impl.SamePolygon(changed, p) != sameByDefinition(p, changed) {
					t.Fatalf("%v and %v are the same", p, changed)
				}
			}
		}
	}
}

// changedPolygons returns a polygon with its first vertex changed, which leaves none, and with its first side moved.
func changedPolygons(p []impl.Point) [][]impl.Point {
	var list [][]impl.Point
	for _, step := range sideSteps() {
		vertex, side := slices.Clone(p), slices.Clone(p)
		vertex[0] = impl.Point{X: p[0].X + step.X, Y: p[0].Y + step.Y}
		side[0] = vertex[0]
		side[1] = impl.Point{X: p[1].X + step.X, Y: p[1].Y + step.Y}
		list = append(list, vertex)
		if validByDefinition(side) {
			list = append(list, side)
		}
	}
	return list
}

// TestSamePolygonOfManyVertices has polygons that differ only in one side, far behind.
func TestSamePolygonOfManyVertices(t *testing.T) {
	p := manyVertices(impl.MaxVertices - 2)
	for _, first := range []int{0, 1, 4, 5999, impl.MaxVertices - 3} {
		if !impl.SamePolygon(p, rotated(p, first)) {
			t.Fatalf("not the same in rotation %d", first)
		}
	}
	changed := slices.Clone(p)
	changed[6001].X++
	changed[6002].X++
	if !impl.IsValidPolygon(changed) || impl.SamePolygon(p, changed) || impl.SamePolygon(rotated(changed, 4), p) || impl.SamePolygon(p, backwards(p)) {
		t.Error("a polygon is the same as a changed one")
	}
}

func TestPolygonsRejectNonRegions(t *testing.T) {
	for _, bad := range nonRegions() {
		if got := impl.RegionPolygons(bad); got != nil {
			t.Errorf("%.99v has the polygons %.99v", fmt.Sprint(bad), fmt.Sprint(got))
		}
	}
	for _, nothing := range [][]impl.Rect{nil, {}} {
		checkLoops(t, nothing)
		if got := impl.RegionPolygons(nothing); len(got) != 0 {
			t.Errorf("the empty region has the polygons %v", got)
		}
	}
}

// TestPolygonsKeepTheirArguments also looks at the memory behind an argument and overwrites the results.
func TestPolygonsKeepTheirArguments(t *testing.T) {
	whole := slices.Repeat(vertices(0, 0, 4, 0, 4, 1, 1, 1, 1, 3, 0, 3, 7, 7), 5)
	old := slices.Clone(whole)
	p := whole[:6]
	for o := range int64(8) {
		image, ok := impl.MovePolygon(impl.Transform{Orientation: o}, p)
		if !ok {
			t.Fatal("the polygon leaves the chip")
		}
		clear(image[:cap(image)])
	}
	for range 2 {
		r, _ := impl.PolygonRegion(p)
		checkSame(t, "the region", r, []impl.Rect{{X0: 0, Y0: 0, X1: 4, Y1: 1}, {X0: 0, Y0: 1, X1: 1, Y1: 3}})
		clear(r[:cap(r)])
	}
	impl.IsValidPolygon(p)
	impl.PolygonContains(p, 0, 0)
	impl.SignedArea(p)
	if !impl.SamePolygon(p, whole[7:13]) {
		t.Error("the argument is not the same polygon as its repetition")
	}
	checkVertices(t, "the argument", whole, old)
	rects := append(picture(impl.Point{}, "xxxxx", "x.x.x", "xxx..", "....x"), impl.Rect{X0: 9, Y0: 9, X1: 8, Y1: 8})
	oldRects := slices.Clone(rects)
	checkOwnMemory(t, rects[:len(rects)-1])
	checkSame(t, "the region", rects, oldRects)
}

// checkOwnMemory overwrites each polygon of a region and what lies behind it and looks at the others.
func checkOwnMemory(t *testing.T, r []impl.Rect) {
	t.Helper()
	first := impl.RegionPolygons(r)
	for i := range first {
		polygons := impl.RegionPolygons(r)
		checkLoopList(t, "a second time", polygons, first)
		clear(polygons[i][:cap(polygons[i])])
		want := slices.Clone(first)
		want[i] = make([]impl.Point, len(first[i]))
		checkLoopList(t, fmt.Sprintf("polygon %d was overwritten", i), polygons, want)
	}
}

func TestChapter8Examples(t *testing.T) {
	p := vertices(0, 0, 3, 0, 3, 2, 0, 2)
	if !impl.IsValidPolygon(p) || impl.IsValidPolygon(vertices(0, 0, 3, 0, 3, 2, 1, 2)) {
		t.Error("IsValidPolygon")
	}
	r, ok := impl.PolygonRegion(vertices(0, 0, 4, 0, 4, 1, 1, 1, 1, 3, 0, 3))
	if !ok {
		t.Error("PolygonRegion: false")
	}
	checkSame(t, "PolygonRegion", r, []impl.Rect{{X0: 0, Y0: 0, X1: 4, Y1: 1}, {X0: 0, Y0: 1, X1: 1, Y1: 3}})
	if area, back := impl.SignedArea(p), impl.SignedArea(vertices(0, 2, 3, 2, 3, 0, 0, 0)); area != 6 || back != -6 {
		t.Errorf("SignedArea: %d, %d", area, back)
	}
	checkLoopList(t, "RegionPolygons", impl.RegionPolygons([]impl.Rect{{X0: 0, Y0: 0, X1: 3, Y1: 2}}), [][]impl.Point{p})
	image, ok := impl.MovePolygon(impl.Transform{Orientation: 4}, p)
	if !ok {
		t.Error("MovePolygon: false")
	}
	checkVertices(t, "MovePolygon", image, vertices(0, -2, 3, -2, 3, 0, 0, 0))
}
