package tests

import (
	"fmt"
	"math"
	"math/big"
	"math/rand/v2"
	"reflect"
	"slices"
	"testing"

	"loop.example/g00890/impl"
)

// walk is an occurrence with the transforms that take its points to the root, in the order in which they apply.
type walk struct {
	cell  int64
	path  []int64
	moves []impl.Transform
}

// elementByDefinition returns the cell that the element with this number places, and the transforms that move it.
func elementByDefinition(c impl.Cell, number int64) (int64, []impl.Transform, bool) {
	if number < 0 {
		return 0, nil, false
	}
	for _, in := range c.Instances {
		if number < in.Columns*in.Rows {
			row, column := number/in.Columns, number%in.Columns
			return in.Cell, []impl.Transform{in.Place, {X: column * in.StepX, Y: row * in.StepY}}, true
		}
		number -= in.Columns * in.Rows
	}
	return 0, nil, false
}

// elementsOf is the number of elements of a cell.
func elementsOf(c impl.Cell) int64 {
	count := int64(0)
	for _, in := range c.Instances {
		count += in.Columns * in.Rows
	}
	return count
}

// walksBelow returns all walks below one, depth first, or more than most of them.
func walksBelow(lib impl.Library, from walk, most int) []walk {
	list := []walk{from}
	for n := int64(0); len(list) <= most; n++ {
		cell, moves, ok := elementByDefinition(lib.Cells[from.cell], n)
		if !ok {
			break
		}
		lower := walk{cell, append(slices.Clone(from.path), n), slices.Concat(moves, from.moves)}
		list = append(list, walksBelow(lib, lower, most-len(list))...)
	}
	return list
}

// throughAll moves points by one transform after the other.
func throughAll(moves []impl.Transform, points ...impl.Point) []impl.Point {
	for _, u := range moves {
		points = imagesOf(u, points)
	}
	return points
}

// place is the transform that does at once what the moves do. Its translation may be out of range.
func (w walk) place() impl.Transform {
	points := vertices(0, 0, 1, 0, 0, 1)
	images := throughAll(w.moves, points...)
	for o := range int64(8) {
		u := impl.Transform{Orientation: o, X: images[0].X, Y: images[0].Y}
		if slices.Equal(imagesOf(u, points), images) {
			return u
		}
	}
	panic("no orientation")
}

func placeInRange(u impl.Transform) bool {
	return within(u.Orientation, 0, 7) && within(u.X, -limit, limit) && within(u.Y, -limit, limit)
}

// box is the image of a rectangle.
func (w walk) box(r impl.Rect) impl.Rect {
	p := throughAll(w.moves, impl.Point{X: r.X0, Y: r.Y0}, impl.Point{X: r.X1, Y: r.Y1})
	return impl.Rect{X0: min(p[0].X, p[1].X), Y0: min(p[0].Y, p[1].Y), X1: max(p[0].X, p[1].X), Y1: max(p[0].Y, p[1].Y)}
}

// flattened is what chapter 10 says of one cell.
type flattened struct {
	code, shapesCode, labelsCode int64
	occurrences                  []impl.Occurrence
	shapes                       []impl.Shape
	labels                       []impl.Label
}

func flattenedByDefinition(lib impl.Library, cell int64) flattened {
	walks := walksBelow(lib, walk{cell: cell}, impl.MaxOccurrences)
	if len(walks) > impl.MaxOccurrences {
		return flattened{code: impl.ErrLimit, shapesCode: impl.ErrLimit, labelsCode: impl.ErrLimit}
	}
	var f flattened
	for _, w := range walks {
		place := w.place()
		if !placeInRange(place) {
			return flattened{code: impl.ErrRange, shapesCode: impl.ErrRange, labelsCode: impl.ErrRange}
		}
		f.occurrences = append(f.occurrences, impl.Occurrence{Cell: w.cell, Place: place, Path: w.path})
		for _, s := range lib.Cells[w.cell].Shapes {
			s.Box = w.box(s.Box)
			f.shapes = append(f.shapes, s)
			if !wantValid(s.Box) {
				f.shapesCode = impl.ErrRange
			}
		}
		for _, l := range lib.Cells[w.cell].Labels {
			box := w.box(unitRect(l.At))
			l.At = impl.Point{X: box.X0, Y: box.Y0}
			f.labels = append(f.labels, l)
			if !within(box.X0, -40, 39) || !within(box.Y0, -40, 39) {
				f.labelsCode = impl.ErrRange
			}
		}
	}
	if f.shapesCode != impl.ErrNone {
		f.shapes = nil
	}
	if f.labelsCode != impl.ErrNone {
		f.labels = nil
	}
	return f
}

func (f flattened) layers() [][]impl.Rect {
	if f.shapesCode != impl.ErrNone {
		return nil
	}
	layers := make([][]impl.Rect, impl.Layers)
	for i := range layers {
		var boxes []impl.Rect
		for _, s := range f.shapes {
			if s.Layer == int64(i) {
				boxes = append(boxes, s.Box)
			}
		}
		if len(boxes) > 0 {
			layers[i] = paint(boxes...).regionByDefinition()
		}
	}
	return layers
}

func (f flattened) bounds() (impl.Rect, int64) {
	if f.shapesCode != impl.ErrNone {
		return impl.Rect{}, f.shapesCode
	}
	if len(f.shapes) == 0 {
		return impl.Rect{}, impl.ErrNotFound
	}
	box := f.shapes[0].Box
	for _, s := range f.shapes {
		box = impl.Rect{X0: min(box.X0, s.Box.X0), Y0: min(box.Y0, s.Box.Y0), X1: max(box.X1, s.Box.X1), Y1: max(box.Y1, s.Box.Y1)}
	}
	return box, impl.ErrNone
}

// text is what all functions should return together.
func (f flattened) text() string {
	box, code := f.bounds()
	return fmt.Sprint("occurrences ", f.code, f.occurrences, "\nshapes ", f.shapesCode, f.shapes, "\nlabels ", f.labelsCode, f.labels,
		"\nlayers ", f.shapesCode, f.layers(), "\nbounds ", code, box)
}

// flatText is what all functions return together. It does not tell a nil slice from an empty one.
func flatText(lib impl.Library, cell int64) string {
	occurrences, code := impl.Occurrences(lib, cell)
	shapes, shapesCode := impl.FlattenShapes(lib, cell)
	labels, labelsCode := impl.FlattenLabels(lib, cell)
	layers, layersCode := impl.FlattenLayers(lib, cell)
	box, boxCode := impl.ContentBounds(lib, cell)
	return fmt.Sprint("occurrences ", code, occurrences, "\nshapes ", shapesCode, shapes, "\nlabels ", labelsCode, labels,
		"\nlayers ", layersCode, layers, "\nbounds ", boxCode, box)
}

// flatError is what they return with one code for all of them.
func flatError(code int64) string {
	return fmt.Sprintf("occurrences %d []\nshapes %[1]d []\nlabels %[1]d []\nlayers %[1]d []\nbounds %[1]d {0 0 0 0}", code)
}

func checkTexts(t *testing.T, what, got, want string) {
	t.Helper()
	if got != want {
		t.Fatalf("%s:\n%.2999s\nwant\n%.2999s", what, got, want)
	}
}

func checkPath(t *testing.T, lib impl.Library, cell int64, path []int64, want impl.Occurrence, wantCode int64) {
	t.Helper()
	got, code := impl.PathPlace(lib, cell, path)
	if code != wantCode || fmt.Sprint(got) != fmt.Sprint(want) {
		t.Fatalf("path %v of cell %d: %v, %d, want %v, %d, in %.999s", path[:min(len(path), 9)], cell, got, code, want, wantCode, textOf(lib))
	}
}

// noElements are numbers that no element of a cell has.
func noElements(c impl.Cell) []int64 {
	count := elementsOf(c)
	return []int64{-1, count, count + 1, -count - 1, 128, 129, 1 << 32, -1 << 32, 1 << 8, math.MaxInt64, math.MinInt64}
}

// checkPaths asks for the path of each walk and for paths that differ in one number or lead on from there.
func checkPaths(t *testing.T, lib impl.Library, walks []walk) {
	t.Helper()
	root := walks[0].cell
	for _, w := range walks {
		if place := w.place(); placeInRange(place) {
			checkPath(t, lib, root, w.path, impl.Occurrence{Cell: w.cell, Place: place, Path: w.path}, impl.ErrNone)
		} else {
			checkPath(t, lib, root, w.path, impl.Occurrence{}, impl.ErrRange)
		}
		for _, n := range noElements(lib.Cells[w.cell]) {
			longer := append(slices.Clone(w.path), n)
			checkPath(t, lib, root, longer, impl.Occurrence{}, impl.ErrNotFound)
			checkPath(t, lib, root, append(longer, 0), impl.Occurrence{}, impl.ErrNotFound)
		}
	}
}

// checkFlat compares all that the functions say of the cells of a valid library with the definition, and returns the codes
// that they return for its top cell.
func checkFlat(t *testing.T, lib impl.Library) flattened {
	t.Helper()
	var last flattened
	for i := range lib.Cells {
		cell := int64(i)
		last = flattenedByDefinition(lib, cell)
		checkTexts(t, fmt.Sprintf("cell %d of %.999s", i, textOf(lib)), flatText(lib, cell), last.text())
		checkPaths(t, lib, walksBelow(lib, walk{cell: cell}, 40))
		count := int64(1)
		for n := range elementsOf(lib.Cells[i]) {
			placed, _, _ := elementByDefinition(lib.Cells[i], n)
			count += impl.ElementCount(lib, placed)
		}
		if got := impl.ElementCount(lib, cell); got != count || last.code == impl.ErrNone && got != int64(len(last.occurrences)) {
			t.Fatalf("cell %d has %d occurrences, the sum is %d: %s", i, got, count, textOf(lib))
		}
	}
	checkExpanded(t, lib)
	checkUsedContents(t, lib)
	return last
}

// expandedByDefinition follows the words of chapter 10.
func expandedByDefinition(lib impl.Library) (impl.Library, int64) {
	expanded := copyOf(lib)
	code := int64(impl.ErrNone)
	for i, c := range lib.Cells {
		expanded.Cells[i].Instances = nil
		for n := range elementsOf(c) {
			placed, moves, _ := elementByDefinition(c, n)
			place := walk{moves: moves}.place()
			if !placeInRange(place) {
				return impl.Library{}, impl.ErrRange
			}
			in := impl.Instance{Cell: placed, Place: place, Columns: 1, Rows: 1}
			expanded.Cells[i].Instances = append(expanded.Cells[i].Instances, in)
		}
		if elementsOf(c) > impl.MaxInstances {
			code = impl.ErrLimit
		}
	}
	if code != impl.ErrNone {
		return impl.Library{}, code
	}
	return expanded, code
}

// checkExpanded compares the library without arrays with the definition, and all that its cells contain with what those of
// the library contain.
func checkExpanded(t *testing.T, lib impl.Library) {
	t.Helper()
	got, code := impl.ExpandArrays(lib)
	want, wantCode := expandedByDefinition(lib)
	if code != wantCode || textOf(got) != textOf(want) {
		t.Fatalf("ExpandArrays of %.999s: %d, %.999s, want %d, %.999s", textOf(lib), code, textOf(got), wantCode, textOf(want))
	}
	if code != impl.ErrNone {
		return
	}
	checkValid(t, "without arrays", got)
	if again, code := impl.ExpandArrays(got); code != impl.ErrNone || !impl.SameLibrary(again, got) {
		t.Fatalf("ExpandArrays of %.999s: %d, %.999s", textOf(got), code, textOf(again))
	}
	for cell := range int64(len(lib.Cells)) {
		checkTexts(t, fmt.Sprintf("cell %d without arrays, of %.999s", cell, textOf(lib)), flatText(got, cell), flatText(lib, cell))
		if impl.ElementCount(got, cell) != impl.ElementCount(lib, cell) {
			t.Fatalf("cell %d has %d occurrences without arrays, of %.999s", cell, impl.ElementCount(got, cell), textOf(lib))
		}
		for _, w := range walksBelow(lib, walk{cell: cell}, 10) {
			o, code := impl.PathPlace(lib, cell, w.path)
			checkPath(t, got, cell, w.path, o, code)
		}
	}
}

// checkUsedContents compares what the top cell contains before and after the unused cells are removed.
func checkUsedContents(t *testing.T, lib impl.Library) {
	t.Helper()
	used := impl.RemoveUnused(lib)
	contentOf := func(lib impl.Library) string {
		cell := int64(len(lib.Cells)) - 1
		occurrences, code := impl.Occurrences(lib, cell)
		shapes, shapesCode := impl.FlattenShapes(lib, cell)
		labels, labelsCode := impl.FlattenLabels(lib, cell)
		layers, layersCode := impl.FlattenLayers(lib, cell)
		text := fmt.Sprint(impl.ElementCount(lib, cell), code, shapesCode, shapes, labelsCode, labels, layersCode, layers)
		for _, o := range occurrences {
			text += fmt.Sprint("\n", lib.Cells[o.Cell].Name, o.Place, o.Path)
		}
		return text
	}
	checkTexts(t, fmt.Sprintf("the top cell of %.999s without unused cells", textOf(lib)), contentOf(used), contentOf(lib))
}

// checkNothing asks every function for a cell that a library does not have, or for one of a library that is not valid.
func checkNothing(t *testing.T, what string, lib impl.Library, cell int64, code int64) {
	t.Helper()
	checkTexts(t, fmt.Sprintf("%s, cell %d", what, cell), flatText(lib, cell), flatError(code))
	for _, path := range [][]int64{nil, {0}, {0, 0}, {-1}, {1 << 40, 0}} {
		checkPath(t, lib, cell, path, impl.Occurrence{}, code)
	}
}

// placeAtByDefinition uses numbers of any size.
func placeAtByDefinition(in impl.Instance, column, row int64) (impl.Transform, bool) {
	if !placeInRange(in.Place) || !within(in.Columns, 1, 4) || !within(in.Rows, 1, 4) || !within(column, 0, in.Columns-1) || !within(row, 0, in.Rows-1) {
		return impl.Transform{}, false
	}
	along := func(start, count, step int64) (int64, bool) {
		n := new(big.Int).Mul(big.NewInt(count), big.NewInt(step))
		n.Add(n, big.NewInt(start))
		return n.Int64(), n.IsInt64() && within(n.Int64(), -limit, limit)
	}
	x, okX := along(in.Place.X, column, in.StepX)
	y, okY := along(in.Place.Y, row, in.StepY)
	if !okX || !okY {
		return impl.Transform{}, false
	}
	return impl.Transform{Orientation: in.Place.Orientation, X: x, Y: y}, true
}

func checkElementPlace(t *testing.T, in impl.Instance, column, row int64) bool {
	t.Helper()
	got, ok := impl.ElementPlace(in, column, row)
	want, wantOK := placeAtByDefinition(in, column, row)
	if got != want || ok != wantOK {
		t.Fatalf("the element in column %d and row %d of %+v: %v, %v, want %v, %v", column, row, in, got, ok, want, wantOK)
	}
	return ok
}

// TestElementPlaces goes through arrays of all sizes and through positions in them and beside them.
func TestElementPlaces(t *testing.T) {
	found := 0
	positions := []int64{-1, 0, 1, 2, 3, 4, 5, 1 << 32, math.MaxInt64, math.MinInt64}
	for _, columns := range []int64{-1, 0, 1, 2, 3, 4, 5, 1 << 32, math.MaxInt64, math.MinInt64} {
		for _, rows := range []int64{-1, 0, 1, 2, 3, 4, 5, 1 << 32, math.MaxInt64, math.MinInt64} {
			for _, steps := range vertices(0, 0, 10, 0, 0, -7, 3, 5, -20, -20, 26, -27) {
				in := impl.Instance{Place: impl.Transform{Orientation: 6, X: 1, Y: -2}, Columns: columns, Rows: rows, StepX: steps.X, StepY: steps.Y}
				for _, column := range positions {
					for _, row := range positions {
						if checkElementPlace(t, in, column, row) {
							found++
						}
					}
				}
			}
		}
	}
	// Arrays of all sizes have 10 * 10 elements, of which only the first steps leave some out of range.
	if found < 6*100-40 || found > 6*100 {
		t.Errorf("%d elements", found)
	}
}

// TestElementPlacesAtTheLimits has places at the ends of the range and one beyond them, in every orientation.
func TestElementPlacesAtTheLimits(t *testing.T) {
	codes := map[bool]int{}
	for o := range int64(8) {
		for _, start := range []int64{-limit, -limit + 1, -7, 0, 20, limit - 1, limit} {
			for column := range int64(4) {
				for _, end := range []int64{-limit - 1, -limit, limit, limit + 1} {
					if column == 0 || (end-start)%column != 0 {
						continue
					}
					step := (end - start) / column
					x := impl.Instance{Place: impl.Transform{Orientation: o, X: start, Y: 5}, Columns: 4, Rows: 1, StepX: step}
					y := impl.Instance{Place: impl.Transform{Orientation: o, X: 5, Y: start}, Columns: 1, Rows: column + 1, StepY: step}
					got := checkElementPlace(t, x, column, 0)
					if want := within(end, -limit, limit); got != want || checkElementPlace(t, y, 0, column) != want {
						t.Fatalf("from %d to %d: %v", start, end, got)
					}
					codes[got]++
				}
			}
		}
	}
	if codes[true] < 100 || codes[false] < 100 {
		t.Errorf("%v", codes)
	}
}

// TestElementPlacesWithAnySteps also has steps whose multiples overflow into the range.
func TestElementPlacesWithAnySteps(t *testing.T) {
	const third = (1<<64 + 2) / 3
	steps := []int64{
		0, 1, -1, 79, 80, 81, -81, 159, 160, 161, 162, -159, -160, -161, -162, 240, 320, 1 << 32, -1 << 32, 1 << 61, -1 << 61, 1 << 62, -1 << 62,
		math.MaxInt64, math.MinInt64, math.MaxInt64 - 1, math.MinInt64 + 1, math.MinInt64 + 5, 1<<62 + 3,
		third, third - 1, third + 20, -third, -third + 9, third / 2, math.MaxInt64 / 2, math.MaxInt64 / 3,
	}
	found := 0
	for _, stepX := range steps {
		for _, stepY := range steps {
			for _, place := range []impl.Transform{{}, {Orientation: 3, X: -limit, Y: limit}, {Orientation: 5, X: limit, Y: -limit}} {
				in := impl.Instance{Cell: math.MinInt64, Place: place, Columns: 4, Rows: 4, StepX: stepX, StepY: stepY}
				for element := range int64(16) {
					if checkElementPlace(t, in, element%4, element/4) {
						found++
					}
				}
				in.Columns, in.Rows = 1, 1
				checkElementPlace(t, in, 0, 0)
			}
		}
	}
	if found < len(steps)*len(steps) {
		t.Errorf("%d elements", found)
	}
}

// TestElementPlacesOfInvalidPlaces has places that a step would bring back into the range.
func TestElementPlacesOfInvalidPlaces(t *testing.T) {
	list := append(invalidTransforms(), impl.Transform{X: 81}, impl.Transform{Y: -81}, impl.Transform{Orientation: 8, X: 3}, impl.Transform{Orientation: -1, Y: 3})
	for _, place := range list {
		for _, in := range []impl.Instance{
			{Place: place, Columns: 1, Rows: 1}, {Place: place, Columns: 3, Rows: 3, StepX: -1, StepY: 1}, {Place: place, Columns: 3, Rows: 3, StepX: 1, StepY: -1},
			{Place: place, Columns: 2, Rows: 2, StepX: -place.X, StepY: -place.Y},
		} {
			for position := range in.Columns {
				if checkElementPlace(t, in, position, position) {
					t.Fatalf("%+v has an element", in)
				}
			}
		}
	}
	for _, place := range sampleTransforms() {
		if in := (impl.Instance{Place: place, Columns: 1, Rows: 1}); !checkElementPlace(t, in, 0, 0) {
			t.Fatalf("%+v has no element", in)
		}
	}
}

// TestElementPlaceIgnoresOtherFields has cells and steps that no valid instance has.
func TestElementPlaceIgnoresOtherFields(t *testing.T) {
	for _, n := range append([]int64{-1, 0, 8}, outside...) {
		in := impl.Instance{Cell: n, Place: impl.Transform{X: 3}, Columns: 1, Rows: 2, StepX: n, StepY: 4}
		if got, ok := impl.ElementPlace(in, 0, 1); !ok || got != (impl.Transform{X: 3, Y: 4}) {
			t.Errorf("%+v: %v, %v", in, got, ok)
		}
	}
	in := impl.Instance{Columns: 2, Rows: 2, StepX: 160, StepY: -160, Place: impl.Transform{X: -80, Y: 80}}
	if got, ok := impl.ElementPlace(in, 1, 1); !ok || got != (impl.Transform{X: 80, Y: -80}) {
		t.Errorf("%+v: %v, %v", in, got, ok)
	}
}

func TestFlatSmallHierarchies(t *testing.T) {
	smallHierarchies(func(lib impl.Library) { checkFlat(t, lib) })
}

func TestFlatHierarchiesByHand(t *testing.T) {
	for _, c := range hierarchyCases() {
		checkFlat(t, hierarchy(c.placed...))
	}
	for _, lib := range []impl.Library{sampleLibrary(), fullLibrary(), chain(1, 1, 1), chain(2, 1, 1), chain(1, 3, 2), chain(8, 4, 4)} {
		checkFlat(t, lib)
	}
}

// corner has shapes and a label that no orientation but the first one leaves where they are.
func corner() impl.Cell {
	return impl.Cell{
		Name:   "corner",
		Shapes: []impl.Shape{{Layer: impl.Metal1, Box: impl.Rect{X1: 3, Y1: 1}}, {Layer: impl.Poly, Box: impl.Rect{Y0: 1, X1: 1, Y1: 3}}},
		Labels: []impl.Label{{Layer: impl.Poly, At: impl.Point{X: 2}, Name: "end"}},
	}
}

// TestOrientationsAtEachLevel has every orientation at each of three levels, with arrays in different directions.
func TestOrientationsAtEachLevel(t *testing.T) {
	for o := range int64(8 * 8 * 8) {
		instances := []impl.Instance{
			{Cell: 0, Place: impl.Transform{Orientation: o % 8, X: 4, Y: 1}, Columns: 2, Rows: 1, StepX: 5},
			{Cell: 1, Place: impl.Transform{Orientation: o / 8 % 8, X: -3, Y: 2}, Columns: 1, Rows: 2, StepY: -4},
			{Cell: 2, Place: impl.Transform{Orientation: o / 64, X: 1, Y: -6}, Columns: 2, Rows: 2, StepX: -9, StepY: 7},
		}
		lib := impl.Library{Cells: []impl.Cell{corner()}}
		for i, in := range instances {
			lib.Cells = append(lib.Cells, impl.Cell{Name: letter(i), Instances: []impl.Instance{in}})
		}
		if f := checkFlat(t, lib); f.code != impl.ErrNone || len(f.shapes) != 32 || len(f.labels) != 16 {
			t.Fatalf("orientations %o: %s", o, f.text())
		}
	}
}

// TestPlacesByHand names places whose parts do not commute.
func TestPlacesByHand(t *testing.T) {
	for _, c := range []struct {
		name         string
		lower, upper impl.Transform
		want         impl.Transform
		box          impl.Rect
		at           impl.Point
	}{
		{"shifted twice", impl.Transform{X: 3, Y: 4}, impl.Transform{X: -1, Y: 10}, impl.Transform{X: 2, Y: 14},
			impl.Rect{X0: 2, Y0: 14, X1: 5, Y1: 15}, impl.Point{X: 4, Y: 14}},
		{"shifted, then turned", impl.Transform{X: 3, Y: 4}, impl.Transform{Orientation: 1}, impl.Transform{Orientation: 1, X: -4, Y: 3},
			impl.Rect{X0: -5, Y0: 3, X1: -4, Y1: 6}, impl.Point{X: -5, Y: 5}},
		{"turned, then shifted", impl.Transform{Orientation: 1}, impl.Transform{X: 3, Y: 4}, impl.Transform{Orientation: 1, X: 3, Y: 4},
			impl.Rect{X0: 2, Y0: 4, X1: 3, Y1: 7}, impl.Point{X: 2, Y: 6}},
		{"turned, then mirrored", impl.Transform{Orientation: 1, X: 10}, impl.Transform{Orientation: 4, Y: 5}, impl.Transform{Orientation: 7, X: 10, Y: 5},
			impl.Rect{X0: 9, Y0: 2, X1: 10, Y1: 5}, impl.Point{X: 9, Y: 2}},
		{"mirrored, then turned", impl.Transform{Orientation: 4, Y: 5}, impl.Transform{Orientation: 1, X: 10}, impl.Transform{Orientation: 5, X: 5},
			impl.Rect{X0: 5, Y0: 0, X1: 6, Y1: 3}, impl.Point{X: 5, Y: 2}},
		{"mirrored twice", impl.Transform{Orientation: 4, X: 1, Y: 2}, impl.Transform{Orientation: 6, X: 30, Y: 1}, impl.Transform{Orientation: 2, X: 29, Y: 3},
			impl.Rect{X0: 26, Y0: 2, X1: 29, Y1: 3}, impl.Point{X: 26, Y: 2}},
		{"turned back", impl.Transform{Orientation: 3, X: 7, Y: -2}, impl.Transform{Orientation: 1, X: 7, Y: -2}, impl.Transform{X: 9, Y: 5},
			impl.Rect{X0: 9, Y0: 5, X1: 12, Y1: 6}, impl.Point{X: 11, Y: 5}},
	} {
		t.Run(c.name, func(t *testing.T) {
			lib := impl.Library{Cells: []impl.Cell{corner(), {Name: "a", Instances: []impl.Instance{single(0)}}, {Name: "b", Instances: []impl.Instance{single(1)}}}}
			lib.Cells[1].Instances[0].Place, lib.Cells[2].Instances[0].Place = c.lower, c.upper
			checkFlat(t, lib)
			checkPath(t, lib, 2, []int64{0, 0}, impl.Occurrence{Cell: 0, Place: c.want, Path: []int64{0, 0}}, impl.ErrNone)
			shapes, _ := impl.FlattenShapes(lib, 2)
			labels, _ := impl.FlattenLabels(lib, 2)
			if len(shapes) != 2 || shapes[0].Box != c.box || len(labels) != 1 || labels[0].At != c.at {
				t.Errorf("%v, %v, want first %v and %v", shapes, labels, c.box, c.at)
			}
		})
	}
}

// TestArraysInEveryOrientation has arrays of all sizes with steps of all signs.
func TestArraysInEveryOrientation(t *testing.T) {
	for columns := int64(1); columns <= impl.MaxArray; columns++ {
		for rows := int64(1); rows <= impl.MaxArray; rows++ {
			for o := range int64(8) {
				for _, steps := range vertices(0, 0, 5, 3, -4, 6, 7, -2, -3, -3, 0, 8, 9, 0) {
					in := impl.Instance{Place: impl.Transform{Orientation: o, X: 2, Y: -1}, Columns: columns, Rows: rows}
					if columns > 1 {
						in.StepX = steps.X
					}
					if rows > 1 {
						in.StepY = steps.Y
					}
					lib := impl.Library{Cells: []impl.Cell{corner(), {Name: "array", Instances: []impl.Instance{in}}}}
					if f := checkFlat(t, lib); f.shapesCode != impl.ErrNone || int64(len(f.occurrences)) != 1+columns*rows {
						t.Fatalf("%+v: %s", in, f.text())
					}
				}
			}
		}
	}
}

// TestNumbersOfElements has several instances in one cell.
func TestNumbersOfElements(t *testing.T) {
	lib := impl.Library{Cells: []impl.Cell{{Name: "a"}, {Name: "b"}, {Name: "top", Instances: []impl.Instance{
		{Cell: 1, Place: impl.Transform{Orientation: 1, X: 1, Y: 1}, Columns: 2, Rows: 3, StepX: 10, StepY: -20},
		{Cell: 0, Place: impl.Transform{Orientation: 4, X: 7, Y: 8}, Columns: 1, Rows: 1},
		{Cell: 1, Place: impl.Transform{Orientation: 6, X: -3}, Columns: 1, Rows: 4, StepY: 2},
		{Cell: 0, Place: impl.Transform{Y: -5}, Columns: 3, Rows: 1, StepX: -2},
		{Cell: 0, Place: impl.Transform{Orientation: 2}, Columns: 2, Rows: 2},
	}}}}
	checkFlat(t, lib)
	want := []impl.Occurrence{
		{Cell: 1, Place: impl.Transform{Orientation: 1, X: 1, Y: 1}}, {Cell: 1, Place: impl.Transform{Orientation: 1, X: 11, Y: 1}},
		{Cell: 1, Place: impl.Transform{Orientation: 1, X: 1, Y: -19}}, {Cell: 1, Place: impl.Transform{Orientation: 1, X: 11, Y: -19}},
		{Cell: 1, Place: impl.Transform{Orientation: 1, X: 1, Y: -39}}, {Cell: 1, Place: impl.Transform{Orientation: 1, X: 11, Y: -39}},
		{Cell: 0, Place: impl.Transform{Orientation: 4, X: 7, Y: 8}},
		{Cell: 1, Place: impl.Transform{Orientation: 6, X: -3}}, {Cell: 1, Place: impl.Transform{Orientation: 6, X: -3, Y: 2}},
		{Cell: 1, Place: impl.Transform{Orientation: 6, X: -3, Y: 4}}, {Cell: 1, Place: impl.Transform{Orientation: 6, X: -3, Y: 6}},
		{Cell: 0, Place: impl.Transform{Y: -5}}, {Cell: 0, Place: impl.Transform{X: -2, Y: -5}}, {Cell: 0, Place: impl.Transform{X: -4, Y: -5}},
		{Cell: 0, Place: impl.Transform{Orientation: 2}}, {Cell: 0, Place: impl.Transform{Orientation: 2}}, {Cell: 0, Place: impl.Transform{Orientation: 2}},
		{Cell: 0, Place: impl.Transform{Orientation: 2}},
	}
	for i := range want {
		want[i].Path = []int64{int64(i)}
		checkPath(t, lib, 2, want[i].Path, want[i], impl.ErrNone)
	}
	want = append([]impl.Occurrence{{Cell: 2}}, want...)
	if got, code := impl.Occurrences(lib, 2); code != impl.ErrNone || fmt.Sprint(got) != fmt.Sprint(want) {
		t.Errorf("%v, %d, want %v", got, code, want)
	}
}

// TestOrderOfOccurrences has a cell with instances that is placed several times.
func TestOrderOfOccurrences(t *testing.T) {
	lib := impl.Library{Cells: []impl.Cell{
		{Name: "a"},
		{Name: "b", Instances: []impl.Instance{{Cell: 0, Columns: 2, Rows: 1, StepX: 3}, single(0)}},
		{Name: "c", Instances: []impl.Instance{{Cell: 1, Columns: 1, Rows: 2, StepY: 5}, single(0), single(1)}},
		{Name: "d", Instances: []impl.Instance{single(0), single(2), single(1)}},
	}}
	checkFlat(t, lib)
	for cell, want := range []string{
		"0[] ",
		"1[] 0[0] 0[1] 0[2] ",
		"2[] 1[0] 0[0 0] 0[0 1] 0[0 2] 1[1] 0[1 0] 0[1 1] 0[1 2] 0[2] 1[3] 0[3 0] 0[3 1] 0[3 2] ",
		"3[] 0[0] 2[1] 1[1 0] 0[1 0 0] 0[1 0 1] 0[1 0 2] 1[1 1] 0[1 1 0] 0[1 1 1] 0[1 1 2] 0[1 2] 1[1 3] 0[1 3 0] 0[1 3 1] 0[1 3 2] 1[2] 0[2 0] 0[2 1] 0[2 2] ",
	} {
		list, code := impl.Occurrences(lib, int64(cell))
		got := ""
		for _, o := range list {
			got += fmt.Sprintf("%d%v ", o.Cell, o.Path)
		}
		if code != impl.ErrNone || got != want {
			t.Errorf("cell %d: %s, want %s", cell, got, want)
		}
	}
}

// TestPathsOfEachLength goes down a chain, and further.
func TestPathsOfEachLength(t *testing.T) {
	lib := hierarchy(slices.Repeat([][]int64{nil}, impl.MaxCells)...)
	for i := 1; i < impl.MaxCells; i++ {
		in := impl.Instance{Cell: int64(i) - 1, Place: impl.Transform{Orientation: int64(i), X: 2, Y: 1}, Columns: 4, Rows: 4, StepX: 1, StepY: 1}
		lib.Cells[i].Instances = slices.Repeat([]impl.Instance{in}, impl.MaxInstances)
	}
	top := int64(impl.MaxCells) - 1
	for _, n := range []int64{0, 1, 17, 64, 127} {
		w := walk{cell: top}
		for length := range impl.MaxCells {
			checkPath(t, lib, top, w.path, impl.Occurrence{Cell: w.cell, Place: w.place(), Path: w.path}, impl.ErrNone)
			for _, wrong := range noElements(lib.Cells[w.cell]) {
				path := append(slices.Clone(w.path), wrong)
				checkPath(t, lib, top, path, impl.Occurrence{}, impl.ErrNotFound)
				for len(path) < impl.MaxCells {
					path = append(path, n)
				}
				checkPath(t, lib, top, path, impl.Occurrence{}, impl.ErrNotFound)
			}
			cell, moves, ok := elementByDefinition(lib.Cells[w.cell], n)
			if !ok {
				if length != impl.MaxCells-1 {
					t.Fatalf("no element %d after %d numbers", n, length)
				}
				break
			}
			w = walk{cell, append(slices.Clone(w.path), n), slices.Concat(moves, w.moves)}
		}
	}
	for _, length := range []int{8, 9, 64, 1 << 20} {
		checkPath(t, lib, top, make([]int64, length), impl.Occurrence{}, impl.ErrNotFound)
		checkPath(t, lib, 0, make([]int64, length), impl.Occurrence{}, impl.ErrNotFound)
	}
}

// copies returns instances of a cell with this many elements, at most 128, all at one place.
func copies(cell int64, count int64) []impl.Instance {
	var list []impl.Instance
	for count > 0 {
		in := single(cell)
		in.Columns = min(count, impl.MaxArray)
		in.Rows = min(count/in.Columns, impl.MaxArray)
		count -= in.Columns * in.Rows
		list = append(list, in)
	}
	return list
}

// withOccurrences returns a library whose top cell has this many occurrences, at most 400.
func withOccurrences(count int64) impl.Library {
	lib := impl.Library{Cells: []impl.Cell{corner(), {Name: "hundred", Instances: copies(0, 99)}, {Name: "top"}}}
	hundreds := (count - 1) / 100
	lib.Cells[2].Instances = slices.Concat(copies(1, hundreds), copies(0, count-1-100*hundreds))
	return lib
}

func TestEveryNumberOfOccurrences(t *testing.T) {
	for _, count := range []int64{1, 2, 3, 17, 99, 100, 101, 128, 150, 198, 199, 200, 201, 202, 220, 255, 256, 257, 300, 400} {
		lib := withOccurrences(count)
		if got := impl.ElementCount(lib, 2); got != count {
			t.Fatalf("%d occurrences, want %d", got, count)
		}
		f := checkFlat(t, lib)
		if list, code := impl.Occurrences(lib, 2); count <= 200 && (code != impl.ErrNone || int64(len(list)) != count) {
			t.Errorf("%d of %d occurrences, %d", len(list), count, code)
		}
		if count > 200 {
			checkTexts(t, fmt.Sprint(count, " occurrences"), flatText(lib, 2), flatError(impl.ErrLimit))
			if f.code != impl.ErrLimit {
				t.Errorf("%d occurrences: the definition allows them", count)
			}
		}
	}
}

// TestPathsBeyondTheLimit asks for occurrences where there are too many for a list.
func TestPathsBeyondTheLimit(t *testing.T) {
	lib := withOccurrences(400)
	lib.Cells[2].Instances[0].Place = impl.Transform{Orientation: 5, X: 1, Y: 2}
	checkTexts(t, "400 occurrences", flatText(lib, 2), flatError(impl.ErrLimit))
	checkPath(t, lib, 2, nil, impl.Occurrence{Cell: 2}, impl.ErrNone)
	checkPath(t, lib, 2, []int64{2, 98}, impl.Occurrence{Cell: 0, Place: impl.Transform{Orientation: 5, X: 1, Y: 2}, Path: []int64{2, 98}}, impl.ErrNone)
	checkPath(t, lib, 2, []int64{3, 98}, impl.Occurrence{}, impl.ErrNotFound)
	checkPath(t, lib, 2, []int64{101}, impl.Occurrence{Cell: 0, Place: impl.Transform{}, Path: []int64{101}}, impl.ErrNone)
	checkPath(t, lib, 2, []int64{102}, impl.Occurrence{}, impl.ErrNotFound)
}

// chainOf places each cell of a chain once.
func chainOf(leaf impl.Cell, places ...impl.Transform) impl.Library {
	lib := impl.Library{Cells: []impl.Cell{leaf}}
	for i, place := range places {
		in := single(int64(i))
		in.Place = place
		lib.Cells = append(lib.Cells, impl.Cell{Name: letter(i), Instances: []impl.Instance{in}})
	}
	return lib
}

// placeTo returns the place without a turn whose translation the orientation o takes to this step.
func placeTo(o int64, step impl.Point) impl.Transform {
	for back := range int64(8) {
		p := imageByDefinition(impl.Transform{Orientation: back}, step)
		if imageByDefinition(impl.Transform{Orientation: o}, p) == step {
			return impl.Transform{X: p.X, Y: p.Y}
		}
	}
	panic("no such place")
}

// TestPlacesOutOfRangeAtEachLevel reaches the ends of the range, or one beyond, with the last of several places. The
// highest one turns what is below it.
func TestPlacesOutOfRangeAtEachLevel(t *testing.T) {
	codes := map[int64]int{}
	for depth := 2; depth < impl.MaxCells; depth++ {
		for o := range int64(8) {
			for _, end := range vertices(80, 0, 81, 0, -80, 3, -81, 3, 5, 80, 5, 81, -7, -80, -7, -81, 80, -80, 81, 80, 80, 81, -81, -81) {
				places := []impl.Transform{{Orientation: o, X: end.X / 2, Y: end.Y / 3}}
				for left := int64(depth) - 1; left > 0; left-- {
					reached := throughAll(places, impl.Point{})[0]
					step := impl.Point{X: (end.X - reached.X) / left, Y: (end.Y - reached.Y) / left}
					places = append([]impl.Transform{placeTo(o, step)}, places...)
				}
				want := int64(impl.ErrNone)
				if !within(end.X, -80, 80) || !within(end.Y, -80, 80) {
					want = impl.ErrRange
				}
				if f := checkFlat(t, chainOf(impl.Cell{Name: "leaf"}, places...)); f.code != want {
					t.Fatalf("to %v by %v: %d", end, places, f.code)
				}
				codes[want]++
			}
		}
	}
	if codes[impl.ErrNone] < 200 || codes[impl.ErrRange] < 200 {
		t.Errorf("%v", codes)
	}
}

// TestArraysOutOfRange has elements at the ends of the range and one beyond.
func TestArraysOutOfRange(t *testing.T) {
	codes := map[int64]int{}
	for _, count := range []int64{2, 3, 4} {
		for _, end := range []int64{-81, -80, 80, 81} {
			for _, step := range []int64{1, 7, 26, 27, 80, -1, -30, -80} {
				start := end - (count-1)*step
				if !within(start, -80, 80) || (step > 0) != (end > 0) {
					continue
				}
				for o := range int64(8) {
					x := impl.Instance{Place: impl.Transform{Orientation: o, X: start}, Columns: count, Rows: 1 + o%4, StepX: step}
					y := impl.Instance{Place: impl.Transform{Orientation: o, Y: start}, Columns: 1 + o/2, Rows: count, StepY: step}
					for _, in := range []impl.Instance{x, y} {
						lib := impl.Library{Cells: []impl.Cell{{Name: "a"}, {Name: "b", Instances: []impl.Instance{single(0), in}}, {Name: "top"}}}
						checkFlat(t, lib)
						list, code := impl.Occurrences(lib, 1)
						if inside := within(end, -80, 80); inside != (code == impl.ErrNone) || inside != (len(list) > 0) || !inside && code != impl.ErrRange {
							t.Fatalf("%+v: %v, %d", in, list, code)
						}
						codes[code]++
					}
				}
			}
		}
	}
	if codes[impl.ErrNone] < 100 || codes[impl.ErrRange] < 100 {
		t.Errorf("%v", codes)
	}
}

// TestPlacesThatComeBack has elements that are out of range in their cell and not in the cell above, and an occurrence out
// of range with one below it that is not.
func TestPlacesThatComeBack(t *testing.T) {
	lib := impl.Library{Cells: []impl.Cell{
		corner(),
		{Name: "b", Instances: []impl.Instance{{Cell: 0, Place: impl.Transform{X: 75, Y: 1}, Columns: 2, Rows: 1, StepX: 10}}},
		{Name: "c", Instances: []impl.Instance{{Cell: 1, Place: impl.Transform{X: -80}, Columns: 1, Rows: 1}}},
		{Name: "d", Instances: []impl.Instance{{Cell: 0, Place: impl.Transform{X: -30}, Columns: 1, Rows: 1}}},
		{Name: "e", Instances: []impl.Instance{
			{Cell: 3, Place: impl.Transform{X: 70}, Columns: 1, Rows: 2, StepY: 80}, {Cell: 3, Place: impl.Transform{X: 60}, Columns: 3, Rows: 1, StepX: 20},
		}},
	}}
	checkFlat(t, lib)
	checkTexts(t, "an element at 85", flatText(lib, 1), flatError(impl.ErrRange))
	checkPath(t, lib, 1, []int64{0}, impl.Occurrence{Cell: 0, Place: impl.Transform{X: 75, Y: 1}, Path: []int64{0}}, impl.ErrNone)
	checkPath(t, lib, 1, []int64{1}, impl.Occurrence{}, impl.ErrRange)
	checkPath(t, lib, 2, []int64{0, 1}, impl.Occurrence{Cell: 0, Place: impl.Transform{X: 5, Y: 1}, Path: []int64{0, 1}}, impl.ErrNone)
	if list, code := impl.Occurrences(lib, 2); code != impl.ErrNone || len(list) != 4 || list[3].Place != (impl.Transform{X: 5, Y: 1}) {
		t.Errorf("%v, %d", list, code)
	}
	if box, code := impl.ContentBounds(lib, 2); code != impl.ErrNone || box != (impl.Rect{X0: -5, Y0: 1, X1: 8, Y1: 4}) {
		t.Errorf("%v, %d", box, code)
	}
	if list, code := impl.Occurrences(lib, 4); code != impl.ErrRange || list != nil {
		t.Errorf("%v, %d", list, code)
	}
	checkPath(t, lib, 4, []int64{3}, impl.Occurrence{Cell: 3, Place: impl.Transform{X: 80}, Path: []int64{3}}, impl.ErrNone)
	checkPath(t, lib, 4, []int64{4}, impl.Occurrence{}, impl.ErrRange)
	checkPath(t, lib, 4, []int64{4, 0}, impl.Occurrence{Cell: 0, Place: impl.Transform{X: 70}, Path: []int64{4, 0}}, impl.ErrNone)
	if _, code := impl.ExpandArrays(lib); code != impl.ErrRange {
		t.Errorf("ExpandArrays: %d", code)
	}
}

// TestPartsAtEachBorder moves shapes and labels onto each border of the chip and one beyond, in every orientation, at one
// level and through two.
func TestPartsAtEachBorder(t *testing.T) {
	boxes := []impl.Rect{
		{X1: 1, Y1: 1}, {X0: -3, Y0: 2, X1: 5, Y1: 4}, {X0: 30, Y0: -40, X1: 40, Y1: -20}, {X0: -40, Y0: -40, X1: 40, Y1: 40}, {X0: -40, Y0: 7, X1: 40, Y1: 8},
	}
	for o := range int64(8) {
		for _, box := range boxes {
			image := walk{moves: []impl.Transform{{Orientation: o}}}.box(box)
			for _, x := range []int64{-41 - image.X0, -40 - image.X0, 0, 40 - image.X1, 41 - image.X1} {
				for _, y := range []int64{-41 - image.Y0, -40 - image.Y0, 0, 40 - image.Y1, 41 - image.Y1} {
					moved := impl.Rect{X0: image.X0 + x, Y0: image.Y0 + y, X1: image.X1 + x, Y1: image.Y1 + y}
					place := impl.Transform{Orientation: o, X: x, Y: y}
					if placeInRange(place) {
						checkBorder(t, box, moved, place)
						checkBorder(t, box, moved, impl.Transform{Orientation: o, X: x - 1}, impl.Transform{X: 1, Y: y})
					}
				}
			}
		}
	}
}

// checkBorder has a shape, and in another cell labels in two corners of its box.
func checkBorder(t *testing.T, box, moved impl.Rect, places ...impl.Transform) {
	t.Helper()
	if !placeInRange(places[0]) {
		return
	}
	want := int64(impl.ErrRange)
	if wantValid(moved) {
		want = impl.ErrNone
	}
	shape := impl.Cell{Name: "leaf", Shapes: []impl.Shape{{Layer: impl.Via, Box: box}}}
	corners := []impl.Label{
		{Layer: impl.Well, At: impl.Point{X: box.X0, Y: box.Y0}, Name: "low"}, {Layer: impl.Well, At: impl.Point{X: box.X1 - 1, Y: box.Y1 - 1}, Name: "high"},
	}
	label := impl.Cell{Name: "leaf", Labels: corners}
	if f := checkFlat(t, chainOf(shape, places...)); f.shapesCode != want || f.labelsCode != impl.ErrNone || len(f.shapes) == 1 && f.shapes[0].Box != moved {
		t.Fatalf("%v by %v: %s", box, places, f.text())
	}
	if f := checkFlat(t, chainOf(label, places...)); f.labelsCode != want || f.shapesCode != impl.ErrNone {
		t.Fatalf("labels in %v by %v: %s", box, places, f.text())
	}
}

// TestOnePartLeavesTheChip has one part out of many beyond the border: the first one, the last one or one between.
func TestOnePartLeavesTheChip(t *testing.T) {
	for i := range int64(9) {
		shapes, labels := impl.Cell{Name: "a"}, impl.Cell{Name: "a"}
		for k := range int64(9) {
			x := k
			if k == i {
				x = 39
			}
			shapes.Shapes = append(shapes.Shapes, impl.Shape{Box: impl.Rect{X0: x, X1: x + 1, Y1: 1}})
			labels.Labels = append(labels.Labels, impl.Label{At: impl.Point{X: x}, Name: "x"})
		}
		labels.Labels = labels.Labels[max(0, i-7) : max(0, i-7)+8]
		for step, want := range []int64{impl.ErrNone, impl.ErrRange} {
			upper := impl.Cell{Name: "b", Instances: []impl.Instance{{Columns: 2, Rows: 2, StepX: int64(step)}, single(0)}}
			if f := checkFlat(t, impl.Library{Cells: []impl.Cell{shapes, upper}}); f.shapesCode != want || f.labelsCode != impl.ErrNone {
				t.Fatalf("shape %d: %s", i, f.text())
			}
			if f := checkFlat(t, impl.Library{Cells: []impl.Cell{labels, upper}}); f.labelsCode != want || f.shapesCode != impl.ErrNone {
				t.Fatalf("label %d: %s", i, f.text())
			}
		}
	}
}

// errorCase says which code the functions return where several conditions hold at once.
type errorCase struct {
	name string
	lib  impl.Library
	cell int64
	// codes are those of Occurrences, FlattenShapes, FlattenLabels, FlattenLayers and ContentBounds.
	codes    [5]int64
	expanded int64
}

func errorCases() []errorCase {
	const invalid, outOfRange, tooMany, notFound = impl.ErrInvalid, impl.ErrRange, impl.ErrLimit, impl.ErrNotFound
	all := func(code int64) [5]int64 { return [5]int64{code, code, code, code, code} }
	far := impl.Instance{Cell: 0, Place: impl.Transform{X: 80}, Columns: 2, Rows: 1, StepX: 1}
	atBorder := impl.Instance{Cell: 0, Place: impl.Transform{X: 38}, Columns: 1, Rows: 1}
	many := withOccurrences(201)
	manyFar, manyAtBorder, farAndEmpty := copyOf(many), copyOf(many), chainOf(impl.Cell{Name: "leaf"}, impl.Transform{})
	manyFar.Cells[2].Instances = append(manyFar.Cells[2].Instances, far)
	manyAtBorder.Cells[2].Instances = append(manyAtBorder.Cells[2].Instances, atBorder)
	farAndEmpty.Cells[1].Instances[0] = far
	manyAndEmpty := copyOf(many)
	manyAndEmpty.Cells[0].Shapes = nil
	farBorder := chainOf(corner(), impl.Transform{})
	farBorder.Cells[1].Instances = []impl.Instance{atBorder, far}
	nine := chainOf(impl.Cell{Name: "leaf"}, impl.Transform{})
	nine.Cells[1].Instances = copies(0, 9)
	nineFar := copyOf(nine)
	nineFar.Cells[1].Instances = append(nineFar.Cells[1].Instances, far)
	nineThenFar, farThenNine := copyOf(nine), copyOf(farAndEmpty)
	nineThenFar.Cells = append(nineThenFar.Cells, impl.Cell{Name: "far", Instances: []impl.Instance{far}})
	farThenNine.Cells = append(farThenNine.Cells, impl.Cell{Name: "nine", Instances: copies(0, 9)})
	broken := func(lib impl.Library) impl.Library {
		lib = copyOf(lib)
		lib.Cells[0].Name = "X"
		return lib
	}
	border := chainOf(corner(), impl.Transform{X: 38})
	return []errorCase{
		{"not valid and no such cell", broken(border), -1, all(invalid), invalid},
		{"not valid and no such cell", broken(border), 2, all(invalid), invalid},
		{"not valid and too many", broken(many), 2, all(invalid), invalid},
		{"not valid and out of range", broken(farAndEmpty), 1, all(invalid), invalid},
		{"not valid and beyond the chip", broken(border), 1, all(invalid), invalid},
		{"not valid and empty", broken(chainOf(impl.Cell{Name: "leaf"})), 0, all(invalid), invalid},
		{"not valid and nine instances", broken(nine), 1, all(invalid), invalid},
		{"not valid and nine instances, one out of range", broken(nineFar), 1, all(invalid), invalid},
		{"no such cell and too many", many, 3, all(notFound), tooMany},
		{"no such cell and out of range", farAndEmpty, 2, all(notFound), outOfRange},
		{"no such cell and beyond the chip", border, -1, all(notFound), 0},
		{"too many and out of range", manyFar, 2, all(tooMany), outOfRange},
		{"too many and beyond the chip", manyAtBorder, 2, all(tooMany), tooMany},
		{"too many and empty", manyAndEmpty, 2, all(tooMany), tooMany},
		{"out of range and empty", farAndEmpty, 1, all(outOfRange), outOfRange},
		{"out of range and beyond the chip", farBorder, 1, all(outOfRange), outOfRange},
		{"beyond the chip", border, 1, [5]int64{0, outOfRange, outOfRange, outOfRange, outOfRange}, 0},
		{"empty", chainOf(impl.Cell{Name: "leaf"}, impl.Transform{}), 1, [5]int64{0, 0, 0, 0, notFound}, 0},
		{"nine instances", nine, 1, [5]int64{0, 0, 0, 0, notFound}, tooMany},
		{"nine instances, one out of range", nineFar, 1, all(outOfRange), outOfRange},
		{"nine instances, then one out of range", nineThenFar, 1, [5]int64{0, 0, 0, 0, notFound}, outOfRange},
		{"one out of range, then nine instances", farThenNine, 2, [5]int64{0, 0, 0, 0, notFound}, outOfRange},
	}
}

func TestOrderOfErrors(t *testing.T) {
	for _, c := range errorCases() {
		t.Run(c.name, func(t *testing.T) {
			var codes [5]int64
			_, codes[0] = impl.Occurrences(c.lib, c.cell)
			_, codes[1] = impl.FlattenShapes(c.lib, c.cell)
			_, codes[2] = impl.FlattenLabels(c.lib, c.cell)
			_, codes[3] = impl.FlattenLayers(c.lib, c.cell)
			_, codes[4] = impl.ContentBounds(c.lib, c.cell)
			_, expanded := impl.ExpandArrays(c.lib)
			if codes != c.codes || expanded != c.expanded {
				t.Errorf("%v, %d, want %v, %d", codes, expanded, c.codes, c.expanded)
			}
			if c.codes[0] == impl.ErrInvalid || c.codes[0] == impl.ErrNotFound {
				checkNothing(t, c.name, c.lib, c.cell, c.codes[0])
			} else {
				checkFlat(t, c.lib)
			}
		})
	}
}

// TestOrderOfPathErrors has numbers that are no element before and after places out of range.
func TestOrderOfPathErrors(t *testing.T) {
	lib := chainOf(corner(), impl.Transform{X: 60}, impl.Transform{X: 60}, impl.Transform{X: -70})
	checkFlat(t, lib)
	checkPath(t, lib, 2, []int64{0, 0}, impl.Occurrence{}, impl.ErrRange)
	checkPath(t, lib, 2, []int64{0, 0, 0}, impl.Occurrence{}, impl.ErrNotFound)
	checkPath(t, lib, 2, []int64{0, 1}, impl.Occurrence{}, impl.ErrNotFound)
	checkPath(t, lib, 2, []int64{1, 0}, impl.Occurrence{}, impl.ErrNotFound)
	checkPath(t, lib, 3, []int64{0, 0, 0}, impl.Occurrence{Cell: 0, Place: impl.Transform{X: 50}, Path: []int64{0, 0, 0}}, impl.ErrNone)
	for _, cell := range noCells(4) {
		checkPath(t, lib, cell, []int64{0, 0}, impl.Occurrence{}, impl.ErrNotFound)
		checkPath(t, lib, cell, []int64{1}, impl.Occurrence{}, impl.ErrNotFound)
	}
	lib.Cells[3].Instances[0].Columns = 0
	for _, path := range [][]int64{nil, {0, 0}, {0, 0, 0}, {1, 0}} {
		checkPath(t, lib, 2, path, impl.Occurrence{}, impl.ErrInvalid)
		checkPath(t, lib, 4, path, impl.Occurrence{}, impl.ErrInvalid)
	}
}

func TestFlatInvalidLibraries(t *testing.T) {
	full := fullLibrary()
	full.Cells = append(full.Cells, impl.Cell{Name: "more"})
	circle := hierarchy(nil, []int64{1})
	for _, lib := range []impl.Library{{}, {Cells: []impl.Cell{}}, {Cells: make([]impl.Cell, 1)}, {Cells: make([]impl.Cell, 8)}, full, circle} {
		for _, cell := range append(noCells(len(lib.Cells)), 0, 1, 7) {
			checkNothing(t, textOf(lib), lib, cell, impl.ErrInvalid)
		}
		if got, code := impl.ExpandArrays(lib); code != impl.ErrInvalid || got.Cells != nil {
			t.Errorf("ExpandArrays of %.99s: %d, %s", textOf(lib), code, textOf(got))
		}
	}
	for _, lib := range []impl.Library{sampleLibrary(), withOccurrences(3), {Cells: []impl.Cell{{Name: "a"}}}} {
		for _, cell := range noCells(len(lib.Cells)) {
			checkNothing(t, textOf(lib), lib, cell, impl.ErrNotFound)
		}
	}
}

// TestFlatFieldsOfALibrary changes each field to values of all kinds, one at a time.
func TestFlatFieldsOfALibrary(t *testing.T) {
	changed := copyOf(sampleLibrary())
	checkFlat(t, changed)
	valid, invalid := 0, 0
	for _, f := range fieldsOf("lib", reflect.ValueOf(&changed).Elem()) {
		old := reflect.ValueOf(f.value.Interface())
		for _, other := range otherValues(old) {
			f.value.Set(other)
			if validByWords(changed) {
				valid++
				checkFlat(t, changed)
				continue
			}
			invalid++
			what := fmt.Sprintf("%s is %.99v", f.path, other)
			for _, cell := range []int64{-1, 0, 2, 3, 4} {
				checkNothing(t, what, changed, cell, impl.ErrInvalid)
			}
			if got, code := impl.ExpandArrays(changed); code != impl.ErrInvalid || got.Cells != nil {
				t.Fatalf("%s: ExpandArrays: %d, %s", what, code, textOf(got))
			}
		}
		f.value.Set(old)
	}
	if valid < 100 || invalid < 1000 {
		t.Errorf("%d changes are valid and %d are not", valid, invalid)
	}
}

// compactLibrary is the same one for the same seed. Its cells are small, and in every other one they lie close together.
func compactLibrary(seed uint64) impl.Library {
	random := rand.New(rand.NewPCG(seed, 10))
	around := func(n int64) int64 { return random.Int64N(2*n+1) - n }
	spread := 12 + 24*int64(seed%2)
	var lib impl.Library
	for i := range 1 + random.Int64N(6) {
		c := impl.Cell{Name: letter(int(i))}
		for range random.Int64N(4) {
			x, y := around(4), around(4)
			box := impl.Rect{X0: x, Y0: y, X1: x + 1 + random.Int64N(4), Y1: y + 1 + random.Int64N(4)}
			c.Shapes = append(c.Shapes, impl.Shape{Layer: random.Int64N(3) * random.Int64N(4), Box: box})
			c.Labels = append(c.Labels, impl.Label{Layer: random.Int64N(8), At: impl.Point{X: x, Y: y}, Name: fmt.Sprint(random.Int64N(1000))})
		}
		for range min(random.Int64N(4), 8*i) {
			place := impl.Transform{Orientation: random.Int64N(8), X: around(spread), Y: around(spread)}
			in := impl.Instance{Cell: random.Int64N(i), Place: place, Columns: 1, Rows: 1}
			if random.Int64N(3) == 0 {
				in.Columns, in.StepX = 2+random.Int64N(3), around(spread)
			}
			if random.Int64N(3) == 0 {
				in.Rows, in.StepY = 2+random.Int64N(3), around(spread)
			}
			c.Instances = append(c.Instances, in)
		}
		lib.Cells = append(lib.Cells, c)
	}
	return lib
}

func TestFlatRandomLibraries(t *testing.T) {
	codes, shapesCodes, expanded := map[int64]int{}, map[int64]int{}, map[int64]int{}
	count := func(lib impl.Library) {
		f := checkFlat(t, lib)
		_, code := impl.ExpandArrays(lib)
		codes[f.code]++
		shapesCodes[f.shapesCode]++
		expanded[code]++
	}
	for seed := range uint64(1500) {
		count(compactLibrary(seed))
	}
	for seed := range uint64(300) {
		count(randomLibrary(seed))
	}
	for _, counts := range []map[int64]int{codes, shapesCodes, expanded} {
		if counts[impl.ErrNone] < 500 || counts[impl.ErrRange] < 20 || counts[impl.ErrLimit] < 20 {
			t.Errorf("the codes %v", counts)
		}
	}
}

// TestLayersByHand has shapes of one layer that overlap, abut, touch at a corner and are equal.
func TestLayersByHand(t *testing.T) {
	shape := func(layer int64, r impl.Rect) impl.Shape { return impl.Shape{Layer: layer, Box: r} }
	square := impl.Rect{X1: 2, Y1: 2}
	for _, c := range []struct {
		name   string
		shapes []impl.Shape
		in     impl.Instance
		layer  int64
		want   []impl.Rect
	}{
		{"equal", []impl.Shape{shape(0, square), shape(0, square)}, impl.Instance{Columns: 2, Rows: 2}, 0, []impl.Rect{square}},
		{"abutting", []impl.Shape{shape(7, square)}, impl.Instance{Columns: 3, Rows: 2, StepX: 2, StepY: 2}, 7, []impl.Rect{{X1: 6, Y1: 4}}},
		{"overlapping", []impl.Shape{shape(3, square)}, impl.Instance{Columns: 4, Rows: 1, StepX: -1}, 3, []impl.Rect{{X0: -3, X1: 2, Y1: 2}}},
		{"touching at corners", []impl.Shape{shape(3, square), shape(3, impl.Rect{X0: 2, Y0: 2, X1: 4, Y1: 4})}, impl.Instance{Columns: 1, Rows: 1}, 3,
			[]impl.Rect{square, {X0: 2, Y0: 2, X1: 4, Y1: 4}}},
		{"apart", []impl.Shape{shape(6, square)}, impl.Instance{Columns: 2, Rows: 1, StepX: -5}, 6, []impl.Rect{{X0: -5, X1: -3, Y1: 2}, square}},
		{"turned", []impl.Shape{shape(1, impl.Rect{X1: 4, Y1: 1})}, impl.Instance{Place: impl.Transform{Orientation: 1}, Columns: 1, Rows: 2, StepY: 3}, 1,
			[]impl.Rect{{X0: -1, X1: 0, Y1: 7}}},
		{"the whole chip", []impl.Shape{shape(0, impl.Rect{X0: -40, Y0: -40, X1: 0, Y1: 0})}, impl.Instance{Columns: 2, Rows: 2, StepX: 40, StepY: 40}, 0, wholeChip()},
	} {
		t.Run(c.name, func(t *testing.T) {
			lib := impl.Library{Cells: []impl.Cell{{Name: "a", Shapes: c.shapes}, {Name: "b", Instances: []impl.Instance{c.in}}}}
			checkFlat(t, lib)
			layers, code := impl.FlattenLayers(lib, 1)
			if code != impl.ErrNone || len(layers) != impl.Layers || !impl.IsLayout(layers) {
				t.Fatalf("%v, %d", layers, code)
			}
			for i, r := range layers {
				var want []impl.Rect
				if int64(i) == c.layer {
					want = c.want
				}
				checkSame(t, fmt.Sprint("layer ", i), r, want)
			}
		})
	}
}

// TestShapesOnDifferentLayers covers one place on all layers.
func TestShapesOnDifferentLayers(t *testing.T) {
	lib := impl.Library{Cells: []impl.Cell{{Name: "a"}, {Name: "b", Instances: []impl.Instance{single(0)}}}}
	var want [][]impl.Rect
	for layer := range int64(impl.Layers) {
		box := impl.Rect{X0: -layer, X1: 1, Y1: 1 + layer}
		lib.Cells[layer%2].Shapes = append(lib.Cells[layer%2].Shapes, impl.Shape{Layer: layer, Box: box})
		want = append(want, []impl.Rect{box})
	}
	checkFlat(t, lib)
	layers, _ := impl.FlattenLayers(lib, 1)
	checkList(t, "the layers", layers, want)
}

// fullRows has 20 unit cells in every other column of a row, and this many more that are equal to the first one.
func fullRows(more int) impl.Library {
	lib := impl.Library{Cells: []impl.Cell{{Name: "row"}, {Name: "four"}, {Name: "top"}}}
	for x := range int64(20) {
		lib.Cells[0].Shapes = append(lib.Cells[0].Shapes, impl.Shape{Layer: impl.Metal2, Box: unitRect(impl.Point{X: 2*x - 40, Y: -40})})
	}
	lib.Cells[0].Shapes = append(lib.Cells[0].Shapes, slices.Repeat(lib.Cells[0].Shapes[:1], more)...)
	for y := range int64(4) {
		in := impl.Instance{Cell: 0, Place: impl.Transform{X: y % 2, Y: y}, Columns: 2, Rows: 1, StepX: 40}
		lib.Cells[1].Instances = append(lib.Cells[1].Instances, in)
	}
	for y := range int64(5) {
		in := impl.Instance{Cell: 1, Place: impl.Transform{Y: 16 * y}, Columns: 1, Rows: 4, StepY: 4}
		lib.Cells[2].Instances = append(lib.Cells[2].Instances, in)
	}
	return lib
}

// TestMoreShapesThanRectangles has more shapes on one layer than other functions take rectangles, and a region with as many
// rectangles as there can be.
func TestMoreShapesThanRectangles(t *testing.T) {
	for more := range 5 {
		lib := fullRows(more)
		f := checkFlat(t, lib)
		if len(f.shapes) != 160*(20+more) {
			t.Fatalf("%d shapes", len(f.shapes))
		}
		layers, code := impl.FlattenLayers(lib, 2)
		if code != impl.ErrNone || len(layers) != impl.Layers || !impl.IsLayout(layers) {
			t.Fatalf("%d layers, %d", len(layers), code)
		}
		checkSame(t, "the layer", layers[impl.Metal2], checkerboard(0))
		if box, code := impl.ContentBounds(lib, 2); code != impl.ErrNone || box != wholeChip()[0] {
			t.Errorf("%v, %d", box, code)
		}
	}
	full := withOccurrences(200)
	for i := range full.Cells {
		full.Cells[i].Shapes = slices.Repeat([]impl.Shape{{Layer: impl.Marker, Box: impl.Rect{X0: int64(i), X1: int64(i) + 1, Y1: 5}}}, impl.MaxShapes)
		full.Cells[i].Labels = slices.Repeat([]impl.Label{{Layer: impl.Marker, Name: letter(i)}}, impl.MaxLabels)
	}
	if f := checkFlat(t, full); len(f.shapes) != 4800 || len(f.labels) != 1600 {
		t.Errorf("%d shapes and %d labels", len(f.shapes), len(f.labels))
	}
	layers, code := impl.FlattenLayers(full, 2)
	checkSame(t, "4800 shapes", flat(layers), []impl.Rect{{X1: 3, Y1: 5}})
	if box, boxCode := impl.ContentBounds(full, 2); code != impl.ErrNone || boxCode != impl.ErrNone || box != (impl.Rect{X1: 3, Y1: 5}) {
		t.Errorf("%d, %v, %d", code, box, boxCode)
	}
}

// TestBoundsByHand has shapes in the cell itself, in its elements, in both and in none.
func TestBoundsByHand(t *testing.T) {
	for _, c := range []struct {
		name         string
		upper, lower []impl.Rect
		want         impl.Rect
		code         int64
	}{
		{"nothing", nil, nil, impl.Rect{}, impl.ErrNotFound},
		{"in the cell", []impl.Rect{{X0: 3, Y0: 4, X1: 5, Y1: 6}}, nil, impl.Rect{X0: 3, Y0: 4, X1: 5, Y1: 6}, 0},
		{"in two elements", nil, []impl.Rect{{X0: 1, Y0: 0, X1: 4, Y1: 1}}, impl.Rect{X0: -2, Y0: 1, X1: 6, Y1: 4}, 0},
		{"in both", []impl.Rect{{X0: -8, Y0: 0, X1: -7, Y1: 1}}, []impl.Rect{{X0: 1, Y0: 0, X1: 4, Y1: 1}}, impl.Rect{X0: -8, Y0: 0, X1: 6, Y1: 4}, 0},
		{"several", []impl.Rect{{X1: 1, Y1: 1}, {X0: -1, Y0: 9, X1: 0, Y1: 10}, {X0: 7, Y0: 3, X1: 9, Y1: 4}, {X0: 2, Y0: -6, X1: 3, Y1: -5}}, nil,
			impl.Rect{X0: -1, Y0: -6, X1: 9, Y1: 10}, 0},
		{"the chip", wholeChip(), nil, wholeChip()[0], 0},
		{"in the corners of the chip", []impl.Rect{{X0: -40, Y0: 39, X1: -39, Y1: 40}, {X0: 39, Y0: -40, X1: 40, Y1: -39}}, nil, wholeChip()[0], 0},
	} {
		t.Run(c.name, func(t *testing.T) {
			in := impl.Instance{Place: impl.Transform{Orientation: 1, X: -1}, Columns: 2, Rows: 1, StepX: 7}
			lib := impl.Library{Cells: []impl.Cell{
				{Name: "a", Labels: []impl.Label{{At: impl.Point{X: 30, Y: 20}, Name: "far"}}}, {Name: "b", Instances: []impl.Instance{in}}, {Name: "c", Shapes: corner().Shapes},
			}}
			for i, boxes := range [][]impl.Rect{c.lower, c.upper} {
				for _, box := range boxes {
					lib.Cells[i].Shapes = append(lib.Cells[i].Shapes, impl.Shape{Layer: box.X1 & 7, Box: box})
				}
			}
			checkFlat(t, lib)
			if got, code := impl.ContentBounds(lib, 1); got != c.want || code != c.code {
				t.Errorf("%v, %d, want %v, %d", got, code, c.want, c.code)
			}
		})
	}
}

func TestIsLayout(t *testing.T) {
	for _, count := range []int{0, 1, 6, 7, 9, 10, 16, 256, 264} {
		if impl.IsLayout(make([][]impl.Rect, count)) {
			t.Errorf("%d empty regions are a layout", count)
		}
	}
	if impl.IsLayout(nil) || impl.IsLayout([][]impl.Rect{{{X1: 1, Y1: 1}}}) {
		t.Error("no regions or one are a layout")
	}
	regions := sampleRegions()
	for i, r := range regions {
		for place := range impl.Layers {
			layers := make([][]impl.Rect, impl.Layers)
			layers[place] = r
			layers[7-place] = regions[(i+1)%len(regions)]
			if !impl.IsLayout(layers) {
				t.Fatalf("no layout with %.199v on layer %d", r, place)
			}
			for _, other := range [][][]impl.Rect{layers[1:], layers[:7], append(slices.Clone(layers), nil), append([][]impl.Rect{nil}, layers...)} {
				if impl.IsLayout(other) {
					t.Fatalf("%d regions are a layout", len(other))
				}
			}
		}
	}
	for _, r := range nonRegions() {
		for place := range impl.Layers {
			layers := slices.Repeat([][]impl.Rect{{{X1: 1, Y1: 1}}}, impl.Layers)
			layers[place] = r
			if impl.IsLayout(layers) {
				t.Fatalf("a layout with %.199v on layer %d", r, place)
			}
		}
	}
	checkBehindTheEnd(t)
}

// checkBehindTheEnd has lists of nine regions that begin with a layout, and eight of which one is repeated behind the end.
func checkBehindTheEnd(t *testing.T) {
	t.Helper()
	layers := make([][]impl.Rect, 9)
	layers[8] = []impl.Rect{{X1: -1}}
	if impl.IsLayout(layers) || !impl.IsLayout(layers[:8]) || impl.IsLayout(layers[1:]) {
		t.Error("what lies behind the end counts, or what lies before it does not")
	}
}

// TestExpandedInstances has up to eight instances after expanding and one more, in each cell.
func TestExpandedInstances(t *testing.T) {
	for count := int64(1); count <= 20; count++ {
		for cell := 1; cell < impl.MaxCells; cell++ {
			for _, first := range []bool{false, true} {
				lib := hierarchy(slices.Repeat([][]int64{nil}, impl.MaxCells)...)
				list := copies(int64(cell)-1, count)
				if first {
					list = slices.Concat([]impl.Instance{single(0)}, copies(0, count-1))
				}
				lib.Cells[cell].Instances = list
				checkExpanded(t, lib)
				expanded, code := impl.ExpandArrays(lib)
				if count <= 8 && (code != impl.ErrNone || int64(len(expanded.Cells[cell].Instances)) != count) || count > 8 && (code != impl.ErrLimit || expanded.Cells != nil) {
					t.Fatalf("%d elements in cell %d: %d, %s", count, cell, code, textOf(expanded))
				}
			}
		}
	}
}

// TestExpandArraysByHand has arrays before, between and after other instances.
func TestExpandArraysByHand(t *testing.T) {
	at := func(cell, orientation, x, y int64) impl.Instance {
		return impl.Instance{Cell: cell, Place: impl.Transform{Orientation: orientation, X: x, Y: y}, Columns: 1, Rows: 1}
	}
	lib := impl.Library{Cells: []impl.Cell{
		corner(),
		// The top cell does not reach this one.
		{Name: "unused", Instances: []impl.Instance{{Place: impl.Transform{Orientation: 3, X: 1, Y: 2}, Columns: 1, Rows: 3, StepY: -10}}},
		{Name: "b", Shapes: corner().Shapes, Labels: corner().Labels, Instances: []impl.Instance{
			at(0, 5, 1, 1), {Place: impl.Transform{Orientation: 2, X: -80, Y: 80}, Columns: 2, Rows: 2, StepX: 80, StepY: -80}, at(1, 4, 0, 7),
			{Place: impl.Transform{Orientation: 7}, Columns: 2, Rows: 1},
		}},
		{Name: "top", Instances: []impl.Instance{at(2, 1, -3, 3)}},
	}}
	want := copyOf(lib)
	want.Cells[1].Instances = []impl.Instance{at(0, 3, 1, 2), at(0, 3, 1, -8), at(0, 3, 1, -18)}
	want.Cells[2].Instances = []impl.Instance{
		at(0, 5, 1, 1), at(0, 2, -80, 80), at(0, 2, 0, 80), at(0, 2, -80, 0), at(0, 2, 0, 0), at(1, 4, 0, 7), at(0, 7, 0, 0), at(0, 7, 0, 0),
	}
	checkFlat(t, lib)
	if got, code := impl.ExpandArrays(lib); code != impl.ErrNone || !impl.SameLibrary(got, want) || textOf(got) != textOf(want) {
		t.Errorf("%d, %s, want %s", code, textOf(got), textOf(want))
	}
	if got, code := impl.ExpandArrays(want); code != impl.ErrNone || !impl.SameLibrary(got, want) {
		t.Errorf("without arrays: %d, %s, want %s", code, textOf(got), textOf(want))
	}
	far := copyOf(lib)
	far.Cells[1].Instances[0].Place.Y = -61
	if got, code := impl.ExpandArrays(far); code != impl.ErrRange || got.Cells != nil {
		t.Errorf("out of range where the top cell does not reach: %d, %s", code, textOf(got))
	}
	far.Cells[1].Instances[0].Place.Y = -60
	if _, code := impl.ExpandArrays(far); code != impl.ErrNone {
		t.Errorf("at the end of the range: %d", code)
	}
	far.Cells[1].Instances[0].Rows, far.Cells[1].Instances[0].Columns, far.Cells[1].Instances[0].StepY = 3, 3, 1
	if got, code := impl.ExpandArrays(far); code != impl.ErrLimit || got.Cells != nil {
		t.Errorf("nine instances where the top cell does not reach: %d, %s", code, textOf(got))
	}
}

// withSparePath returns a path with numbers behind its end.
func withSparePath(path ...int64) []int64 {
	return append(slices.Clone(path), 7, 7, 7)[:len(path)]
}

// TestFlatteningKeepsItsArguments also looks at the memory behind the arguments and overwrites the results.
func TestFlatteningKeepsItsArguments(t *testing.T) {
	for _, base := range []impl.Library{
		sampleLibrary(), compactLibrary(3), compactLibrary(4), withOccurrences(40), withOccurrences(8), hierarchy(nil, []int64{0}, []int64{1, 0}),
	} {
		lib, all := withSpare(base)
		old := all()
		for range 2 {
			checkFlat(t, lib)
			for cell := range int64(len(lib.Cells)) {
				overwriteFlat(lib, cell)
			}
			expanded, _ := impl.ExpandArrays(lib)
			overwrite(expanded)
			if all() != old {
				t.Fatalf("the argument became %s, it was %s", all(), old)
			}
		}
	}
	lib := hierarchy(nil, []int64{0}, []int64{1, 0})
	path := withSparePath(0, 0)
	o, code := impl.PathPlace(lib, 2, path)
	if code != impl.ErrNone {
		t.Fatal(code)
	}
	clear(o.Path[:cap(o.Path)])
	checkNumbers(t, "the path", path[:5], []int64{0, 0, 7, 7, 7})
	o, _ = impl.PathPlace(lib, 2, withSparePath(1))
	path[0] = 5
	checkNumbers(t, "the path of an occurrence", o.Path, []int64{1})
}

// overwriteFlat clears all results of the functions for a cell, and what lies behind the ends of their slices.
func overwriteFlat(lib impl.Library, cell int64) {
	occurrences, _ := impl.Occurrences(lib, cell)
	for _, o := range occurrences {
		clear(o.Path[:cap(o.Path)])
	}
	clear(occurrences[:cap(occurrences)])
	shapes, _ := impl.FlattenShapes(lib, cell)
	clear(shapes[:cap(shapes)])
	labels, _ := impl.FlattenLabels(lib, cell)
	clear(labels[:cap(labels)])
	layers, _ := impl.FlattenLayers(lib, cell)
	for _, r := range layers[:cap(layers)] {
		clear(r[:cap(r)])
	}
	clear(layers[:cap(layers)])
}

// TestFlatResultsHaveTheirOwnMemory overwrites each slice of a result and looks at the others.
func TestFlatResultsHaveTheirOwnMemory(t *testing.T) {
	lib := impl.Library{Cells: []impl.Cell{
		corner(), {Name: "b", Instances: copies(0, 3)}, {Name: "c", Instances: copies(1, 3)}, {Name: "d", Instances: copies(2, 2)}, {Name: "e", Instances: copies(3, 2)},
	}}
	list, _ := impl.Occurrences(lib, 4)
	for i := range list {
		want := slices.Clone(list)
		for k, o := range list {
			want[k].Path = slices.Clone(o.Path)
		}
		for k := range list[i].Path[:cap(list[i].Path)] {
			list[i].Path[:cap(list[i].Path)][k] = -9
		}
		for k := range want[i].Path {
			want[i].Path[k] = -9
		}
		checkTexts(t, fmt.Sprintf("path %d was overwritten", i), fmt.Sprint(list), fmt.Sprint(want))
	}
	for i := range lib.Cells {
		lib.Cells[i].Shapes, lib.Cells[i].Labels = lib.Cells[0].Shapes, lib.Cells[0].Labels
	}
	layers, _ := impl.FlattenLayers(lib, 4)
	checkUnshared(t, layers)
	for i := range lib.Cells {
		expanded, _ := impl.ExpandArrays(lib)
		want := copyOf(expanded)
		for _, c := range []*impl.Cell{&expanded.Cells[i], &want.Cells[i]} {
			clear(c.Shapes[:cap(c.Shapes)])
			clear(c.Labels[:cap(c.Labels)])
			clear(c.Instances[:cap(c.Instances)])
		}
		checkTexts(t, fmt.Sprintf("cell %d was overwritten", i), textOf(expanded), textOf(want))
	}
	if lib.Cells[0].Shapes[0] != corner().Shapes[0] || lib.Cells[0].Labels[0] != corner().Labels[0] {
		t.Error("the argument was overwritten")
	}
}

func TestFlatteningTwice(t *testing.T) {
	lib := compactLibrary(11)
	first := flatText(lib, int64(len(lib.Cells))-1)
	checkNothing(t, "between", impl.Library{}, 0, impl.ErrInvalid)
	checkTexts(t, "once more", flatText(lib, int64(len(lib.Cells))-1), first)
}

func TestChapter10Examples(t *testing.T) {
	if p, ok := impl.ElementPlace(impl.Instance{Place: impl.Transform{X: 1, Y: 2}, Columns: 3, Rows: 1, StepX: 10}, 2, 0); !ok || p != (impl.Transform{X: 21, Y: 2}) {
		t.Errorf("ElementPlace: %v, %v", p, ok)
	}
	lib := impl.Library{Cells: []impl.Cell{
		{Name: "a", Shapes: []impl.Shape{{Layer: impl.Metal1, Box: impl.Rect{X1: 2, Y1: 1}}}, Labels: []impl.Label{{Name: "x"}}},
		{Name: "b", Instances: []impl.Instance{{Columns: 2, Rows: 1, StepX: 5}}},
		{Name: "c", Instances: []impl.Instance{{Columns: 2, Rows: 1, StepX: 2}}},
		{Name: "d", Instances: []impl.Instance{{Place: impl.Transform{Orientation: 1}, Columns: 1, Rows: 1}}},
	}}
	if list, code := impl.Occurrences(lib, 1); code != impl.ErrNone || fmt.Sprint(list) != "[{1 {0 0 0} []} {0 {0 0 0} [0]} {0 {0 5 0} [1]}]" {
		t.Errorf("Occurrences: %v, %d", list, code)
	}
	checkPath(t, lib, 1, []int64{1}, impl.Occurrence{Cell: 0, Place: impl.Transform{X: 5}, Path: []int64{1}}, impl.ErrNone)
	checkPath(t, lib, 1, []int64{2}, impl.Occurrence{}, impl.ErrNotFound)
	if list, code := impl.FlattenShapes(lib, 1); code != impl.ErrNone || fmt.Sprint(list) != "[{3 {0 0 2 1}} {3 {5 0 7 1}}]" {
		t.Errorf("FlattenShapes: %v, %d", list, code)
	}
	if list, code := impl.FlattenLabels(lib, 3); code != impl.ErrNone || fmt.Sprint(list) != "[{0 {-1 0} x}]" {
		t.Errorf("FlattenLabels: %v, %d", list, code)
	}
	if layers, code := impl.FlattenLayers(lib, 2); code != impl.ErrNone || fmt.Sprint(layers) != "[[] [] [] [{0 0 4 1}] [] [] [] []]" {
		t.Errorf("FlattenLayers: %v, %d", layers, code)
	}
	if !impl.IsLayout(make([][]impl.Rect, 8)) || impl.IsLayout(make([][]impl.Rect, 7)) {
		t.Error("IsLayout")
	}
	if box, code := impl.ContentBounds(lib, 1); code != impl.ErrNone || box != (impl.Rect{X1: 7, Y1: 1}) {
		t.Errorf("ContentBounds: %v, %d", box, code)
	}
	if out, code := impl.ExpandArrays(lib); code != impl.ErrNone || len(out.Cells[1].Instances) != 2 {
		t.Errorf("ExpandArrays: %d, %s", code, textOf(out))
	}
}
