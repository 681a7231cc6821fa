package tests

import (
	"fmt"
	"math"
	"math/rand/v2"
	"reflect"
	"regexp"
	"slices"
	"strings"
	"testing"

	"loop.example/g00890/impl"
)

// single places a cell once, without moving it.
func single(cell int64) impl.Instance {
	return impl.Instance{Cell: cell, Columns: 1, Rows: 1}
}

// array has steps where it has several columns or rows.
func array(cell, columns, rows int64) impl.Instance {
	in := impl.Instance{Cell: cell, Place: impl.Transform{Orientation: 1, X: 5}, Columns: columns, Rows: rows}
	if columns > 1 {
		in.StepX = 7
	}
	if rows > 1 {
		in.StepY = -3
	}
	return in
}

// letter is the name of the cell with this index in the libraries that hierarchy returns.
func letter(cell int) string {
	return string(rune('a' + cell))
}

// hierarchy returns a library in which each cell places these cells. No two cells have the same shapes or labels.
func hierarchy(placed ...[]int64) impl.Library {
	var lib impl.Library
	for i, cells := range placed {
		n := int64(i)
		c := impl.Cell{Name: letter(i)}
		for k := range n%3 + 1 {
			c.Shapes = append(c.Shapes, impl.Shape{Layer: k, Box: impl.Rect{X0: n, Y0: k, X1: n + 2, Y1: k + 1}})
			c.Labels = append(c.Labels, impl.Label{Layer: 7 - k, At: impl.Point{X: -n, Y: k}, Name: fmt.Sprint("l", n)})
		}
		for k, cell := range cells {
			in := single(cell)
			in.Place = impl.Transform{Orientation: (n + int64(k)) % 8, X: 3 * n, Y: -int64(k)}
			c.Instances = append(c.Instances, in)
		}
		lib.Cells = append(lib.Cells, c)
	}
	return lib
}

// copyOf shares no memory with a library.
func copyOf(lib impl.Library) impl.Library {
	other := impl.Library{Cells: slices.Clone(lib.Cells)}
	for i := range other.Cells {
		c := &other.Cells[i]
		c.Shapes, c.Labels, c.Instances = slices.Clone(c.Shapes), slices.Clone(c.Labels), slices.Clone(c.Instances)
	}
	return other
}

// textOf does not tell a nil slice from an empty one. No name has a blank.
func textOf(lib impl.Library) string {
	return fmt.Sprintf("%+v", lib)
}

func cellIndices(lib impl.Library) []int64 {
	var list []int64
	for i := range lib.Cells {
		list = append(list, int64(i))
	}
	return list
}

// noCells are indices that no library of this number of cells has.
func noCells(count int) []int64 {
	return append([]int64{-1, int64(count), int64(count) + 1, -8, 8, 9, 1 << 8, 1 << 32, -1 << 32, 1<<63 - 8}, outside...)
}

var namePattern = regexp.MustCompile(`\A[a-z0-9]{1,8}\z`)

func nameByDefinition(s string) bool {
	return namePattern.MatchString(s)
}

func within(n, low, high int64) bool {
	return low <= n && n <= high
}

func stepsByDefinition(count, step int64) bool {
	return within(count, 1, 4) && within(step, -80, 80) && (count != 1 || step == 0)
}

// validByWords follows the words of chapter 9.
func validByWords(lib impl.Library) bool {
	names := map[string]bool{}
	for i, c := range lib.Cells {
		names[c.Name] = true
		if !nameByDefinition(c.Name) || len(c.Shapes) > 24 || len(c.Labels) > 8 || len(c.Instances) > 8 {
			return false
		}
		for _, s := range c.Shapes {
			if !within(s.Layer, 0, 7) || !wantValid(s.Box) {
				return false
			}
		}
		for _, l := range c.Labels {
			if !within(l.Layer, 0, 7) || !within(l.At.X, -40, 39) || !within(l.At.Y, -40, 39) || !nameByDefinition(l.Name) {
				return false
			}
		}
		for _, in := range c.Instances {
			validPlace := within(in.Place.Orientation, 0, 7) && within(in.Place.X, -80, 80) && within(in.Place.Y, -80, 80)
			if !validPlace || !within(in.Cell, 0, int64(i)-1) || !stepsByDefinition(in.Columns, in.StepX) || !stepsByDefinition(in.Rows, in.StepY) {
				return false
			}
		}
	}
	return within(int64(len(lib.Cells)), 1, 8) && len(names) == len(lib.Cells)
}

// checkValid checks validity only.
func checkValid(t *testing.T, what string, lib impl.Library) {
	t.Helper()
	if !impl.IsValidLibrary(lib) || !validByWords(lib) {
		t.Fatalf("%s: valid %v, want %v: %.499s", what, impl.IsValidLibrary(lib), validByWords(lib), textOf(lib))
	}
}

// checkInvalid asks every function.
func checkInvalid(t *testing.T, what string, lib impl.Library) {
	t.Helper()
	if impl.IsValidLibrary(lib) || validByWords(lib) {
		t.Fatalf("%s: valid %v, want %v: %.499s", what, impl.IsValidLibrary(lib), validByWords(lib), textOf(lib))
	}
	names := []string{"a", "b", "top", ""}
	for _, c := range lib.Cells {
		names = append(names, c.Name)
	}
	for _, name := range names {
		if got := impl.CellIndex(lib, name); got != -1 {
			t.Fatalf("%s: CellIndex(%.99q) = %d", what, name, got)
		}
	}
	for _, cell := range append(cellIndices(lib), noCells(len(lib.Cells))...) {
		checkNoCell(t, what, lib, cell)
	}
	if got := impl.RemoveUnused(lib); got.Cells != nil {
		t.Fatalf("%s: RemoveUnused returns %.499s", what, textOf(got))
	}
	valid := impl.Library{Cells: []impl.Cell{{Name: "a"}}}
	if impl.SameLibrary(lib, lib) || impl.SameLibrary(lib, copyOf(lib)) || impl.SameLibrary(lib, valid) || impl.SameLibrary(valid, lib) {
		t.Fatalf("%s: the same as itself or a valid one", what)
	}
}

// checkNoCell asks for an index that no cell has, or for one of a library that is not valid.
func checkNoCell(t *testing.T, what string, lib impl.Library, cell int64) {
	t.Helper()
	if depth, count := impl.CellDepth(lib, cell), impl.ElementCount(lib, cell); depth != -1 || count != -1 {
		t.Fatalf("%s: cell %d has the depth %d and %d occurrences", what, cell, depth, count)
	}
	if users, reached := impl.UsersOf(lib, cell), impl.ReachableCells(lib, cell); users != nil || reached != nil {
		t.Fatalf("%s: cell %d has the users %v and reaches %v", what, cell, users, reached)
	}
}

// depthByDefinition returns the length of the longest way down.
func depthByDefinition(lib impl.Library, cell int64) int64 {
	depth := int64(0)
	for _, in := range lib.Cells[cell].Instances {
		depth = max(depth, 1+depthByDefinition(lib, in.Cell))
	}
	return depth
}

func usersByDefinition(lib impl.Library, cell int64) []int64 {
	var users []int64
	for i, c := range lib.Cells {
		for _, in := range c.Instances {
			if in.Cell == cell && !slices.Contains(users, int64(i)) {
				users = append(users, int64(i))
			}
		}
	}
	return users
}

func reachableByDefinition(lib impl.Library, cell int64) []int64 {
	reached := []int64{cell}
	for _, in := range lib.Cells[cell].Instances {
		reached = append(reached, reachableByDefinition(lib, in.Cell)...)
	}
	slices.Sort(reached)
	return slices.Compact(reached)
}

// visitBelow goes to each occurrence below a cell, element by element, with the transforms that take its points to the
// cell at the root, in the order in which they apply.
func visitBelow(lib impl.Library, cell int64, moves []impl.Transform, visit func(c impl.Cell, moves []impl.Transform)) {
	visit(lib.Cells[cell], moves)
	for _, in := range lib.Cells[cell].Instances {
		for j := range in.Rows {
			for i := range in.Columns {
				place := in.Place
				place.X += i * in.StepX
				place.Y += j * in.StepY
				visitBelow(lib, in.Cell, append([]impl.Transform{place}, moves...), visit)
			}
		}
	}
}

// contents describes what a cell contains: the number of occurrences below it, and their moved shapes and labels.
func contents(lib impl.Library, cell int64) (int64, []string) {
	count := int64(0)
	var found []string
	visitBelow(lib, cell, nil, func(c impl.Cell, moves []impl.Transform) {
		count++
		image := func(points ...impl.Point) []impl.Point {
			for _, u := range moves {
				points = imagesOf(u, points)
			}
			return points
		}
		for _, s := range c.Shapes {
			box := image(impl.Point{X: s.Box.X0, Y: s.Box.Y0}, impl.Point{X: s.Box.X1, Y: s.Box.Y1})
			found = append(found, fmt.Sprint(c.Name, " shape ", s.Layer, box))
		}
		for _, l := range c.Labels {
			cell := image(l.At, impl.Point{X: l.At.X + 1, Y: l.At.Y + 1})
			found = append(found, fmt.Sprint(c.Name, " label ", l.Layer, l.Name, cell))
		}
	})
	return count, found
}

func checkNumbers(t *testing.T, what string, got, want []int64) {
	t.Helper()
	if !slices.Equal(got, want) {
		t.Fatalf("%s: %v, want %v", what, got, want)
	}
}

// checkHierarchy compares all that the functions say of a library with few elements with the definition.
func checkHierarchy(t *testing.T, lib impl.Library) {
	t.Helper()
	text := textOf(lib)
	checkValid(t, "the library", lib)
	for i, c := range lib.Cells {
		cell := int64(i)
		name := fmt.Sprintf("%d of %.499s", cell, text)
		if got := impl.CellIndex(lib, c.Name); got != cell {
			t.Fatalf("%s: CellIndex(%s) = %d", name, c.Name, got)
		}
		if got, want := impl.CellDepth(lib, cell), depthByDefinition(lib, cell); got != want {
			t.Fatalf("CellDepth of %s: %d, want %d", name, got, want)
		}
		checkNumbers(t, "UsersOf "+name, impl.UsersOf(lib, cell), usersByDefinition(lib, cell))
		checkNumbers(t, "ReachableCells of "+name, impl.ReachableCells(lib, cell), reachableByDefinition(lib, cell))
		if want, _ := contents(lib, cell); impl.ElementCount(lib, cell) != want {
			t.Fatalf("ElementCount of %s: %d, want %d", name, impl.ElementCount(lib, cell), want)
		}
	}
	for _, cell := range noCells(len(lib.Cells)) {
		checkNoCell(t, text, lib, cell)
	}
	checkUsed(t, lib)
	if textOf(lib) != text {
		t.Fatalf("the library became %s, it was %s", textOf(lib), text)
	}
}

// cellText names the cells that instances place instead of their indices.
func cellText(lib impl.Library, cell int64) string {
	c := lib.Cells[cell]
	text := fmt.Sprintf("%s %+v %+v", c.Name, c.Shapes, c.Labels)
	for _, in := range c.Instances {
		placed := lib.Cells[in.Cell].Name
		in.Cell = 0
		text += fmt.Sprintf(" %s %+v", placed, in)
	}
	return text
}

// checkUsed compares the library without unused cells with the definition.
func checkUsed(t *testing.T, lib impl.Library) {
	t.Helper()
	top := int64(len(lib.Cells)) - 1
	reached := reachableByDefinition(lib, top)
	used := impl.RemoveUnused(lib)
	checkValid(t, "without unused cells", used)
	if len(used.Cells) != len(reached) {
		t.Fatalf("%s: %d cells remain, want %v", textOf(lib), len(used.Cells), reached)
	}
	for i, cell := range reached {
		if got, want := cellText(used, int64(i)), cellText(lib, cell); got != want {
			t.Fatalf("%s: %s remains of %s", textOf(lib), got, want)
		}
	}
	count, found := contents(lib, top)
	countLeft, left := contents(used, int64(len(used.Cells))-1)
	if count != countLeft || !slices.Equal(found, left) {
		t.Fatalf("%s: the top cell contains %v, and %v without unused cells", textOf(lib), found, left)
	}
	if impl.SameLibrary(lib, used) != (len(reached) == len(lib.Cells)) {
		t.Fatalf("%s: the same as %s: %v", textOf(lib), textOf(used), impl.SameLibrary(lib, used))
	}
	if again := impl.RemoveUnused(used); textOf(again) != textOf(used) || !impl.SameLibrary(again, used) {
		t.Fatalf("%s: %s remains, and then %s", textOf(lib), textOf(used), textOf(again))
	}
}

// namesOfLength has each byte at each place of a name of this length.
func namesOfLength(length int) []string {
	var names []string
	for place := range length {
		for b := range 256 {
			name := []byte("q7zk0a9x1"[:length])
			name[place] = byte(b)
			names = append(names, string(name))
		}
	}
	return names
}

func TestEveryByteOfAName(t *testing.T) {
	for length := 1; length <= 9; length++ {
		names := 0
		for _, s := range namesOfLength(length) {
			got := impl.IsName(s)
			if got != nameByDefinition(s) {
				t.Fatalf("IsName(%q) = %v", s, got)
			}
			if got {
				names++
			}
		}
		want := 36 * length
		if length == 9 {
			want = 0
		}
		if names != want {
			t.Errorf("%d names of %d bytes, want %d", names, length, want)
		}
	}
}

func TestAllPairsOfBytes(t *testing.T) {
	names := 0
	for a := range 256 {
		for b := range 256 {
			s := string([]byte{byte(a), byte(b)})
			if impl.IsName(s) != nameByDefinition(s) {
				t.Fatalf("IsName(%q) = %v", s, impl.IsName(s))
			}
			if impl.IsName(s) {
				names++
			}
		}
	}
	if names != 36*36 {
		t.Errorf("%d names of two bytes", names)
	}
}

// noNames are strings whose bytes or whose length no name has.
func noNames() []string {
	list := []string{
		"", " ", " a", "a ", "a b", "a\n", "\na", "a\x00", "\x00", "A", "aB", "Inv", "INV2", "a_b", "_", "a-b", "-1", "+1", "a.b", "é", "aé", "日本", "ａ", "１", "١", "ß",
		"\xff", "a\x80", "\xc3", "`", "{", "/", ":", "@", "[", "a`", "{a", "9:", "/0", "abcdefghi", "123456789", "abcdefgh ", "abcdefgé", "abcdefg\n", strings.Repeat("a", 16),
	}
	for _, length := range []int{256 + 8, 1 << 16, 1<<16 + 3, 1 << 20} {
		list = append(list, strings.Repeat("n", length))
	}
	return list
}

func someNames() []string {
	return []string{"a", "z", "0", "9", "inv2", "007", "az09", "abcdefgh", "zzzzzzzz", "00000000", "99999999", "12345678", "a1b2c3d4", "x", "nil", "top"}
}

func TestNames(t *testing.T) {
	for _, s := range someNames() {
		if !impl.IsName(s) {
			t.Errorf("%q is a name", s)
		}
	}
	for _, s := range noNames() {
		if impl.IsName(s) {
			t.Errorf("%.99q is not a name", s)
		}
	}
}

// TestNamesInLibraries has each string as the name of a cell and of a label, in the first and in the last place.
func TestNamesInLibraries(t *testing.T) {
	for _, s := range slices.Concat(someNames(), noNames()) {
		check := checkInvalid
		if nameByDefinition(s) {
			check = checkValid
		}
		lib := fullLibrary()
		for _, i := range []int{0, 4, impl.MaxCells - 1} {
			c := &lib.Cells[i]
			for _, name := range []*string{&c.Name, &c.Labels[0].Name, &c.Labels[impl.MaxLabels-1].Name} {
				old := *name
				*name = s
				check(t, fmt.Sprintf("the name %.99q in cell %d", s, i), lib)
				*name = old
			}
		}
	}
	for _, s := range slices.Concat(namesOfLength(1), namesOfLength(8), namesOfLength(9)) {
		ofCell := impl.Library{Cells: []impl.Cell{{Name: s}}}
		ofLabel := impl.Library{Cells: []impl.Cell{{Name: "a", Labels: []impl.Label{{Name: s}}}}}
		if impl.IsValidLibrary(ofCell) != nameByDefinition(s) || impl.IsValidLibrary(ofLabel) != nameByDefinition(s) {
			t.Fatalf("the name %q: a cell %v, a label %v", s, impl.IsValidLibrary(ofCell), impl.IsValidLibrary(ofLabel))
		}
	}
}

// fullLibrary has as many cells and as many parts in each of them as a library can have.
func fullLibrary() impl.Library {
	var lib impl.Library
	for i := range int64(impl.MaxCells) {
		c := impl.Cell{Name: fmt.Sprint("cell", i)}
		for k := range int64(impl.MaxShapes) {
			c.Shapes = append(c.Shapes, impl.Shape{Layer: k % 8, Box: impl.Rect{X0: k - 40, Y0: i, X1: k + 16, Y1: i + 33}})
		}
		for k := range int64(impl.MaxLabels) {
			c.Labels = append(c.Labels, impl.Label{Layer: 7 - k, At: impl.Point{X: 32 + k, Y: -40 + i}, Name: "label"})
		}
		for k := range int64(impl.MaxInstances) {
			if i > 0 {
				in := array(k%i, 1+k%4, 1+i%4)
				in.Place.Orientation = k
				c.Instances = append(c.Instances, in)
			}
		}
		lib.Cells = append(lib.Cells, c)
	}
	return lib
}

func TestLimitsOfLibraries(t *testing.T) {
	lib := fullLibrary()
	checkValid(t, "a full library", lib)
	for count := 1; count <= impl.MaxCells; count++ {
		checkValid(t, fmt.Sprint(count, " cells"), impl.Library{Cells: lib.Cells[:count]})
	}
	for _, more := range []int{1, 2, 8, 248, 256} {
		longer := copyOf(lib)
		for i := range more {
			longer.Cells = append(longer.Cells, impl.Cell{Name: fmt.Sprint("m", i)})
		}
		checkInvalid(t, fmt.Sprint(len(longer.Cells), " cells"), longer)
	}
	for i := range lib.Cells {
		for _, more := range []int{1, 2, 256} {
			shapes, labels, instances := copyOf(lib), copyOf(lib), copyOf(lib)
			shapes.Cells[i].Shapes = append(shapes.Cells[i].Shapes, slices.Repeat(shapes.Cells[i].Shapes[:1], more)...)
			labels.Cells[i].Labels = append(labels.Cells[i].Labels, slices.Repeat(labels.Cells[i].Labels[:1], more)...)
			checkInvalid(t, fmt.Sprint(more, " shapes too many in cell ", i), shapes)
			checkInvalid(t, fmt.Sprint(more, " labels too many in cell ", i), labels)
			if i > 0 {
				instances.Cells[i].Instances = append(instances.Cells[i].Instances, slices.Repeat([]impl.Instance{single(0)}, more)...)
				checkInvalid(t, fmt.Sprint(more, " instances too many in cell ", i), instances)
			}
		}
	}
}

// TestEveryNumberOfParts gives one cell of a library each number of each part.
func TestEveryNumberOfParts(t *testing.T) {
	full := fullLibrary()
	for count := range impl.MaxShapes + 1 {
		for _, i := range []int{0, 3, impl.MaxCells - 1} {
			lib := copyOf(full)
			lib.Cells[i].Shapes = lib.Cells[i].Shapes[:count]
			checkValid(t, fmt.Sprint(count, " shapes"), lib)
			lib.Cells[i].Labels = lib.Cells[i].Labels[:min(count, impl.MaxLabels)]
			checkValid(t, fmt.Sprint(count, " labels"), lib)
			lib.Cells[i].Instances = lib.Cells[i].Instances[:min(count, len(lib.Cells[i].Instances))]
			checkValid(t, fmt.Sprint(count, " instances"), lib)
		}
	}
	for _, empty := range []impl.Cell{{Name: "a"}, {Name: "a", Shapes: []impl.Shape{}, Labels: []impl.Label{}, Instances: []impl.Instance{}}} {
		checkHierarchy(t, impl.Library{Cells: []impl.Cell{empty}})
		checkHierarchy(t, impl.Library{Cells: []impl.Cell{empty, {Name: "b"}, {Name: "c", Instances: []impl.Instance{single(0), single(1)}}}})
	}
}

func TestLibrariesWithoutCells(t *testing.T) {
	checkInvalid(t, "the zero Library", impl.Library{})
	checkInvalid(t, "no cells", impl.Library{Cells: []impl.Cell{}})
	checkInvalid(t, "cells only behind the end", impl.Library{Cells: fullLibrary().Cells[:0]})
	checkInvalid(t, "the zero Cell", impl.Library{Cells: make([]impl.Cell, 1)})
	checkInvalid(t, "eight zero Cells", impl.Library{Cells: make([]impl.Cell, 8)})
	if impl.SameLibrary(impl.Library{}, impl.Library{}) || impl.SameLibrary(impl.Library{}, impl.Library{Cells: []impl.Cell{}}) {
		t.Error("two libraries without cells are the same")
	}
}

func TestCellsOfOneName(t *testing.T) {
	for i := range impl.MaxCells {
		for j := range i {
			lib := fullLibrary()
			lib.Cells[i].Name = lib.Cells[j].Name
			checkInvalid(t, fmt.Sprintf("the cells %d and %d have one name", j, i), lib)
		}
	}
	lib := fullLibrary()
	for i := range lib.Cells {
		lib.Cells[i].Name = strings.Repeat("a", i+1)
	}
	checkValid(t, "each name begins the next one", lib)
	for i, name := range []string{"a", "b", "c", "aa", "ab", "ba", "1a", "a1"} {
		lib.Cells[i].Name = name
	}
	checkValid(t, "names that differ in one byte", lib)
}

// TestNamesOfLabelsMayBeEqual also has labels with the names of cells and at the same place.
func TestNamesOfLabelsMayBeEqual(t *testing.T) {
	lib := fullLibrary()
	for i := range lib.Cells {
		for k := range lib.Cells[i].Labels {
			lib.Cells[i].Labels[k] = impl.Label{Name: lib.Cells[0].Name}
		}
		lib.Cells[i].Shapes = slices.Repeat(lib.Cells[0].Shapes[:1], impl.MaxShapes)
	}
	checkValid(t, "equal labels and equal shapes", lib)
}

// checkEachPart puts parts into the first and the last place of several cells.
func checkEachPart[T any](t *testing.T, what string, parts []T, check func(*testing.T, string, impl.Library), list func(*impl.Cell) []T) {
	t.Helper()
	for _, i := range []int{0, 1, 4, impl.MaxCells - 1} {
		lib := fullLibrary()
		present := list(&lib.Cells[i])
		for _, part := range parts {
			for k := range present {
				if k == 0 || k == 5 || k == len(present)-1 {
					old := present[k]
					present[k] = part
					check(t, fmt.Sprintf("%s %d of cell %d is %+v", what, k, i, part), lib)
					present[k] = old
				}
			}
		}
	}
}

func shapesOf(c *impl.Cell) []impl.Shape { return c.Shapes }

func labelsOf(c *impl.Cell) []impl.Label { return c.Labels }

func noLayers() []int64 {
	return append([]int64{-1, 8, 9, -8, 16, 256, 1 << 32, -1 << 32, 1<<32 + 3}, outside...)
}

func TestShapesOfLibraries(t *testing.T) {
	var valid, invalid []impl.Shape
	for _, box := range sampleRects() {
		for layer := range int64(impl.Layers) {
			valid = append(valid, impl.Shape{Layer: layer, Box: box})
		}
		for _, layer := range noLayers() {
			invalid = append(invalid, impl.Shape{Layer: layer, Box: box})
		}
	}
	for _, box := range invalidRects() {
		invalid = append(invalid, impl.Shape{Layer: 0, Box: box}, impl.Shape{Layer: 7, Box: box})
	}
	checkEachPart(t, "shape", valid, checkValid, shapesOf)
	checkEachPart(t, "shape", invalid, checkInvalid, shapesOf)
}

// TestShapesAtTheBorder has unit cells and bars at each place along each border, inside and outside.
func TestShapesAtTheBorder(t *testing.T) {
	lib := impl.Library{Cells: []impl.Cell{{Name: "a", Shapes: make([]impl.Shape, 1)}}}
	for n := int64(-42); n <= 42; n++ {
		for _, at := range []int64{-42, -41, -40, -39, 38, 39, 40, 41} {
			for _, p := range vertices(n, at, at, n) {
				for _, box := range []impl.Rect{unitRect(p), {X0: p.X, Y0: p.Y, X1: 40, Y1: 40}, {X0: -40, Y0: -40, X1: p.X, Y1: p.Y}} {
					lib.Cells[0].Shapes[0].Box = box
					if impl.IsValidLibrary(lib) != wantValid(box) {
						t.Fatalf("a library with the shape %v: %v", box, impl.IsValidLibrary(lib))
					}
				}
			}
		}
	}
}

func TestLabelsOfLibraries(t *testing.T) {
	var valid, invalid []impl.Label
	for _, p := range vertices(0, 0, -40, -40, 39, 39, -40, 39, 39, -40, -40, 0, 0, 39, 17, -23) {
		for layer := range int64(impl.Layers) {
			valid = append(valid, impl.Label{Layer: layer, At: p, Name: "n"})
		}
		for _, layer := range noLayers() {
			invalid = append(invalid, impl.Label{Layer: layer, At: p, Name: "n"})
		}
	}
	for _, n := range append([]int64{40, -41, 41, -42, 80, -80, 1 << 32, -1 << 32, 1<<32 + 1}, outside...) {
		for _, p := range vertices(n, 0, 0, n, n, n, n, -40, -40, n, n, 39, 39, n) {
			invalid = append(invalid, impl.Label{At: p, Name: "n"}, impl.Label{Layer: 7, At: p, Name: "abcdefgh"})
		}
	}
	for _, name := range noNames() {
		invalid = append(invalid, impl.Label{Name: name})
	}
	checkEachPart(t, "label", valid, checkValid, labelsOf)
	checkEachPart(t, "label", invalid, checkInvalid, labelsOf)
}

// TestLabelsAtEveryPlace goes through all unit cells of the chip and around it.
func TestLabelsAtEveryPlace(t *testing.T) {
	lib := impl.Library{Cells: []impl.Cell{{Name: "a", Labels: []impl.Label{{Layer: 3, Name: "n"}}}}}
	for x := int64(-42); x <= 42; x++ {
		for y := int64(-42); y <= 42; y++ {
			lib.Cells[0].Labels[0].At = impl.Point{X: x, Y: y}
			want := within(x, -40, 39) && within(y, -40, 39)
			if impl.IsValidLibrary(lib) != want {
				t.Fatalf("a library with a label at (%d, %d): %v", x, y, impl.IsValidLibrary(lib))
			}
		}
	}
}

// checkInstances puts instances that depend on the index of their cell into the first and the last place of each cell.
func checkInstances(t *testing.T, check func(*testing.T, string, impl.Library), choices func(cell int64) []impl.Instance) {
	t.Helper()
	lib := fullLibrary()
	// A cell with no instances has no place for one; each other cell has two.
	lib.Cells[0].Instances = make([]impl.Instance, 0, 1)
	for i := range lib.Cells {
		for _, in := range choices(int64(i)) {
			for _, k := range []int{0, impl.MaxInstances - 1} {
				old := lib.Cells[i].Instances
				if i == 0 {
					lib.Cells[i].Instances = []impl.Instance{in}
				} else {
					lib.Cells[i].Instances = slices.Clone(old)
					lib.Cells[i].Instances[k] = in
				}
				check(t, fmt.Sprintf("instance %d of cell %d is %+v", k, i, in), lib)
				lib.Cells[i].Instances = old
			}
		}
	}
}

func TestInstancesPlaceEarlierCells(t *testing.T) {
	checkInstances(t, checkValid, func(cell int64) []impl.Instance {
		var list []impl.Instance
		for placed := range cell {
			list = append(list, single(placed), array(placed, 4, 4))
		}
		return list
	})
	checkInstances(t, checkInvalid, func(cell int64) []impl.Instance {
		var list []impl.Instance
		for placed := cell; placed <= impl.MaxCells+1; placed++ {
			list = append(list, single(placed), array(placed, 4, 4))
		}
		for _, placed := range noCells(impl.MaxCells) {
			list = append(list, single(placed))
		}
		return append(list, single(1<<32+cell-1), single(-1<<32))
	})
}

// TestCellsInACircle has cells that place each other.
func TestCellsInACircle(t *testing.T) {
	for _, placed := range [][][]int64{{{0}}, {nil, {1}}, {{1}, {0}}, {{1}, nil}, {{1}, {2}, {0}}, {nil, {0, 2}, {1}}, {nil, {0}, {0, 1, 2}}, {nil, {0}, {3}, {2}}} {
		checkInvalid(t, fmt.Sprintf("a circle in %v", placed), hierarchy(placed...))
	}
}

func TestPlacesOfInstances(t *testing.T) {
	place := func(list []impl.Transform) func(cell int64) []impl.Instance {
		return func(cell int64) []impl.Instance {
			var instances []impl.Instance
			for _, u := range list {
				if cell > 0 {
					instances = append(instances, impl.Instance{Cell: cell - 1, Place: u, Columns: 1, Rows: 1})
				}
			}
			return instances
		}
	}
	valid := append(sampleTransforms(), pairTransforms()...)
	checkInstances(t, checkValid, place(valid))
	invalid := invalidTransforms()
	for o := range int64(8) {
		for _, n := range []int64{limit + 1, -limit - 1} {
			invalid = append(invalid, impl.Transform{Orientation: o, X: n}, impl.Transform{Orientation: o, Y: n}, impl.Transform{Orientation: o, X: limit, Y: n})
		}
	}
	checkInstances(t, checkInvalid, place(invalid))
}

// TestArraysOfInstances goes through all numbers of columns and rows and steps in, at and beyond their ranges.
func TestArraysOfInstances(t *testing.T) {
	counts := append([]int64{-4, -1, 0, 1, 2, 3, 4, 5, 8, 1 << 32, 1<<32 + 2}, outside...)
	steps := append([]int64{-80, -79, -41, -1, 0, 1, 40, 79, 80, 1 << 32, -1 << 32, 1<<32 + 5}, outside...)
	valid := 0
	for _, count := range counts {
		for _, step := range steps {
			for _, in := range []impl.Instance{
				{Columns: count, Rows: 1, StepX: step}, {Columns: 1, Rows: count, StepY: step}, {Columns: count, Rows: 3, StepX: step},
				{Columns: 2, Rows: count, StepX: -80, StepY: step}, {Columns: count, Rows: count, StepX: step, StepY: step},
			} {
				lib := hierarchy(nil, []int64{0, 0}, []int64{1})
				lib.Cells[1].Instances[1] = in
				want := stepsByDefinition(count, step)
				if impl.IsValidLibrary(lib) != want {
					t.Fatalf("%+v is valid: %v", in, impl.IsValidLibrary(lib))
				}
				if !want {
					checkInvalid(t, fmt.Sprintf("%+v", in), lib)
					continue
				}
				valid++
				checkHierarchy(t, lib)
			}
		}
	}
	// Three numbers have nine steps each, and one has one.
	if valid != 5*(3*9+1) {
		t.Errorf("%d arrays are valid", valid)
	}
}

// TestStepsOfOneColumnOrRow has a fault in one direction and an array in the other.
func TestStepsOfOneColumnOrRow(t *testing.T) {
	for _, step := range []int64{-80, -1, 1, 2, 80} {
		for count := int64(1); count <= 4; count++ {
			for _, in := range []impl.Instance{{Columns: 1, Rows: count, StepX: step}, {Columns: count, Rows: 1, StepY: step}} {
				lib := hierarchy(nil, []int64{0})
				lib.Cells[1].Instances[0] = in
				checkInvalid(t, fmt.Sprintf("%+v", in), lib)
				in.StepX, in.StepY = in.StepY, in.StepX
				lib.Cells[1].Instances[0] = in
				if count > 1 {
					checkHierarchy(t, lib)
				}
			}
		}
	}
	checkHierarchy(t, impl.Library{Cells: []impl.Cell{{Name: "a"}, {Name: "b", Instances: []impl.Instance{{Columns: 4, Rows: 4}}}}})
}

// smallHierarchies visits all libraries of up to four cells in which each cell places each earlier one up to twice, and of
// five cells in which it places each at most once.
func smallHierarchies(visit func(lib impl.Library)) {
	for cells, most := range []int{0, 2, 2, 2, 2, 1} {
		var build func(placed [][]int64, earlier int)
		build = func(placed [][]int64, earlier int) {
			last := len(placed) - 1
			if earlier <= last-1 {
				for times := range most + 1 {
					longer := slices.Clone(placed)
					longer[last] = slices.Concat(placed[last], slices.Repeat([]int64{int64(earlier)}, times))
					build(longer, earlier+1)
				}
			} else if len(placed) < cells {
				build(append(slices.Clone(placed), nil), 0)
			} else {
				visit(hierarchy(placed...))
			}
		}
		if cells > 0 {
			build([][]int64{nil}, 0)
		}
	}
}

func TestEverySmallHierarchy(t *testing.T) {
	smallHierarchies(func(lib impl.Library) { checkHierarchy(t, lib) })
}

// hierarchyCase says what each cell of a library places and what follows for each cell.
type hierarchyCase struct {
	name    string
	placed  [][]int64
	depths  []int64
	users   [][]int64
	reached [][]int64
	counts  []int64
	// used is what the remaining cells place without the unused ones.
	used [][]int64
	kept string
}

func hierarchyCases() []hierarchyCase {
	return []hierarchyCase{
		{"one cell", [][]int64{nil}, []int64{0}, [][]int64{nil}, [][]int64{{0}}, []int64{1}, [][]int64{nil}, "a"},
		{"a chain", [][]int64{nil, {0}, {1}}, []int64{0, 1, 2}, [][]int64{{1}, {2}, nil}, [][]int64{{0}, {0, 1}, {0, 1, 2}}, []int64{1, 2, 3},
			[][]int64{nil, {0}, {1}}, "abc"},
		{"the example", [][]int64{nil, {0}, {0, 1}}, []int64{0, 1, 2}, [][]int64{{1, 2}, {2}, nil}, [][]int64{{0}, {0, 1}, {0, 1, 2}}, []int64{1, 2, 4},
			[][]int64{nil, {0}, {0, 1}}, "abc"},
		{"the longer way comes first", [][]int64{nil, {0}, {1, 0}}, []int64{0, 1, 2}, [][]int64{{1, 2}, {2}, nil}, [][]int64{{0}, {0, 1}, {0, 1, 2}},
			[]int64{1, 2, 4}, [][]int64{nil, {0}, {1, 0}}, "abc"},
		{"placed several times", [][]int64{nil, {0, 0, 0}, {1, 0, 1, 0}}, []int64{0, 1, 2}, [][]int64{{1, 2}, {2}, nil}, [][]int64{{0}, {0, 1}, {0, 1, 2}},
			[]int64{1, 4, 11}, [][]int64{nil, {0, 0, 0}, {1, 0, 1, 0}}, "abc"},
		{"nobody places anything", [][]int64{nil, nil, nil}, []int64{0, 0, 0}, [][]int64{nil, nil, nil}, [][]int64{{0}, {1}, {2}}, []int64{1, 1, 1},
			[][]int64{nil}, "c"},
		{"the first one is not used", [][]int64{nil, nil, {1}}, []int64{0, 0, 1}, [][]int64{nil, {2}, nil}, [][]int64{{0}, {1}, {1, 2}}, []int64{1, 1, 2},
			[][]int64{nil, {0}}, "bc"},
		{"one between is not used", [][]int64{nil, {0}, {0}}, []int64{0, 1, 1}, [][]int64{{1, 2}, nil, nil}, [][]int64{{0}, {0, 1}, {0, 2}}, []int64{1, 2, 2},
			[][]int64{nil, {0}}, "ac"},
		{"used cells between unused ones", [][]int64{nil, nil, {0}, {1, 1}, {2}, {3, 1}}, []int64{0, 0, 1, 1, 2, 2}, [][]int64{{2}, {3, 5}, {4}, {5}, nil, nil},
			[][]int64{{0}, {1}, {0, 2}, {1, 3}, {0, 2, 4}, {1, 3, 5}}, []int64{1, 1, 2, 3, 3, 5}, [][]int64{nil, {0, 0}, {1, 0}}, "bdf"},
		{"unused cells place used ones", [][]int64{nil, {0}, {0, 1}, {1}}, []int64{0, 1, 2, 2}, [][]int64{{1, 2}, {2, 3}, nil, nil},
			[][]int64{{0}, {0, 1}, {0, 1, 2}, {0, 1, 3}}, []int64{1, 2, 4, 3}, [][]int64{nil, {0}, {1}}, "abd"},
		{"unused cells place each other", [][]int64{nil, {0}, {1, 0}, {2}, nil}, []int64{0, 1, 2, 3, 0}, [][]int64{{1, 2}, {2}, {3}, nil, nil},
			[][]int64{{0}, {0, 1}, {0, 1, 2}, {0, 1, 2, 3}, {4}}, []int64{1, 2, 4, 5, 1}, [][]int64{nil}, "e"},
		{"every other cell", [][]int64{nil, nil, {0}, {1}, {2, 0}, {3, 1}, {4, 2}, {5, 3, 1}}, []int64{0, 0, 1, 1, 2, 2, 3, 3},
			[][]int64{{2, 4}, {3, 5, 7}, {4, 6}, {5, 7}, {6}, {7}, nil, nil}, [][]int64{{0}, {1}, {0, 2}, {1, 3}, {0, 2, 4}, {1, 3, 5}, {0, 2, 4, 6}, {1, 3, 5, 7}},
			[]int64{1, 1, 2, 2, 4, 4, 7, 8}, [][]int64{nil, {0}, {1, 0}, {2, 1, 0}}, "bdfh"},
	}
}

func TestHierarchiesByHand(t *testing.T) {
	for _, c := range hierarchyCases() {
		t.Run(c.name, func(t *testing.T) {
			lib := hierarchy(c.placed...)
			checkHierarchy(t, lib)
			for i := range c.placed {
				cell := int64(i)
				if depth, count := impl.CellDepth(lib, cell), impl.ElementCount(lib, cell); depth != c.depths[i] || count != c.counts[i] {
					t.Errorf("cell %d has the depth %d and %d occurrences", i, depth, count)
				}
				checkNumbers(t, fmt.Sprint("UsersOf ", i), impl.UsersOf(lib, cell), c.users[i])
				checkNumbers(t, fmt.Sprint("ReachableCells of ", i), impl.ReachableCells(lib, cell), c.reached[i])
			}
			used := impl.RemoveUnused(lib)
			kept := ""
			for i, left := range used.Cells {
				kept += left.Name
				var placed []int64
				for _, in := range left.Instances {
					placed = append(placed, in.Cell)
				}
				checkNumbers(t, "what "+left.Name+" places", placed, c.used[i])
			}
			if kept != c.kept {
				t.Errorf("the cells %s remain, want %s", kept, c.kept)
			}
		})
	}
}

// TestUnusedCellsInEveryPlace leaves each set of cells without a user in a chain of the other ones.
func TestUnusedCellsInEveryPlace(t *testing.T) {
	for count := 1; count <= impl.MaxCells; count++ {
		for unused := range 1 << (count - 1) {
			var placed [][]int64
			var previous []int64
			kept := ""
			for i := range count {
				placed = append(placed, previous)
				if unused>>i&1 == 0 {
					previous = []int64{int64(i)}
					kept += letter(i)
				}
			}
			lib := hierarchy(placed...)
			checkUsed(t, lib)
			names := ""
			for i, c := range impl.RemoveUnused(lib).Cells {
				names += c.Name
				if i > 0 && (len(c.Instances) != 1 || c.Instances[0].Cell != int64(i)-1) {
					t.Fatalf("of %v remains %+v", placed, c)
				}
			}
			if names != kept {
				t.Fatalf("of %v remain %s, want %s", placed, names, kept)
			}
		}
	}
}

// chain has cells each of which places the one before it in this many arrays.
func chain(arrays int, columns, rows int64) impl.Library {
	lib := hierarchy(slices.Repeat([][]int64{nil}, impl.MaxCells)...)
	for i := 1; i < impl.MaxCells; i++ {
		lib.Cells[i].Instances = slices.Repeat([]impl.Instance{array(int64(i)-1, columns, rows)}, arrays)
	}
	return lib
}

// TestCountsOfChains has the greatest counts that there are.
func TestCountsOfChains(t *testing.T) {
	checkHierarchy(t, chain(1, 1, 1))
	checkHierarchy(t, chain(2, 1, 1))
	for _, c := range []struct {
		lib    impl.Library
		counts [impl.MaxCells]int64
	}{
		{chain(1, 1, 1), [impl.MaxCells]int64{1, 2, 3, 4, 5, 6, 7, 8}},
		{chain(8, 1, 1), [impl.MaxCells]int64{1, 9, 73, 585, 4681, 37449, 299593, 2396745}},
		{chain(1, 4, 4), [impl.MaxCells]int64{1, 17, 273, 4369, 69905, 1118481, 17895697, 286331153}},
		{chain(1, 3, 2), [impl.MaxCells]int64{1, 7, 43, 259, 1555, 9331, 55987, 335923}},
		{chain(8, 4, 4), [impl.MaxCells]int64{1, 129, 16513, 2113665, 270549121, 34630287489, 4432676798593, 567382630219905}},
	} {
		for i, want := range c.counts {
			cell := int64(i)
			if got := impl.ElementCount(c.lib, cell); got != want {
				t.Errorf("%d elements: ElementCount of %d is %d, want %d", len(c.lib.Cells[1].Instances), i, got, want)
			}
			if got := impl.CellDepth(c.lib, cell); got != cell {
				t.Errorf("CellDepth of %d is %d", i, got)
			}
			checkNumbers(t, "ReachableCells", impl.ReachableCells(c.lib, cell), cellIndices(c.lib)[:i+1])
			checkNumbers(t, "UsersOf", impl.UsersOf(c.lib, cell), cellIndices(c.lib)[i+1:min(i+2, impl.MaxCells)])
		}
		if used := impl.RemoveUnused(c.lib); !impl.SameLibrary(used, c.lib) || textOf(used) != textOf(c.lib) {
			t.Errorf("of %s remains %s", textOf(c.lib), textOf(used))
		}
	}
}

// TestCountsOfArrays multiplies columns and rows of each size.
func TestCountsOfArrays(t *testing.T) {
	for columns := int64(1); columns <= impl.MaxArray; columns++ {
		for rows := int64(1); rows <= impl.MaxArray; rows++ {
			lib := hierarchy(nil, nil, nil)
			lib.Cells[1].Instances = []impl.Instance{array(0, columns, rows)}
			lib.Cells[2].Instances = []impl.Instance{array(1, rows, 1), array(0, 1, columns), array(1, 1, 2)}
			checkHierarchy(t, lib)
			below := 1 + columns*rows
			if got := impl.ElementCount(lib, 2); got != 1+rows*below+columns+2*below {
				t.Errorf("%d columns and %d rows: %d occurrences", columns, rows, got)
			}
		}
	}
}

// randomLibrary is the same one for the same seed.
func randomLibrary(seed uint64) impl.Library {
	random := rand.New(rand.NewPCG(seed, 9))
	below := random.Int64N
	place := func() impl.Transform {
		return impl.Transform{Orientation: below(8), X: below(161) - 80, Y: below(161) - 80}
	}
	var lib impl.Library
	for i := range 1 + below(impl.MaxCells) {
		c := impl.Cell{Name: fmt.Sprint(letter(int(i)), below(10000000))}
		for range below(4) {
			x, y := below(80)-40, below(80)-40
			box := impl.Rect{X0: x, Y0: y, X1: x + 1 + below(40-x), Y1: y + 1 + below(40-y)}
			c.Shapes = append(c.Shapes, impl.Shape{Layer: below(8), Box: box})
			c.Labels = append(c.Labels, impl.Label{Layer: below(8), At: impl.Point{X: x, Y: y}, Name: fmt.Sprint(below(100000000))})
		}
		for range min(below(4), 2) {
			if i > 0 {
				in := array(below(i), max(1, below(4)-1), max(1, below(3)))
				in.Place = place()
				c.Instances = append(c.Instances, in)
			}
		}
		lib.Cells = append(lib.Cells, c)
	}
	return lib
}

func TestRandomLibraries(t *testing.T) {
	checked := 0
	for seed := range uint64(1000) {
		lib := randomLibrary(seed)
		checkValid(t, "a random library", lib)
		if !impl.SameLibrary(lib, randomLibrary(seed)) || impl.SameLibrary(lib, randomLibrary(seed+1)) {
			t.Fatalf("seed %d is not the same library as itself, or the same one as the next", seed)
		}
		// The others have many elements.
		if depthByDefinition(lib, int64(len(lib.Cells))-1) <= 4 {
			checkHierarchy(t, lib)
			checked++
		}
	}
	if checked < 500 {
		t.Errorf("%d libraries were checked", checked)
	}
}

// TestCellIndexOfNames asks for names that no cell has and for names of labels.
func TestCellIndexOfNames(t *testing.T) {
	lib := fullLibrary()
	for i, c := range lib.Cells {
		if got := impl.CellIndex(lib, c.Name); got != int64(i) {
			t.Errorf("CellIndex(%s) = %d", c.Name, got)
		}
	}
	for _, name := range slices.Concat(noNames(), someNames(), []string{"label", "cell", "cell8", "cell00", "cell0 ", " cell0", "Cell0", "ell0", "cell-1"}) {
		if got := impl.CellIndex(lib, name); got != -1 {
			t.Errorf("CellIndex(%.99q) = %d", name, got)
		}
	}
}

// sampleLibrary has every kind of part, two of each in most cells, an unused cell and labels with one name.
func sampleLibrary() impl.Library {
	return impl.Library{Cells: []impl.Cell{
		{
			Name:   "nmos",
			Shapes: []impl.Shape{{Layer: impl.Diffusion, Box: impl.Rect{X0: 0, Y0: 0, X1: 6, Y1: 2}}, {Layer: impl.Poly, Box: impl.Rect{X0: 2, Y0: -1, X1: 4, Y1: 3}}},
			Labels: []impl.Label{{Layer: impl.Poly, At: impl.Point{X: 2, Y: -1}, Name: "gate"}, {Layer: impl.Diffusion, At: impl.Point{X: 0, Y: 1}, Name: "src"}},
		},
		{
			Name:      "unused",
			Shapes:    []impl.Shape{{Layer: impl.Marker, Box: impl.Rect{X0: -40, Y0: -40, X1: 40, Y1: 40}}},
			Instances: []impl.Instance{{Cell: 0, Place: impl.Transform{Orientation: 2, X: 3, Y: -4}, Columns: 1, Rows: 1}},
		},
		{
			Name:   "row8",
			Labels: []impl.Label{{Layer: impl.Metal1, At: impl.Point{X: 39, Y: -40}, Name: "gate"}, {Layer: impl.Metal2, At: impl.Point{X: -40, Y: 39}, Name: "row8"}},
			Instances: []impl.Instance{
				{Cell: 0, Place: impl.Transform{Orientation: 5, X: 10, Y: 20}, Columns: 4, Rows: 1, StepX: -8},
				{Cell: 0, Place: impl.Transform{Orientation: 0, X: -80, Y: 80}, Columns: 2, Rows: 3, StepX: 80, StepY: -80},
			},
		},
		{
			Name:   "top",
			Shapes: []impl.Shape{{Layer: impl.Metal2, Box: impl.Rect{X0: 38, Y0: 38, X1: 40, Y1: 40}}, {Layer: impl.Well, Box: impl.Rect{X0: -40, Y0: 5, X1: 40, Y1: 6}}},
			Labels: []impl.Label{{Layer: impl.Via, At: impl.Point{X: 1, Y: 1}, Name: "out"}},
			Instances: []impl.Instance{
				{Cell: 2, Place: impl.Transform{Orientation: 7, X: 1, Y: 0}, Columns: 1, Rows: 4, StepY: 9},
				{Cell: 0, Place: impl.Transform{Orientation: 3, X: 0, Y: 1}, Columns: 1, Rows: 1},
			},
		},
	}}
}

// field is a number or a string anywhere in a library.
type field struct {
	path  string
	value reflect.Value
}

func fieldsOf(path string, v reflect.Value) []field {
	var list []field
	switch v.Kind() {
	case reflect.Struct:
		for i := range v.NumField() {
			list = append(list, fieldsOf(path+"."+v.Type().Field(i).Name, v.Field(i))...)
		}
	case reflect.Slice:
		for i := range v.Len() {
			list = append(list, fieldsOf(fmt.Sprintf("%s[%d]", path, i), v.Index(i))...)
		}
	default:
		list = append(list, field{path, v})
	}
	return list
}

// otherValues returns values for a field that differ from its own one.
func otherValues(v reflect.Value) []reflect.Value {
	var list []reflect.Value
	if v.Kind() == reflect.String {
		s := v.String()
		for _, other := range []string{"", s[1:], s[:len(s)-1], s + "x", "0" + s, "x" + s[1:], s[:len(s)-1] + "0", strings.ToUpper(s), "nmos", "top", "other", "abcdefghi"} {
			list = append(list, reflect.ValueOf(other))
		}
	} else {
		n := v.Int()
		numbers := []int64{n + 1, n - 1, -n, 0, 1, 2, 3, 4, 5, 7, 8, -40, -41, 39, 40, 41, limit, -limit, n + 1<<32, n + 1<<8, n ^ math.MinInt64}
		for _, other := range append(numbers, outside...) {
			list = append(list, reflect.ValueOf(other))
		}
	}
	return slices.DeleteFunc(list, v.Equal)
}

// TestEveryFieldOfALibrary changes each field to values of all kinds, one at a time.
func TestEveryFieldOfALibrary(t *testing.T) {
	base := sampleLibrary()
	checkHierarchy(t, base)
	changed := copyOf(base)
	fields := fieldsOf("lib", reflect.ValueOf(&changed).Elem())
	// Names, then shapes, labels and instances with five, four and eight fields.
	if len(fields) != 4+5*5+5*4+5*8 {
		t.Fatalf("%d fields", len(fields))
	}
	for _, f := range fields {
		old := reflect.ValueOf(f.value.Interface())
		valid := 0
		for _, other := range otherValues(old) {
			f.value.Set(other)
			what := fmt.Sprintf("%s is %.99v", f.path, other)
			if !validByWords(changed) {
				checkInvalid(t, what, changed)
			} else {
				checkValid(t, what, changed)
				valid++
			}
			if impl.SameLibrary(base, changed) || impl.SameLibrary(changed, base) {
				t.Fatalf("%s: still the same", what)
			}
			if impl.SameLibrary(changed, copyOf(changed)) != validByWords(changed) {
				t.Fatalf("%s: the same as itself: %v", what, impl.SameLibrary(changed, copyOf(changed)))
			}
		}
		f.value.Set(old)
		// These have one value only: the cell of an instance of cell 1, and steps of one column or row.
		if onlyOne := regexp.MustCompile(`\[1\].*\.Cell$|Step[XY]$`).MatchString(f.path); valid == 0 && !onlyOne {
			t.Errorf("%s has no other valid value", f.path)
		}
		if !impl.SameLibrary(base, changed) || !impl.SameLibrary(changed, base) {
			t.Fatalf("%s is as before: not the same", f.path)
		}
	}
}

// listChanges returns lists that differ from one by their order, by an element more or by one less.
func listChanges[T any](list []T, more T) [][]T {
	changes := [][]T{append(slices.Clone(list), more), slices.Insert(slices.Clone(list), 0, more), append(slices.Clone(list), list...)}
	for i := range list {
		changes = append(changes, slices.Delete(slices.Clone(list), i, i+1), list[:i], list[i+1:])
		for j := range i {
			swapped := slices.Clone(list)
			swapped[i], swapped[j] = swapped[j], swapped[i]
			changes = append(changes, swapped)
		}
	}
	return changes
}

// checkDifferent accepts that a change leaves a valid library or none.
func checkDifferent(t *testing.T, what string, base, changed impl.Library) {
	t.Helper()
	if textOf(base) == textOf(changed) {
		return
	}
	if impl.SameLibrary(base, changed) || impl.SameLibrary(changed, base) {
		t.Fatalf("%s: still the same: %s", what, textOf(changed))
	}
	if impl.IsValidLibrary(changed) != validByWords(changed) || impl.SameLibrary(changed, copyOf(changed)) != validByWords(changed) {
		t.Fatalf("%s: valid %v: %s", what, impl.IsValidLibrary(changed), textOf(changed))
	}
}

// TestOrderAndNumberOfParts has parts and cells in another order, one more and one less.
func TestOrderAndNumberOfParts(t *testing.T) {
	for _, base := range []impl.Library{sampleLibrary(), fullLibrary(), hierarchy(nil, nil, []int64{0, 1}, nil)} {
		for i, c := range base.Cells {
			for n, shapes := range listChanges(c.Shapes, impl.Shape{Layer: 6, Box: impl.Rect{X1: 9, Y1: 9}}) {
				changed := copyOf(base)
				changed.Cells[i].Shapes = shapes
				checkDifferent(t, fmt.Sprintf("change %d of the shapes of cell %d", n, i), base, changed)
			}
			for n, labels := range listChanges(c.Labels, impl.Label{Layer: 6, Name: "more"}) {
				changed := copyOf(base)
				changed.Cells[i].Labels = labels
				checkDifferent(t, fmt.Sprintf("change %d of the labels of cell %d", n, i), base, changed)
			}
			for n, instances := range listChanges(c.Instances, array(0, 4, 3)) {
				changed := copyOf(base)
				changed.Cells[i].Instances = instances
				checkDifferent(t, fmt.Sprintf("change %d of the instances of cell %d", n, i), base, changed)
			}
		}
		for n, cells := range listChanges(base.Cells, impl.Cell{Name: "more"}) {
			checkDifferent(t, fmt.Sprintf("change %d of the cells", n), base, impl.Library{Cells: cells})
		}
	}
}

// TestSameLibraryByHand has changes that leave a valid library, and libraries of one cell.
func TestSameLibraryByHand(t *testing.T) {
	base := hierarchy(nil, nil, []int64{0, 1})
	if !impl.SameLibrary(base, base) || !impl.SameLibrary(base, copyOf(base)) {
		t.Error("a library is not the same as itself")
	}
	exchanged := copyOf(base)
	exchanged.Cells[0], exchanged.Cells[1] = exchanged.Cells[1], exchanged.Cells[0]
	renamed := copyOf(base)
	renamed.Cells[0].Name, renamed.Cells[1].Name = "b", "a"
	turned := copyOf(base)
	turned.Cells[2].Instances[1].Place.Orientation = 7
	longer := copyOf(base)
	longer.Cells = append(longer.Cells, impl.Cell{Name: "d"})
	shorter := impl.Library{Cells: base.Cells[:2]}
	for i, other := range []impl.Library{exchanged, renamed, turned, longer, shorter} {
		checkValid(t, fmt.Sprint("library ", i), other)
		if impl.SameLibrary(base, other) || impl.SameLibrary(other, base) || !impl.SameLibrary(other, copyOf(other)) {
			t.Errorf("library %d", i)
		}
	}
	empty := impl.Library{Cells: []impl.Cell{{Name: "a", Shapes: []impl.Shape{}, Labels: []impl.Label{}, Instances: []impl.Instance{}}}}
	if !impl.SameLibrary(empty, impl.Library{Cells: []impl.Cell{{Name: "a"}}}) || impl.SameLibrary(empty, impl.Library{Cells: []impl.Cell{{Name: "b"}}}) {
		t.Error("nil slices are not the same as empty ones, or names do not count")
	}
}

// TestValidLibrariesAfterInvalidOnes alternates between them.
func TestValidLibrariesAfterInvalidOnes(t *testing.T) {
	valid, invalid := sampleLibrary(), sampleLibrary()
	invalid.Cells[3].Instances[1].Columns = 5
	for range 3 {
		checkInvalid(t, "five columns", invalid)
		checkHierarchy(t, valid)
		checkInvalid(t, "the zero Library", impl.Library{})
		if impl.SameLibrary(valid, invalid) || impl.SameLibrary(invalid, valid) || !impl.SameLibrary(valid, valid) {
			t.Fatal("SameLibrary")
		}
	}
}

// withSpare returns a library whose slices have elements behind their ends, and all of these slices as a text.
func withSpare(lib impl.Library) (impl.Library, func() string) {
	spare := copyOf(lib)
	for i := range spare.Cells {
		c := &spare.Cells[i]
		c.Shapes = append(c.Shapes, impl.Shape{Layer: 99})[:len(c.Shapes)]
		c.Labels = append(c.Labels, impl.Label{Name: "BEHIND"})[:len(c.Labels)]
		c.Instances = append(c.Instances, impl.Instance{Cell: 99})[:len(c.Instances)]
	}
	spare.Cells = append(spare.Cells, impl.Cell{Name: "BEHIND"})[:len(spare.Cells)]
	return spare, func() string {
		all := impl.Library{Cells: slices.Clone(spare.Cells[:cap(spare.Cells)])}
		for i := range all.Cells {
			c := &all.Cells[i]
			c.Shapes, c.Labels, c.Instances = c.Shapes[:cap(c.Shapes)], c.Labels[:cap(c.Labels)], c.Instances[:cap(c.Instances)]
		}
		return textOf(all)
	}
}

// overwrite clears a library and what lies behind the ends of its slices.
func overwrite(lib impl.Library) {
	for _, c := range lib.Cells[:cap(lib.Cells)] {
		clear(c.Shapes[:cap(c.Shapes)])
		clear(c.Labels[:cap(c.Labels)])
		clear(c.Instances[:cap(c.Instances)])
	}
	clear(lib.Cells[:cap(lib.Cells)])
}

// TestLibrariesKeepTheirArguments also looks at the memory behind the arguments and overwrites the results.
func TestLibrariesKeepTheirArguments(t *testing.T) {
	for _, base := range []impl.Library{sampleLibrary(), hierarchy(nil, []int64{0}, []int64{0, 1}), hierarchy(nil, nil, []int64{1}), hierarchy(nil)} {
		lib, all := withSpare(base)
		old := all()
		for range 2 {
			checkHierarchy(t, lib)
			impl.SameLibrary(lib, base)
			for i := range base.Cells {
				for _, list := range [][]int64{impl.UsersOf(lib, int64(i)), impl.ReachableCells(lib, int64(i))} {
					clear(list[:cap(list)])
				}
			}
			overwrite(impl.RemoveUnused(lib))
			if all() != old {
				t.Fatalf("the argument became %s, it was %s", all(), old)
			}
		}
	}
}

// TestUsedCellsHaveTheirOwnMemory overwrites each slice of a result and looks at the others. In the argument, all cells
// share theirs.
func TestUsedCellsHaveTheirOwnMemory(t *testing.T) {
	lib := hierarchy(nil, nil, nil, nil)
	for i := range lib.Cells {
		lib.Cells[i].Shapes, lib.Cells[i].Labels = lib.Cells[3].Shapes[:1], lib.Cells[3].Labels[:1]
		if i > 0 {
			lib.Cells[i].Instances = hierarchy(nil, []int64{0}).Cells[1].Instances
		}
	}
	lib.Cells[3].Instances = []impl.Instance{single(0), single(1), single(2)}
	lib.Cells[2].Instances = lib.Cells[3].Instances[:2]
	lib.Cells[1].Instances = lib.Cells[3].Instances[:1]
	old := textOf(lib)
	for i := range lib.Cells {
		for part := range 3 {
			used := impl.RemoveUnused(lib)
			want := copyOf(used)
			if textOf(used) != old {
				t.Fatalf("of %s remains %s", old, textOf(used))
			}
			switch c, w := used.Cells[i], want.Cells[i]; part {
			case 0:
				clear(c.Shapes[:cap(c.Shapes)])
				clear(w.Shapes)
			case 1:
				clear(c.Labels[:cap(c.Labels)])
				clear(w.Labels)
			default:
				clear(c.Instances[:cap(c.Instances)])
				clear(w.Instances)
			}
			if textOf(used) != textOf(want) || textOf(lib) != old {
				t.Fatalf("part %d of cell %d was overwritten: %s, want %s", part, i, textOf(used), textOf(want))
			}
		}
	}
}

func TestChapter9Constants(t *testing.T) {
	got := []int64{impl.Layers, impl.MaxCells, impl.MaxShapes, impl.MaxInstances, impl.MaxLabels, impl.MaxArray, impl.MaxOccurrences,
		impl.Diffusion, impl.Poly, impl.Contact, impl.Metal1, impl.Via, impl.Metal2, impl.Well, impl.Marker}
	checkNumbers(t, "the constants", got, []int64{8, 8, 24, 8, 8, 4, 200, 0, 1, 2, 3, 4, 5, 6, 7})
}

func TestChapter9Examples(t *testing.T) {
	if !impl.IsName("inv2") || impl.IsName("Inv") || impl.IsName("") {
		t.Error("IsName")
	}
	if !impl.IsValidLibrary(impl.Library{Cells: []impl.Cell{{Name: "a"}}}) || impl.IsValidLibrary(impl.Library{}) {
		t.Error("IsValidLibrary")
	}
	if got := impl.CellIndex(hierarchy(nil, nil), "b"); got != 1 {
		t.Errorf("CellIndex: %d", got)
	}
	lib := hierarchy(nil, []int64{0}, []int64{0, 1})
	if impl.CellDepth(lib, 0) != 0 || impl.CellDepth(lib, 1) != 1 || impl.CellDepth(lib, 2) != 2 {
		t.Error("CellDepth")
	}
	checkNumbers(t, "UsersOf", impl.UsersOf(lib, 0), []int64{1, 2})
	checkNumbers(t, "ReachableCells", impl.ReachableCells(lib, 1), []int64{0, 1})
	lib.Cells[1].Instances[0] = array(0, 3, 2)
	if got := impl.ElementCount(lib, 1); got != 7 {
		t.Errorf("ElementCount: %d", got)
	}
	used := impl.RemoveUnused(hierarchy(nil, []int64{0}, []int64{0}))
	if len(used.Cells) != 2 || used.Cells[0].Name != "a" || used.Cells[1].Name != "c" || used.Cells[1].Instances[0].Cell != 0 {
		t.Errorf("RemoveUnused: %s", textOf(used))
	}
	if !impl.SameLibrary(lib, lib) || impl.SameLibrary(impl.Library{Cells: []impl.Cell{{Name: "a"}}}, impl.Library{Cells: []impl.Cell{{Name: "b"}}}) {
		t.Error("SameLibrary")
	}
}
