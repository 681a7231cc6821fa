package tests

import (
	"math"
	"slices"
	"strconv"
	"strings"
	"testing"

	"loop.example/g00890/impl"
)

const limit = 2 * impl.Extent

// outside holds numbers that are in no range of chapter 1, with those at which sums overflow.
var outside = []int64{limit + 1, -limit - 1, math.MaxInt64, math.MinInt64, math.MaxInt64 - impl.Extent, math.MinInt64 + impl.Extent}

// imageByDefinition follows the words of chapter 1 step by step.
func imageByDefinition(t impl.Transform, p impl.Point) impl.Point {
	if t.Orientation >= 4 {
		p.Y = -p.Y
	}
	for range t.Orientation % 4 {
		p.X, p.Y = -p.Y, p.X
	}
	return impl.Point{X: p.X + t.X, Y: p.Y + t.Y}
}

func invalidTransforms() []impl.Transform {
	var list []impl.Transform
	for _, n := range outside {
		list = append(list, impl.Transform{X: n}, impl.Transform{Orientation: 7, Y: n})
		list = append(list, impl.Transform{Orientation: n})
	}
	return append(list, impl.Transform{Orientation: -1}, impl.Transform{Orientation: 8}, impl.Transform{Orientation: 8, X: 1, Y: 1})
}

// sampleTransforms holds every orientation with translations in the middle, at the limits and between them.
func sampleTransforms() []impl.Transform {
	var list []impl.Transform
	for o := range int64(8) {
		for _, x := range []int64{-limit, -41, -1, 0, 3, limit} {
			for _, y := range []int64{-limit, -2, 0, 7, 40, limit} {
				list = append(list, impl.Transform{Orientation: o, X: x, Y: y})
			}
		}
	}
	return list
}

func samplePoints() []impl.Point {
	var list []impl.Point
	for _, x := range []int64{-impl.Extent, -39, -3, 0, 1, 39, impl.Extent} {
		for _, y := range []int64{-impl.Extent, -38, 0, 2, 39, impl.Extent} {
			list = append(list, impl.Point{X: x, Y: y})
		}
	}
	return list
}

func TestIsValidTransform(t *testing.T) {
	for _, valid := range sampleTransforms() {
		if !impl.IsValidTransform(valid) {
			t.Errorf("%v is valid", valid)
		}
	}
	for _, invalid := range invalidTransforms() {
		if impl.IsValidTransform(invalid) {
			t.Errorf("%v is not valid", invalid)
		}
	}
}

func TestMovePointFollowsTheDefinition(t *testing.T) {
	for _, u := range sampleTransforms() {
		for _, p := range samplePoints() {
			got, ok := impl.MovePoint(u, p)
			if want := imageByDefinition(u, p); !ok || got != want {
				t.Fatalf("MovePoint(%v, %v) = %v, %v, want %v", u, p, got, ok, want)
			}
		}
	}
}

func TestMovePointRejects(t *testing.T) {
	for _, u := range invalidTransforms() {
		if got, ok := impl.MovePoint(u, impl.Point{X: 1, Y: 2}); ok || got != (impl.Point{}) {
			t.Errorf("MovePoint by %v = %v, %v", u, got, ok)
		}
	}
	for _, n := range append([]int64{impl.Extent + 1, -impl.Extent - 1}, outside...) {
		for _, p := range []impl.Point{{X: n}, {X: 5, Y: n}} {
			if got, ok := impl.MovePoint(impl.Transform{Orientation: 3, X: 1}, p); ok || got != (impl.Point{}) {
				t.Errorf("MovePoint(%v) = %v, %v", p, got, ok)
			}
		}
	}
}

// TestMoveUnitCellMovesTheSquare compares every unit cell's image with the least corner of its moved square.
func TestMoveUnitCellMovesTheSquare(t *testing.T) {
	for o := range int64(8) {
		u := impl.Transform{Orientation: o, X: limit, Y: -17}
		for x := int64(-impl.Extent); x < impl.Extent; x++ {
			for y := int64(-impl.Extent); y < impl.Extent; y++ {
				want := imageByDefinition(u, impl.Point{X: x, Y: y})
				for _, p := range []impl.Point{{X: x + 1, Y: y}, {X: x, Y: y + 1}, {X: x + 1, Y: y + 1}} {
					corner := imageByDefinition(u, p)
					want = impl.Point{X: min(want.X, corner.X), Y: min(want.Y, corner.Y)}
				}
				got, ok := impl.MoveUnitCell(u, impl.Point{X: x, Y: y})
				if !ok || got != want {
					t.Fatalf("MoveUnitCell(%v, {%d %d}) = %v, %v, want %v", u, x, y, got, ok, want)
				}
			}
		}
	}
}

func TestMoveUnitCellRejects(t *testing.T) {
	for _, u := range invalidTransforms() {
		if got, ok := impl.MoveUnitCell(u, impl.Point{X: 1, Y: 2}); ok || got != (impl.Point{}) {
			t.Errorf("MoveUnitCell by %v = %v, %v", u, got, ok)
		}
	}
	for _, n := range append([]int64{impl.Extent, -impl.Extent - 1}, outside...) {
		for _, p := range []impl.Point{{X: n, Y: 1}, {Y: n}} {
			if got, ok := impl.MoveUnitCell(impl.Transform{Orientation: 6, Y: 1}, p); ok || got != (impl.Point{}) {
				t.Errorf("MoveUnitCell(%v) = %v, %v", p, got, ok)
			}
		}
	}
}

// TestComposeTransformsAppliesBoth decides by the images whether a composition is in range and what it is.
func TestComposeTransformsAppliesBoth(t *testing.T) {
	points := []impl.Point{{}, {X: 1}, {Y: 1}, {X: -40, Y: 39}}
	for _, first := range sampleTransforms() {
		for _, second := range sampleTransforms() {
			origin := imageByDefinition(second, imageByDefinition(first, impl.Point{}))
			fits := max(origin.X, -origin.X, origin.Y, -origin.Y) <= limit
			c, ok := impl.ComposeTransforms(first, second)
			if ok != fits || !ok && c != (impl.Transform{}) || ok && !impl.IsValidTransform(c) {
				t.Fatalf("ComposeTransforms(%v, %v) = %v, %v", first, second, c, ok)
			}
			for _, p := range points {
				want := imageByDefinition(second, imageByDefinition(first, p))
				if ok && imageByDefinition(c, p) != want {
					t.Fatalf("ComposeTransforms(%v, %v) = %v", first, second, c)
				}
			}
		}
	}
}

func TestComposeTransformsLimits(t *testing.T) {
	at, ok := impl.ComposeTransforms(impl.Transform{X: limit - 1, Y: 1 - limit}, impl.Transform{X: 1, Y: -1})
	if !ok || at != (impl.Transform{X: limit, Y: -limit}) {
		t.Errorf("a translation at the limit: %v, %v", at, ok)
	}
	for _, second := range []impl.Transform{{X: 1}, {X: -1}, {Y: 1}, {Y: -1}} {
		first := impl.Transform{X: second.X * limit, Y: second.Y * limit}
		if got, ok := impl.ComposeTransforms(first, second); ok || got != (impl.Transform{}) {
			t.Errorf("ComposeTransforms(%v, %v) = %v, %v", first, second, got, ok)
		}
	}
	for _, u := range invalidTransforms() {
		before, ok := impl.ComposeTransforms(u, impl.Transform{Orientation: 1})
		after, fine := impl.ComposeTransforms(impl.Transform{Orientation: 1}, u)
		if ok || fine || before != (impl.Transform{}) || after != (impl.Transform{}) {
			t.Errorf("composing with %v = %v, %v", u, before, after)
		}
	}
}

// TestInvalidTransformsThatWouldCancel composes transforms of which only the composition would be valid.
func TestInvalidTransformsThatWouldCancel(t *testing.T) {
	first, second := impl.Transform{X: limit + 1}, impl.Transform{X: -limit - 1}
	if got, ok := impl.ComposeTransforms(first, second); ok || got != (impl.Transform{}) {
		t.Errorf("ComposeTransforms(%v, %v) = %v, %v", first, second, got, ok)
	}
	if got, ok := impl.ComposeTransforms(first, impl.Transform{X: -1}); ok || got != (impl.Transform{}) {
		t.Errorf("ComposeTransforms(%v, {0 -1 0}) = %v, %v", first, got, ok)
	}
}

func TestTransformsHaveIdentityAndInverses(t *testing.T) {
	for _, u := range sampleTransforms() {
		back, ok := impl.InvertTransform(u)
		if !ok {
			t.Fatalf("InvertTransform(%v) failed", u)
		}
		after, fine := impl.ComposeTransforms(u, back)
		before, good := impl.ComposeTransforms(back, u)
		if !fine || !good || after != (impl.Transform{}) || before != (impl.Transform{}) {
			t.Fatalf("%v and its inverse %v compose to %v and %v", u, back, after, before)
		}
		if again, ok := impl.InvertTransform(back); !ok || again != u {
			t.Fatalf("the inverse of the inverse of %v is %v, %v", u, again, ok)
		}
		left, fine := impl.ComposeTransforms(impl.Transform{}, u)
		right, good := impl.ComposeTransforms(u, impl.Transform{})
		if !fine || !good || left != u || right != u {
			t.Fatalf("the identity changes %v to %v and %v", u, left, right)
		}
	}
	for _, u := range invalidTransforms() {
		if got, ok := impl.InvertTransform(u); ok || got != (impl.Transform{}) {
			t.Errorf("InvertTransform(%v) = %v, %v", u, got, ok)
		}
	}
}

// TestInvertTransformUndoesMoves checks the inverse by the images of points, without composing.
func TestInvertTransformUndoesMoves(t *testing.T) {
	for _, u := range sampleTransforms() {
		back, _ := impl.InvertTransform(u)
		for _, p := range samplePoints() {
			if got := imageByDefinition(back, imageByDefinition(u, p)); got != p {
				t.Fatalf("the inverse %v of %v moves %v to %v", back, u, p, got)
			}
		}
	}
}

func TestTransformsAssociate(t *testing.T) {
	translations := []impl.Transform{{}, {X: 30, Y: -7}, {X: -60, Y: 55}}
	var list []impl.Transform
	for o := range int64(8) {
		for _, u := range translations {
			u.Orientation = o
			list = append(list, u)
		}
	}
	for _, a := range list {
		for _, b := range list {
			for _, c := range list {
				checkAssociates(t, a, b, c)
			}
		}
	}
}

func checkAssociates(t *testing.T, a, b, c impl.Transform) {
	t.Helper()
	ab, fineAB := impl.ComposeTransforms(a, b)
	bc, fineBC := impl.ComposeTransforms(b, c)
	if !fineAB || !fineBC {
		return
	}
	left, fineLeft := impl.ComposeTransforms(ab, c)
	right, fineRight := impl.ComposeTransforms(a, bc)
	if fineLeft != fineRight || left != right {
		t.Fatalf("%v, %v, %v compose to %v, %v and %v, %v", a, b, c, left, fineLeft, right, fineRight)
	}
}

func TestComposeOrientationsFollowsTheImages(t *testing.T) {
	for a := range int64(8) {
		for b := range int64(8) {
			got := impl.ComposeOrientations(a, b)
			if got < 0 || got > 7 {
				t.Fatalf("ComposeOrientations(%d, %d) = %d", a, b, got)
			}
			for _, p := range samplePoints() {
				want := imageByDefinition(impl.Transform{Orientation: b}, imageByDefinition(impl.Transform{Orientation: a}, p))
				if imageByDefinition(impl.Transform{Orientation: got}, p) != want {
					t.Fatalf("ComposeOrientations(%d, %d) = %d", a, b, got)
				}
			}
		}
	}
	for _, bad := range append([]int64{-1, 8}, outside...) {
		for _, good := range []int64{0, 7, bad} {
			if impl.ComposeOrientations(bad, good) != -1 || impl.ComposeOrientations(good, bad) != -1 {
				t.Errorf("the orientation %d is composed with %d", bad, good)
			}
		}
	}
}

// TestOrientationsAreEight compares what each orientation does to the unit vectors with all eight in order.
func TestOrientationsAreEight(t *testing.T) {
	var got [8][2]impl.Point
	for o := range got {
		got[o][0], _ = impl.MovePoint(impl.Transform{Orientation: int64(o)}, impl.Point{X: 1})
		got[o][1], _ = impl.MovePoint(impl.Transform{Orientation: int64(o)}, impl.Point{Y: 1})
	}
	east, north, west, south := impl.Point{X: 1}, impl.Point{Y: 1}, impl.Point{X: -1}, impl.Point{Y: -1}
	want := [8][2]impl.Point{
		{east, north}, {north, west}, {west, south}, {south, east},
		{east, south}, {north, east}, {west, north}, {south, west},
	}
	if got != want {
		t.Errorf("the images of the unit vectors are %v", got)
	}
}

func imagesOf(u impl.Transform, points []impl.Point) []impl.Point {
	var list []impl.Point
	for _, p := range points {
		list = append(list, imageByDefinition(u, p))
	}
	return list
}

func onChip(points []impl.Point) bool {
	return !slices.ContainsFunc(points, func(p impl.Point) bool {
		return min(p.X, p.Y) < -impl.Extent || max(p.X, p.Y) > impl.Extent
	})
}

// findByTrial tries every transform that there is, by orientation.
func findByTrial(from, to []impl.Point) (impl.Transform, bool) {
	for o := range int64(8) {
		for x := int64(-limit); x <= limit; x++ {
			for y := int64(-limit); y <= limit; y++ {
				u := impl.Transform{Orientation: o, X: x, Y: y}
				if imageByDefinition(u, from[0]) == to[0] && slices.Equal(imagesOf(u, from), to) {
					return u, true
				}
			}
		}
	}
	return impl.Transform{}, false
}

// TestFindTransformRecovers uses points that no two transforms move alike.
func TestFindTransformRecovers(t *testing.T) {
	lists := [][]impl.Point{
		{{}, {X: 1}, {Y: 1}},
		{{X: -40, Y: -40}, {X: 40, Y: -40}, {X: -40, Y: 40}},
		{{X: 40, Y: 40}, {X: 39, Y: 40}, {X: 39, Y: 40}, {X: 40, Y: 38}},
		{{X: 1}, {X: 2}, {X: 3}, {X: 4}, {X: 5}, {X: 6}, {X: 7}, {X: 7, Y: 1}},
	}
	for _, from := range lists {
		for _, u := range sampleTransforms() {
			to := imagesOf(u, from)
			got, ok := impl.FindTransform(from, to)
			if fits := onChip(to); ok != fits || fits && got != u || !fits && got != (impl.Transform{}) {
				t.Fatalf("FindTransform(%v, %v) = %v, %v, want %v, %v", from, to, got, ok, u, fits)
			}
		}
	}
}

func TestFindTransformReachesTheLimits(t *testing.T) {
	for o := range int64(8) {
		for _, corner := range []impl.Point{{X: 40, Y: 40}, {X: 40, Y: -40}, {X: -40, Y: 40}, {X: -40, Y: -40}} {
			from := []impl.Point{corner, {}, {X: corner.X, Y: 0}}
			turned := imagesOf(impl.Transform{Orientation: o}, from)
			u := impl.Transform{Orientation: o, X: -turned[0].X, Y: -turned[0].Y}
			if got, ok := impl.FindTransform(from, imagesOf(u, from)); !ok || got != u {
				t.Errorf("FindTransform(%v) = %v, %v, want %v", from, got, ok, u)
			}
			far := impl.Point{X: -turned[0].X, Y: -turned[0].Y}
			if got, ok := impl.FindTransform([]impl.Point{corner}, []impl.Point{far}); !ok || !impl.IsValidTransform(got) {
				t.Errorf("FindTransform(%v, %v) = %v, %v", corner, far, got, ok)
			}
		}
	}
	got, ok := impl.FindTransform([]impl.Point{{X: 40, Y: 40}}, []impl.Point{{X: -40, Y: -40}})
	if !ok || got != (impl.Transform{X: -limit, Y: -limit}) {
		t.Errorf("from corner to corner: %v, %v", got, ok)
	}
}

// TestFindTransformChoosesTheSmallest uses points on a line, which two transforms or more move alike, and pairs
// that no transform maps.
func TestFindTransformChoosesTheSmallest(t *testing.T) {
	lists := [][2][]impl.Point{
		{{{X: 3, Y: 4}}, {{X: -5, Y: 6}}},
		{{{X: 0, Y: 0}, {X: 0, Y: 2}}, {{X: 1, Y: 1}, {X: 1, Y: -1}}},
		{{{X: 0, Y: 0}, {X: 2, Y: 2}}, {{X: 1, Y: 1}, {X: 3, Y: -1}}},
		{{{X: 1, Y: 1}, {X: 2, Y: 3}}, {{X: 0, Y: 0}, {X: 2, Y: 1}}},
		{{{X: 1, Y: 1}, {X: 1, Y: 1}}, {{X: 9, Y: 9}, {X: 9, Y: 9}}},
		{{{X: 1, Y: 1}, {X: 1, Y: 1}}, {{X: 9, Y: 9}, {X: 9, Y: 8}}},
		{{{X: 1, Y: 1}, {X: 1, Y: 2}}, {{X: 9, Y: 9}, {X: 9, Y: 9}}},
		{{{}, {X: 3, Y: 4}}, {{}, {X: 5}}},
		{{{}, {X: 1}, {Y: 1}}, {{}, {X: 1}, {X: 1}}},
	}
	for _, pair := range lists {
		got, ok := impl.FindTransform(pair[0], pair[1])
		want, fine := findByTrial(pair[0], pair[1])
		if ok != fine || got != want {
			t.Errorf("FindTransform(%v, %v) = %v, %v, want %v, %v", pair[0], pair[1], got, ok, want, fine)
		}
	}
}

func TestFindTransformLengths(t *testing.T) {
	var from []impl.Point
	for i := range int64(impl.MaxPairs + 1) {
		from = append(from, impl.Point{X: i, Y: i * i / 4})
	}
	u := impl.Transform{Orientation: 6, X: 2, Y: 9}
	to := imagesOf(u, from)
	if got, ok := impl.FindTransform(from[:impl.MaxPairs], to[:impl.MaxPairs]); !ok || got != u {
		t.Errorf("MaxPairs points: %v, %v", got, ok)
	}
	for _, lengths := range [][2]int{{impl.MaxPairs + 1, impl.MaxPairs + 1}, {0, 0}, {0, 1}, {1, 0}, {3, 2}, {2, 3}, {impl.MaxPairs, impl.MaxPairs + 1}} {
		if got, ok := impl.FindTransform(from[:lengths[0]], to[:lengths[1]]); ok || got != (impl.Transform{}) {
			t.Errorf("%v points: %v, %v", lengths, got, ok)
		}
	}
	if got, ok := impl.FindTransform(nil, nil); ok || got != (impl.Transform{}) {
		t.Errorf("no points: %v, %v", got, ok)
	}
	last := slices.Clone(to[:impl.MaxPairs])
	last[impl.MaxPairs-1].X++
	if got, ok := impl.FindTransform(from[:impl.MaxPairs], last); ok || got != (impl.Transform{}) {
		t.Errorf("the last pair differs: %v, %v", got, ok)
	}
}

func TestFindTransformRejectsPointsOffTheChip(t *testing.T) {
	for _, n := range append([]int64{impl.Extent + 1, -impl.Extent - 1}, outside...) {
		for _, bad := range []impl.Point{{X: n}, {Y: n}} {
			good := []impl.Point{{}, {}, {}}
			for i := range good {
				list := slices.Clone(good)
				list[i] = bad
				for _, lists := range [][2][]impl.Point{{list, good}, {good, list}, {list, list}} {
					if got, ok := impl.FindTransform(lists[0], lists[1]); ok || got != (impl.Transform{}) {
						t.Errorf("FindTransform(%v, %v) = %v, %v", lists[0], lists[1], got, ok)
					}
				}
			}
		}
	}
}

// TestFindTransformRejectsPointsThatFitATransform moves points that are off the chip by transforms.
func TestFindTransformRejectsPointsThatFitATransform(t *testing.T) {
	on, off := []impl.Point{{X: 40}, {X: 40, Y: 1}}, []impl.Point{{X: 41}, {X: 41, Y: 1}}
	for _, lists := range [][2][]impl.Point{{on, off}, {off, on}, {off, off}} {
		if got, ok := impl.FindTransform(lists[0], lists[1]); ok || got != (impl.Transform{}) {
			t.Errorf("FindTransform(%v, %v) = %v, %v", lists[0], lists[1], got, ok)
		}
	}
}

func TestFindTransformKeepsItsArguments(t *testing.T) {
	from, to := make([]impl.Point, 3, 5), make([]impl.Point, 3, 5)
	copy(from[:5], []impl.Point{{X: 1}, {X: 2, Y: 1}, {X: 4}, {X: 7}, {Y: 8}})
	copy(to[:5], imagesOf(impl.Transform{Orientation: 3, X: 2}, from[:5]))
	oldFrom, oldTo := slices.Clone(from[:5]), slices.Clone(to[:5])
	impl.FindTransform(from, to)
	if !slices.Equal(from[:5], oldFrom) || !slices.Equal(to[:5], oldTo) {
		t.Errorf("the arguments became %v and %v", from[:5], to[:5])
	}
}

// TestTextsRecoverTransforms goes through all transforms that there are.
func TestTextsRecoverTransforms(t *testing.T) {
	for o := range int64(8) {
		for x := int64(-limit); x <= limit; x++ {
			for y := int64(-limit); y <= limit; y++ {
				u := impl.Transform{Orientation: o, X: x, Y: y}
				word := "r"
				if o >= 4 {
					word = "m"
				}
				want := word + strconv.Itoa(int(o%4)) + " " + strconv.Itoa(int(x)) + " " + strconv.Itoa(int(y))
				s := impl.FormatTransform(u)
				if got, ok := impl.ParseTransform(s); s != want || !ok || got != u {
					t.Fatalf("%v has the text %q, which is that of %v, %v", u, s, got, ok)
				}
			}
		}
	}
}

func TestInvalidTransformsHaveNoText(t *testing.T) {
	for _, u := range invalidTransforms() {
		if s := impl.FormatTransform(u); s != "" {
			t.Errorf("FormatTransform(%v) = %q", u, s)
		}
	}
}

func TestParseTransformRejects(t *testing.T) {
	texts := []string{
		"", " ", "  ", "r0", "r0 0", "r0 0 0 0", "r0  0 0", "r0 0  0", " r0 0 0", "r0 0 0 ", "r0 0 0\n", "r0\t0\t0", "r0 0\x000",
		"r4 0 0", "m4 0 0", "r7 0 0", "r-1 0 0", "r 0 0", "m 0 0", "r00 0 0", "r01 0 0", "r90 0 0", "0 0 0", "5 0 0", "x0 0 0", "R0 0 0", "M1 0 0", "m0r 0 0",
		"r0 00 0", "r0 0 00", "r0 -0 0", "r0 0 -0", "r0 +1 0", "r0 0 +1", "r0 01 0", "r0 1 -02", "r0 --1 0", "r0 - 0", "r0 0 -", "r0 1_0 0", "r0 0x1 0", "r0 1e1 0", "r0 1.0 0", "r0 a 0",
		"r0 81 0", "r0 -81 0", "m3 0 81", "m3 0 -81", "r0 9223372036854775807 0", "r0 0 -9223372036854775808", "r0 9223372036854775808 0", "r0 18446744073709551616 0",
		"m1 \u0663 12", "m1 -3 12\u00a0", "\xff0 0 0", "r0 0 " + strings.Repeat("0", 10000), strings.Repeat(" ", 10000),
	}
	for _, s := range texts {
		if got, ok := impl.ParseTransform(s); ok || got != (impl.Transform{}) {
			t.Errorf("ParseTransform(%q) = %v, %v", s, got, ok)
		}
	}
}

// TestParseTransformAcceptsOnlyTexts changes one byte of a text; what is still parsed must have just that text.
func TestParseTransformAcceptsOnlyTexts(t *testing.T) {
	for _, text := range []string{"m1 -3 12", "r0 0 0", "r3 80 -80"} {
		for i := range len(text) {
			for b := range 256 {
				s := text[:i] + string([]byte{byte(b)}) + text[i+1:]
				got, ok := impl.ParseTransform(s)
				if ok && impl.FormatTransform(got) != s || !ok && got != (impl.Transform{}) {
					t.Fatalf("ParseTransform(%q) = %v, %v", s, got, ok)
				}
			}
		}
	}
}

func TestChapter1Constants(t *testing.T) {
	got := [11]int64{impl.ErrNone, impl.ErrInvalid, impl.ErrRange, impl.ErrLimit, impl.ErrSyntax, impl.ErrNotFound, impl.ErrState, impl.ErrTruncated, impl.ErrChecksum, impl.Extent, impl.MaxPairs}
	if got != [11]int64{0, 1, 2, 3, 4, 5, 6, 7, 8, 40, 8} {
		t.Errorf("the constants are %v", got)
	}
}

func TestChapter1Examples(t *testing.T) {
	if p, ok := impl.MovePoint(impl.Transform{Orientation: 1, X: 5}, impl.Point{X: 2, Y: 3}); !ok || p != (impl.Point{X: 2, Y: 2}) {
		t.Errorf("MovePoint: %v, %v", p, ok)
	}
	if p, ok := impl.MovePoint(impl.Transform{Orientation: 4}, impl.Point{X: 2, Y: 3}); !ok || p != (impl.Point{X: 2, Y: -3}) {
		t.Errorf("MovePoint: %v, %v", p, ok)
	}
	if p, ok := impl.MoveUnitCell(impl.Transform{Orientation: 2}, impl.Point{X: 2, Y: 3}); !ok || p != (impl.Point{X: -3, Y: -4}) {
		t.Errorf("MoveUnitCell: %v, %v", p, ok)
	}
	if c, ok := impl.ComposeTransforms(impl.Transform{Orientation: 1, X: 5}, impl.Transform{Orientation: 4}); !ok || c != (impl.Transform{Orientation: 7, X: 5}) {
		t.Errorf("ComposeTransforms: %v, %v", c, ok)
	}
	if i, ok := impl.InvertTransform(impl.Transform{Orientation: 1, X: 5}); !ok || i != (impl.Transform{Orientation: 3, Y: 5}) {
		t.Errorf("InvertTransform: %v, %v", i, ok)
	}
	if a, b := impl.ComposeOrientations(1, 4), impl.ComposeOrientations(4, 1); a != 7 || b != 5 {
		t.Errorf("ComposeOrientations: %d, %d", a, b)
	}
	f, ok := impl.FindTransform([]impl.Point{{}, {X: 1}}, []impl.Point{{X: 3, Y: 3}, {X: 3, Y: 4}})
	if !ok || f != (impl.Transform{Orientation: 1, X: 3, Y: 3}) {
		t.Errorf("FindTransform: %v, %v", f, ok)
	}
	if s := impl.FormatTransform(impl.Transform{Orientation: 5, X: -3, Y: 12}); s != "m1 -3 12" {
		t.Errorf("FormatTransform: %q", s)
	}
}
