package impl

import (
	"strconv"
	"strings"
)

const ErrNone = 0
const ErrInvalid = 1
const ErrRange = 2
const ErrLimit = 3
const ErrSyntax = 4
const ErrNotFound = 5
const ErrState = 6
const ErrTruncated = 7
const ErrChecksum = 8
const Extent = 40
const MaxPairs = 8

type Point struct {
	X int64
	Y int64
}

type Transform struct {
	Orientation int64
	X           int64
	Y           int64
}

// orientation is what a transform does to directions: it turns and, from mirrored0 on, first reflects in the
// x axis.
type orientation int64

const (
	turned0 orientation = iota
	turned90
	turned180
	turned270
	mirrored0
	mirrored90
	mirrored180
	mirrored270
	orientationCount
)

// matrix maps (x, y) to (m[0]*x + m[1]*y, m[2]*x + m[3]*y).
type matrix [4]int64

var orientationMatrices = [orientationCount]matrix{
	turned0:     {1, 0, 0, 1},
	turned90:    {0, -1, 1, 0},
	turned180:   {-1, 0, 0, -1},
	turned270:   {0, 1, -1, 0},
	mirrored0:   {1, 0, 0, -1},
	mirrored90:  {0, 1, 1, 0},
	mirrored180: {-1, 0, 0, 1},
	mirrored270: {0, -1, -1, 0},
}

func (m matrix) image(p Point) Point {
	return Point{m[0]*p.X + m[1]*p.Y, m[2]*p.X + m[3]*p.Y}
}

func (m matrix) times(n matrix) matrix {
	left := m.image(Point{n[0], n[2]})
	right := m.image(Point{n[1], n[3]})
	return matrix{left.X, right.X, left.Y, right.Y}
}

func (m matrix) transposed() matrix {
	return matrix{m[0], m[2], m[1], m[3]}
}

// orientationWith returns the orientation that has matrix m, or -1 if none has it.
func orientationWith(m matrix) orientation {
	for o := range orientationCount {
		if orientationMatrices[o] == m {
			return o
		}
	}
	return -1
}

func (o orientation) valid() bool {
	return turned0 <= o && o < orientationCount
}

func (o orientation) image(p Point) Point {
	return orientationMatrices[o].image(p)
}

func (o orientation) then(next orientation) orientation {
	return orientationWith(orientationMatrices[next].times(orientationMatrices[o]))
}

// inverse relies on the matrices being orthogonal: the transposed one undoes them.
func (o orientation) inverse() orientation {
	return orientationWith(orientationMatrices[o].transposed())
}

// word returns the first word of the text of a transform.
func (o orientation) word() string {
	if o < mirrored0 {
		return "r" + strconv.FormatInt(int64(o), 10)
	}
	return "m" + strconv.FormatInt(int64(o-mirrored0), 10)
}

// orientationOfWord returns the orientation that has this word, or -1 if none has it.
func orientationOfWord(word string) orientation {
	for o := range orientationCount {
		if o.word() == word {
			return o
		}
	}
	return -1
}

func (t Transform) orientation() orientation {
	return orientation(t.Orientation)
}

func (t Transform) image(p Point) Point {
	turned := t.orientation().image(p)
	return Point{turned.X + t.X, turned.Y + t.Y}
}

// then returns the transform that applies t first and u second. Its translation may be out of range.
func (t Transform) then(u Transform) Transform {
	origin := u.image(Point{t.X, t.Y})
	return Transform{int64(t.orientation().then(u.orientation())), origin.X, origin.Y}
}

func (t Transform) mapsAll(from []Point, to []Point) bool {
	for i, p := range from {
		if t.image(p) != to[i] {
			return false
		}
	}
	return true
}

func inRange(n int64, low int64, high int64) bool {
	return low <= n && n <= high
}

func isOnChip(p Point) bool {
	return inRange(p.X, -Extent, Extent) && inRange(p.Y, -Extent, Extent)
}

func isUnitCell(p Point) bool {
	return inRange(p.X, -Extent, Extent-1) && inRange(p.Y, -Extent, Extent-1)
}

func areOnChip(points []Point) bool {
	for _, p := range points {
		if !isOnChip(p) {
			return false
		}
	}
	return true
}

// IsValidTransform reports whether Orientation is in the range 0 to 7 and X and Y are in the range -2*Extent
// to 2*Extent.
func IsValidTransform(t Transform) bool {
	return t.orientation().valid() && inRange(t.X, -2*Extent, 2*Extent) && inRange(t.Y, -2*Extent, 2*Extent)
}

// MovePoint returns the image of p under t and true. It returns the zero value and false if t is not valid or
// p is not on the chip. The image need not be on the chip.
func MovePoint(t Transform, p Point) (Point, bool) {
	if !IsValidTransform(t) || !isOnChip(p) {
		return Point{}, false
	}
	return t.image(p), true
}

// MoveUnitCell returns the lower left corner of the unit cell that is the image of the unit cell p under t,
// and true. It returns the zero value and false if t is not valid or p is not a unit cell of the chip. The
// image need not be on the chip.
func MoveUnitCell(t Transform, p Point) (Point, bool) {
	if !IsValidTransform(t) || !isUnitCell(p) {
		return Point{}, false
	}
	corner := t.image(p)
	opposite := t.image(Point{p.X + 1, p.Y + 1})
	return Point{min(corner.X, opposite.X), min(corner.Y, opposite.Y)}, true
}

// ComposeTransforms returns the transform that applies t first and u second, and true. It returns the zero
// value and false if t or u is not valid or X or Y of the result would be out of range.
func ComposeTransforms(t Transform, u Transform) (Transform, bool) {
	if !IsValidTransform(t) || !IsValidTransform(u) {
		return Transform{}, false
	}
	composed := t.then(u)
	if !IsValidTransform(composed) {
		return Transform{}, false
	}
	return composed, true
}

// InvertTransform returns the transform that undoes t, and true, or the zero value and false if t is not
// valid.
func InvertTransform(t Transform) (Transform, bool) {
	if !IsValidTransform(t) {
		return Transform{}, false
	}
	back := t.orientation().inverse()
	origin := back.image(Point{-t.X, -t.Y})
	return Transform{int64(back), origin.X, origin.Y}, true
}

// ComposeOrientations returns the orientation of the transform that applies a transform with orientation a
// first and one with orientation b second, or -1 if a or b is not in the range 0 to 7.
func ComposeOrientations(a int64, b int64) int64 {
	first, second := orientation(a), orientation(b)
	if !first.valid() || !second.valid() {
		return -1
	}
	return int64(first.then(second))
}

// FindTransform returns the valid transform with the smallest orientation that maps from[i] to to[i] for
// every i, and true. It returns the zero value and false if from is empty or has more than MaxPairs points,
// to has a different length, a point of either list is not on the chip, or there is no such transform.
func FindTransform(from []Point, to []Point) (Transform, bool) {
	if len(from) == 0 || len(from) > MaxPairs || len(to) != len(from) || !areOnChip(from) || !areOnChip(to) {
		return Transform{}, false
	}
	for o := range orientationCount {
		turned := o.image(from[0])
		// Two points on the chip are never farther apart than a valid translation reaches.
		t := Transform{int64(o), to[0].X - turned.X, to[0].Y - turned.Y}
		if t.mapsAll(from, to) {
			return t, true
		}
	}
	return Transform{}, false
}

// FormatTransform returns the letter r if Orientation is less than 4 and m otherwise, the digit Orientation
// modulo 4, and X and Y in decimal, separated by single blanks: the letter and the digit form one word. It
// returns the empty string if t is not valid.
func FormatTransform(t Transform) string {
	if !IsValidTransform(t) {
		return ""
	}
	return t.orientation().word() + " " + strconv.FormatInt(t.X, 10) + " " + strconv.FormatInt(t.Y, 10)
}

// ParseTransform returns the transform whose FormatTransform is s, and true, or the zero value and false if
// there is none.
func ParseTransform(s string) (Transform, bool) {
	words := strings.Split(s, " ")
	if len(words) != 3 {
		return Transform{}, false
	}
	x, errX := strconv.ParseInt(words[1], 10, 64)
	y, errY := strconv.ParseInt(words[2], 10, 64)
	if errX != nil || errY != nil {
		return Transform{}, false
	}
	t := Transform{int64(orientationOfWord(words[0])), x, y}
	// ParseInt also accepts plus signs, leading zeros and -0, which no text of a transform has.
	if FormatTransform(t) != s {
		return Transform{}, false
	}
	return t, true
}
