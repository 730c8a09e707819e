package impl

import "slices"

// MaxSide is the greatest side of panels.
const MaxSide = 8

// Breaks at inner points.
const (
	BreakNone    = 0
	BreakUpright = 1
	BreakLevel   = 2
)

// Panel is a grid with breaks.
type Panel struct {
	W      int64
	H      int64
	Breaks []int64
}

// Point is a point of a panel.
type Point struct {
	X int64
	Y int64
}

// size is the width and the height of a panel; its methods but isValid need valid ones, or, in chapter 7,
// those up to maxPlain.
type size struct {
	w int64
	h int64
}

func sizeOf(p Panel) size { return size{w: p.W, h: p.H} }

func (s size) isValid() bool {
	return s.w >= 1 && s.w <= MaxSide && s.h >= 1 && s.h <= MaxSide
}

// innerPoints returns the number of inner points.
func (s size) innerPoints() int64 { return s.w*(s.h-1) + s.h*(s.w-1) }

// hasPoint tests the range before the sum, so that the sum cannot overflow.
func (s size) hasPoint(at Point) bool {
	return at.X >= 0 && at.X <= 2*s.w && at.Y >= 0 && at.Y <= 2*s.h && (at.X+at.Y)%2 == 1
}

// onBorder reports whether a point of the panel is a border point.
func (s size) onBorder(at Point) bool {
	return at.X == 0 || at.X == 2*s.w || at.Y == 0 || at.Y == 2*s.h
}

// twoRows is the number of inner points with the Y 2*r + 1 or 2*r + 2:
// w - 1 of them, at even X, have the odd Y, and w, at odd X, the even one.
func (s size) twoRows() int64 { return 2*s.w - 1 }

// numberOf returns the number of an inner point.
func (s size) numberOf(at Point) int64 {
	before := (at.Y - 1) / 2 * s.twoRows()
	if at.Y%2 == 0 {
		before += s.w - 1
	}
	return before + (at.X-1)/2
}

// pointAt returns the inner point with a number from 0 to innerPoints - 1.
func (s size) pointAt(k int64) Point {
	y := k/s.twoRows()*2 + 1
	rest := k % s.twoRows()
	if rest < s.w-1 {
		return Point{X: 2*rest + 2, Y: y}
	}
	return Point{X: 2*(rest-(s.w-1)) + 1, Y: y + 1}
}

func isBreak(kind int64) bool { return kind >= BreakNone && kind <= BreakLevel }

// ValidPanel reports whether the sides of p are valid and there is a kind of break for each inner point.
func ValidPanel(p Panel) bool {
	s := sizeOf(p)
	if !s.isValid() || int64(len(p.Breaks)) != s.innerPoints() {
		return false
	}
	for _, kind := range p.Breaks {
		if !isBreak(kind) {
			return false
		}
	}
	return true
}

// SamePanel reports whether two panels, which need not be valid, are deeply equal.
func SamePanel(a, b Panel) bool {
	return sizeOf(a) == sizeOf(b) && slices.Equal(a.Breaks, b.Breaks)
}

// InnerPoints returns the number of inner points of a panel of the width w and the height h.
func InnerPoints(w, h int64) (int64, int64) {
	s := size{w: w, h: h}
	if !s.isValid() {
		return 0, ErrRange
	}
	return s.innerPoints(), OK
}

// NewPanel returns the panel of a size without breaks.
func NewPanel(w, h int64) (Panel, int64) {
	n, code := InnerPoints(w, h)
	if code != OK {
		return Panel{}, code
	}
	return Panel{W: w, H: h, Breaks: make([]int64, n)}, OK
}

// IsPoint reports whether p is valid and has the point at.
func IsPoint(p Panel, at Point) bool {
	return ValidPanel(p) && sizeOf(p).hasPoint(at)
}

// IsBorder reports whether p is valid and at is a border point of it.
func IsBorder(p Panel, at Point) bool {
	return IsPoint(p, at) && sizeOf(p).onBorder(at)
}

// PointAt returns the inner point with the number k.
func PointAt(p Panel, k int64) (Point, int64) {
	if !ValidPanel(p) {
		return Point{}, ErrInvalid
	}
	if k < 0 || k >= sizeOf(p).innerPoints() {
		return Point{}, ErrRange
	}
	return sizeOf(p).pointAt(k), OK
}

// NumberOf returns the number of an inner point.
func NumberOf(p Panel, at Point) (int64, int64) {
	if !ValidPanel(p) {
		return 0, ErrInvalid
	}
	if !sizeOf(p).hasPoint(at) {
		return 0, ErrRange
	}
	if sizeOf(p).onBorder(at) {
		return 0, ErrState
	}
	return sizeOf(p).numberOf(at), OK
}

// BreakAt returns the break at an inner point.
func BreakAt(p Panel, at Point) (int64, int64) {
	k, code := NumberOf(p, at)
	if code != OK {
		return 0, code
	}
	return p.Breaks[k], OK
}

// SetBreak returns the panel with another break at an inner point.
func SetBreak(p Panel, at Point, kind int64) (Panel, int64) {
	// A kind that does not exist is found before a border point is.
	if ValidPanel(p) && !isBreak(kind) {
		return Panel{}, ErrRange
	}
	k, code := NumberOf(p, at)
	if code != OK {
		return Panel{}, code
	}
	breaks := slices.Clone(p.Breaks)
	breaks[k] = kind
	return Panel{W: p.W, H: p.H, Breaks: breaks}, OK
}

// CountBreaks returns how many inner points have a kind of break.
func CountBreaks(p Panel, kind int64) (int64, int64) {
	if !ValidPanel(p) {
		return 0, ErrInvalid
	}
	if !isBreak(kind) {
		return 0, ErrRange
	}
	n := int64(0)
	for _, b := range p.Breaks {
		if b == kind {
			n++
		}
	}
	return n, OK
}
