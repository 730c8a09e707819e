package tests

import (
	"fmt"
	"math"
	"slices"
	"testing"

	"loop.example/g00931/impl"
)

func TestPanelConstants(t *testing.T) {
	got := []int64{impl.MaxSide, impl.BreakNone, impl.BreakUpright, impl.BreakLevel}
	same(t, "constants", got, []int64{8, 0, 1, 2})
}

func TestValidPanel(t *testing.T) {
	good := []impl.Panel{
		panelOf(1, 1), {W: 1, H: 1, Breaks: []int64{}}, panelOf(2, 1, 0), panelOf(2, 1, 1), panelOf(2, 1, 2),
		panelOf(1, 2, 2), panelOf(2, 2, 0, 1, 2, 0), panelOf(8, 1, 0, 1, 2, 0, 1, 2, 0), panelOf(1, 8, 2, 2, 2, 2, 2, 2, 2),
		mixedPanel(8, 8), mixedPanel(3, 5), mixedPanel(5, 3),
	}
	for _, p := range good {
		same(t, fmt.Sprint("ValidPanel of ", p), impl.ValidPanel(p), true)
	}
	for _, p := range invalidPanels() {
		same(t, fmt.Sprint("ValidPanel of ", p), impl.ValidPanel(p), false)
	}
}

// TestValidPanelLengths: only the number of inner points is the right number of breaks.
func TestValidPanelLengths(t *testing.T) {
	eachSize(func(w, h int64) {
		n := len(innerByOrder(w, h))
		for k := range 130 {
			p := panelOf(w, h, make([]int64, k)...)
			same(t, fmt.Sprint(w, " by ", h, " with ", k), impl.ValidPanel(p), k == n)
		}
	})
}

// TestValidPanelKinds puts numbers that are no kinds at each place of the list.
func TestValidPanelKinds(t *testing.T) {
	for k := range 7 {
		for _, kind := range edgeNumbers {
			p := mixedPanel(2, 3)
			p.Breaks[k] = kind
			same(t, fmt.Sprint(kind, " at ", k), impl.ValidPanel(p), kind >= 0 && kind <= 2)
		}
	}
}

func TestSamePanel(t *testing.T) {
	list := append(invalidPanels(), panelOf(1, 1), panelOf(2, 1, 0), panelOf(2, 1, 1), panelOf(2, 1, 2), panelOf(1, 2, 0),
		mixedPanel(8, 8), mixedPanel(3, 3), panelOf(2, 2, 0, 0, 0, 1), panelOf(2, 2, 1, 0, 0, 0), panelOf(0, 0, 1), panelOf(0, 0, 1, 2))
	for i, a := range list {
		for k, b := range list {
			c := impl.Panel{W: b.W, H: b.H, Breaks: slices.Clone(b.Breaks)}
			// panelOf(0, 0) is the zero panel once more.
			want := fmt.Sprint(a) == fmt.Sprint(b)
			same(t, fmt.Sprint("SamePanel of ", i, " and ", k), impl.SamePanel(a, c), want)
		}
	}
	same(t, "no list and an empty one", impl.SamePanel(panelOf(1, 1), impl.Panel{W: 1, H: 1, Breaks: []int64{}}), true)
	same(t, "an empty list and none", impl.SamePanel(impl.Panel{Breaks: []int64{}}, impl.Panel{}), true)
	same(t, "sides exchanged", impl.SamePanel(panelOf(3, 2), panelOf(2, 3)), false)
	same(t, "a longer list", impl.SamePanel(panelOf(2, 1, 0), panelOf(2, 1, 0, 0)), false)
	same(t, "a shorter list", impl.SamePanel(panelOf(2, 1, 0, 0), panelOf(2, 1, 0)), false)
}

func TestInnerPoints(t *testing.T) {
	eachSize(func(w, h int64) {
		n, code := impl.InnerPoints(w, h)
		same(t, fmt.Sprint(w, " by ", h), []int64{n, code}, []int64{int64(len(innerByOrder(w, h))), impl.OK})
	})
	for _, c := range [][3]int64{{1, 1, 0}, {2, 1, 1}, {1, 2, 1}, {2, 2, 4}, {8, 1, 7}, {1, 8, 7}, {3, 2, 7}, {8, 8, 112}} {
		n, code := impl.InnerPoints(c[0], c[1])
		same(t, fmt.Sprint(c[0], " by ", c[1]), []int64{n, code}, []int64{c[2], impl.OK})
	}
}

// TestSizesOutOfRange: both functions of a size tell the same error, and nothing with it.
func TestSizesOutOfRange(t *testing.T) {
	for _, w := range edgeNumbers {
		for _, h := range edgeNumbers {
			if w >= 1 && w <= 8 && h >= 1 && h <= 8 {
				continue
			}
			n, code := impl.InnerPoints(w, h)
			same(t, fmt.Sprint("InnerPoints of ", w, " ", h), []int64{n, code}, []int64{0, impl.ErrRange})
			p, code := impl.NewPanel(w, h)
			same(t, fmt.Sprint("NewPanel of ", w, " ", h), code, int64(impl.ErrRange))
			isZero(t, fmt.Sprint("NewPanel of ", w, " ", h), p)
		}
	}
}

func TestNewPanel(t *testing.T) {
	eachSize(func(w, h int64) {
		p, code := impl.NewPanel(w, h)
		same(t, fmt.Sprint(w, " by ", h), code, int64(impl.OK))
		samePanel(t, fmt.Sprint(w, " by ", h), p, panelOf(w, h, make([]int64, len(innerByOrder(w, h)))...))
		same(t, fmt.Sprint(w, " by ", h, " is valid"), impl.ValidPanel(p), true)
	})
}

// TestPoints holds all places of all sizes, and those around, against the words of chapter 2.
func TestPoints(t *testing.T) {
	eachSize(func(w, h int64) {
		p := mixedPanel(w, h)
		for _, at := range placesAround(w, h) {
			point := at.X >= 0 && at.X <= 2*w && at.Y >= 0 && at.Y <= 2*h && (at.X+at.Y+10)%2 == 1
			border := point && (at.X == 0 || at.X == 2*w || at.Y == 0 || at.Y == 2*h)
			same(t, fmt.Sprint("IsPoint of ", at, " in ", w, " by ", h), impl.IsPoint(p, at), point)
			same(t, fmt.Sprint("IsBorder of ", at, " in ", w, " by ", h), impl.IsBorder(p, at), border)
		}
	})
}

// farPlaces are no points of any panel, even where the sum of X and Y overflows.
func farPlaces() []impl.Point {
	list := []impl.Point{}
	for _, x := range edgeNumbers {
		for _, y := range edgeNumbers {
			if x < 0 || x > 16 || y < 0 || y > 16 {
				list = append(list, impl.Point{X: x, Y: y})
			}
		}
	}
	return list
}

func TestFarPlaces(t *testing.T) {
	for _, p := range []impl.Panel{panelOf(1, 1), mixedPanel(2, 1), mixedPanel(8, 8)} {
		for _, at := range farPlaces() {
			noPoint(t, p, at)
		}
	}
}

// noPoint checks what each function tells of a place that is no point of a valid panel.
func noPoint(t *testing.T, p impl.Panel, at impl.Point) {
	t.Helper()
	name := fmt.Sprint(at, " in ", p.W, " by ", p.H)
	same(t, "IsPoint "+name, impl.IsPoint(p, at), false)
	same(t, "IsBorder "+name, impl.IsBorder(p, at), false)
	fails(t, p, at, impl.ErrRange)
}

// fails checks that the functions of a point tell this error and nothing else, with each kind of break.
func fails(t *testing.T, p impl.Panel, at impl.Point, want int64) {
	t.Helper()
	name := fmt.Sprint(at, " in ", p)
	k, code := impl.NumberOf(p, at)
	same(t, "NumberOf "+name, []int64{k, code}, []int64{0, want})
	b, code := impl.BreakAt(p, at)
	same(t, "BreakAt "+name, []int64{b, code}, []int64{0, want})
	for kind := range int64(3) {
		q, code := impl.SetBreak(p, at, kind)
		same(t, "SetBreak "+name, code, want)
		isZero(t, "SetBreak "+name, q)
	}
}

// TestNumbersOfPoints is P2: the inner points, in order, have the numbers from 0 on, and these are their numbers.
func TestNumbersOfPoints(t *testing.T) {
	eachSize(func(w, h int64) {
		p := mixedPanel(w, h)
		inner := innerByOrder(w, h)
		for k, want := range inner {
			name := fmt.Sprint(k, " in ", w, " by ", h)
			at, code := impl.PointAt(p, int64(k))
			same(t, "PointAt "+name, []any{at, code}, []any{want, int64(impl.OK)})
			n, code := impl.NumberOf(p, want)
			same(t, "NumberOf "+name, []int64{n, code}, []int64{int64(k), impl.OK})
			b, code := impl.BreakAt(p, want)
			same(t, "BreakAt "+name, []int64{b, code}, []int64{p.Breaks[k], impl.OK})
		}
		n, code := impl.InnerPoints(w, h)
		same(t, fmt.Sprint("InnerPoints of ", w, " ", h), []int64{n, code}, []int64{int64(len(inner)), impl.OK})
	})
}

// TestNumbersThatAreNone: the numbers before the first and behind the last inner point have no point.
func TestNumbersThatAreNone(t *testing.T) {
	eachSize(func(w, h int64) {
		p := mixedPanel(w, h)
		n := int64(len(p.Breaks))
		for _, k := range append([]int64{-1, n, n + 1, n + 2*w, 2 * n}, edgeNumbers...) {
			if k >= 0 && k < n {
				continue
			}
			at, code := impl.PointAt(p, k)
			same(t, fmt.Sprint("PointAt ", k, " in ", w, " by ", h), []any{at, code}, []any{impl.Point{}, int64(impl.ErrRange)})
		}
	})
}

// TestPlacesWithoutNumbers: border points have no number and no break, and other places are no points at all.
func TestPlacesWithoutNumbers(t *testing.T) {
	eachSize(func(w, h int64) {
		p := mixedPanel(w, h)
		inner := innerByOrder(w, h)
		for _, at := range placesAround(w, h) {
			if slices.Contains(inner, at) {
				continue
			}
			if at.X < 0 || at.X > 2*w || at.Y < 0 || at.Y > 2*h || (at.X+at.Y)%2 == 0 {
				noPoint(t, p, at)
			} else {
				fails(t, p, at, impl.ErrState)
			}
		}
	})
}

// TestOrderOfRows writes some numbers out, with the rows of odd Y that a panel of the width 1 does not have.
func TestOrderOfRows(t *testing.T) {
	cases := []struct {
		w, h int64
		want []impl.Point
	}{
		{1, 1, []impl.Point{}},
		{2, 1, []impl.Point{{X: 2, Y: 1}}},
		{1, 2, []impl.Point{{X: 1, Y: 2}}},
		{1, 3, []impl.Point{{X: 1, Y: 2}, {X: 1, Y: 4}}},
		{3, 1, []impl.Point{{X: 2, Y: 1}, {X: 4, Y: 1}}},
		{2, 2, []impl.Point{{X: 2, Y: 1}, {X: 1, Y: 2}, {X: 3, Y: 2}, {X: 2, Y: 3}}},
		{3, 2, []impl.Point{{X: 2, Y: 1}, {X: 4, Y: 1}, {X: 1, Y: 2}, {X: 3, Y: 2}, {X: 5, Y: 2}, {X: 2, Y: 3}, {X: 4, Y: 3}}},
	}
	for _, c := range cases {
		p, _ := impl.NewPanel(c.w, c.h)
		got := []impl.Point{}
		for k := range int64(len(p.Breaks)) {
			at, _ := impl.PointAt(p, k)
			got = append(got, at)
		}
		same(t, fmt.Sprint(c.w, " by ", c.h), got, c.want)
	}
	at, code := impl.PointAt(mixedPanel(8, 8), 111)
	same(t, "the last point of 8 by 8", []any{at, code}, []any{impl.Point{X: 14, Y: 15}, int64(impl.OK)})
}

// TestSetBreak changes each inner point to each kind, and finds this change and no other one.
func TestSetBreak(t *testing.T) {
	eachSize(func(w, h int64) {
		p := mixedPanel(w, h)
		for k, at := range innerByOrder(w, h) {
			for kind := range int64(3) {
				name := fmt.Sprint("SetBreak ", at, " to ", kind, " in ", w, " by ", h)
				want := mixedPanel(w, h)
				want.Breaks[k] = kind
				q, code := impl.SetBreak(p, at, kind)
				same(t, name, code, int64(impl.OK))
				samePanel(t, name, q, want)
				b, code := impl.BreakAt(q, at)
				same(t, name, []int64{b, code}, []int64{kind, impl.OK})
			}
		}
	})
}

// TestSetBreakOrder: an invalid panel, then a place or a kind that there is not, then a border point.
func TestSetBreakOrder(t *testing.T) {
	p := mixedPanel(2, 2)
	inner, border, none := impl.Point{X: 2, Y: 1}, impl.Point{X: 0, Y: 1}, impl.Point{X: 1, Y: 1}
	for _, kind := range edgeNumbers {
		if kind >= 0 && kind <= 2 {
			continue
		}
		for _, at := range []impl.Point{inner, border, none, {X: math.MinInt64, Y: math.MaxInt64}} {
			q, code := impl.SetBreak(p, at, kind)
			same(t, fmt.Sprint("kind ", kind, " at ", at), code, int64(impl.ErrRange))
			isZero(t, "a kind that there is not", q)
			q, code = impl.SetBreak(panelOf(2, 2, 0, 0, 0), at, kind)
			same(t, fmt.Sprint("kind ", kind, " at ", at, " in an invalid panel"), code, int64(impl.ErrInvalid))
			isZero(t, "an invalid panel", q)
		}
	}
	q, code := impl.SetBreak(p, border, impl.BreakLevel)
	same(t, "a border point", code, int64(impl.ErrState))
	isZero(t, "a border point", q)
}

func TestCountBreaks(t *testing.T) {
	eachSize(func(w, h int64) {
		p := mixedPanel(w, h)
		for kind := range int64(3) {
			want := int64(0)
			for _, b := range p.Breaks {
				if b == kind {
					want++
				}
			}
			n, code := impl.CountBreaks(p, kind)
			same(t, fmt.Sprint("kind ", kind, " in ", w, " by ", h), []int64{n, code}, []int64{want, impl.OK})
		}
	})
	for kind, want := range []int64{3, 1, 0} {
		n, code := impl.CountBreaks(panelOf(2, 2, 0, 1, 0, 0), int64(kind))
		same(t, fmt.Sprint("kind ", kind), []int64{n, code}, []int64{want, impl.OK})
	}
	for _, kind := range edgeNumbers {
		if kind < 0 || kind > 2 {
			n, code := impl.CountBreaks(mixedPanel(3, 3), kind)
			same(t, fmt.Sprint("kind ", kind), []int64{n, code}, []int64{0, impl.ErrRange})
		}
	}
}

// TestInvalidPanels: ErrInvalid comes before all other errors, and nothing with it.
func TestInvalidPanels(t *testing.T) {
	places := append(placesAround(2, 2), impl.Point{X: math.MaxInt64, Y: math.MaxInt64}, impl.Point{X: math.MinInt64, Y: math.MinInt64})
	for _, p := range invalidPanels() {
		for _, at := range places {
			same(t, fmt.Sprint("IsPoint of ", at, " in ", p), impl.IsPoint(p, at), false)
			same(t, fmt.Sprint("IsBorder of ", at, " in ", p), impl.IsBorder(p, at), false)
			fails(t, p, at, impl.ErrInvalid)
		}
		for _, k := range edgeNumbers {
			at, code := impl.PointAt(p, k)
			same(t, fmt.Sprint("PointAt ", k, " in ", p), []any{at, code}, []any{impl.Point{}, int64(impl.ErrInvalid)})
			n, code := impl.CountBreaks(p, k)
			same(t, fmt.Sprint("CountBreaks ", k, " in ", p), []int64{n, code}, []int64{0, impl.ErrInvalid})
		}
	}
}
