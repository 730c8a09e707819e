package tests

import (
	"math"
	"reflect"
	"testing"

	"loop.example/g00931/impl"
)

// edgeNumbers are numbers around the limits of the chapters and of int64.
var edgeNumbers = []int64{
	math.MinInt64, math.MinInt64 + 1, math.MinInt32, -17, -2, -1, 0, 1, 2, 3, 7, 8, 9, 10, 11, 15, 16, 17,
	111, 112, math.MaxInt32, math.MaxInt64 - 1, math.MaxInt64,
}

// same fails the test unless both values are deeply equal.
func same(t *testing.T, name string, got, want any) {
	t.Helper()
	if !reflect.DeepEqual(got, want) {
		t.Errorf("%s: got %v, want %v", name, got, want)
	}
}

// samePanel holds panels against each other, where a nil list is as an empty one.
func samePanel(t *testing.T, name string, got, want impl.Panel) {
	t.Helper()
	if got.W != want.W || got.H != want.H || len(got.Breaks) != len(want.Breaks) ||
		len(got.Breaks) > 0 && !reflect.DeepEqual(got.Breaks, want.Breaks) {
		t.Errorf("%s: got %v, want %v", name, got, want)
	}
}

// isZero fails the test unless the panel is what goes with an error.
func isZero(t *testing.T, name string, p impl.Panel) {
	t.Helper()
	if p.W != 0 || p.H != 0 || len(p.Breaks) != 0 {
		t.Errorf("%s: got %v with an error", name, p)
	}
}

// panelOf is the panel of a size with these breaks, valid or not.
func panelOf(w, h int64, breaks ...int64) impl.Panel {
	return impl.Panel{W: w, H: h, Breaks: breaks}
}

// mixedPanel is a valid panel with all kinds of breaks, in an order without a short period.
func mixedPanel(w, h int64) impl.Panel {
	p := impl.Panel{W: w, H: h, Breaks: []int64{}}
	for k := range w*(h-1) + h*(w-1) {
		p.Breaks = append(p.Breaks, (k*k+k/2+w+2*h)%3)
	}
	return p
}

// eachSize calls f for the sizes of all valid panels.
func eachSize(f func(w, h int64)) {
	for w := int64(1); w <= impl.MaxSide; w++ {
		for h := int64(1); h <= impl.MaxSide; h++ {
			f(w, h)
		}
	}
}

// innerByOrder finds the inner points of a size as chapter 2 words it, one place after the other.
func innerByOrder(w, h int64) []impl.Point {
	list := []impl.Point{}
	for y := int64(1); y < 2*h; y++ {
		for x := int64(1); x < 2*w; x++ {
			if (x+y)%2 == 1 {
				list = append(list, impl.Point{X: x, Y: y})
			}
		}
	}
	return list
}

// placesAround are all places of a size and those up to three beside it.
func placesAround(w, h int64) []impl.Point {
	list := []impl.Point{}
	for y := int64(-3); y <= 2*h+3; y++ {
		for x := int64(-3); x <= 2*w+3; x++ {
			list = append(list, impl.Point{X: x, Y: y})
		}
	}
	return list
}

// invalidPanels breaks each rule for valid panels, one after the other.
func invalidPanels() []impl.Panel {
	full := mixedPanel(8, 8).Breaks
	return []impl.Panel{
		{},
		panelOf(0, 1), panelOf(1, 0), panelOf(0, 0), panelOf(-1, 1), panelOf(1, -1), panelOf(-1, -1),
		panelOf(0, 2), panelOf(2, 0), panelOf(0, -1), panelOf(-1, 0),
		panelOf(9, 1, 0, 0, 0, 0, 0, 0, 0, 0), panelOf(1, 9, 0, 0, 0, 0, 0, 0, 0, 0),
		panelOf(9, 9, full...), panelOf(math.MaxInt64, 1), panelOf(1, math.MaxInt64),
		panelOf(math.MinInt64, math.MinInt64), panelOf(math.MaxInt64, math.MaxInt64),
		panelOf(1, 1, 0), panelOf(2, 1), panelOf(1, 2), panelOf(2, 1, 0, 0),
		panelOf(2, 2, 0, 0, 0), panelOf(2, 2, 0, 0, 0, 0, 0),
		panelOf(8, 8, full[:111]...), panelOf(8, 7, full...),
		panelOf(2, 1, 3), panelOf(2, 1, -1), panelOf(1, 2, math.MaxInt64), panelOf(1, 2, math.MinInt64),
		panelOf(2, 2, 3, 0, 0, 0), panelOf(2, 2, 0, 0, 0, 3), panelOf(2, 2, 0, -1, 0, 0),
	}
}
