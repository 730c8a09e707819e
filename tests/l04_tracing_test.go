package tests

import (
	"fmt"
	"math"
	"slices"
	"testing"

	"loop.example/g00931/impl"
)

// curvesByWords walks the curves as chapter 4 words it, in the order of their least segments, and tells them
// as their points, and the curve of each segment.
func curvesByWords(p impl.Panel) ([][]impl.Point, []int64) {
	number := segmentNumbers(p.W, p.H)
	of := make([]int64, len(number))
	for k := range of {
		of[k] = -1
	}
	curves := [][]impl.Point{}
	for k, w := range walkersByOrder(p.W, p.H) {
		if k%2 == 1 || of[k/2] >= 0 {
			continue
		}
		list := []impl.Point{}
		for v := w; ; {
			list = append(list, v.At)
			of[number[between(v.At, nextOf(v))]] = int64(len(curves))
			if v, _ = stepByWords(p, v); v == w {
				break
			}
		}
		curves = append(curves, list)
	}
	return curves, of
}

// segmentNumbers tells for the two ends of each segment of a size, the left one first, its number.
func segmentNumbers(w, h int64) map[[2]impl.Point]int64 {
	number := map[[2]impl.Point]int64{}
	for k, v := range walkersByOrder(w, h) {
		number[between(v.At, nextOf(v))] = int64(k / 2)
	}
	return number
}

// between are two points, the left one first.
func between(a, b impl.Point) [2]impl.Point {
	if a.X > b.X {
		return [2]impl.Point{b, a}
	}
	return [2]impl.Point{a, b}
}

// segmentsBeside are the numbers of the segments of a size that end at a point.
func segmentsBeside(w, h int64, at impl.Point) []int64 {
	list := []int64{}
	number := segmentNumbers(w, h)
	for _, d := range [][2]int64{{-1, -1}, {-1, 1}, {1, -1}, {1, 1}} {
		if k, ok := number[between(at, pt(at.X+d[0], at.Y+d[1]))]; ok {
			list = append(list, k)
		}
	}
	return list
}

// curvesBeside are the different curves that have segments at a point, ascending.
func curvesBeside(p impl.Panel, of []int64, at impl.Point) []int64 {
	list := []int64{}
	for _, k := range segmentsBeside(p.W, p.H, at) {
		list = append(list, of[k])
	}
	slices.Sort(list)
	return slices.Compact(list)
}

// smallCircles is the panel in which mirrors surround each place with an odd X and an odd Y: no panel of
// its size has more curves.
func smallCircles(w, h int64) impl.Panel {
	p := impl.Panel{W: w, H: h, Breaks: []int64{}}
	for _, at := range innerByOrder(w, h) {
		p.Breaks = append(p.Breaks, 1+at.X%2)
	}
	return p
}

// plain is the panel of a size without breaks.
func plain(w, h int64) impl.Panel {
	return panelOf(w, h, make([]int64, len(innerByOrder(w, h)))...)
}

// tracePanels are those of walking, those with the most curves, and all panels of a few small sizes.
func tracePanels() []impl.Panel {
	list := walkPanels()
	eachSize(func(w, h int64) { list = append(list, smallCircles(w, h), plain(w, h)) })
	for _, s := range [][2]int64{{2, 1}, {1, 2}, {3, 1}, {2, 2}} {
		n := len(innerByOrder(s[0], s[1]))
		for number := range int(math.Pow(3, float64(n)) + 0.5) {
			p := plain(s[0], s[1])
			for k := range p.Breaks {
				p.Breaks[k] = int64(number % 3)
				number /= 3
			}
			list = append(list, p)
		}
	}
	return list
}

// told is a number with its code.
func told(n, code int64) [2]int64 { return [2]int64{n, code} }

// TestCurveExample is the example of chapter 4, with what the other functions tell of it.
func TestCurveExample(t *testing.T) {
	p := panelOf(1, 1)
	curves, code := impl.CurvesOf(p)
	same(t, "CurvesOf", []any{curves, code}, []any{[][]impl.Point{{pt(0, 1), pt(1, 0), pt(2, 1), pt(1, 2)}}, int64(impl.OK)})
	same(t, "CountCurves", told(impl.CountCurves(p)), told(1, impl.OK))
	lengths, code := impl.CurveLengths(p)
	same(t, "CurveLengths", []any{lengths, code}, []any{[]int64{4}, int64(impl.OK)})
	of, code := impl.SegmentCurves(p)
	same(t, "SegmentCurves", []any{of, code}, []any{[]int64{0, 0, 0, 0}, int64(impl.OK)})
	same(t, "SelfCrossings", told(impl.SelfCrossings(p, 0)), told(0, impl.OK))
	same(t, "TouchesOf", told(impl.TouchesOf(p, 0)), told(4, impl.OK))
	same(t, "IsSingle", impl.IsSingle(p), true)
}

// TestCurvesWritten writes the curves of some panels out: with the same points in another order, and with
// two curves whose order is that of their least segments.
func TestCurvesWritten(t *testing.T) {
	cases := []struct {
		p    impl.Panel
		want [][]impl.Point
		of   []int64
	}{
		{panelOf(2, 1, impl.BreakNone), [][]impl.Point{
			{pt(0, 1), pt(1, 0), pt(2, 1), pt(3, 2), pt(4, 1), pt(3, 0), pt(2, 1), pt(1, 2)},
		}, []int64{0, 0, 0, 0, 0, 0, 0, 0}},
		{panelOf(2, 1, impl.BreakUpright), [][]impl.Point{
			{pt(0, 1), pt(1, 0), pt(2, 1), pt(1, 2)}, {pt(2, 1), pt(3, 0), pt(4, 1), pt(3, 2)},
		}, []int64{0, 0, 0, 0, 1, 1, 1, 1}},
		{panelOf(2, 1, impl.BreakLevel), [][]impl.Point{
			{pt(0, 1), pt(1, 0), pt(2, 1), pt(3, 0), pt(4, 1), pt(3, 2), pt(2, 1), pt(1, 2)},
		}, []int64{0, 0, 0, 0, 0, 0, 0, 0}},
		{panelOf(1, 2, impl.BreakLevel), [][]impl.Point{
			{pt(0, 1), pt(1, 0), pt(2, 1), pt(1, 2)}, {pt(0, 3), pt(1, 2), pt(2, 3), pt(1, 4)},
		}, []int64{0, 0, 1, 1, 0, 0, 1, 1}},
		{panelOf(2, 2, 0, 0, 0, 0), [][]impl.Point{
			{pt(0, 1), pt(1, 0), pt(2, 1), pt(3, 2), pt(4, 3), pt(3, 4), pt(2, 3), pt(1, 2)},
			{pt(0, 3), pt(1, 2), pt(2, 1), pt(3, 0), pt(4, 1), pt(3, 2), pt(2, 3), pt(1, 4)},
		}, []int64{0, 0, 1, 1, 0, 1, 0, 1, 1, 0, 1, 0, 1, 1, 0, 0}},
		{panelOf(2, 2, 1, 2, 2, 1), [][]impl.Point{
			{pt(0, 1), pt(1, 0), pt(2, 1), pt(1, 2)}, {pt(0, 3), pt(1, 2), pt(2, 3), pt(1, 4)},
			{pt(2, 1), pt(3, 0), pt(4, 1), pt(3, 2)}, {pt(2, 3), pt(3, 2), pt(4, 3), pt(3, 4)},
		}, []int64{0, 0, 1, 1, 0, 0, 1, 1, 2, 2, 3, 3, 2, 2, 3, 3}},
	}
	for _, c := range cases {
		curves, code := impl.CurvesOf(c.p)
		same(t, fmt.Sprint("CurvesOf ", c.p), []any{curves, code}, []any{c.want, int64(impl.OK)})
		of, code := impl.SegmentCurves(c.p)
		same(t, fmt.Sprint("SegmentCurves of ", c.p), []any{of, code}, []any{c.of, int64(impl.OK)})
	}
}

// TestCurves holds the curves of many panels of all sizes, and their numbers, against the words of chapter 4.
func TestCurves(t *testing.T) {
	for _, p := range tracePanels() {
		want, wantOf := curvesByWords(p)
		curves, code := impl.CurvesOf(p)
		same(t, fmt.Sprint("CurvesOf ", p), []any{curves, code}, []any{want, int64(impl.OK)})
		same(t, fmt.Sprint("CountCurves of ", p), told(impl.CountCurves(p)), told(int64(len(want)), impl.OK))
		wantLengths := []int64{}
		for _, c := range want {
			wantLengths = append(wantLengths, int64(len(c)))
		}
		lengths, code := impl.CurveLengths(p)
		same(t, fmt.Sprint("CurveLengths of ", p), []any{lengths, code}, []any{wantLengths, int64(impl.OK)})
		of, code := impl.SegmentCurves(p)
		same(t, fmt.Sprint("SegmentCurves of ", p), []any{of, code}, []any{wantOf, int64(impl.OK)})
		for k, curve := range wantOf {
			same(t, fmt.Sprint("CurveAt ", k, " of ", p), told(impl.CurveAt(p, int64(k))), told(curve, impl.OK))
		}
		same(t, fmt.Sprint("IsSingle of ", p), impl.IsSingle(p), len(want) == 1)
	}
}

// TestSegmentsOnce is the first half of P4, and the order of curves, told by the points of CurvesOf alone:
// all curves together have each segment once, each begins with its least segment to the right, and the
// least segments ascend.
func TestSegmentsOnce(t *testing.T) {
	for _, p := range tracePanels() {
		number := segmentNumbers(p.W, p.H)
		curves, _ := impl.CurvesOf(p)
		of, _ := impl.SegmentCurves(p)
		times := make([]int, len(number))
		last := int64(-1)
		for c, list := range curves {
			least := int64(math.MaxInt64)
			for k, at := range list {
				segment, ok := number[between(at, list[(k+1)%len(list)])]
				if !ok {
					t.Fatalf("curve %d of %v has no segment from its point %d on", c, p, k)
				}
				times[segment]++
				least = min(least, segment)
				if of[segment] != int64(c) {
					t.Errorf("segment %d of %v is in the curve %d, SegmentCurves tells %d", segment, p, c, of[segment])
				}
			}
			first, code := impl.WalkerAt(p, least)
			same(t, fmt.Sprint("the beginning of the curve ", c, " of ", p),
				[]any{list[0], list[1], code}, []any{first.At, nextOf(first), int64(impl.OK)})
			if least <= last {
				t.Errorf("the curves of %v are not in the order of their least segments: %d after %d", p, least, last)
			}
			last = least
		}
		for segment, n := range times {
			if n != 1 {
				t.Errorf("segment %d of %v is %d times in curves", segment, p, n)
			}
		}
	}
}

// crossingsByWords counts the inner points without a break at which all segments belong to a curve, if a and b
// are equal, or at which segments of both meet.
func crossingsByWords(p impl.Panel, of []int64, a, b int64) int64 {
	n := int64(0)
	for k, at := range innerByOrder(p.W, p.H) {
		meet := curvesBeside(p, of, at)
		if p.Breaks[k] == impl.BreakNone && slices.Contains(meet, a) && slices.Contains(meet, b) && (a != b || len(meet) == 1) {
			n++
		}
	}
	return n
}

// lesserPanels are those of tracePanels for which pairs of curves are counted in a short time.
func lesserPanels() []impl.Panel {
	list := slices.DeleteFunc(tracePanels(), func(p impl.Panel) bool { return p.W > 4 || p.H > 4 })
	return append(list, plain(8, 8), plain(8, 6), mixedPanel(8, 8), mixedPanel(5, 8), mixedPanel(8, 3))
}

// TestCrossings is the second half of P4: how many times curves cross themselves and each other, always an
// even number of times; and each inner point without a break is counted once.
func TestCrossings(t *testing.T) {
	for _, p := range lesserPanels() {
		curves, of := curvesByWords(p)
		all := int64(0)
		for a := range int64(len(curves)) {
			n, code := impl.SelfCrossings(p, a)
			same(t, fmt.Sprint("SelfCrossings ", a, " of ", p), told(n, code), told(crossingsByWords(p, of, a, a), impl.OK))
			all += n
			for b := range int64(len(curves)) {
				if a == b {
					continue
				}
				n, code := impl.CommonCrossings(p, a, b)
				same(t, fmt.Sprint("CommonCrossings ", a, " ", b, " of ", p), told(n, code), told(crossingsByWords(p, of, a, b), impl.OK))
				if n%2 != 0 {
					t.Errorf("the curves %d and %d of %v cross %d times", a, b, p, n)
				}
				if a < b {
					all += n
				}
			}
		}
		none, _ := impl.CountBreaks(p, impl.BreakNone)
		same(t, fmt.Sprint("crossings of ", p), all, none)
	}
}

// TestCrossingsWritten writes some numbers out: mirrors at which curves meet are no crossings.
func TestCrossingsWritten(t *testing.T) {
	self := []struct {
		p    impl.Panel
		want []int64
	}{
		{panelOf(1, 1), []int64{0}}, {panelOf(2, 1, 0), []int64{1}}, {panelOf(2, 1, 1), []int64{0, 0}}, {panelOf(2, 1, 2), []int64{0}},
		{panelOf(3, 1, 0, 0), []int64{2}}, {panelOf(3, 1, 0, 1), []int64{1, 0}}, {panelOf(3, 1, 2, 0), []int64{1}},
		{plain(2, 2), []int64{0, 0}}, {panelOf(2, 2, 1, 0, 0, 0), []int64{3}}, {plain(3, 2), []int64{7}}, {plain(8, 7), []int64{97}},
	}
	for _, c := range self {
		for k, want := range c.want {
			same(t, fmt.Sprint("SelfCrossings ", k, " of ", c.p), told(impl.SelfCrossings(c.p, int64(k))), told(want, impl.OK))
		}
	}
	for _, c := range []struct {
		p          impl.Panel
		a, b, want int64
	}{
		{plain(2, 2), 0, 1, 4}, {plain(2, 2), 1, 0, 4}, {panelOf(2, 1, 1), 0, 1, 0}, {panelOf(2, 2, 1, 2, 2, 1), 0, 3, 0},
		{panelOf(2, 2, 1, 2, 2, 1), 2, 1, 0}, {panelOf(2, 2, 1, 0, 0, 1), 1, 0, 0}, {panelOf(2, 2, 0, 1, 1, 0), 1, 0, 2}, {plain(3, 3), 0, 2, 4}, {plain(3, 3), 1, 2, 4},
	} {
		same(t, fmt.Sprint("CommonCrossings ", c.a, " ", c.b, " of ", c.p), told(impl.CommonCrossings(c.p, c.a, c.b)), told(c.want, impl.OK))
	}
}

// TestCurvesThrough tries all places of each size and those around: the inner points have one curve or two.
func TestCurvesThrough(t *testing.T) {
	ones, twos := 0, 0
	for _, p := range tracePanels() {
		_, of := curvesByWords(p)
		for _, at := range placesAround(p.W, p.H) {
			name := fmt.Sprint("CurvesThrough ", at, " of ", p)
			list, code := impl.CurvesThrough(p, at)
			switch {
			case !hasPlace(p.W, p.H, at):
				same(t, name, told(int64(len(list)), code), told(0, impl.ErrRange))
			case at.X == 0 || at.Y == 0 || at.X == 2*p.W || at.Y == 2*p.H:
				same(t, name, told(int64(len(list)), code), told(0, impl.ErrState))
			default:
				same(t, name, []any{list, code}, []any{curvesBeside(p, of, at), int64(impl.OK)})
				if len(list) == 1 {
					ones++
				} else if len(list) == 2 {
					twos++
				}
			}
		}
	}
	if ones == 0 || twos == 0 {
		t.Errorf("%d points with one curve, %d with two", ones, twos)
	}
}

// TestCurvesThroughWritten writes some lists out, at mirrors and where there is none, and at places far away.
func TestCurvesThroughWritten(t *testing.T) {
	for _, c := range []struct {
		p    impl.Panel
		at   impl.Point
		want []int64
	}{
		{panelOf(2, 1, 0), pt(2, 1), []int64{0}}, {panelOf(2, 1, 1), pt(2, 1), []int64{0, 1}}, {panelOf(2, 1, 2), pt(2, 1), []int64{0}},
		{panelOf(1, 2, 2), pt(1, 2), []int64{0, 1}}, {plain(2, 2), pt(1, 2), []int64{0, 1}}, {plain(2, 2), pt(3, 2), []int64{0, 1}},
		{panelOf(2, 2, 1, 2, 2, 1), pt(2, 1), []int64{0, 2}}, {panelOf(2, 2, 1, 2, 2, 1), pt(2, 3), []int64{1, 3}},
		{panelOf(2, 2, 1, 2, 2, 1), pt(3, 2), []int64{2, 3}}, {plain(3, 3), pt(5, 2), []int64{1, 2}},
	} {
		list, code := impl.CurvesThrough(c.p, c.at)
		same(t, fmt.Sprint("CurvesThrough ", c.at, " of ", c.p), []any{list, code}, []any{c.want, int64(impl.OK)})
	}
	for _, at := range append(farPlaces(), pt(1, 1), pt(2, 2), pt(0, 0), pt(8, 8), pt(-1, 2), pt(2, -1)) {
		if hasPlace(4, 4, at) {
			continue
		}
		list, code := impl.CurvesThrough(mixedPanel(4, 4), at)
		same(t, fmt.Sprint("CurvesThrough ", at), told(int64(len(list)), code), told(0, impl.ErrRange))
	}
}

// TestTouches counts the border points of each curve: all of them once for all curves together.
func TestTouches(t *testing.T) {
	inside := 0
	for _, p := range tracePanels() {
		curves, _ := curvesByWords(p)
		all := int64(0)
		for c, list := range curves {
			border := map[impl.Point]bool{}
			for _, at := range list {
				if at.X == 0 || at.Y == 0 || at.X == 2*p.W || at.Y == 2*p.H {
					border[at] = true
				}
			}
			n, code := impl.TouchesOf(p, int64(c))
			same(t, fmt.Sprint("TouchesOf ", c, " of ", p), told(n, code), told(int64(len(border)), impl.OK))
			all += n
			if n == 0 {
				inside++
			}
		}
		same(t, fmt.Sprint("touches of ", p), all, 2*(p.W+p.H))
	}
	if inside == 0 {
		t.Error("no curve without border points is among the panels")
	}
}

// TestManyCurves: one curve in the greatest panel, and as many as there can be.
func TestManyCurves(t *testing.T) {
	p := smallCircles(8, 8)
	same(t, "most curves", told(impl.CountCurves(p)), told(64, impl.OK))
	lengths, _ := impl.CurveLengths(p)
	same(t, "their lengths", lengths, slices.Repeat([]int64{4}, 64))
	same(t, "curve of the last segment", told(impl.CurveAt(p, 255)), told(63, impl.OK))
	same(t, "touches of the first one", told(impl.TouchesOf(p, 0)), told(2, impl.OK))
	same(t, "touches in the middle", told(impl.TouchesOf(p, 27)), told(0, impl.OK))
	same(t, "IsSingle of many", impl.IsSingle(p), false)
	through, code := impl.CurvesThrough(p, pt(14, 15))
	same(t, "through the last upright mirror", []any{through, code}, []any{[]int64{55, 63}, int64(impl.OK)})
	p = plain(8, 8)
	same(t, "plain curves", told(impl.CountCurves(p)), told(8, impl.OK))
	same(t, "touches of a plain one", told(impl.TouchesOf(p, 7)), told(4, impl.OK))
	// Each mirror joins two curves, so that seven of them make one long curve of eight.
	for k := range p.Breaks {
		q := plain(8, 8)
		copy(q.Breaks, p.Breaks)
		q.Breaks[k] = impl.BreakUpright
		n, _ := impl.CountCurves(p)
		if m, _ := impl.CountCurves(q); m < n {
			p = q
		}
	}
	same(t, "one curve in the greatest panel", impl.IsSingle(p), true)
	lengths, code = impl.CurveLengths(p)
	same(t, "its length", []any{lengths, code}, []any{[]int64{256}, int64(impl.OK)})
	same(t, "its touches", told(impl.TouchesOf(p, 0)), told(32, impl.OK))
	same(t, "its crossings", told(impl.SelfCrossings(p, 0)), told(112-7, impl.OK))
}

// numbersBeside are numbers of which none is 0 to n - 1.
func numbersBeside(n int64) []int64 {
	list := append([]int64{-1, -n, n, n + 1, 2 * n, 4 * n}, edgeNumbers...)
	return slices.DeleteFunc(list, func(k int64) bool { return k >= 0 && k < n })
}

// TestTracingRange: segments and curves that there are not, on both sides; and a and b that are equal are
// found only if there is such a curve.
func TestTracingRange(t *testing.T) {
	none := told(0, impl.ErrRange)
	for _, p := range []impl.Panel{panelOf(1, 1), panelOf(2, 1, 1), plain(2, 2), mixedPanel(3, 4), mixedPanel(8, 8), smallCircles(8, 8)} {
		n, _ := impl.CountCurves(p)
		for _, k := range numbersBeside(4 * p.W * p.H) {
			same(t, fmt.Sprint("CurveAt ", k, " of ", p), told(impl.CurveAt(p, k)), none)
		}
		for _, k := range numbersBeside(n) {
			name := fmt.Sprint(k, " of ", p)
			same(t, "SelfCrossings "+name, told(impl.SelfCrossings(p, k)), none)
			same(t, "TouchesOf "+name, told(impl.TouchesOf(p, k)), none)
			same(t, "CommonCrossings 0 "+name, told(impl.CommonCrossings(p, 0, k)), none)
			same(t, "CommonCrossings with 0 "+name, told(impl.CommonCrossings(p, k, 0)), none)
			same(t, "CommonCrossings twice "+name, told(impl.CommonCrossings(p, k, k)), none)
			same(t, "CommonCrossings beside "+name, told(impl.CommonCrossings(p, k, -5)), none)
		}
		for k := range n {
			name := fmt.Sprint(k, " of ", p)
			same(t, "CommonCrossings twice "+name, told(impl.CommonCrossings(p, k, k)), told(0, impl.ErrState))
			same(t, "CommonCrossings behind "+name, told(impl.CommonCrossings(p, k, n)), none)
			_, code := impl.SelfCrossings(p, k)
			same(t, "SelfCrossings "+name, code, int64(impl.OK))
		}
	}
}

// TestTracingInvalidPanels: ErrInvalid comes before all other errors, and nothing with it.
func TestTracingInvalidPanels(t *testing.T) {
	none := told(0, impl.ErrInvalid)
	for _, p := range invalidPanels() {
		name := fmt.Sprint(" of ", p)
		curves, code := impl.CurvesOf(p)
		same(t, "CurvesOf"+name, told(int64(len(curves)), code), none)
		lengths, code := impl.CurveLengths(p)
		same(t, "CurveLengths"+name, told(int64(len(lengths)), code), none)
		of, code := impl.SegmentCurves(p)
		same(t, "SegmentCurves"+name, told(int64(len(of)), code), none)
		same(t, "CountCurves"+name, told(impl.CountCurves(p)), none)
		same(t, "IsSingle"+name, impl.IsSingle(p), false)
		for _, k := range edgeNumbers {
			same(t, "CurveAt"+name, told(impl.CurveAt(p, k)), none)
			same(t, "SelfCrossings"+name, told(impl.SelfCrossings(p, k)), none)
			same(t, "TouchesOf"+name, told(impl.TouchesOf(p, k)), none)
			for _, other := range []int64{-1, 0, 1, k} {
				same(t, "CommonCrossings"+name, told(impl.CommonCrossings(p, k, other)), none)
			}
		}
		for _, at := range append(placesAround(2, 2), farPlaces()...) {
			list, code := impl.CurvesThrough(p, at)
			same(t, "CurvesThrough"+name, told(int64(len(list)), code), none)
		}
	}
}

// TestTracingUnchanged is P1: no function of chapter 4 changes a panel, and all tell the same again,
// whatever the order is in which the curves are walked.
func TestTracingUnchanged(t *testing.T) {
	panels := []impl.Panel{panelOf(1, 1), mixedPanel(2, 1), mixedPanel(3, 4), mixedPanel(8, 8), smallCircles(8, 8)}
	for _, p := range append(invalidPanels(), panels...) {
		for range 20 {
			unchanged(t, p, allOfTracing)
		}
	}
}

// allOfTracing tells what all functions of chapter 4 return for a panel and many other arguments.
func allOfTracing(p impl.Panel) []string {
	curves, one := impl.CurvesOf(p)
	lengths, two := impl.CurveLengths(p)
	of, three := impl.SegmentCurves(p)
	out := []string{fmt.Sprint(curves, one, lengths, two, of, three, told(impl.CountCurves(p)), impl.IsSingle(p))}
	for _, k := range edgeNumbers {
		out = append(out, fmt.Sprint(told(impl.CurveAt(p, k)), told(impl.SelfCrossings(p, k)), told(impl.TouchesOf(p, k)),
			told(impl.CommonCrossings(p, k, 0)), told(impl.CommonCrossings(p, 1, k)), told(impl.CommonCrossings(p, k, k))))
	}
	for _, at := range placesAround(2, 2) {
		list, code := impl.CurvesThrough(p, at)
		out = append(out, fmt.Sprint(list, code))
	}
	return out
}

// TestTracingNew is P1: no list shares memory with the panel, with another list of the same result, or with
// another result.
func TestTracingNew(t *testing.T) {
	for _, p := range []impl.Panel{panelOf(1, 1), mixedPanel(3, 4), smallCircles(3, 3), smallCircles(8, 8), plain(8, 8)} {
		q := panelOf(p.W, p.H, p.Breaks...)
		want, wantOf := curvesByWords(p)
		curves, _ := impl.CurvesOf(q)
		for k, list := range curves {
			same(t, fmt.Sprint("curve ", k, " after those before were spoilt"), list, want[k])
			for i := range list[:cap(list)] {
				list[:cap(list)][i] = pt(99, 99)
			}
		}
		for k := range curves[:cap(curves)] {
			curves[:cap(curves)][k] = nil
		}
		lengths, _ := impl.CurveLengths(q)
		of, _ := impl.SegmentCurves(q)
		spoil(lengths)
		spoil(of)
		if len(innerByOrder(p.W, p.H)) > 0 {
			through, _ := impl.CurvesThrough(q, innerByOrder(p.W, p.H)[0])
			spoil(through)
		}
		again, _ := impl.CurvesOf(q)
		same(t, "CurvesOf again", again, want)
		of, _ = impl.SegmentCurves(q)
		same(t, "SegmentCurves again", of, wantOf)
		lengths, _ = impl.CurveLengths(q)
		same(t, "CurveLengths again", int64(len(lengths)), int64(len(want)))
		same(t, "the first length again", lengths[0], int64(len(want[0])))
		samePanel(t, "the panel", q, p)
	}
}
