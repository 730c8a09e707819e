package tests

import (
	"fmt"
	"math"
	"math/rand"
	"slices"
	"strconv"
	"strings"
	"sync"
	"testing"

	"loop.example/g00931/impl"
)

// crossingPlaces are the inner points of a panel without a break, in order.
func crossingPlaces(p impl.Panel) []impl.Point {
	list := []impl.Point{}
	for k, at := range innerByOrder(p.W, p.H) {
		if p.Breaks[k] == impl.BreakNone {
			list = append(list, at)
		}
	}
	return list
}

// overByWords reports whether someone who goes from a crossing's neighbour to the crossing goes along the line that lies
// over: at an odd X the one from the upper left to the lower right, at an even X the one from the lower left to the
// upper right.
func overByWords(from, at impl.Point) bool {
	falling := (from.X < at.X) == (from.Y < at.Y)
	if at.X&1 != 0 {
		return falling
	}
	return !falling
}

// passesByWords are the passes of a curve with these points: one for each step that leads to a crossing.
func passesByWords(p impl.Panel, points []impl.Point) []impl.Pass {
	places := crossingPlaces(p)
	list := []impl.Pass{}
	for k, from := range points {
		to := points[(k+1)%len(points)]
		if n := slices.Index(places, to); n >= 0 {
			list = append(list, impl.Pass{Crossing: int64(n), Over: overByWords(from, to)})
		}
	}
	return list
}

// passesIn are the passes that a text tells.
func passesIn(text string) []impl.Pass {
	list := []impl.Pass{}
	for _, word := range strings.Fields(text) {
		n, err := strconv.ParseInt(word[1:], 10, 64)
		if err != nil {
			panic(err)
		}
		list = append(list, impl.Pass{Crossing: n, Over: word[0] == '+'})
	}
	return list
}

// passesText is the text of passes as chapter 13 words it.
func passesText(list []impl.Pass) string {
	text := ""
	for k, pass := range list {
		if k > 0 {
			text += " "
		}
		if pass.Over {
			text += fmt.Sprintf("+%d", pass.Crossing)
		} else {
			text += fmt.Sprintf("-%d", pass.Crossing)
		}
	}
	return text
}

// alternatesByWords reports whether the passes, one sign for each, are over and under again and again, an even number
// of them.
func alternatesByWords(list []impl.Pass) bool {
	signs := ""
	for _, pass := range list {
		signs += passesText([]impl.Pass{pass})[:1]
	}
	half := len(signs) / 2
	return signs == strings.Repeat("+-", half) || signs == strings.Repeat("-+", half)
}

// isPasses holds what is told of a curve against its passes.
func isPasses(t *testing.T, p impl.Panel, curve int64, want []impl.Pass) {
	t.Helper()
	name := fmt.Sprint(" of ", curve, " in ", p)
	list, code := impl.PassesOf(p, curve)
	if !slices.Equal(list, want) || code != impl.OK {
		t.Errorf("PassesOf%s: got %q %d, want %q", name, passesText(list), code, passesText(want))
	}
	over := int64(0)
	for _, pass := range want {
		if pass.Over {
			over++
		}
	}
	same(t, "CountOver"+name, told(impl.CountOver(p, curve)), told(over, impl.OK))
	same(t, "PassesText"+name, impl.PassesText(list), passesText(want))
}

// isNoPasses holds what is told of a curve against a code with which nothing is told.
func isNoPasses(t *testing.T, p impl.Panel, curve, want int64) {
	t.Helper()
	name := fmt.Sprint(" of ", curve, " in ", p)
	list, code := impl.PassesOf(p, curve)
	same(t, "PassesOf"+name, told(int64(len(list)), code), told(0, want))
	same(t, "CountOver"+name, told(impl.CountOver(p, curve)), told(0, want))
}

// isAt holds what is told of a crossing against its number and the slope of the line that lies over.
func isAt(t *testing.T, p impl.Panel, at impl.Point, index, slope int64) {
	t.Helper()
	name := fmt.Sprint(" at ", at, " of ", p)
	same(t, "IsCrossing"+name, impl.IsCrossing(p, at), true)
	same(t, "CrossingIndex"+name, told(impl.CrossingIndex(p, at)), told(index, impl.OK))
	same(t, "OverSlope"+name, told(impl.OverSlope(p, at)), told(slope, impl.OK))
}

// isNoneAt holds what is told of a place that is no crossing against a code with which nothing is told.
func isNoneAt(t *testing.T, p impl.Panel, at impl.Point, want int64) {
	t.Helper()
	name := fmt.Sprint(" at ", at, " of ", p)
	same(t, "IsCrossing"+name, impl.IsCrossing(p, at), false)
	same(t, "CrossingIndex"+name, told(impl.CrossingIndex(p, at)), told(0, want))
	same(t, "OverSlope"+name, told(impl.OverSlope(p, at)), told(0, want))
}

// isOver holds PassesOver against what is wanted.
func isOver(t *testing.T, p impl.Panel, w impl.Walker, want bool, wantCode int64) {
	t.Helper()
	over, code := impl.PassesOver(p, w)
	if over != want || code != wantCode {
		t.Errorf("PassesOver of %v in %v: got %t %d, want %t %d", w, p, over, code, want, wantCode)
	}
}

// isCrossings holds CrossingsOf against a list, with OK.
func isCrossings(t *testing.T, p impl.Panel, want ...int64) {
	t.Helper()
	list, code := impl.CrossingsOf(p)
	isList(t, fmt.Sprint("CrossingsOf ", p), list, code, want, impl.OK)
}

// randomPanels are panels of each size, from such with no mirror to such with hardly a crossing.
func randomPanels(seed int64, each int) []impl.Panel {
	random := rand.New(rand.NewSource(seed))
	list := []impl.Panel{}
	eachSize(func(w, h int64) {
		for k := range each {
			p := plain(w, h)
			for i := range p.Breaks {
				if random.Intn(each) < k {
					p.Breaks[i] = 1 + random.Int63n(2)
				}
			}
			list = append(list, p)
		}
	})
	return list
}

// crossingPanels are panels of all sizes, with many crossings, few and none, and all panels of some small sizes.
func crossingPanels() []impl.Panel { return append(symPanels(), randomPanels(13, 8)...) }

// TestCrossingExample is the example of chapter 13, with what all functions tell of it.
func TestCrossingExample(t *testing.T) {
	p := plain(2, 1)
	isCrossings(t, p, 0)
	isAt(t, p, pt(2, 1), 0, -1)
	same(t, "its curves", told(impl.CountCurves(p)), told(1, impl.OK))
	list, code := impl.PassesOf(p, 0)
	same(t, "its passes", []any{list, code}, []any{[]impl.Pass{{Crossing: 0, Over: false}, {Crossing: 0, Over: true}}, int64(impl.OK)})
	same(t, "their text", impl.PassesText(list), "-0 +0")
	same(t, "alternating", impl.AlternatesOn(list), true)
	same(t, "over", told(impl.CountOver(p, 0)), told(1, impl.OK))
	isOver(t, p, leaving(1, 0, 1, 1), false, impl.OK)
	isOver(t, p, leaving(3, 2, -1, -1), false, impl.OK)
	isOver(t, p, leaving(1, 2, 1, -1), true, impl.OK)
	isOver(t, p, leaving(3, 0, -1, 1), true, impl.OK)
	isOver(t, p, leaving(0, 1, 1, -1), false, impl.ErrState)
}

// TestOverWritten: which line lies over depends on X alone, and not on the direction in which one goes along it.
func TestOverWritten(t *testing.T) {
	p := plain(2, 2)
	for _, at := range []impl.Point{pt(1, 2), pt(3, 2)} {
		isOver(t, p, leaving(at.X-1, at.Y-1, 1, 1), true, impl.OK)
		isOver(t, p, leaving(at.X+1, at.Y+1, -1, -1), true, impl.OK)
		isOver(t, p, leaving(at.X-1, at.Y+1, 1, -1), false, impl.OK)
		isOver(t, p, leaving(at.X+1, at.Y-1, -1, 1), false, impl.OK)
	}
	for _, at := range []impl.Point{pt(2, 1), pt(2, 3)} {
		isOver(t, p, leaving(at.X-1, at.Y-1, 1, 1), false, impl.OK)
		isOver(t, p, leaving(at.X+1, at.Y+1, -1, -1), false, impl.OK)
		isOver(t, p, leaving(at.X-1, at.Y+1, 1, -1), true, impl.OK)
		isOver(t, p, leaving(at.X+1, at.Y-1, -1, 1), true, impl.OK)
	}
}

// TestCrossingNumbersWritten writes the crossings of some panels out: those behind mirrors get lesser numbers than
// their points have.
func TestCrossingNumbersWritten(t *testing.T) {
	isCrossings(t, panelOf(1, 1))
	isCrossings(t, panelOf(2, 1, 1))
	isCrossings(t, panelOf(2, 1, 2))
	isCrossings(t, smallCircles(8, 8))
	isCrossings(t, plain(2, 2), 0, 1, 2, 3)
	isCrossings(t, plain(8, 8), numbers(112)...)
	p := fromText(t, "2x2:|++-")
	isCrossings(t, p, 1, 2)
	isNoneAt(t, p, pt(2, 1), impl.ErrState)
	isAt(t, p, pt(1, 2), 0, 1)
	isAt(t, p, pt(3, 2), 1, 1)
	isNoneAt(t, p, pt(2, 3), impl.ErrState)
	p = fromText(t, "3x2:+-|+|++")
	isCrossings(t, p, 0, 3, 5, 6)
	isAt(t, p, pt(2, 1), 0, -1)
	isNoneAt(t, p, pt(4, 1), impl.ErrState)
	isNoneAt(t, p, pt(1, 2), impl.ErrState)
	isAt(t, p, pt(3, 2), 1, 1)
	isNoneAt(t, p, pt(5, 2), impl.ErrState)
	isAt(t, p, pt(2, 3), 2, -1)
	isAt(t, p, pt(4, 3), 3, -1)
	isAt(t, plain(8, 8), pt(14, 15), 111, -1)
	isAt(t, plain(8, 8), pt(15, 14), 104, 1)
	isAt(t, plain(1, 8), pt(1, 14), 6, 1)
	isAt(t, plain(8, 1), pt(14, 1), 6, -1)
}

// TestPassesWritten writes the passes of all curves of some panels out: of those without a crossing, of those that pass
// crossings twice, and of those that share them.
func TestPassesWritten(t *testing.T) {
	for _, c := range []struct {
		text   string
		passes []string
	}{
		{"1x1:", []string{""}},
		{"2x1:+", []string{"-0 +0"}},
		{"2x1:|", []string{"", ""}},
		{"2x1:-", []string{""}},
		{"1x2:+", []string{"-0 +0"}},
		{"1x2:-", []string{"", ""}},
		{"3x1:++", []string{"-0 +1 -1 +0"}},
		{"3x1:|+", []string{"", "-0 +0"}},
		{"3x1:+|", []string{"-0 +0", ""}},
		{"3x1:-+", []string{"-0 +0"}},
		{"1x3:++", []string{"-0 +1 -1 +0"}},
		{"2x2:++++", []string{"-0 +2 -3 +1", "-1 +0 -2 +3"}},
		{"2x2:|+++", []string{"-0 +2 -1 +1 -2 +0"}},
		{"2x2:++|+", []string{"-0 +2 -1 +0 -2 +1"}},
		{"2x2:-+++", []string{"-1 +2 -0 +1 -2 +0"}},
		{"2x2:|--|", []string{"", "", "", ""}},
		{"3x2:+-|+|++", []string{"-0 +1 -3 +0 -2 +3 -1 +2"}},
	} {
		p := fromText(t, c.text)
		same(t, "curves of "+c.text, told(impl.CountCurves(p)), told(int64(len(c.passes)), impl.OK))
		for curve, text := range c.passes {
			isPasses(t, p, int64(curve), passesIn(text))
			list, _ := impl.PassesOf(p, int64(curve))
			same(t, fmt.Sprint("text of ", curve, " in ", c.text), impl.PassesText(list), text)
		}
	}
}

// TestCrossingPoints tries all places of many panels and those around: the inner points without a break are crossings,
// numbered in their order.
func TestCrossingPoints(t *testing.T) {
	for _, p := range crossingPanels() {
		places := crossingPlaces(p)
		inner := innerByOrder(p.W, p.H)
		want := []int64{}
		for k, at := range places {
			slope := int64(-1)
			if overByWords(pt(at.X-1, at.Y-1), at) {
				slope = 1
			}
			isAt(t, p, at, int64(k), slope)
			want = append(want, int64(slices.Index(inner, at)))
		}
		isCrossings(t, p, want...)
		for _, at := range placesAround(p.W, p.H) {
			switch {
			case !hasPlace(p.W, p.H, at):
				isNoneAt(t, p, at, impl.ErrRange)
			case !slices.Contains(places, at):
				isNoneAt(t, p, at, impl.ErrState)
			}
		}
	}
}

// TestPassesOver lets all walkers of many panels step: where a walker passes over, so does one that goes through the same
// crossing in the other direction, and those along the other line pass under.
func TestPassesOver(t *testing.T) {
	for _, p := range crossingPanels() {
		places := crossingPlaces(p)
		over := map[impl.Point]int{}
		for _, w := range walkersByOrder(p.W, p.H) {
			at := nextOf(w)
			if !slices.Contains(places, at) {
				isOver(t, p, w, false, impl.ErrState)
				continue
			}
			want := overByWords(w.At, at)
			isOver(t, p, w, want, impl.OK)
			isOver(t, p, leaving(at.X+w.DX, at.Y+w.DY, -w.DX, -w.DY), want, impl.OK)
			isOver(t, p, leaving(at.X-w.DX, at.Y+w.DY, w.DX, -w.DY), !want, impl.OK)
			if want {
				over[at]++
			}
		}
		for _, at := range places {
			same(t, fmt.Sprint("walkers over ", at, " of ", p), over[at], 2)
		}
	}
}

// TestSlopes holds OverSlope against PassesOver: a walker passes over where DX * DY is this slope.
func TestSlopes(t *testing.T) {
	for _, p := range crossingPanels() {
		for _, w := range walkersByOrder(p.W, p.H) {
			slope, code := impl.OverSlope(p, nextOf(w))
			isOver(t, p, w, code == impl.OK && slope == w.DX*w.DY, code)
		}
	}
}

// TestPasses holds the passes of all curves of many panels against the words of chapter 13.
func TestPasses(t *testing.T) {
	for _, p := range crossingPanels() {
		curves, _ := curvesByWords(p)
		for curve, points := range curves {
			isPasses(t, p, int64(curve), passesByWords(p, points))
		}
	}
}

// TestPassesTold holds the passes of curves against what the functions of other chapters tell of them: the walker that
// CurvesOf begins with steps along the curve, and each pass is where it is not turned.
func TestPassesTold(t *testing.T) {
	for _, p := range crossingPanels() {
		curves, _ := impl.CurvesOf(p)
		for curve, points := range curves {
			want := []impl.Pass{}
			w := leaving(points[0].X, points[0].Y, points[1].X-points[0].X, points[1].Y-points[0].Y)
			for range points {
				if turned, _ := impl.TurnsOf(p, w); !turned {
					index, one := impl.CrossingIndex(p, nextOf(w))
					over, two := impl.PassesOver(p, w)
					same(t, fmt.Sprint("codes of ", w, " in ", p), told(one, two), told(impl.OK, impl.OK))
					want = append(want, impl.Pass{Crossing: index, Over: over})
				}
				w, _ = impl.StepWalker(p, w)
			}
			isPasses(t, p, int64(curve), want)
		}
	}
}

// TestPassedTwice is P13: all curves together pass each crossing twice, once over and once under; a curve passes twice
// those that it crosses itself at, and once those that it has in common with another one.
func TestPassedTwice(t *testing.T) {
	for _, p := range crossingPanels() {
		crossings, _ := impl.CrossingsOf(p)
		times := map[impl.Pass]int{}
		n, _ := impl.CountCurves(p)
		all := int64(0)
		for curve := range n {
			list, _ := impl.PassesOf(p, curve)
			seen := map[int64]int64{}
			for _, pass := range list {
				times[pass]++
				seen[pass.Crossing]++
			}
			twice, _ := impl.SelfCrossings(p, curve)
			same(t, fmt.Sprint("crossings of ", curve, " in ", p), int64(len(list)-len(seen)), twice)
			over, _ := impl.CountOver(p, curve)
			all += over
		}
		same(t, fmt.Sprint("passes over in ", p), all, int64(len(crossings)))
		for k := range int64(len(crossings)) {
			over, under := times[impl.Pass{Crossing: k, Over: true}], times[impl.Pass{Crossing: k}]
			same(t, fmt.Sprint("passes over and under ", k, " of ", p), []int{over, under}, []int{1, 1})
		}
		same(t, fmt.Sprint("different passes of ", p), len(times), 2*len(crossings))
	}
}

// TestAlternating is the second half of P14: the passes of each curve alternate, so that half of them are over.
func TestAlternating(t *testing.T) {
	for _, p := range append(crossingPanels(), randomPanels(31, 40)...) {
		n, _ := impl.CountCurves(p)
		for curve := range n {
			list, code := impl.PassesOf(p, curve)
			if code != impl.OK || !alternatesByWords(list) || !impl.AlternatesOn(list) {
				t.Errorf("the passes of %d in %v do not alternate: %q %d", curve, p, passesText(list), code)
			}
			same(t, fmt.Sprint("CountOver of ", curve, " in ", p), told(impl.CountOver(p, curve)), told(int64(len(list)/2), impl.OK))
		}
	}
}

// isCount holds the numbers of curves by tracing, by joined segments and by columns against one number.
func isCount(t *testing.T, p impl.Panel, want int64) {
	t.Helper()
	same(t, fmt.Sprint("CountCurves of ", p), told(impl.CountCurves(p)), told(want, impl.OK))
	j, code := impl.JoinPanel(p)
	same(t, fmt.Sprint("code of JoinPanel of ", p), code, int64(impl.OK))
	same(t, fmt.Sprint("CountGroups of ", p), told(impl.CountGroups(j)), told(want, impl.OK))
	same(t, fmt.Sprint("CountByColumns of ", p), told(impl.CountByColumns(p)), told(want, impl.OK))
}

// TestNumbersOfCurves is the first half of P14: all three numbers of curves are the number of closed walks.
func TestNumbersOfCurves(t *testing.T) {
	for _, p := range append(crossingPanels(), randomPanels(14, 40)...) {
		isCount(t, p, waysOf(p))
	}
	for _, s := range [][2]int64{{4, 1}, {1, 4}, {5, 1}, {1, 5}, {3, 2}, {2, 3}} {
		for _, p := range allPanels(s[0], s[1]) {
			isCount(t, p, waysOf(p))
		}
	}
	isCount(t, panelOf(1, 1), 1)
	isCount(t, plain(8, 8), 8)
	isCount(t, plain(8, 7), 1)
	isCount(t, smallCircles(8, 8), 64)
}

// TestAlternatesWritten writes some lists out, also such as belong to no panel: those of which only the last and the first
// pass are alike do not alternate, and the numbers of crossings do not matter.
func TestAlternatesWritten(t *testing.T) {
	same(t, "AlternatesOn nil", impl.AlternatesOn(nil), true)
	for _, c := range []struct {
		text string
		want bool
	}{
		{"", true}, {"+0", false}, {"-0", false}, {"+7", false}, {"--3", false},
		{"+0 +0", false}, {"-0 -0", false}, {"+0 -0", true}, {"-0 +0", true}, {"+0 +1", false}, {"-1 -2", false}, {"+5 --5", true},
		{"+0 -1 +2", false}, {"-0 +1 -2", false}, {"+0 +1 -2", false}, {"-0 +0 +0", false}, {"-0 -0 -0", false},
		{"+0 -1 +1 -0", true}, {"-0 +0 -0 +0", true}, {"-0 +1 +2 -3", false}, {"+0 +1 -2 -3", false}, {"+0 -0 -1 +1", false},
		{"-0 +1 -2 +3 -4", false}, {"+9 -9 +9 -9 +9 -9", true}, {"+0 -1 +2 -3 +4 +5", false}, {"-0 -1 +2 -3 +4 -5", false},
		{"+0 -1 +2 +3 -4 +5", false}, {"+0 -1 +2 -3 -4 +5", false},
		{"+-9223372036854775808 -9223372036854775807", true}, {"--1 --1", false},
	} {
		same(t, "AlternatesOn "+c.text, impl.AlternatesOn(passesIn(c.text)), c.want)
	}
}

// TestAlternatesAll tries all lists of up to ten passes.
func TestAlternatesAll(t *testing.T) {
	yes := 0
	eachList(10, 0, 1, func(signs []int64) {
		list := []impl.Pass{}
		for k, sign := range signs {
			list = append(list, impl.Pass{Crossing: int64(k % 3), Over: sign == 1})
		}
		got := impl.AlternatesOn(list)
		same(t, "AlternatesOn "+passesText(list), got, alternatesByWords(list))
		if got {
			yes++
		}
	})
	// The empty list, and two of each even length.
	same(t, "lists that alternate", yes, 1+2*5)
}

// TestAlternatesLong: a list of a million passes, in which one is changed.
func TestAlternatesLong(t *testing.T) {
	list := make([]impl.Pass, 1000000)
	for k := range list {
		list[k].Over = k%2 == 1
	}
	same(t, "a long list", impl.AlternatesOn(list), true)
	same(t, "a long list without its last pass", impl.AlternatesOn(list[:len(list)-1]), false)
	for _, k := range []int{0, 1, len(list) / 2, len(list) - 2, len(list) - 1} {
		list[k].Over = !list[k].Over
		same(t, fmt.Sprint("a long list with another pass ", k), impl.AlternatesOn(list), false)
		list[k].Over = !list[k].Over
	}
}

// TestPassesText writes texts out, also of passes that belong to no panel.
func TestPassesText(t *testing.T) {
	same(t, "PassesText of nil", impl.PassesText(nil), "")
	same(t, "PassesText of none", impl.PassesText([]impl.Pass{}), "")
	for _, c := range []struct {
		list []impl.Pass
		want string
	}{
		{[]impl.Pass{{Crossing: 0, Over: true}}, "+0"},
		{[]impl.Pass{{Crossing: 0}}, "-0"},
		{[]impl.Pass{{Crossing: 7}, {Crossing: 7}}, "-7 -7"},
		{[]impl.Pass{{Crossing: 111, Over: true}, {Crossing: 10}, {Crossing: 9, Over: true}}, "+111 -10 +9"},
		{[]impl.Pass{{Crossing: -1, Over: true}, {Crossing: -1}}, "+-1 --1"},
		{[]impl.Pass{{Crossing: math.MinInt64, Over: true}, {Crossing: math.MinInt64}}, "+-9223372036854775808 --9223372036854775808"},
		{[]impl.Pass{{Crossing: math.MaxInt64}, {Crossing: math.MaxInt64, Over: true}}, "-9223372036854775807 +9223372036854775807"},
	} {
		same(t, fmt.Sprint("PassesText of ", c.list), impl.PassesText(c.list), c.want)
	}
	list := []impl.Pass{}
	for k, n := range edgeNumbers {
		list = append(list, impl.Pass{Crossing: n, Over: k%3 == 0})
		same(t, fmt.Sprint("PassesText of ", list), impl.PassesText(list), passesText(list))
		same(t, fmt.Sprint("passes in the text of ", list), passesIn(impl.PassesText(list)), list)
	}
}

// TestCrossingRange: places that are no points are found before those that are no crossings are, and curves that there
// are not, on both sides.
func TestCrossingRange(t *testing.T) {
	for _, p := range errorPanels() {
		for _, at := range noPoints(p.W, p.H) {
			isNoneAt(t, p, at, impl.ErrRange)
		}
		n := waysOf(p)
		for _, curve := range append(numbersBeside(n), 1<<32, 1<<32+n-1, -1<<32) {
			isNoPasses(t, p, curve, impl.ErrRange)
		}
		for curve := range n {
			_, code := impl.PassesOf(p, curve)
			same(t, fmt.Sprint("code of PassesOf ", curve, " in ", p), code, int64(impl.OK))
		}
	}
}

// TestCrossingState: border points and inner points with a mirror of either kind are no crossings.
func TestCrossingState(t *testing.T) {
	for _, p := range errorPanels() {
		for _, at := range borderPoints(p.W, p.H) {
			isNoneAt(t, p, at, impl.ErrState)
		}
		places := crossingPlaces(p)
		for _, at := range innerByOrder(p.W, p.H) {
			if !slices.Contains(places, at) {
				isNoneAt(t, p, at, impl.ErrState)
			}
		}
	}
}

// TestPassesOverErrors: a walker that is not valid is found before it is that its next point is no crossing.
func TestPassesOverErrors(t *testing.T) {
	for _, p := range errorPanels() {
		for _, w := range invalidWalkers() {
			isOver(t, p, w, false, impl.ErrInvalid)
		}
		for _, at := range placesAround(p.W, p.H) {
			for _, d := range [][2]int64{{-1, -1}, {1, -1}, {-1, 1}, {1, 1}} {
				w := leaving(at.X, at.Y, d[0], d[1])
				if !hasPlace(p.W, p.H, at) || !hasPlace(p.W, p.H, nextOf(w)) {
					isOver(t, p, w, false, impl.ErrInvalid)
				}
			}
			// Where the walker stands, and where it would come to, does not matter if its direction is none.
			for _, d := range [][2]int64{{0, 0}, {0, 1}, {1, 0}, {2, 1}, {1, -2}, {-1, 3}, {-3, -1}} {
				isOver(t, p, leaving(at.X, at.Y, d[0], d[1]), false, impl.ErrInvalid)
			}
		}
	}
}

// TestCrossingsInvalidPanels: a panel that is not valid is found before a point, a walker or a curve that there is not,
// and before those that are no crossings; nothing is told with it.
func TestCrossingsInvalidPanels(t *testing.T) {
	for _, p := range invalidPanels() {
		list, code := impl.CrossingsOf(p)
		isList(t, fmt.Sprint("CrossingsOf ", p), list, code, nil, impl.ErrInvalid)
		for _, at := range append(placesAround(2, 2), farPlaces()...) {
			isNoneAt(t, p, at, impl.ErrInvalid)
		}
		for _, w := range append(invalidWalkers(), walkersByOrder(2, 2)...) {
			isOver(t, p, w, false, impl.ErrInvalid)
		}
		for _, k := range append([]int64{4, 63, 64}, edgeNumbers...) {
			isNoPasses(t, p, k, impl.ErrInvalid)
		}
	}
}

// allOfCrossings tells what the functions of chapter 13 return for a panel and many other arguments.
func allOfCrossings(p impl.Panel) []string {
	list, code := impl.CrossingsOf(p)
	out := []string{fmt.Sprint(list, code)}
	for _, at := range append(placesAround(2, 2), pt(15, 14), pt(14, 15), pt(math.MaxInt64, math.MinInt64)) {
		out = append(out, fmt.Sprint(impl.IsCrossing(p, at), told(impl.CrossingIndex(p, at)), told(impl.OverSlope(p, at))))
	}
	for _, w := range append(invalidWalkers(), walkersByOrder(3, 2)...) {
		over, code := impl.PassesOver(p, w)
		out = append(out, fmt.Sprint(over, code))
	}
	for _, k := range append([]int64{4, 5, 63, 64}, edgeNumbers...) {
		passes, code := impl.PassesOf(p, k)
		out = append(out, fmt.Sprint(passes, code, told(impl.CountOver(p, k)), impl.AlternatesOn(passes), impl.PassesText(passes)))
	}
	return out
}

// TestCrossingsUnchanged is P1: no function of chapter 13 changes a panel, nor what lies behind its list in memory, and
// all tell the same again, also for a copy.
func TestCrossingsUnchanged(t *testing.T) {
	for _, p := range append(invalidPanels(), errorPanels()...) {
		unchanged(t, p, allOfCrossings)
	}
}

// TestPassesUnchanged is P1: no list of passes is changed, nor what lies behind it in memory.
func TestPassesUnchanged(t *testing.T) {
	for _, text := range []string{"", "+0", "-0 +0", "+0 +0", "-3 +1 -1 +3", "+2 -2 +2"} {
		memory := append(passesIn(text), passesIn("+7 -8 +9")...)
		before := slices.Clone(memory)
		list := memory[:len(memory)-3]
		alternates := impl.AlternatesOn(list)
		same(t, "PassesText of "+text, impl.PassesText(list), text)
		same(t, "AlternatesOn again of "+text, impl.AlternatesOn(list), alternates)
		same(t, "PassesText again of "+text, impl.PassesText(list), text)
		same(t, "a copy of "+text, impl.AlternatesOn(passesIn(text)), alternates)
		same(t, "memory of "+text, memory, before)
	}
}

// TestCrossingsNew is P1: no list of a result shares memory with the panel or with another result.
func TestCrossingsNew(t *testing.T) {
	for _, p := range []impl.Panel{panelOf(1, 1), panelOf(2, 1, 1), plain(2, 1), plain(2, 2), mixedPanel(3, 4), mixedPanel(8, 8), plain(8, 7)} {
		q := panelOf(p.W, p.H, slices.Grow(slices.Clone(p.Breaks), 9)...)
		want, _ := impl.CrossingsOf(p)
		wantPasses, _ := impl.PassesOf(p, 0)
		crossings, _ := impl.CrossingsOf(q)
		others, _ := impl.CrossingsOf(q)
		passes, _ := impl.PassesOf(q, 0)
		otherPasses, _ := impl.PassesOf(q, 0)
		spoil(crossings)
		for k := range passes[:cap(passes)] {
			passes[:cap(passes)][k] = impl.Pass{Crossing: 99, Over: true}
		}
		samePanel(t, "the panel", q, p)
		spoil(q.Breaks)
		isList(t, fmt.Sprint("other crossings of ", p), others, 0, want, 0)
		if !slices.Equal(otherPasses, wantPasses) {
			t.Errorf("other passes of %v: got %v, want %v", p, otherPasses, wantPasses)
		}
	}
}

// TestCrossingsAtOnce is P1: calls at the same time tell what calls one after the other tell.
func TestCrossingsAtOnce(t *testing.T) {
	panels := errorPanels()
	want := make([][]string, len(panels))
	for k, p := range panels {
		want[k] = allOfCrossings(p)
	}
	var callers sync.WaitGroup
	for k, p := range panels {
		for range 4 {
			callers.Go(func() { same(t, fmt.Sprint("at once for ", p), allOfCrossings(p), want[k]) })
		}
	}
	callers.Wait()
}
