package tests

import (
	"fmt"
	"math"
	"slices"
	"strings"
	"testing"

	"loop.example/g00931/impl"
)

// symNames are the names of the symmetries, in order.
var symNames = []string{"none", "across", "down", "half", "swap", "right", "left", "other"}

// composed has, for each symmetry that is made first, what it is together with each one made second.
var composed = [8][8]int64{
	{0, 1, 2, 3, 4, 5, 6, 7},
	{1, 0, 3, 2, 6, 7, 4, 5},
	{2, 3, 0, 1, 5, 4, 7, 6},
	{3, 2, 1, 0, 7, 6, 5, 4},
	{4, 5, 6, 7, 0, 1, 2, 3},
	{5, 4, 7, 6, 2, 3, 0, 1},
	{6, 7, 4, 5, 1, 0, 3, 2},
	{7, 6, 5, 4, 3, 2, 1, 0},
}

// movedGrid moves a rectangle of characters as chapter 6 words it, a part of the symmetry after the other.
func movedGrid(lines []string, sym int64) []string {
	grid := [][]byte{}
	for _, line := range lines {
		grid = append(grid, []byte(line))
	}
	if sym >= 4 {
		columns := make([][]byte, len(grid[0]))
		for _, line := range grid {
			for x, sign := range line {
				columns[x] = append(columns[x], sign)
			}
		}
		grid = columns
	}
	if sym%2 == 1 {
		for _, line := range grid {
			slices.Reverse(line)
		}
	}
	if sym/2%2 == 1 {
		slices.Reverse(grid)
	}
	list := []string{}
	for _, line := range grid {
		list = append(list, string(line))
	}
	return list
}

// movedByWords moves a panel by its picture.
func movedByWords(p impl.Panel, sym int64) impl.Panel {
	lines := movedGrid(picture(p, nil), sym)
	w, h := int64(len(lines[0])/2), int64(len(lines)/2)
	q := panelOf(w, h)
	for _, at := range innerByOrder(w, h) {
		kind := int64(strings.IndexByte("+|-", lines[at.Y][at.X]))
		if sym >= 4 && kind > 0 {
			kind = 3 - kind
		}
		q.Breaks = append(q.Breaks, kind)
	}
	return q
}

// pointByWords moves a point of a size by a picture in which only its place is marked.
func pointByWords(w, h int64, at impl.Point, sym int64) impl.Point {
	lines := slices.Repeat([]string{strings.Repeat(" ", int(2*w+1))}, int(2*h+1))
	for y, line := range movedGrid(changed(lines, int(at.X), int(at.Y), "x"), sym) {
		if x := strings.IndexByte(line, 'x'); x >= 0 {
			return pt(int64(x), int64(y))
		}
	}
	return pt(-1, -1)
}

// compareByWords compares panels as chapter 6 words it.
func compareByWords(a, b impl.Panel) int64 {
	left := append([]int64{a.W, a.H}, a.Breaks...)
	right := append([]int64{b.W, b.H}, b.Breaks...)
	for k := range min(len(left), len(right)) {
		if left[k] < right[k] {
			return -1
		}
		if left[k] > right[k] {
			return 1
		}
	}
	if len(left) != len(right) {
		return map[bool]int64{true: -1, false: 1}[len(left) < len(right)]
	}
	return 0
}

// wayOf are the points to which a symmetry moves a point of a size, from the point itself on until it is back.
func wayOf(w, h int64, at impl.Point, sym int64) []impl.Point {
	list := []impl.Point{at}
	for to := pointByWords(w, h, at, sym); to != at; to = pointByWords(w, h, to, sym) {
		list = append(list, to)
	}
	return list
}

// symmetricByWords makes a panel symmetric as chapter 6 words it.
func symmetricByWords(p impl.Panel, sym int64) impl.Panel {
	inner := innerByOrder(p.W, p.H)
	q := panelOf(p.W, p.H, slices.Repeat([]int64{-1}, len(inner))...)
	for k, at := range inner {
		if q.Breaks[k] >= 0 {
			continue
		}
		way := wayOf(p.W, p.H, at, sym)
		for moves, to := range way {
			kind := p.Breaks[k]
			switch {
			case sym >= 4 && len(way)%2 == 1:
				kind = 0
			case sym >= 4 && moves%2 == 1 && kind > 0:
				kind = 3 - kind
			}
			q.Breaks[slices.Index(inner, to)] = kind
		}
	}
	return q
}

// pointsOf are all points of a size, by Y, and for equal Y by X.
func pointsOf(w, h int64) []impl.Point {
	return slices.DeleteFunc(placesAround(w, h), func(at impl.Point) bool { return !hasPlace(w, h, at) })
}

// noSyms are numbers that are no symmetries.
func noSyms() []int64 {
	return slices.DeleteFunc(append([]int64{8, 12, -4, -8, 256, 1 << 32}, edgeNumbers...), func(n int64) bool { return n >= 0 && n <= 7 })
}

// fromText is the panel with a text.
func fromText(t *testing.T, text string) impl.Panel {
	t.Helper()
	p, ok := impl.ReadPanel(text)
	if !ok {
		t.Fatalf("%q is no text of a panel", text)
	}
	return p
}

// movedPanel and movedPoint are results that must come with OK.
func movedPanel(t *testing.T, p impl.Panel, sym int64) impl.Panel {
	t.Helper()
	q, code := impl.MapPanel(p, sym)
	if code != impl.OK {
		t.Fatalf("MapPanel of %v with %d: code %d", p, sym, code)
	}
	return q
}

func movedPoint(t *testing.T, p impl.Panel, at impl.Point, sym int64) impl.Point {
	t.Helper()
	to, code := impl.MapPoint(p, at, sym)
	if code != impl.OK {
		t.Fatalf("MapPoint of %v with %d in %v: code %d", at, sym, p, code)
	}
	return to
}

// uneven is a panel, with both sides at least 2, that no symmetry but SymNone moves to itself: it has upright
// mirrors at {2 1} and {1 2} only.
func uneven(w, h int64) impl.Panel {
	p := plain(w, h)
	p.Breaks[0], p.Breaks[w-1] = impl.BreakUpright, impl.BreakUpright
	return p
}

// symPanels are panels of all sizes, with many breaks, with few and with none, and all panels of some small sizes.
func symPanels() []impl.Panel {
	list := tracePanels()
	eachSize(func(w, h int64) {
		if w > 1 && h > 1 {
			list = append(list, uneven(w, h))
		}
		if n := len(innerByOrder(w, h)); n > 0 {
			p := plain(w, h)
			p.Breaks[n-1] = impl.BreakLevel
			list = append(list, p)
		}
	})
	return list
}

func TestSymNames(t *testing.T) {
	syms := []int64{impl.SymNone, impl.SymAcross, impl.SymDown, impl.SymHalf, impl.SymSwap, impl.SymRight, impl.SymLeft, impl.SymOther}
	same(t, "constants", syms, []int64{0, 1, 2, 3, 4, 5, 6, 7})
	for k, want := range symNames {
		same(t, fmt.Sprint("SymName of ", k), impl.SymName(int64(k)), want)
	}
	for _, k := range noSyms() {
		same(t, fmt.Sprint("SymName of ", k), impl.SymName(k), "")
	}
}

// TestSymExample is the example of chapter 6, for all heights and with any breaks.
func TestSymExample(t *testing.T) {
	for h := int64(1); h <= 8; h++ {
		for _, p := range []impl.Panel{plain(2, h), mixedPanel(2, h), smallCircles(2, h)} {
			same(t, fmt.Sprint("SymAcross in ", p), movedPoint(t, p, pt(0, 1), impl.SymAcross), pt(4, 1))
		}
	}
}

// TestMapPointWritten writes points out, for the eight symmetries in order: on the border and inside, in panels
// with equal and with different sides, and points that are kept in their place.
func TestMapPointWritten(t *testing.T) {
	for _, c := range []struct {
		w, h int64
		at   impl.Point
		want [8]impl.Point
	}{
		{1, 1, pt(0, 1), [8]impl.Point{{X: 0, Y: 1}, {X: 2, Y: 1}, {X: 0, Y: 1}, {X: 2, Y: 1}, {X: 1, Y: 0}, {X: 1, Y: 0}, {X: 1, Y: 2}, {X: 1, Y: 2}}},
		{1, 1, pt(1, 0), [8]impl.Point{{X: 1, Y: 0}, {X: 1, Y: 0}, {X: 1, Y: 2}, {X: 1, Y: 2}, {X: 0, Y: 1}, {X: 2, Y: 1}, {X: 0, Y: 1}, {X: 2, Y: 1}}},
		{2, 1, pt(0, 1), [8]impl.Point{{X: 0, Y: 1}, {X: 4, Y: 1}, {X: 0, Y: 1}, {X: 4, Y: 1}, {X: 1, Y: 0}, {X: 1, Y: 0}, {X: 1, Y: 4}, {X: 1, Y: 4}}},
		{2, 1, pt(2, 1), [8]impl.Point{{X: 2, Y: 1}, {X: 2, Y: 1}, {X: 2, Y: 1}, {X: 2, Y: 1}, {X: 1, Y: 2}, {X: 1, Y: 2}, {X: 1, Y: 2}, {X: 1, Y: 2}}},
		{3, 2, pt(5, 2), [8]impl.Point{{X: 5, Y: 2}, {X: 1, Y: 2}, {X: 5, Y: 2}, {X: 1, Y: 2}, {X: 2, Y: 5}, {X: 2, Y: 5}, {X: 2, Y: 1}, {X: 2, Y: 1}}},
		{3, 2, pt(4, 1), [8]impl.Point{{X: 4, Y: 1}, {X: 2, Y: 1}, {X: 4, Y: 3}, {X: 2, Y: 3}, {X: 1, Y: 4}, {X: 3, Y: 4}, {X: 1, Y: 2}, {X: 3, Y: 2}}},
		{3, 2, pt(6, 3), [8]impl.Point{{X: 6, Y: 3}, {X: 0, Y: 3}, {X: 6, Y: 1}, {X: 0, Y: 1}, {X: 3, Y: 6}, {X: 1, Y: 6}, {X: 3, Y: 0}, {X: 1, Y: 0}}},
		{2, 3, pt(2, 3), [8]impl.Point{{X: 2, Y: 3}, {X: 2, Y: 3}, {X: 2, Y: 3}, {X: 2, Y: 3}, {X: 3, Y: 2}, {X: 3, Y: 2}, {X: 3, Y: 2}, {X: 3, Y: 2}}},
		{2, 2, pt(2, 1), [8]impl.Point{{X: 2, Y: 1}, {X: 2, Y: 1}, {X: 2, Y: 3}, {X: 2, Y: 3}, {X: 1, Y: 2}, {X: 3, Y: 2}, {X: 1, Y: 2}, {X: 3, Y: 2}}},
		{8, 8, pt(16, 3), [8]impl.Point{{X: 16, Y: 3}, {X: 0, Y: 3}, {X: 16, Y: 13}, {X: 0, Y: 13}, {X: 3, Y: 16}, {X: 13, Y: 16}, {X: 3, Y: 0}, {X: 13, Y: 0}}},
		{8, 1, pt(16, 1), [8]impl.Point{{X: 16, Y: 1}, {X: 0, Y: 1}, {X: 16, Y: 1}, {X: 0, Y: 1}, {X: 1, Y: 16}, {X: 1, Y: 16}, {X: 1, Y: 0}, {X: 1, Y: 0}}},
		{1, 8, pt(0, 3), [8]impl.Point{{X: 0, Y: 3}, {X: 2, Y: 3}, {X: 0, Y: 13}, {X: 2, Y: 13}, {X: 3, Y: 0}, {X: 13, Y: 0}, {X: 3, Y: 2}, {X: 13, Y: 2}}},
	} {
		for sym, want := range c.want {
			name := fmt.Sprint("MapPoint of ", c.at, " with ", symNames[sym], " in ", c.w, " by ", c.h)
			same(t, name, movedPoint(t, mixedPanel(c.w, c.h), c.at, int64(sym)), want)
		}
	}
}

// TestMapPoint holds all points of all sizes against the words of chapter 6: different ones come to different
// ones, on the border and inside, whatever the breaks are; places that are no points are told as such.
func TestMapPoint(t *testing.T) {
	eachSize(func(w, h int64) {
		panels := []impl.Panel{plain(w, h), mixedPanel(w, h)}
		for sym := range int64(8) {
			met := map[impl.Point]bool{}
			for _, at := range placesAround(w, h) {
				name := fmt.Sprint("MapPoint of ", at, " with ", sym, " in ", w, " by ", h)
				for _, p := range panels {
					to, code := impl.MapPoint(p, at, sym)
					if !hasPlace(w, h, at) {
						same(t, name, []any{to, code}, []any{impl.Point{}, int64(impl.ErrRange)})
						continue
					}
					same(t, name, []any{to, code}, []any{pointByWords(w, h, at, sym), int64(impl.OK)})
					q := movedPanel(t, p, sym)
					same(t, name+" is a point", impl.IsPoint(q, to), true)
					same(t, name+" is on the border", impl.IsBorder(q, to), impl.IsBorder(p, at))
					met[to] = true
				}
			}
			same(t, fmt.Sprint("different points for ", sym, " in ", w, " by ", h), len(met), len(pointsOf(w, h)))
		}
	})
}

// TestPointsKept counts the points that a symmetry keeps in their place: those in the middle, and none where X and
// Y are exchanged in a panel with equal sides, as then X + Y would be even.
func TestPointsKept(t *testing.T) {
	eachSize(func(w, h int64) {
		for sym := range int64(8) {
			if sym >= 4 && w != h {
				continue
			}
			for _, at := range pointsOf(w, h) {
				middle := [4]bool{true, at.X == w, at.Y == h, at.X == w && at.Y == h}
				want := sym < 4 && middle[sym%4]
				same(t, fmt.Sprint(at, " with ", sym, " in ", w, " by ", h), movedPoint(t, plain(w, h), at, sym) == at, want)
			}
		}
	})
}

// TestMapPanelWritten writes panels out, for the eight symmetries in order.
func TestMapPanelWritten(t *testing.T) {
	for _, c := range [][8]string{
		{"1x1:", "1x1:", "1x1:", "1x1:", "1x1:", "1x1:", "1x1:", "1x1:"},
		{"2x1:+", "2x1:+", "2x1:+", "2x1:+", "1x2:+", "1x2:+", "1x2:+", "1x2:+"},
		{"2x1:|", "2x1:|", "2x1:|", "2x1:|", "1x2:-", "1x2:-", "1x2:-", "1x2:-"},
		{"1x2:|", "1x2:|", "1x2:|", "1x2:|", "2x1:-", "2x1:-", "2x1:-", "2x1:-"},
		{"3x1:|-", "3x1:-|", "3x1:|-", "3x1:-|", "1x3:-|", "1x3:-|", "1x3:|-", "1x3:|-"},
		{"1x3:+|", "1x3:+|", "1x3:|+", "1x3:|+", "3x1:+-", "3x1:-+", "3x1:+-", "3x1:-+"},
		{"2x2:|+++", "2x2:|+++", "2x2:+++|", "2x2:+++|", "2x2:+-++", "2x2:++-+", "2x2:+-++", "2x2:++-+"},
		{"2x2:|+-+", "2x2:|-++", "2x2:++-|", "2x2:+-+|", "2x2:+-+|", "2x2:++-|", "2x2:|-++", "2x2:|+-+"},
		{"3x2:+|-||-+", "3x2:|+||-+-", "3x2:-+-||+|", "3x2:+-||-|+", "2x3:|+|--+-", "2x3:||+-+--", "2x3:--+-+||", "2x3:-+--|+|"},
		{"8x1:|||-+++", "8x1:+++-|||", "8x1:|||-+++", "8x1:+++-|||", "1x8:---|+++", "1x8:---|+++", "1x8:+++|---", "1x8:+++|---"},
	} {
		for sym, want := range c {
			q := movedPanel(t, fromText(t, c[0]), int64(sym))
			same(t, fmt.Sprint("MapPanel of ", c[0], " with ", symNames[sym]), impl.PanelText(q), want)
		}
	}
}

// TestMapPanel holds panels of all sizes against their moved pictures, and their breaks against moved points.
func TestMapPanel(t *testing.T) {
	for _, p := range symPanels() {
		for sym := range int64(8) {
			name := fmt.Sprint("MapPanel of ", p, " with ", sym)
			q := movedPanel(t, p, sym)
			samePanel(t, name, q, movedByWords(p, sym))
			same(t, name+" is valid", impl.ValidPanel(q), true)
			for k, at := range innerByOrder(p.W, p.H) {
				want := p.Breaks[k]
				if sym >= 4 {
					want = [3]int64{impl.BreakNone, impl.BreakLevel, impl.BreakUpright}[want]
				}
				kind, code := impl.BreakAt(q, movedPoint(t, p, at, sym))
				if kind != want || code != impl.OK {
					t.Errorf("%s: at the point of %v there is %d %d, want %d", name, at, kind, code, want)
				}
			}
		}
	}
}

// TestComposeWritten writes out what each two symmetries are together, and what leads back from each one.
func TestComposeWritten(t *testing.T) {
	for first, list := range composed {
		for second, want := range list {
			name := fmt.Sprint("ComposeSyms of ", symNames[first], " and ", symNames[second])
			same(t, name, told(impl.ComposeSyms(int64(first), int64(second))), told(want, impl.OK))
		}
	}
	for sym, want := range []int64{0, 1, 2, 3, 4, 6, 5, 7} {
		same(t, "InverseSym of "+symNames[sym], told(impl.InverseSym(int64(sym))), told(want, impl.OK))
	}
}

// TestComposeMoves is P6: two symmetries one after the other move each point and each panel as the one that
// ComposeSyms tells.
func TestComposeMoves(t *testing.T) {
	eachSize(func(w, h int64) {
		for _, p := range []impl.Panel{plain(w, h), mixedPanel(w, h)} {
			for first := range int64(8) {
				q := movedPanel(t, p, first)
				for second := range int64(8) {
					name := fmt.Sprint(p, " with ", first, " and ", second)
					both, code := impl.ComposeSyms(first, second)
					same(t, name, code, int64(impl.OK))
					samePanel(t, name, movedPanel(t, q, second), movedPanel(t, p, both))
					for _, at := range pointsOf(w, h) {
						to := movedPoint(t, q, movedPoint(t, p, at, first), second)
						if to != movedPoint(t, p, at, both) {
							t.Errorf("%s: %v comes to %v", name, at, to)
						}
					}
				}
			}
		}
	})
}

// TestGroup is P6: ComposeSyms leads from symmetries to symmetries and may be grouped in both ways, SymNone changes
// nothing, and InverseSym leads back from both sides.
func TestGroup(t *testing.T) {
	compose := func(a, b int64) int64 {
		c, code := impl.ComposeSyms(a, b)
		if code != impl.OK || c < 0 || c > 7 {
			t.Errorf("ComposeSyms of %d and %d: got %d %d", a, b, c, code)
		}
		return c
	}
	for a := range int64(8) {
		same(t, fmt.Sprint(a, " behind SymNone"), compose(impl.SymNone, a), a)
		same(t, fmt.Sprint(a, " before SymNone"), compose(a, impl.SymNone), a)
		back, code := impl.InverseSym(a)
		same(t, fmt.Sprint("code of InverseSym of ", a), code, int64(impl.OK))
		same(t, fmt.Sprint(a, " and back"), []int64{compose(a, back), compose(back, a)}, []int64{0, 0})
		met := map[int64]bool{}
		for b := range int64(8) {
			met[compose(a, b)] = true
			for c := range int64(8) {
				same(t, fmt.Sprint(a, " ", b, " ", c), compose(compose(a, b), c), compose(a, compose(b, c)))
			}
		}
		same(t, fmt.Sprint("different ones behind ", a), len(met), 8)
	}
}

// TestMovedBack is P6: the inverse moves each panel and each of its points back.
func TestMovedBack(t *testing.T) {
	eachSize(func(w, h int64) {
		for _, p := range []impl.Panel{mixedPanel(w, h), smallCircles(w, h)} {
			for sym := range int64(8) {
				back, _ := impl.InverseSym(sym)
				q := movedPanel(t, p, sym)
				samePanel(t, fmt.Sprint(p, " with ", sym, " and back"), movedPanel(t, q, back), p)
				for _, at := range pointsOf(w, h) {
					same(t, fmt.Sprint(at, " with ", sym, " and back"), movedPoint(t, q, movedPoint(t, p, at, sym), back), at)
				}
			}
		}
	})
}

// TestSymsThatAreNone: numbers that are no symmetries, on either side, whatever the other one is.
func TestSymsThatAreNone(t *testing.T) {
	for _, a := range noSyms() {
		same(t, fmt.Sprint("InverseSym of ", a), told(impl.InverseSym(a)), told(0, impl.ErrRange))
		for _, b := range append([]int64{0, 1, 2, 3, 4, 5, 6, 7}, noSyms()...) {
			same(t, fmt.Sprint("ComposeSyms of ", a, " and ", b), told(impl.ComposeSyms(a, b)), told(0, impl.ErrRange))
			same(t, fmt.Sprint("ComposeSyms of ", b, " and ", a), told(impl.ComposeSyms(b, a)), told(0, impl.ErrRange))
		}
	}
}

// TestCurvesKept is P6: a moved panel has as many curves as before, of the same lengths, and they go through
// the moved points.
func TestCurvesKept(t *testing.T) {
	for _, p := range symPanels() {
		n, _ := impl.CountCurves(p)
		lengths, _ := impl.CurveLengths(p)
		slices.Sort(lengths)
		for sym := range int64(8) {
			name := fmt.Sprint(p, " with ", sym)
			q := movedPanel(t, p, sym)
			same(t, "CountCurves of "+name, told(impl.CountCurves(q)), told(n, impl.OK))
			moved, _ := impl.CurveLengths(q)
			slices.Sort(moved)
			same(t, "CurveLengths of "+name, moved, lengths)
		}
	}
}

// TestCurvesMoved moves the points of each curve of some panels, and finds them as a curve of the moved panel.
func TestCurvesMoved(t *testing.T) {
	for _, p := range []impl.Panel{panelOf(1, 1), panelOf(2, 1, 1), mixedPanel(3, 2), mixedPanel(4, 4), mixedPanel(5, 3), uneven(6, 6), mixedPanel(8, 8), plain(6, 3)} {
		for sym := range int64(8) {
			want := map[string]int{}
			curves, _ := curvesByWords(p)
			for _, list := range curves {
				for k, at := range list {
					list[k] = movedPoint(t, p, at, sym)
				}
				want[sortedPoints(list)]++
			}
			got := map[string]int{}
			curves, _ = curvesByWords(movedPanel(t, p, sym))
			for _, list := range curves {
				got[sortedPoints(list)]++
			}
			same(t, fmt.Sprint("curves of ", p, " with ", sym), got, want)
		}
	}
}

func sortedPoints(list []impl.Point) string {
	slices.SortFunc(list, func(a, b impl.Point) int { return int(100*(a.Y-b.Y) + a.X - b.X) })
	return fmt.Sprint(list)
}

// symGroups are panels with each of the ten groups of symmetries that panels with equal sides can have.
var symGroups = map[string][]int64{
	"3x3:|+++++++++++": {0},
	"3x3:||++++++++++": {0, 1},
	"3x3:|+++++++++|+": {0, 2},
	"3x3:|++++++++++|": {0, 3},
	"3x3:|+-+++++++++": {0, 4},
	"3x3:|++++++++-++": {0, 7},
	"3x3:||++++++++||": {0, 1, 2, 3},
	"3x3:|+-++++++-+|": {0, 3, 4, 7},
	"3x3:|+++-++-+++|": {0, 3, 5, 6},
	"3x3:||-+-++-+-||": {0, 1, 2, 3, 4, 5, 6, 7},
}

// TestSymmetriesOfWritten writes lists out, with panels of different sides and panels that none but SymNone keeps.
func TestSymmetriesOfWritten(t *testing.T) {
	cases := map[string][]int64{
		"1x1:":        {0, 1, 2, 3, 4, 5, 6, 7},
		"2x1:+":       {0, 1, 2, 3},
		"2x1:|":       {0, 1, 2, 3},
		"1x2:-":       {0, 1, 2, 3},
		"3x1:+|":      {0, 2},
		"3x1:||":      {0, 1, 2, 3},
		"1x3:-+":      {0, 1},
		"3x2:++++++|": {0},
		"3x2:||-+-||": {0, 1, 2, 3},
		"3x2:||+++++": {0, 1},
		"3x2:+|--|+|": {0, 2},
		"3x2:+|-+-|+": {0, 3},
		"2x2:++++":    {0, 1, 2, 3, 4, 5, 6, 7},
		"2x2:|--|":    {0, 1, 2, 3, 4, 5, 6, 7},
		"2x2:||||":    {0, 1, 2, 3},
		"2x2:|++|":    {0, 1, 2, 3},
		"2x2:|+++":    {0, 1},
		"2x2:+|++":    {0, 2},
		"2x2:|-++":    {0, 4},
		"2x2:|+-+":    {0, 7},
		"2x2:||++":    {0},
		"2x2:|+|+":    {0},
	}
	for _, list := range []map[string][]int64{cases, symGroups} {
		for text, want := range list {
			got, code := impl.SymmetriesOf(fromText(t, text))
			same(t, "SymmetriesOf "+text, []any{got, code}, []any{want, int64(impl.OK)})
		}
	}
}

// keptBy are the symmetries that move a panel to itself, told by its pictures.
func keptBy(p impl.Panel) []int64 {
	list := []int64{}
	for sym := range int64(8) {
		if slices.Equal(picture(movedByWords(p, sym), nil), picture(p, nil)) {
			list = append(list, sym)
		}
	}
	return list
}

// TestSymmetriesOf holds panels of all sizes against their pictures; the list is that of a group, and only that of
// panels with equal sides has symmetries that exchange them.
func TestSymmetriesOf(t *testing.T) {
	for _, p := range symPanels() {
		name := fmt.Sprint("SymmetriesOf ", p)
		list, code := impl.SymmetriesOf(p)
		same(t, name, []any{list, code}, []any{keptBy(p), int64(impl.OK)})
		same(t, name+" begins", list[0], int64(impl.SymNone))
		if p.W != p.H && list[len(list)-1] >= 4 {
			t.Errorf("%s: got %v", name, list)
		}
		for _, a := range list {
			for _, b := range list {
				c, _ := impl.ComposeSyms(a, b)
				same(t, fmt.Sprint(name, " has ", a, " and ", b, " together"), slices.Contains(list, c), true)
			}
		}
	}
	eachSize(func(w, h int64) {
		if w > 1 && h > 1 {
			list, code := impl.SymmetriesOf(uneven(w, h))
			same(t, fmt.Sprint("uneven ", w, " by ", h), []any{list, code}, []any{[]int64{0}, int64(impl.OK)})
		}
	})
}

// TestPointOrbitWritten writes points out: all symmetries of a panel move a point, others do not.
func TestPointOrbitWritten(t *testing.T) {
	for _, c := range []struct {
		text string
		at   impl.Point
		want []impl.Point
	}{
		{"1x1:", pt(1, 2), []impl.Point{{X: 1, Y: 0}, {X: 0, Y: 1}, {X: 2, Y: 1}, {X: 1, Y: 2}}},
		{"2x1:|", pt(2, 1), []impl.Point{{X: 2, Y: 1}}},
		{"2x1:|", pt(3, 2), []impl.Point{{X: 1, Y: 0}, {X: 3, Y: 0}, {X: 1, Y: 2}, {X: 3, Y: 2}}},
		{"2x1:-", pt(4, 1), []impl.Point{{X: 0, Y: 1}, {X: 4, Y: 1}}},
		{"1x2:+", pt(1, 4), []impl.Point{{X: 1, Y: 0}, {X: 1, Y: 4}}},
		{"3x1:+|", pt(1, 2), []impl.Point{{X: 1, Y: 0}, {X: 1, Y: 2}}},
		{"3x1:+|", pt(4, 1), []impl.Point{{X: 4, Y: 1}}},
		{"3x1:||", pt(4, 1), []impl.Point{{X: 2, Y: 1}, {X: 4, Y: 1}}},
		{"2x2:++++", pt(4, 3), []impl.Point{{X: 1, Y: 0}, {X: 3, Y: 0}, {X: 0, Y: 1}, {X: 4, Y: 1}, {X: 0, Y: 3}, {X: 4, Y: 3}, {X: 1, Y: 4}, {X: 3, Y: 4}}},
		{"2x2:++++", pt(2, 3), []impl.Point{{X: 2, Y: 1}, {X: 1, Y: 2}, {X: 3, Y: 2}, {X: 2, Y: 3}}},
		{"2x2:|-++", pt(2, 3), []impl.Point{{X: 3, Y: 2}, {X: 2, Y: 3}}},
		{"2x2:|+-+", pt(2, 1), []impl.Point{{X: 2, Y: 1}, {X: 3, Y: 2}}},
		{"2x2:||++", pt(2, 3), []impl.Point{{X: 2, Y: 3}}},
		{"2x2:||++", pt(0, 1), []impl.Point{{X: 0, Y: 1}}},
		{"3x2:+|-+-|+", pt(6, 1), []impl.Point{{X: 6, Y: 1}, {X: 0, Y: 3}}},
		{"3x3:|+++-++-+++|", pt(3, 0), []impl.Point{{X: 3, Y: 0}, {X: 0, Y: 3}, {X: 6, Y: 3}, {X: 3, Y: 6}}},
		{"3x3:|+++-++-+++|", pt(4, 1), []impl.Point{{X: 4, Y: 1}, {X: 1, Y: 2}, {X: 5, Y: 4}, {X: 2, Y: 5}}},
		{"3x3:|+-++++++-+|", pt(3, 2), []impl.Point{{X: 3, Y: 2}, {X: 2, Y: 3}, {X: 4, Y: 3}, {X: 3, Y: 4}}},
	} {
		list, code := impl.PointOrbit(fromText(t, c.text), c.at)
		same(t, fmt.Sprint("PointOrbit of ", c.at, " in ", c.text), []any{list, code}, []any{c.want, int64(impl.OK)})
	}
}

// orbitByWords goes through the points of a size in order, and keeps those to which one is moved.
func orbitByWords(p impl.Panel, at impl.Point, syms []int64) []impl.Point {
	return slices.DeleteFunc(pointsOf(p.W, p.H), func(to impl.Point) bool {
		return !slices.ContainsFunc(syms, func(sym int64) bool { return pointByWords(p.W, p.H, at, sym) == to })
	})
}

// TestPointOrbit holds all points of panels of all sizes against the words of chapter 6, with the places around.
func TestPointOrbit(t *testing.T) {
	panels := []impl.Panel{}
	for text := range symGroups {
		panels = append(panels, fromText(t, text))
	}
	eachSize(func(w, h int64) {
		panels = append(panels, mixedPanel(w, h))
		if w <= 4 && h <= 4 {
			panels = append(panels, plain(w, h), smallCircles(w, h))
		}
	})
	panels = append(panels, plain(8, 8), plain(8, 5), plain(7, 7))
	for _, p := range panels {
		syms := keptBy(p)
		for _, at := range placesAround(p.W, p.H) {
			name := fmt.Sprint("PointOrbit of ", at, " in ", p)
			list, code := impl.PointOrbit(p, at)
			if !hasPlace(p.W, p.H, at) {
				same(t, name, told(int64(len(list)), code), told(0, impl.ErrRange))
				continue
			}
			same(t, name, []any{list, code}, []any{orbitByWords(p, at, syms), int64(impl.OK)})
		}
	}
}

// ordered are panels, valid or not, each one less than the next one.
func ordered() []impl.Panel {
	least, most := int64(math.MinInt64), int64(math.MaxInt64)
	return []impl.Panel{
		panelOf(least, most, most), panelOf(-1, 2), panelOf(-1, 2, 0),
		panelOf(0, least), panelOf(0, -1), {}, panelOf(0, 0, least), panelOf(0, 0, -1), panelOf(0, 0, 0), panelOf(0, 0, 0, 0), panelOf(0, 0, 1), panelOf(0, 0, most),
		panelOf(1, 1), panelOf(1, 1, 0), panelOf(1, 2, 0), panelOf(1, 2, 2), panelOf(1, 3, 0, 0), panelOf(1, most),
		panelOf(2, 1), panelOf(2, 1, -1), panelOf(2, 1, 0), panelOf(2, 1, 0, least), panelOf(2, 1, 0, 0, 0), panelOf(2, 1, 0, 2), panelOf(2, 1, 1), panelOf(2, 1, 2), panelOf(2, 1, 3), panelOf(2, 1, 3, 0),
		panelOf(2, 2, 0, 0, 0), panelOf(2, 2, 0, 0, 0, 0), panelOf(2, 2, 0, 0, 0, 0, 0), panelOf(2, 2, 0, 0, 0, 1), panelOf(2, 2, 0, 0, 1), panelOf(2, 2, 0, 0, 1, 0), panelOf(2, 2, 0, 1, 0, 0), panelOf(2, 2, 1, 0, 0, 0), panelOf(2, 2, 2, 2, 2, 2),
		smallCircles(8, 7), mixedPanel(8, 7), plain(8, 8), mixedPanel(8, 8), panelOf(9, 9), panelOf(most, least), panelOf(most, most, most), panelOf(most, most, most, least),
	}
}

// TestComparePanels compares each of these with each other one, and with a copy of itself; a nil list is as an
// empty one.
func TestComparePanels(t *testing.T) {
	list := ordered()
	for i, a := range list {
		for k, b := range list {
			want := int64(0)
			if i < k {
				want = -1
			} else if i > k {
				want = 1
			}
			copied := impl.Panel{W: b.W, H: b.H, Breaks: append([]int64{}, b.Breaks...)}
			same(t, fmt.Sprint("ComparePanels of ", a, " and ", b), impl.ComparePanels(a, copied), want)
			same(t, fmt.Sprint("the words for ", a, " and ", b), compareByWords(a, b), want)
		}
	}
	none, empty := panelOf(1, 1), impl.Panel{W: 1, H: 1, Breaks: []int64{}}
	same(t, "no list and an empty one", impl.ComparePanels(none, empty), int64(0))
	same(t, "an empty list and none", impl.ComparePanels(empty, none), int64(0))
	same(t, "no list before one", impl.ComparePanels(impl.Panel{W: 1, H: 1}, panelOf(1, 1, math.MinInt64)), int64(-1))
	for _, a := range append(invalidPanels(), allPanels(2, 2)...) {
		for _, b := range append(invalidPanels(), allPanels(2, 2)...) {
			if got := impl.ComparePanels(a, b); got != compareByWords(a, b) {
				t.Errorf("ComparePanels of %v and %v: got %d", a, b, got)
			}
		}
	}
}

// TestCanonicalPanelWritten writes panels out: the lesser width comes before everything else, then breaks.
func TestCanonicalPanelWritten(t *testing.T) {
	for text, want := range map[string]string{
		"1x1:":             "1x1:",
		"2x1:|":            "1x2:-",
		"1x2:|":            "1x2:|",
		"3x1:|-":           "1x3:|-",
		"3x1:-+":           "1x3:+|",
		"2x2:-+++":         "2x2:+++-",
		"2x2:|+++":         "2x2:+++|",
		"2x2:+-++":         "2x2:+++|",
		"2x2:-|++":         "2x2:++|-",
		"3x2:+|-||-+":      "2x3:|+|--+-",
		"2x3:--+-+||":      "2x3:|+|--+-",
		"8x1:|||-+++":      "1x8:+++|---",
		"3x3:|+++++++++++": "3x3:+++++++++++|",
	} {
		q, code := impl.CanonicalPanel(fromText(t, text))
		same(t, "CanonicalPanel of "+text, []any{impl.PanelText(q), code}, []any{want, int64(impl.OK)})
	}
}

// TestCanonicalPanel holds panels of all sizes against the words of chapter 6: it is that of all panels to which a
// symmetry moves one, and one of them.
func TestCanonicalPanel(t *testing.T) {
	for _, p := range symPanels() {
		want := movedByWords(p, 0)
		for sym := range int64(8) {
			if q := movedByWords(p, sym); compareByWords(q, want) < 0 {
				want = q
			}
		}
		for sym := range int64(8) {
			q, code := impl.CanonicalPanel(movedByWords(p, sym))
			same(t, fmt.Sprint("code for ", p, " with ", sym), code, int64(impl.OK))
			samePanel(t, fmt.Sprint("CanonicalPanel of ", p, " with ", sym), q, want)
		}
		n, _ := impl.CountCurves(p)
		same(t, fmt.Sprint("curves of the canonical panel of ", p), told(impl.CountCurves(want)), told(n, impl.OK))
	}
}

// TestAlikePanels holds each two panels of some sizes against their pictures, with panels that are not valid.
func TestAlikePanels(t *testing.T) {
	panels := slices.Concat(allPanels(1, 1), allPanels(2, 1), allPanels(1, 2), allPanels(3, 1), allPanels(1, 3), allPanels(2, 2))
	panels = append(panels, mixedPanel(3, 2), movedByWords(mixedPanel(3, 2), 6), plain(3, 2), plain(2, 3), smallCircles(3, 3), plain(3, 3))
	// Lists of breaks that are equal do not make panels of different sizes alike.
	panels = append(panels, plain(1, 5), plain(5, 1), plain(8, 1), plain(1, 8))
	alike := 0
	for _, a := range panels {
		moved := map[string]bool{}
		for sym := range int64(8) {
			moved[strings.Join(picture(movedByWords(a, sym), nil), "\n")] = true
		}
		for _, b := range panels {
			want := moved[strings.Join(picture(b, nil), "\n")]
			same(t, fmt.Sprint("AlikePanels of ", a, " and ", b), impl.AlikePanels(a, b), want)
			if want {
				alike++
			}
		}
		for _, b := range invalidPanels() {
			same(t, fmt.Sprint("AlikePanels of ", a, " and ", b), impl.AlikePanels(a, b), false)
			same(t, fmt.Sprint("AlikePanels of ", b, " and ", a), impl.AlikePanels(b, a), false)
		}
	}
	if alike <= len(panels) {
		t.Errorf("%d pairs of %d panels are alike", alike, len(panels))
	}
	for _, a := range invalidPanels() {
		for _, b := range invalidPanels() {
			same(t, fmt.Sprint("AlikePanels of ", a, " and ", b), impl.AlikePanels(a, b), false)
		}
	}
}

// TestAlikeMoved: each panel of all sizes is like those to which it is moved, and not like one with another break.
func TestAlikeMoved(t *testing.T) {
	eachSize(func(w, h int64) {
		p := mixedPanel(w, h)
		for sym := range int64(8) {
			q := movedByWords(p, sym)
			same(t, fmt.Sprint(p, " is like ", q), impl.AlikePanels(p, q), true)
			for k := range q.Breaks {
				if r := panelOf(q.W, q.H, slices.Clone(q.Breaks)...); r.Breaks[k] == impl.BreakNone {
					// One break more than p has.
					r.Breaks[k] = impl.BreakLevel
					same(t, fmt.Sprint(p, " is like ", r), impl.AlikePanels(p, r), false)
				}
			}
		}
	})
}

// TestSymmetricPanelWritten writes panels out, for the eight symmetries in order, or for the four that a panel of
// different sides can have.
func TestSymmetricPanelWritten(t *testing.T) {
	for _, c := range [][]string{
		{"1x1:", "1x1:", "1x1:", "1x1:", "1x1:", "1x1:", "1x1:", "1x1:"},
		{"2x1:|", "2x1:|", "2x1:|", "2x1:|"},
		{"1x2:-", "1x2:-", "1x2:-", "1x2:-"},
		{"3x1:|-", "3x1:||", "3x1:|-", "3x1:||"},
		{"1x3:+-", "1x3:+-", "1x3:++", "1x3:++"},
		{"2x2:|+-+", "2x2:|+++", "2x2:|+-|", "2x2:|++|", "2x2:|--|", "2x2:|--|", "2x2:|--|", "2x2:|+-+"},
		{"2x2:+|-|", "2x2:+|||", "2x2:+|-+", "2x2:+||+", "2x2:++-|", "2x2:++++", "2x2:++++", "2x2:+|+-"},
		{"2x2:-++-", "2x2:-++-", "2x2:-++-", "2x2:-++-", "2x2:-|++", "2x2:-||-", "2x2:-||-", "2x2:-+|+"},
		{"3x2:+|-||-+", "3x2:++-|---", "3x2:+|-||+|", "3x2:+|-|-|+"},
		{
			"3x3:|-+|+-||-+-+", "3x3:||+|+--|-|--", "3x3:|-+|+-|+|+|-", "3x3:|-+|+--+|+-|",
			"3x3:|--|+-||-+++", "3x3:|-||----||-|", "3x3:|-||----||-|", "3x3:|-+||--||--+",
		},
	} {
		p := fromText(t, c[0])
		for sym, want := range c {
			q, code := impl.SymmetricPanel(p, int64(sym))
			same(t, fmt.Sprint("SymmetricPanel of ", c[0], " with ", symNames[sym]), []any{impl.PanelText(q), code}, []any{want, int64(impl.OK)})
		}
	}
}

// TestSymmetricPanel holds panels of all sizes against the words of chapter 6: the symmetry moves the new panel to
// itself, a panel that it moves to itself already is not changed, and the first point of each way keeps its break.
func TestSymmetricPanel(t *testing.T) {
	kept, changed := 0, 0
	for _, p := range symPanels() {
		for sym := range int64(8) {
			name := fmt.Sprint("SymmetricPanel of ", p, " with ", sym)
			q, code := impl.SymmetricPanel(p, sym)
			if sym >= 4 && p.W != p.H {
				same(t, name, code, int64(impl.ErrState))
				isZero(t, name, q)
				continue
			}
			same(t, name, code, int64(impl.OK))
			samePanel(t, name, q, symmetricByWords(p, sym))
			samePanel(t, name+" moved", movedPanel(t, q, sym), q)
			again, _ := impl.SymmetricPanel(q, sym)
			samePanel(t, name+" again", again, q)
			if slices.Contains(keptBy(p), sym) {
				samePanel(t, name+" as it is", q, p)
				kept++
			} else {
				changed++
			}
		}
	}
	if kept < 500 || changed < 500 {
		t.Errorf("%d panels were symmetric, %d were not", kept, changed)
	}
}

// TestFirstPointGives puts a mirror at each inner point alone: the point gives it to all points of its way if it is
// the first one of them, and loses it otherwise.
func TestFirstPointGives(t *testing.T) {
	for _, s := range [][2]int64{{2, 1}, {1, 3}, {2, 2}, {3, 2}, {3, 3}, {4, 4}, {4, 3}, {8, 8}} {
		inner := innerByOrder(s[0], s[1])
		for sym := range int64(8) {
			if sym >= 4 && s[0] != s[1] {
				continue
			}
			for k, at := range inner {
				p, want := plain(s[0], s[1]), plain(s[0], s[1])
				p.Breaks[k] = impl.BreakUpright
				way := wayOf(s[0], s[1], at, sym)
				first := !slices.ContainsFunc(way, func(to impl.Point) bool { return slices.Index(inner, to) < k })
				for moves, to := range way {
					kind := int64(impl.BreakUpright)
					if sym >= 4 && moves%2 == 1 {
						kind = impl.BreakLevel
					}
					if first {
						want.Breaks[slices.Index(inner, to)] = kind
					}
				}
				q, code := impl.SymmetricPanel(p, sym)
				name := fmt.Sprint("SymmetricPanel with a mirror at ", at, " with ", sym, " in ", s)
				same(t, name, code, int64(impl.OK))
				samePanel(t, name, q, want)
			}
		}
	}
}

// TestWaysBack counts how often points are moved until they are back. Without exchanges, a point may be back after
// one move, and keeps its break. With exchanges, none is back after an odd number of moves, as X + Y is odd: so the
// rule by which such a point has no break changes no panel.
func TestWaysBack(t *testing.T) {
	met := map[string]int{}
	for side := int64(1); side <= 8; side++ {
		for _, at := range innerByOrder(side, side) {
			for sym := range int64(8) {
				moves := 1
				for to := movedPoint(t, plain(side, side), at, sym); to != at; moves++ {
					to = movedPoint(t, plain(side, side), to, sym)
				}
				met[fmt.Sprint(sym >= 4, moves)]++
				for kind := range int64(3) {
					p, _ := impl.SetBreak(plain(side, side), at, kind)
					q, code := impl.SymmetricPanel(p, sym)
					same(t, "SymmetricPanel", code, int64(impl.OK))
					if b, _ := impl.BreakAt(q, at); moves == 1 && b != kind {
						t.Errorf("%v with the break %d in %d by %d has the break %d for %d", at, kind, side, side, b, sym)
					}
				}
			}
		}
	}
	for _, found := range []string{"false 1", "false 2", "true 2", "true 4"} {
		if met[found] == 0 {
			t.Errorf("no point is back as %s", found)
		}
	}
	same(t, "ways to be back", len(met), 4)
}

// TestSymmetriesInvalidPanels: ErrInvalid comes before all other errors, and nothing with it.
func TestSymmetriesInvalidPanels(t *testing.T) {
	for _, p := range invalidPanels() {
		name := fmt.Sprint(" of ", p)
		list, code := impl.SymmetriesOf(p)
		same(t, "SymmetriesOf"+name, told(int64(len(list)), code), told(0, impl.ErrInvalid))
		q, code := impl.CanonicalPanel(p)
		same(t, "CanonicalPanel"+name, code, int64(impl.ErrInvalid))
		isZero(t, "CanonicalPanel"+name, q)
		same(t, "AlikePanels"+name, impl.AlikePanels(p, p), false)
		places := append(placesAround(1, 1), pt(math.MinInt64, math.MaxInt64), pt(math.MaxInt64, math.MaxInt64), pt(16, 15))
		for _, at := range places {
			points, code := impl.PointOrbit(p, at)
			same(t, fmt.Sprint("PointOrbit of ", at, name), told(int64(len(points)), code), told(0, impl.ErrInvalid))
		}
		for _, sym := range append([]int64{0, 1, 2, 3, 4, 5, 6, 7}, noSyms()...) {
			q, code := impl.MapPanel(p, sym)
			same(t, fmt.Sprint("MapPanel with ", sym, name), code, int64(impl.ErrInvalid))
			isZero(t, fmt.Sprint("MapPanel with ", sym, name), q)
			q, code = impl.SymmetricPanel(p, sym)
			same(t, fmt.Sprint("SymmetricPanel with ", sym, name), code, int64(impl.ErrInvalid))
			isZero(t, fmt.Sprint("SymmetricPanel with ", sym, name), q)
			for _, at := range places {
				to, code := impl.MapPoint(p, at, sym)
				if to != (impl.Point{}) || code != impl.ErrInvalid {
					t.Errorf("MapPoint of %v with %d%s: got %v %d", at, sym, name, to, code)
				}
			}
		}
	}
}

// TestSymmetriesRange: numbers that are no symmetries and places that are no points of a valid panel, one of them or
// both; and in SymmetricPanel ErrRange comes before ErrState.
func TestSymmetriesRange(t *testing.T) {
	for _, p := range []impl.Panel{panelOf(1, 1), panelOf(2, 1, 1), plain(2, 2), mixedPanel(3, 4), mixedPanel(8, 1), mixedPanel(8, 8)} {
		for _, sym := range noSyms() {
			name := fmt.Sprint(" with ", sym, " of ", p)
			q, code := impl.MapPanel(p, sym)
			same(t, "MapPanel"+name, code, int64(impl.ErrRange))
			isZero(t, "MapPanel"+name, q)
			q, code = impl.SymmetricPanel(p, sym)
			same(t, "SymmetricPanel"+name, code, int64(impl.ErrRange))
			isZero(t, "SymmetricPanel"+name, q)
			for _, at := range append(placesAround(p.W, p.H), pt(math.MinInt64, math.MaxInt64)) {
				to, code := impl.MapPoint(p, at, sym)
				same(t, fmt.Sprint("MapPoint of ", at, name), []any{to, code}, []any{impl.Point{}, int64(impl.ErrRange)})
			}
		}
		for _, at := range farPlaces() {
			for sym := range int64(8) {
				to, code := impl.MapPoint(p, at, sym)
				same(t, fmt.Sprint("MapPoint of ", at, " with ", sym), []any{to, code}, []any{impl.Point{}, int64(impl.ErrRange)})
			}
			list, code := impl.PointOrbit(p, at)
			same(t, fmt.Sprint("PointOrbit of ", at, " in ", p), told(int64(len(list)), code), told(0, impl.ErrRange))
		}
	}
}

// TestSymmetricPanelState: a symmetry that exchanges sides that are different, in all sizes; the others do not.
func TestSymmetricPanelState(t *testing.T) {
	eachSize(func(w, h int64) {
		for _, p := range []impl.Panel{plain(w, h), mixedPanel(w, h)} {
			for sym := range int64(8) {
				want := int64(impl.OK)
				if sym >= 4 && w != h {
					want = impl.ErrState
				}
				q, code := impl.SymmetricPanel(p, sym)
				name := fmt.Sprint("SymmetricPanel of ", w, " by ", h, " with ", sym)
				same(t, name, code, want)
				if want != impl.OK {
					isZero(t, name, q)
				} else {
					same(t, name, []int64{q.W, q.H}, []int64{w, h})
				}
			}
		}
	})
}

// allOfSymmetries tells what the functions of chapter 6 return for a panel and many other arguments.
func allOfSymmetries(p impl.Panel) []string {
	list, one := impl.SymmetriesOf(p)
	least, two := impl.CanonicalPanel(p)
	out := []string{fmt.Sprint(list, one, least, two, impl.AlikePanels(p, p))}
	for _, other := range []impl.Panel{{}, mixedPanel(3, 4), mixedPanel(4, 3), mixedPanel(8, 8), panelOf(2, 2, 0, 0, 0)} {
		out = append(out, fmt.Sprint(impl.ComparePanels(p, other), impl.ComparePanels(other, p), impl.AlikePanels(p, other), impl.AlikePanels(other, p)))
	}
	places := append(placesAround(2, 2), pt(16, 15), pt(math.MinInt64, math.MaxInt64))
	for _, at := range places {
		points, code := impl.PointOrbit(p, at)
		out = append(out, fmt.Sprint(points, code))
	}
	for _, sym := range append([]int64{4, 5, 6}, edgeNumbers...) {
		moved, one := impl.MapPanel(p, sym)
		even, two := impl.SymmetricPanel(p, sym)
		out = append(out, fmt.Sprint(moved, one, even, two, impl.SymName(sym)))
		for _, at := range places {
			to, code := impl.MapPoint(p, at, sym)
			out = append(out, fmt.Sprint(to, code))
		}
	}
	return out
}

// TestSymmetriesUnchanged is P1: no function of chapter 6 changes a panel, nor what lies behind its list in memory,
// and all tell the same again.
func TestSymmetriesUnchanged(t *testing.T) {
	panels := []impl.Panel{panelOf(1, 1), mixedPanel(2, 1), mixedPanel(3, 4), plain(2, 2), mixedPanel(8, 8), smallCircles(8, 8)}
	for _, p := range append(invalidPanels(), panels...) {
		unchanged(t, p, allOfSymmetries)
	}
}

// TestSymmetriesNew is P1: no result shares memory with an argument or with another result, also where a symmetry
// moves a panel to itself.
func TestSymmetriesNew(t *testing.T) {
	for _, p := range []impl.Panel{panelOf(1, 1), panelOf(2, 1, 1), plain(2, 2), panelOf(2, 2, 0, 0, 0, 1), mixedPanel(3, 4), mixedPanel(8, 8)} {
		want := allOfSymmetries(p)
		for sym := range int64(8) {
			moved, _ := impl.MapPanel(p, sym)
			even, _ := impl.SymmetricPanel(p, sym)
			least, _ := impl.CanonicalPanel(p)
			list, _ := impl.SymmetriesOf(p)
			points, _ := impl.PointOrbit(p, pt(0, 1))
			wantMoved := panelOf(moved.W, moved.H, slices.Clone(moved.Breaks)...)
			wantEven := panelOf(even.W, even.H, slices.Clone(even.Breaks)...)
			spoil(list)
			spoil(least.Breaks)
			samePanel(t, "MapPanel beside a spoilt result", moved, wantMoved)
			spoil(moved.Breaks)
			samePanel(t, "SymmetricPanel beside spoilt results", even, wantEven)
			spoil(even.Breaks)
			for k := range points[:cap(points)] {
				points[:cap(points)][k] = pt(99, 99)
			}
			same(t, fmt.Sprint("told again of ", p), allOfSymmetries(p), want)
		}
	}
}
