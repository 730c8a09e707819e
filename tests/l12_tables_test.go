package tests

import (
	"fmt"
	"math"
	"runtime"
	"slices"
	"sync"
	"testing"
	"time"

	"loop.example/g00931/impl"
)

// tableSize is a size with tables.
type tableSize struct{ w, h, count int64 }

// tableSizes are all sizes with at most MaxTabled panels, and the numbers of these.
var tableSizes = []tableSize{
	{1, 1, 1},
	{2, 1, 3}, {3, 1, 9}, {4, 1, 27}, {5, 1, 81}, {6, 1, 243}, {7, 1, 729}, {8, 1, 2187},
	{1, 2, 3}, {1, 3, 9}, {1, 4, 27}, {1, 5, 81}, {1, 6, 243}, {1, 7, 729}, {1, 8, 2187},
	{2, 2, 81}, {3, 2, 2187}, {2, 3, 2187},
}

// isTabled tells whether a size is one of them.
func isTabled(w, h int64) bool {
	return slices.ContainsFunc(tableSizes, func(s tableSize) bool { return s.w == w && s.h == h })
}

// fullSizes are all other valid sizes.
func fullSizes() [][2]int64 {
	list := [][2]int64{}
	eachSize(func(w, h int64) {
		if !isTabled(w, h) {
			list = append(list, [2]int64{w, h})
		}
	})
	return list
}

// inOrder are all panels of a size by their numbers: those that begin with a break are before those that begin with a
// greater one, whatever is behind it.
func inOrder(w, h int64) []impl.Panel {
	lists := [][]int64{{}}
	for range innerByOrder(w, h) {
		longer := [][]int64{}
		for _, list := range lists {
			for kind := range int64(3) {
				longer = append(longer, append(slices.Clone(list), kind))
			}
		}
		lists = longer
	}
	panels := []impl.Panel{}
	for _, list := range lists {
		panels = append(panels, panelOf(w, h, list...))
	}
	return panels
}

// tables are what the functions of chapter 12 tell of a size.
type tables struct {
	curves    []int64
	mirrors   []int64
	mean      int64
	firsts    []impl.Panel // from 1 curve on
	canonical int64
	lines     []string
}

// tablesByWords walks all closed ways of all panels of a size.
func tablesByWords(w, h int64) tables {
	all := tables{curves: make([]int64, 1), mirrors: make([]int64, len(innerByOrder(w, h))+1)}
	sum, panels := int64(0), inOrder(w, h)
	for _, p := range panels {
		n := waysOf(p)
		sum += n
		for int64(len(all.curves)) <= n {
			all.curves = append(all.curves, 0)
		}
		all.curves[n]++
		if n == 1 {
			all.mirrors[countOf(p.Breaks, 1)+countOf(p.Breaks, 2)]++
		}
	}
	for n := int64(1); n < int64(len(all.curves)); n++ {
		k := slices.IndexFunc(panels, func(p impl.Panel) bool { return waysOf(p) == n })
		all.firsts = append(all.firsts, panels[k])
		all.lines = append(all.lines, fmt.Sprintf("%d: %d", n, all.curves[n]))
	}
	// The mean is the greatest number that is not too great.
	for (all.mean+1)*int64(len(panels)) <= 1000*sum {
		all.mean++
	}
	all.canonical = groupsOfAlike(panels)
	return all
}

// groupsOfAlike is the number of groups of alike panels: a new one begins with each panel to which no symmetry moved one
// of those before.
func groupsOfAlike(panels []impl.Panel) int64 {
	n := int64(0)
	met := map[string]bool{}
	for _, p := range panels {
		if met[fmt.Sprint(p)] {
			continue
		}
		n++
		for sym := range int64(8) {
			met[fmt.Sprint(movedByWords(p, sym))] = true
		}
	}
	return n
}

// isNumbered holds the number of a panel, and the panel with this number, against what is wanted.
func isNumbered(t *testing.T, p impl.Panel, number int64) {
	t.Helper()
	same(t, fmt.Sprint("PanelNumber of ", p), told(impl.PanelNumber(p)), told(number, impl.OK))
	q, code := impl.PanelWith(p.W, p.H, number)
	name := fmt.Sprint("PanelWith ", p.W, " ", p.H, " ", number)
	samePanel(t, name, q, p)
	same(t, "code of "+name, code, int64(impl.OK))
}

// isFirstWith holds FirstWith against a panel.
func isFirstWith(t *testing.T, curves int64, want impl.Panel) {
	t.Helper()
	p, code := impl.FirstWith(want.W, want.H, curves)
	name := fmt.Sprint("FirstWith ", want.W, " ", want.H, " ", curves)
	samePanel(t, name, p, want)
	same(t, "code of "+name, code, int64(impl.OK))
}

// noneWith and noneFirst hold PanelWith and FirstWith against a code with which nothing is told.
func noneWith(t *testing.T, w, h, number, want int64) {
	t.Helper()
	p, code := impl.PanelWith(w, h, number)
	name := fmt.Sprint("PanelWith ", w, " ", h, " ", number)
	isZero(t, name, p)
	same(t, "code of "+name, code, want)
}

func noneFirst(t *testing.T, w, h, curves, want int64) {
	t.Helper()
	p, code := impl.FirstWith(w, h, curves)
	name := fmt.Sprint("FirstWith ", w, " ", h, " ", curves)
	isZero(t, name, p)
	same(t, "code of "+name, code, want)
}

// isTables holds all tables of a size against those wanted.
func isTables(t *testing.T, w, h int64, want tables) {
	t.Helper()
	name := fmt.Sprint(" of ", w, " ", h)
	list, code := impl.CurveTable(w, h)
	isList(t, "CurveTable"+name, list, code, want.curves, impl.OK)
	list, code = impl.MirrorTable(w, h)
	isList(t, "MirrorTable"+name, list, code, want.mirrors, impl.OK)
	same(t, "MeanCurves"+name, told(impl.MeanCurves(w, h)), told(want.mean, impl.OK))
	for k, p := range want.firsts {
		isFirstWith(t, int64(k)+1, p)
	}
	noneFirst(t, w, h, int64(len(want.firsts))+1, impl.ErrNotFound)
	same(t, "CanonicalCount"+name, told(impl.CanonicalCount(w, h)), told(want.canonical, impl.OK))
	lines, code := impl.TableLines(w, h)
	isLines(t, "TableLines"+name, lines, code, want.lines...)
}

// TestTableConstant: the limit is that of chapter 12.
func TestTableConstant(t *testing.T) {
	same(t, "limit", int64(impl.MaxTabled), int64(2500))
}

// TestTableExample is the example of chapter 12, with what the other functions tell of it.
func TestTableExample(t *testing.T) {
	same(t, "panels", told(impl.PanelCount(2, 1)), told(3, impl.OK))
	list, code := impl.CurveTable(2, 1)
	isList(t, "CurveTable", list, code, []int64{0, 2, 1}, impl.OK)
	lines, code := impl.TableLines(2, 1)
	isLines(t, "TableLines", lines, code, "1: 2", "2: 1")
	for number, curves := range []int64{1, 2, 1} {
		p, code := impl.PanelWith(2, 1, int64(number))
		same(t, "code of PanelWith", code, int64(impl.OK))
		same(t, "curves", told(impl.CountCurves(p)), told(curves, impl.OK))
	}
}

// TestPanelCount takes all sizes: those with at most MaxTabled panels, of which there are as many as lists of breaks, the
// first ones beyond them in both directions, and all others, also those whose numbers fit in no int64.
func TestPanelCount(t *testing.T) {
	for _, s := range tableSizes {
		name := fmt.Sprint("PanelCount of ", s.w, " ", s.h)
		same(t, name, told(impl.PanelCount(s.w, s.h)), told(s.count, impl.OK))
		same(t, "panels for "+name, len(inOrder(s.w, s.h)), int(s.count))
	}
	// The first numbers beyond MaxTabled are those of 10 points.
	for _, s := range [][2]int64{{4, 2}, {2, 4}, {3, 3}, {5, 2}, {2, 5}, {8, 2}, {2, 8}, {4, 3}, {3, 4}, {8, 7}, {7, 8}, {8, 8}} {
		same(t, fmt.Sprint("PanelCount of ", s), told(impl.PanelCount(s[0], s[1])), told(0, impl.ErrFull))
	}
	for _, s := range fullSizes() {
		same(t, fmt.Sprint("PanelCount of ", s), told(impl.PanelCount(s[0], s[1])), told(0, impl.ErrFull))
		if n := len(innerByOrder(s[0], s[1])); n < 10 {
			t.Errorf("a size of %d points has tables", n)
		}
	}
	same(t, "sizes", len(tableSizes)+len(fullSizes()), 64)
}

// TestPanelNumbersWritten writes numbers out: the first break is the most significant digit, and the last one the least
// significant one.
func TestPanelNumbersWritten(t *testing.T) {
	for text, number := range map[string]int64{
		"1x1:": 0, "2x1:+": 0, "2x1:|": 1, "2x1:-": 2, "1x2:+": 0, "1x2:|": 1, "1x2:-": 2,
		"3x1:++": 0, "3x1:+|": 1, "3x1:+-": 2, "3x1:|+": 3, "3x1:||": 4, "3x1:|-": 5, "3x1:-+": 6, "3x1:-|": 7, "3x1:--": 8,
		"1x3:+|": 1, "1x3:|+": 3, "1x3:-|": 7, "1x3:|-": 5,
		"4x1:|+-": 11, "4x1:-+|": 19, "1x4:-|+": 21, "5x1:|+++": 27, "5x1:++-|": 7,
		"2x2:++++": 0, "2x2:+++|": 1, "2x2:++|+": 3, "2x2:+|++": 9, "2x2:|+++": 27, "2x2:-+++": 54, "2x2:|--|": 52, "2x2:+--|": 25, "2x2:-|+-": 65, "2x2:----": 80,
		"3x2:+++++++": 0, "3x2:++++++|": 1, "3x2:|++++++": 729, "3x2:-++++++": 1458, "3x2:||---||": 1210, "3x2:-------": 2186, "2x3:|+++++-": 731, "2x3:-|+|-|+": 1749,
		"8x1:+++++++": 0, "8x1:|||||||": 1093, "8x1:-------": 2186, "8x1:|-|-|-|": 1366, "1x8:------+": 2184, "1x8:+------": 728,
	} {
		isNumbered(t, fromText(t, text), number)
	}
}

// TestPanelNumbers is P12: each panel of a size has its number, all of them in order, and none is left.
func TestPanelNumbers(t *testing.T) {
	for _, s := range tableSizes {
		for number, p := range inOrder(s.w, s.h) {
			isNumbered(t, p, int64(number))
		}
		for _, p := range allPanels(s.w, s.h) {
			number, code := impl.PanelNumber(p)
			if code != impl.OK || number < 0 || number >= s.count {
				t.Errorf("PanelNumber of %v: got %d %d", p, number, code)
			}
			isNumbered(t, p, number)
		}
		first, last := plain(s.w, s.h), plain(s.w, s.h)
		for k := range last.Breaks {
			last.Breaks[k] = 2
		}
		isNumbered(t, first, 0)
		isNumbered(t, last, s.count-1)
	}
}

// TestPanelWithNone: numbers on both sides of those of panels, also those that differ from one only by a multiple of the
// number of panels, or in their upper bits.
func TestPanelWithNone(t *testing.T) {
	for _, s := range tableSizes {
		list := append(numbersBeside(s.count), -2, s.count+2, 3*s.count, 3*s.count-1, 2500, 2501, 6560, 6561, 1<<32, 1<<32+1, math.MinInt64+s.count, math.MinInt64+1)
		for _, number := range list {
			if number < 0 || number >= s.count {
				noneWith(t, s.w, s.h, number, impl.ErrNotFound)
			}
		}
		for number := int64(1); number < 100; number++ {
			noneWith(t, s.w, s.h, -number, impl.ErrNotFound)
			noneWith(t, s.w, s.h, s.count-1+number, impl.ErrNotFound)
		}
	}
}

// TestPanelNumberErrors: panels of sizes with too many panels, and before that, panels that are not valid: also those of
// such sizes.
func TestPanelNumberErrors(t *testing.T) {
	for _, s := range fullSizes() {
		w, h := s[0], s[1]
		for _, p := range []impl.Panel{plain(w, h), mixedPanel(w, h), smallCircles(w, h)} {
			same(t, fmt.Sprint("PanelNumber of ", p), told(impl.PanelNumber(p)), told(0, impl.ErrFull))
		}
		wrong := mixedPanel(w, h)
		for _, kind := range noKinds() {
			wrong.Breaks[len(wrong.Breaks)-1] = kind
			same(t, fmt.Sprint("PanelNumber of ", wrong), told(impl.PanelNumber(wrong)), told(0, impl.ErrInvalid))
		}
		for _, q := range []impl.Panel{panelOf(w, h), panelOf(w, h, 0), panelOf(w, h, append(mixedPanel(w, h).Breaks, 0)...), panelOf(w, h, mixedPanel(w, h).Breaks[1:]...)} {
			same(t, fmt.Sprint("PanelNumber of ", q), told(impl.PanelNumber(q)), told(0, impl.ErrInvalid))
		}
	}
	for _, p := range invalidPanels() {
		same(t, fmt.Sprint("PanelNumber of ", p), told(impl.PanelNumber(p)), told(0, impl.ErrInvalid))
	}
	for _, s := range tableSizes {
		q := panelOf(s.w, s.h, append(mixedPanel(s.w, s.h).Breaks, 0)...)
		same(t, fmt.Sprint("PanelNumber of ", q), told(impl.PanelNumber(q)), told(0, impl.ErrInvalid))
		for k := range mixedPanel(s.w, s.h).Breaks {
			for _, kind := range noKinds() {
				p := mixedPanel(s.w, s.h)
				p.Breaks[k] = kind
				same(t, fmt.Sprint("PanelNumber of ", p), told(impl.PanelNumber(p)), told(0, impl.ErrInvalid))
			}
		}
	}
}

// TestTables holds all tables against walking in all panels.
func TestTables(t *testing.T) {
	for _, s := range tableSizes {
		isTables(t, s.w, s.h, tablesByWords(s.w, s.h))
	}
}

// TestTablesWritten writes tables out. In a panel of 2 by 2, the four inner points are around its middle, and two lines
// lead from each one to each neighbour. A mirror that parts neighbours cuts this ring, so that there are as many curves as
// such mirrors; without any, there are two curves if there is an even number of crossings, and one if it is odd. The
// tables of 3 by 2 and 2 by 3 were computed by a script.
func TestTablesWritten(t *testing.T) {
	for _, c := range []struct {
		w, h            int64
		curves, mirrors []int64
		mean            int64
		firsts          []string
		canonical       int64
		lines           []string
	}{
		{1, 1, []int64{0, 1}, []int64{1}, 1000, []string{""}, 1, []string{"1: 1"}},
		{2, 1, []int64{0, 2, 1}, []int64{1, 1}, 1333, []string{"+", "|"}, 3, []string{"1: 2", "2: 1"}},
		{1, 2, []int64{0, 2, 1}, []int64{1, 1}, 1333, []string{"+", "-"}, 3, []string{"1: 2", "2: 1"}},
		{3, 1, []int64{0, 4, 4, 1}, []int64{1, 2, 1}, 1666, []string{"++", "+|", "||"}, 6, []string{"1: 4", "2: 4", "3: 1"}},
		{1, 3, []int64{0, 4, 4, 1}, []int64{1, 2, 1}, 1666, []string{"++", "+-", "--"}, 6, []string{"1: 4", "2: 4", "3: 1"}},
		{4, 1, []int64{0, 8, 12, 6, 1}, []int64{1, 3, 3, 1}, 2000, []string{"+++", "++|", "+||", "|||"}, 18, []string{"1: 8", "2: 12", "3: 6", "4: 1"}},
		{8, 1, []int64{0, 128, 448, 672, 560, 280, 84, 14, 1}, []int64{1, 7, 21, 35, 35, 21, 7, 1}, 3333,
			[]string{"+++++++", "++++++|", "+++++||", "++++|||", "+++||||", "++|||||", "+||||||", "|||||||"}, 1134,
			[]string{"1: 128", "2: 448", "3: 672", "4: 560", "5: 280", "6: 84", "7: 14", "8: 1"}},
		{1, 8, []int64{0, 128, 448, 672, 560, 280, 84, 14, 1}, []int64{1, 7, 21, 35, 35, 21, 7, 1}, 3333,
			[]string{"+++++++", "++++++-", "+++++--", "++++---", "+++----", "++-----", "+------", "-------"}, 1134,
			[]string{"1: 128", "2: 448", "3: 672", "4: 560", "5: 280", "6: 84", "7: 14", "8: 1"}},
		{2, 2, []int64{0, 40, 32, 8, 1}, []int64{0, 8, 12, 16, 4}, 1629, []string{"+++|", "++++", "+--|", "|--|"}, 21, []string{"1: 40", "2: 32", "3: 8", "4: 1"}},
		{3, 2, []int64{0, 768, 896, 408, 100, 14, 1}, []int64{1, 7, 51, 149, 227, 213, 105, 15}, 1947,
			[]string{"+++++++", "++++++|", "++++-+|", "++---||", "+|---||", "||---||"}, 648, []string{"1: 768", "2: 896", "3: 408", "4: 100", "5: 14", "6: 1"}},
		{2, 3, []int64{0, 768, 896, 408, 100, 14, 1}, []int64{1, 7, 51, 149, 227, 213, 105, 15}, 1947,
			[]string{"+++++++", "++++++|", "+++++-|", "++++--|", "+--|--|", "|--|--|"}, 648, []string{"1: 768", "2: 896", "3: 408", "4: 100", "5: 14", "6: 1"}},
	} {
		want := tables{curves: c.curves, mirrors: c.mirrors, mean: c.mean, canonical: c.canonical, lines: c.lines}
		for _, text := range c.firsts {
			want.firsts = append(want.firsts, fromText(t, fmt.Sprintf("%dx%d:%s", c.w, c.h, text)))
		}
		isTables(t, c.w, c.h, want)
	}
}

// TestTablesOfStrips holds the tables of panels of the height 1, and of the width 1, against formulas: there is one curve
// more than mirrors across the strip, each other point has one of two kinds, and the mean number of such mirrors is a
// third of the points. A strip is alike to the one with its points from behind, and half of the points may be chosen for
// one that is like itself.
func TestTablesOfStrips(t *testing.T) {
	for n := range int64(8) {
		for _, kind := range []int64{impl.BreakUpright, impl.BreakLevel} {
			want := tables{curves: []int64{0}, mean: 1000 + 1000*n/3, canonical: (powerOfThree(n) + powerOfThree((n+1)/2)) / 2}
			w, h := n+1, int64(1)
			if kind == impl.BreakLevel {
				w, h = h, w
			}
			for across := range n + 1 {
				ways := choices(n, across) << (n - across)
				want.curves = append(want.curves, ways)
				want.lines = append(want.lines, fmt.Sprintf("%d: %d", across+1, ways))
				// With one curve, all mirrors lie along the strip: here there are as many of them.
				want.mirrors = append(want.mirrors, choices(n, across))
				p := plain(w, h)
				for k := n - across; k < n; k++ {
					p.Breaks[k] = kind
				}
				want.firsts = append(want.firsts, p)
			}
			isTables(t, w, h, want)
		}
	}
}

// powerOfThree is the number of lists of n breaks.
func powerOfThree(n int64) int64 {
	if n == 0 {
		return 1
	}
	return 3 * powerOfThree(n-1)
}

// TestTableSums is P12, as the functions tell it: each panel is in the tables once. CurveTable adds up to PanelCount, it
// ends at the greatest number that occurs, and no panel has 0 curves; MirrorTable has an entry for each number of mirrors
// and adds up to the panels with one curve; TableLines and MeanCurves tell what CurveTable tells; and FirstWith finds a
// panel just where CurveTable has one.
func TestTableSums(t *testing.T) {
	for _, s := range tableSizes {
		name := fmt.Sprint(" of ", s.w, " ", s.h)
		curves, code := impl.CurveTable(s.w, s.h)
		same(t, "code of CurveTable"+name, code, int64(impl.OK))
		mirrors, code := impl.MirrorTable(s.w, s.h)
		same(t, "code of MirrorTable"+name, code, int64(impl.OK))
		lines, weighted := []string{}, int64(0)
		for k, n := range curves {
			if k > 0 {
				lines = append(lines, fmt.Sprint(k, ": ", n))
			}
			weighted += int64(k) * n
			p, code := impl.FirstWith(s.w, s.h, int64(k))
			same(t, fmt.Sprint("found ", k, name), code == impl.OK, n > 0)
			if n > 0 {
				same(t, fmt.Sprint("curves of ", p), told(impl.CountCurves(p)), told(int64(k), impl.OK))
			}
		}
		got, code := impl.TableLines(s.w, s.h)
		isLines(t, "TableLines"+name, got, code, lines...)
		same(t, "PanelCount"+name, told(impl.PanelCount(s.w, s.h)), told(sumOf(curves), impl.OK))
		same(t, "the first entry"+name, curves[0], int64(0))
		same(t, "there is a last entry"+name, curves[len(curves)-1] > 0, true)
		same(t, "entries of MirrorTable"+name, len(mirrors), len(innerByOrder(s.w, s.h))+1)
		same(t, "the sum of MirrorTable"+name, sumOf(mirrors), curves[1])
		same(t, "MeanCurves"+name, told(impl.MeanCurves(s.w, s.h)), told(1000*weighted/s.count, impl.OK))
	}
}

// sumOf adds the elements of a list.
func sumOf(list []int64) int64 {
	n := int64(0)
	for _, k := range list {
		n += k
	}
	return n
}

// TestTablesByPanels counts the panels that PanelWith tells, with the functions of the other chapters.
func TestTablesByPanels(t *testing.T) {
	for _, s := range tableSizes {
		curves, mirrors, sum := make([]int64, 20), make([]int64, len(innerByOrder(s.w, s.h))+1), int64(0)
		alike := map[string]bool{}
		for number := range s.count {
			p, _ := impl.PanelWith(s.w, s.h, number)
			n, _ := impl.CountCurves(p)
			curves[n]++
			sum += n
			if n == 1 {
				upright, _ := impl.CountBreaks(p, impl.BreakUpright)
				level, _ := impl.CountBreaks(p, impl.BreakLevel)
				mirrors[upright+level]++
			}
			c, _ := impl.CanonicalPanel(p)
			alike[impl.PanelText(c)] = true
		}
		name := fmt.Sprint(" of ", s.w, " ", s.h)
		list, code := impl.CurveTable(s.w, s.h)
		isList(t, "CurveTable"+name, append(list, make([]int64, 20-len(list))...), code, curves, impl.OK)
		list, code = impl.MirrorTable(s.w, s.h)
		isList(t, "MirrorTable"+name, list, code, mirrors, impl.OK)
		same(t, "MeanCurves"+name, told(impl.MeanCurves(s.w, s.h)), told(1000*sum/s.count, impl.OK))
		same(t, "CanonicalCount"+name, told(impl.CanonicalCount(s.w, s.h)), told(int64(len(alike)), impl.OK))
	}
}

// TestCanonicalCount: there are as many groups as panels that are kept by a symmetry of the size, on the average over
// these symmetries: 8 of a square, and 4 of another size. Sizes whose sides are exchanged have equally many groups; and
// for small sizes, no two of as many panels are alike, and each panel is alike to one of them.
func TestCanonicalCount(t *testing.T) {
	for _, s := range tableSizes {
		syms := int64(4)
		if s.w == s.h {
			syms = 8
		}
		kept := int64(0)
		for _, p := range inOrder(s.w, s.h) {
			kept += int64(len(keptBy(p)))
		}
		n, code := impl.CanonicalCount(s.w, s.h)
		name := fmt.Sprint("CanonicalCount of ", s.w, " ", s.h)
		same(t, name, told(n*syms, code), told(kept, impl.OK))
		same(t, name+" exchanged", told(impl.CanonicalCount(s.h, s.w)), told(n, impl.OK))
		if s.count > 243 {
			continue
		}
		found := []impl.Panel{}
		for number := range s.count {
			p, _ := impl.PanelWith(s.w, s.h, number)
			if !slices.ContainsFunc(found, func(q impl.Panel) bool { return impl.AlikePanels(p, q) }) {
				found = append(found, p)
			}
		}
		same(t, name+" by pairs", n, int64(len(found)))
	}
}

// TestFirstWithNone: numbers of curves that no panel of a size has; and with each other number, no panel before the first
// one has so many curves.
func TestFirstWithNone(t *testing.T) {
	for _, s := range tableSizes {
		// There are at most as many curves as squares.
		most := s.w * s.h
		for _, curves := range append(edgeNumbers, most+1, most+2, 2*most, -most, 999, 1000, 1001, 1<<32, 1<<32+1, math.MinInt64+most) {
			if curves < 1 || curves > most {
				noneFirst(t, s.w, s.h, curves, impl.ErrNotFound)
			}
		}
		panels := inOrder(s.w, s.h)
		for curves := int64(1); curves <= most; curves++ {
			first := slices.IndexFunc(panels, func(p impl.Panel) bool { return waysOf(p) == curves })
			isFirstWith(t, curves, panels[first])
			same(t, "its number", told(impl.PanelNumber(panels[first])), told(int64(first), impl.OK))
		}
	}
}

// isTableCode holds all functions for a size against a code with which nothing is told.
func isTableCode(t *testing.T, w, h, want int64) {
	t.Helper()
	name := fmt.Sprint(" of ", w, " ", h)
	none := told(0, want)
	same(t, "PanelCount"+name, told(impl.PanelCount(w, h)), none)
	list, code := impl.CurveTable(w, h)
	isList(t, "CurveTable"+name, list, code, nil, want)
	list, code = impl.MirrorTable(w, h)
	isList(t, "MirrorTable"+name, list, code, nil, want)
	same(t, "MeanCurves"+name, told(impl.MeanCurves(w, h)), none)
	same(t, "CanonicalCount"+name, told(impl.CanonicalCount(w, h)), none)
	lines, code := impl.TableLines(w, h)
	noLines(t, "TableLines"+name, lines, code, want)
	// No number matters, whether it is that of a panel, or of curves, or not.
	for _, n := range append([]int64{4, 80, 81, 2186, 2187, 2500}, edgeNumbers...) {
		noneWith(t, w, h, n, want)
		noneFirst(t, w, h, n, want)
	}
}

// TestTableRange: sides that are not 1 to MaxSide, on both sides of these, each with a side that is right and one that is
// not; they are found before it is that there are too many panels.
func TestTableRange(t *testing.T) {
	sides := slices.DeleteFunc(append([]int64{12, 64, 1 << 32, 1<<32 + 1, 1<<62 + 1}, edgeNumbers...), func(n int64) bool { return n >= 1 && n <= 8 })
	for _, side := range sides {
		for other := int64(1); other <= 8; other++ {
			isTableCode(t, side, other, impl.ErrRange)
			isTableCode(t, other, side, impl.ErrRange)
		}
		for _, other := range sides {
			isTableCode(t, side, other, impl.ErrRange)
		}
	}
	for _, side := range []int64{0, -1, 9} {
		same(t, fmt.Sprint(side, " is one of these sides"), slices.Contains(sides, side), true)
	}
}

// TestTableFull: all sizes with too many panels, up to MaxSide; it is found before it is that there is no panel with a
// number, or with a number of curves.
func TestTableFull(t *testing.T) {
	for _, s := range fullSizes() {
		isTableCode(t, s[0], s[1], impl.ErrFull)
	}
}

// allOfTables tells what all functions of chapter 12 return for the size of a panel and many other arguments.
func allOfTables(p impl.Panel) []string {
	w, h := p.W, p.H
	curves, one := impl.CurveTable(w, h)
	mirrors, two := impl.MirrorTable(w, h)
	lines, three := impl.TableLines(w, h)
	out := append([]string{fmt.Sprint(curves, one, mirrors, two, three)}, lines...)
	out = append(out, fmt.Sprint(told(impl.PanelNumber(p)), told(impl.PanelCount(w, h)), told(impl.MeanCurves(w, h)), told(impl.CanonicalCount(w, h))))
	for _, k := range append([]int64{80, 81, 2186, 2187}, edgeNumbers...) {
		q, one := impl.PanelWith(w, h, k)
		r, two := impl.FirstWith(w, h, k)
		out = append(out, fmt.Sprint(q, one, r, two))
	}
	return out
}

// tablePanels are panels of sizes with tables, and of others.
func tablePanels() []impl.Panel {
	return []impl.Panel{panelOf(1, 1), panelOf(2, 1, 1), panelOf(1, 2, 2), mixedPanel(4, 1), mixedPanel(2, 2), mixedPanel(3, 2), mixedPanel(1, 8), mixedPanel(3, 3), mixedPanel(8, 8)}
}

// TestTablesUnchanged is P1: PanelNumber does not change the panel, nor what lies behind its list in memory, and all
// functions of chapter 12 tell the same again, whatever the order is in which the panels are counted.
func TestTablesUnchanged(t *testing.T) {
	for _, p := range append(invalidPanels(), tablePanels()...) {
		for range 3 {
			unchanged(t, p, allOfTables)
		}
	}
}

// listsOfTables are all lists of numbers that the functions of chapter 12 return for the size of a panel.
func listsOfTables(p impl.Panel) [][]int64 {
	curves, _ := impl.CurveTable(p.W, p.H)
	mirrors, _ := impl.MirrorTable(p.W, p.H)
	list := [][]int64{curves, mirrors}
	for n := range int64(4) {
		q, _ := impl.PanelWith(p.W, p.H, n)
		r, _ := impl.FirstWith(p.W, p.H, n)
		list = append(list, q.Breaks, r.Breaks)
	}
	return list
}

// TestTablesNew is P1: no list of a result shares memory with another one.
func TestTablesNew(t *testing.T) {
	for _, p := range tablePanels() {
		first, second := listsOfTables(p), listsOfTables(p)
		want := [][]int64{}
		for _, list := range first {
			want = append(want, slices.Clone(list))
		}
		lines, code := impl.TableLines(p.W, p.H)
		wantLines := slices.Clone(lines)
		for k := range lines[:cap(lines)] {
			lines[:cap(lines)][k] = "spoilt"
		}
		for k, list := range first {
			isList(t, fmt.Sprint("the list ", k, " of ", p, " after those before were spoilt"), list, 0, want[k], 0)
			spoil(list)
		}
		for k, list := range append(second, listsOfTables(p)...) {
			isList(t, fmt.Sprint("the list ", k, " of another result of ", p), list, 0, want[k%len(want)], 0)
		}
		if code == impl.OK {
			lines, code = impl.TableLines(p.W, p.H)
			isLines(t, fmt.Sprint("TableLines again of ", p), lines, code, wantLines...)
		}
	}
}

// TestTablesAtOnce is P1: tables that are made at the same time do not disturb each other, and when they have been
// returned, nothing of them goes on.
func TestTablesAtOnce(t *testing.T) {
	before := runtime.NumGoroutine()
	p := mixedPanel(3, 2)
	want := allOfTables(p)
	var callers sync.WaitGroup
	for range 8 {
		callers.Go(func() {
			for range 3 {
				same(t, "at once", allOfTables(p), want)
			}
		})
	}
	callers.Wait()
	// A worker that has told that it is done may still be about to end.
	for range 200 {
		if runtime.NumGoroutine() <= before {
			return
		}
		time.Sleep(10 * time.Millisecond)
	}
	t.Errorf("%d goroutines are left, and there were %d before", runtime.NumGoroutine(), before)
}
