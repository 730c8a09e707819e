package tests

import (
	"fmt"
	"math"
	"math/rand"
	"slices"
	"testing"

	"loop.example/g00931/impl"
)

// breakGrid has the break at each inner point, by Y and X, where a border is a mirror that lies along it.
type breakGrid [17][17]int64

func gridOf(p impl.Panel) *breakGrid {
	g := &breakGrid{}
	for y := range 2*p.H + 1 {
		g[y][0], g[y][2*p.W] = impl.BreakUpright, impl.BreakUpright
	}
	for x := range 2*p.W + 1 {
		if x%2 == 1 {
			g[0][x], g[2*p.H][x] = impl.BreakLevel, impl.BreakLevel
		}
	}
	for k, at := range innerByOrder(p.W, p.H) {
		g[at.Y][at.X] = p.Breaks[k]
	}
	return g
}

// ways is the number of closed ways: one begins on each segment that has not been walked, to the right, and goes on
// until it is back.
func (g *breakGrid) ways(w, h int64) int64 {
	n := int64(0)
	walked := [17][17]bool{} // by the upper left corners of segments
	for x := range 2 * w {
		for y := range 2 * h {
			if walked[y][x] {
				continue
			}
			n++
			v := leaving(x, y, 1, 1)
			if (x+y)%2 == 0 {
				v = leaving(x, y+1, 1, -1)
			}
			for first := v; !walked[y][x] || v != first; {
				to := nextOf(v)
				walked[min(v.At.Y, to.Y)][min(v.At.X, to.X)] = true
				v.At = to
				switch g[to.Y][to.X] {
				case impl.BreakUpright:
					v.DX = -v.DX
				case impl.BreakLevel:
					v.DY = -v.DY
				}
			}
		}
	}
	return n
}

// waysOf is the number of closed ways of a panel.
func waysOf(p impl.Panel) int64 { return gridOf(p).ways(p.W, p.H) }

// outcomesByWords walks all closed ways of a panel after each change of each inner point.
func outcomesByWords(p impl.Panel) [][]int64 {
	g := gridOf(p)
	list := [][]int64{}
	for k, at := range innerByOrder(p.W, p.H) {
		n := make([]int64, 3)
		for kind := range n {
			g[at.Y][at.X] = int64(kind)
			n[kind] = g.ways(p.W, p.H)
		}
		g[at.Y][at.X] = p.Breaks[k]
		list = append(list, n)
	}
	return list
}

// change is a change of a break, by the number of its point.
type change struct{ number, kind int64 }

// firstByWords is the change after which the number of curves is nearest to curves, and whether it is nearer than the
// number of curves of the panel.
func firstByWords(p impl.Panel, outcomes [][]int64, curves int64) (change, bool) {
	best, first := distance(waysOf(p), curves), change{number: -1}
	for k, n := range outcomes {
		for kind, after := range n {
			if d := distance(after, curves); d < best {
				best, first = d, change{number: int64(k), kind: int64(kind)}
			}
		}
	}
	return first, first.number >= 0
}

func distance(a, b int64) int64 {
	if a < b {
		return b - a
	}
	return a - b
}

// changesByWords makes the change of firstByWords again and again until there are so many curves.
func changesByWords(p impl.Panel, curves int64) (impl.Panel, int64, bool) {
	q := panelOf(p.W, p.H, slices.Clone(p.Breaks)...)
	for n := int64(0); ; n++ {
		if waysOf(q) == curves {
			return q, n, true
		}
		c, ok := firstByWords(q, outcomesByWords(q), curves)
		if !ok {
			return impl.Panel{}, 0, false
		}
		q.Breaks[c.number] = c.kind
	}
}

// numbersOfCurve are the numbers of the inner points among the points of a curve, ascending.
func numbersOfCurve(p impl.Panel, points []impl.Point) []int64 {
	list := []int64{}
	for k, at := range innerByOrder(p.W, p.H) {
		if slices.Contains(points, at) {
			list = append(list, int64(k))
		}
	}
	return list
}

// inBoth are the elements of a that are elements of b as well.
func inBoth(a, b []int64) []int64 {
	return slices.DeleteFunc(slices.Clone(a), func(k int64) bool { return !slices.Contains(b, k) })
}

// isList fails the test unless a list and its code are those wanted, where a nil list is as an empty one.
func isList(t *testing.T, name string, list []int64, code int64, want []int64, wantCode int64) {
	t.Helper()
	if !slices.Equal(list, want) || code != wantCode {
		t.Errorf("%s: got %v %d, want %v %d", name, list, code, want, wantCode)
	}
}

// isJoining, isDividing, isEffects, isCurvePoints and isShared hold one function against a list, with OK.
func isJoining(t *testing.T, p impl.Panel, want ...int64) {
	t.Helper()
	list, code := impl.JoiningPoints(p)
	isList(t, fmt.Sprint("JoiningPoints of ", p), list, code, want, impl.OK)
}

func isDividing(t *testing.T, p impl.Panel, want ...int64) {
	t.Helper()
	list, code := impl.DividingPoints(p)
	isList(t, fmt.Sprint("DividingPoints of ", p), list, code, want, impl.OK)
}

func isEffects(t *testing.T, p impl.Panel, at impl.Point, want ...int64) {
	t.Helper()
	list, code := impl.EffectsAt(p, at)
	isList(t, fmt.Sprint("EffectsAt ", at, " of ", p), list, code, want, impl.OK)
}

func isCurvePoints(t *testing.T, p impl.Panel, curve int64, want ...int64) {
	t.Helper()
	list, code := impl.CurvePoints(p, curve)
	isList(t, fmt.Sprint("CurvePoints of ", curve, " in ", p), list, code, want, impl.OK)
}

func isShared(t *testing.T, p impl.Panel, a, b int64, want ...int64) {
	t.Helper()
	for _, pair := range [][2]int64{{a, b}, {b, a}} {
		list, code := impl.SharedPoints(p, pair[0], pair[1])
		isList(t, fmt.Sprint("SharedPoints of ", pair, " in ", p), list, code, want, impl.OK)
	}
}

// isFirst holds FirstChange against a change, or ErrNotFound if there is none.
func isFirst(t *testing.T, p impl.Panel, curves int64, want change, ok bool) {
	t.Helper()
	at, kind, code := impl.FirstChange(p, curves)
	wanted := []any{impl.Point{}, int64(0), int64(impl.ErrNotFound)}
	if ok {
		wanted = []any{innerByOrder(p.W, p.H)[want.number], want.kind, int64(impl.OK)}
	}
	same(t, fmt.Sprint("FirstChange of ", p, " to ", curves), []any{at, kind, code}, wanted)
}

// isSteps holds StepsTo against a panel and a number of changes, or ErrNotFound if there is none.
func isSteps(t *testing.T, p impl.Panel, curves int64, want impl.Panel, steps int64, ok bool) {
	t.Helper()
	q, n, code := impl.StepsTo(p, curves)
	name := fmt.Sprint("StepsTo of ", p, " to ", curves)
	samePanel(t, name, q, want)
	if ok {
		same(t, name, told(n, code), told(steps, impl.OK))
	} else {
		same(t, name, told(n, code), told(0, impl.ErrNotFound))
	}
}

// changeSizes are sizes of which many panels are taken.
func changeSizes() [][2]int64 {
	return [][2]int64{{2, 3}, {3, 2}, {3, 3}, {4, 3}, {2, 8}, {8, 3}, {5, 6}, {7, 8}, {8, 8}}
}

// changePanels are panels of all sizes, all panels of small ones, and some of other ones with breaks as they come.
func changePanels() []impl.Panel {
	list := symPanels()
	random := rand.New(rand.NewSource(10))
	for _, s := range changeSizes() {
		for mirrors := range 7 {
			p := plain(s[0], s[1])
			for k := range p.Breaks {
				if random.Intn(6) < mirrors {
					p.Breaks[k] = int64(1 + random.Intn(2))
				}
			}
			list = append(list, p)
		}
	}
	return slices.Concat(list, allPanels(4, 1), allPanels(1, 4))
}

// TestChangeExample is the example of chapter 10, with what the other functions tell of it.
func TestChangeExample(t *testing.T) {
	p := fromText(t, "2x1:+")
	same(t, "EffectOf", told(impl.EffectOf(p, pt(2, 1), impl.BreakUpright)), told(1, impl.OK))
	same(t, "curves", told(impl.CountCurves(p)), told(1, impl.OK))
	isEffects(t, p, pt(2, 1), 1, 2, 1)
	isJoining(t, p)
	isDividing(t, p, 0)
	isCurvePoints(t, p, 0, 0)
	isFirst(t, p, 2, change{0, impl.BreakUpright}, true)
	isSteps(t, p, 2, fromText(t, "2x1:|"), 1, true)
	same(t, "DistanceOf", told(impl.DistanceOf(p, fromText(t, "2x1:|"))), told(1, impl.OK))
}

// TestWaysWalked holds the walks of this file against those of chapter 4, as what is wanted here rests on them.
func TestWaysWalked(t *testing.T) {
	for _, p := range walkPanels() {
		curves, _ := curvesByWords(p)
		same(t, fmt.Sprint("ways of ", p), waysOf(p), int64(len(curves)))
	}
}

// effectCases has for each inner point of some panels the numbers of curves for the kinds of breaks, written out.
var effectCases = []struct {
	text string
	want [][]int64
}{
	{"1x1:", nil},
	{"2x1:+", [][]int64{{1, 2, 1}}}, {"2x1:|", [][]int64{{1, 2, 1}}}, {"2x1:-", [][]int64{{1, 2, 1}}},
	{"1x2:+", [][]int64{{1, 1, 2}}}, {"1x2:|", [][]int64{{1, 1, 2}}}, {"1x2:-", [][]int64{{1, 1, 2}}},
	{"3x1:++", [][]int64{{1, 2, 1}, {1, 2, 1}}}, {"3x1:|+", [][]int64{{1, 2, 1}, {2, 3, 2}}}, {"3x1:-|", [][]int64{{2, 3, 2}, {1, 2, 1}}}, {"3x1:||", [][]int64{{2, 3, 2}, {2, 3, 2}}},
	{"1x3:--", [][]int64{{2, 2, 3}, {2, 2, 3}}}, {"1x3:|-", [][]int64{{2, 2, 3}, {1, 1, 2}}}, {"1x3:+|", [][]int64{{1, 1, 2}, {1, 1, 2}}},
	// Two curves that cross each other everywhere, and what one becomes that has been joined at the first point.
	{"2x2:++++", [][]int64{{2, 1, 1}, {2, 1, 1}, {2, 1, 1}, {2, 1, 1}}},
	{"2x2:|+++", [][]int64{{2, 1, 1}, {1, 1, 2}, {1, 1, 2}, {1, 2, 1}}},
	{"2x2:|--|", [][]int64{{3, 4, 3}, {3, 3, 4}, {3, 3, 4}, {3, 4, 3}}},
	// A ring around another one, which it touches at four mirrors.
	{"2x2:-||-", [][]int64{{1, 1, 2}, {1, 2, 1}, {1, 2, 1}, {1, 1, 2}}},
}

// TestEffectsWritten holds all functions for the changes of single points against written-out numbers of curves.
func TestEffectsWritten(t *testing.T) {
	for _, c := range effectCases {
		p := fromText(t, c.text)
		same(t, "points of "+c.text, len(c.want), len(p.Breaks))
		joining, dividing := []int64{}, []int64{}
		for k, want := range c.want {
			at := innerByOrder(p.W, p.H)[k]
			isEffects(t, p, at, want...)
			before := want[p.Breaks[k]]
			for kind, after := range want {
				name := fmt.Sprint("EffectOf ", kind, " at ", at, " of ", c.text)
				same(t, name, told(impl.EffectOf(p, at, int64(kind))), told(after-before, impl.OK))
			}
			if slices.Min(want) < before {
				joining = append(joining, int64(k))
			}
			if slices.Max(want) > before {
				dividing = append(dividing, int64(k))
			}
		}
		isJoining(t, p, joining...)
		isDividing(t, p, dividing...)
	}
}

// TestPointsWritten writes out where curves can be joined and divided: the lists themselves, with their order.
func TestPointsWritten(t *testing.T) {
	for _, c := range []struct {
		text              string
		joining, dividing []int64
	}{
		{"1x1:", nil, nil}, {"2x1:|", []int64{0}, nil}, {"2x1:-", nil, []int64{0}}, {"1x2:|", nil, []int64{0}}, {"1x2:-", []int64{0}, nil},
		{"3x1:|+", []int64{0}, []int64{1}}, {"3x1:-|", []int64{1}, []int64{0}}, {"5x1:|-+|", []int64{0, 3}, []int64{1, 2}}, {"1x5:-|+-", []int64{0, 3}, []int64{1, 2}},
		{"2x2:++++", []int64{0, 1, 2, 3}, nil}, {"2x2:|+++", nil, []int64{0, 1, 2, 3}}, {"2x2:|--|", []int64{0, 1, 2, 3}, nil}, {"2x2:-||-", []int64{0, 1, 2, 3}, nil},
	} {
		p := fromText(t, c.text)
		isJoining(t, p, c.joining...)
		isDividing(t, p, c.dividing...)
	}
	isJoining(t, plain(8, 8), numbers(112)...)
	isDividing(t, plain(8, 8))
	isJoining(t, plain(8, 7))
	isDividing(t, plain(8, 7), numbers(97)...)
	isJoining(t, smallCircles(8, 8), numbers(112)...)
	isDividing(t, smallCircles(8, 8))
	for k, at := range innerByOrder(8, 8) {
		want := []int64{63, 63, 63}
		want[smallCircles(8, 8).Breaks[k]] = 64
		isEffects(t, smallCircles(8, 8), at, want...)
		isEffects(t, plain(8, 8), at, 8, 7, 7)
	}
}

// TestEffects holds what changes of panels of all sizes do against walking after each change. EffectsAt,
// JoiningPoints and DividingPoints agree with EffectOf, which is -1, 0 or 1.
func TestEffects(t *testing.T) {
	times := map[int64]int{}
	for _, p := range changePanels() {
		joining, dividing := []int64{}, []int64{}
		before := waysOf(p)
		points := innerByOrder(p.W, p.H)
		for k, want := range outcomesByWords(p) {
			isEffects(t, p, points[k], want...)
			effects := []int64{}
			for kind, after := range want {
				effect, code := impl.EffectOf(p, points[k], int64(kind))
				same(t, fmt.Sprint("EffectOf ", kind, " at ", points[k], " of ", p), told(effect, code), told(after-before, impl.OK))
				effects = append(effects, effect)
				times[effect]++
			}
			same(t, fmt.Sprint("no change at ", points[k], " of ", p), effects[p.Breaks[k]], int64(0))
			if slices.Contains(effects, -1) {
				joining = append(joining, int64(k))
			}
			if slices.Contains(effects, 1) {
				dividing = append(dividing, int64(k))
			}
		}
		isJoining(t, p, joining...)
		isDividing(t, p, dividing...)
	}
	for effect, n := range times {
		if effect < -1 || effect > 1 || n < 5000 {
			t.Errorf("the effect %d occurs %d times", effect, n)
		}
	}
	same(t, "different effects", len(times), 3)
}

// lengthsBeside are the lengths of the curves that have segments at a point, and those of the others, ascending.
func lengthsBeside(p impl.Panel, at impl.Point) ([]int64, []int64) {
	through, _ := impl.CurvesThrough(p, at)
	lengths, _ := impl.CurveLengths(p)
	beside, others := []int64{}, []int64{}
	for curve, n := range lengths {
		if slices.Contains(through, int64(curve)) {
			beside = append(beside, n)
		} else {
			others = append(others, n)
		}
	}
	slices.Sort(beside)
	slices.Sort(others)
	return beside, others
}

// TestCurvesJoinedAndDivided is P10: with the effect -1, two curves that meet at the point become one, with 1, one
// becomes two, and with 0, as many meet there as before; no change alters the curves that are not there. So curves
// can be joined just where two meet, and one be divided just where it meets itself.
func TestCurvesJoinedAndDivided(t *testing.T) {
	for _, p := range slices.Concat(effectPanels(t), allPanels(2, 2), allPanels(3, 1)) {
		for k, at := range innerByOrder(p.W, p.H) {
			beside, others := lengthsBeside(p, at)
			for kind := range int64(3) {
				effect, code := impl.EffectOf(p, at, kind)
				q, _ := impl.SetBreak(p, at, kind)
				besideThen, othersThen := lengthsBeside(q, at)
				name := fmt.Sprint(" with ", kind, " at ", at, " of ", p)
				same(t, "curves there"+name, told(int64(len(besideThen)-len(beside)), code), told(effect, impl.OK))
				same(t, "other curves"+name, othersThen, others)
				if effect == 0 && len(beside) == 2 {
					same(t, "both curves"+name, kind, p.Breaks[k])
				}
			}
			joining, _ := impl.JoiningPoints(p)
			dividing, _ := impl.DividingPoints(p)
			same(t, fmt.Sprint("two curves at ", at, " of ", p), slices.Contains(joining, int64(k)), len(beside) == 2)
			same(t, fmt.Sprint("one curve at ", at, " of ", p), slices.Contains(dividing, int64(k)), len(beside) == 1)
		}
	}
}

// effectPanels are the panels that are written out, and some others up to the greatest one.
func effectPanels(t *testing.T) []impl.Panel {
	t.Helper()
	list := []impl.Panel{}
	for _, c := range effectCases {
		list = append(list, fromText(t, c.text))
	}
	return append(list, mixedPanel(3, 4), mixedPanel(4, 3), smallCircles(3, 3), plain(5, 3), plain(4, 6), mixedPanel(6, 6), mixedPanel(8, 8))
}

// TestCurvePointsWritten writes the points of some curves out: curves that meet at mirrors and at crossings, that
// meet themselves only, and that do not meet.
func TestCurvePointsWritten(t *testing.T) {
	isCurvePoints(t, panelOf(1, 1), 0)
	for _, c := range []struct {
		text string
		want [][]int64
	}{
		{"2x1:+", [][]int64{{0}}}, {"2x1:|", [][]int64{{0}, {0}}}, {"1x2:-", [][]int64{{0}, {0}}}, {"1x2:|", [][]int64{{0}}},
		{"3x1:||", [][]int64{{0}, {0, 1}, {1}}}, {"3x1:|+", [][]int64{{0}, {0, 1}}}, {"3x1:-|", [][]int64{{0, 1}, {1}}}, {"1x3:--", [][]int64{{0}, {0, 1}, {1}}},
		{"2x2:++++", [][]int64{{0, 1, 2, 3}, {0, 1, 2, 3}}}, {"2x2:|+++", [][]int64{{0, 1, 2, 3}}}, {"2x2:|--|", [][]int64{{0, 1}, {1, 3}, {0, 2}, {2, 3}}},
		{"2x2:-||-", [][]int64{{0, 1, 2, 3}, {0, 1, 2, 3}}},
		// The upper two circles are one curve with a crossing, and so are the left two.
		{"2x2:+--|", [][]int64{{0, 1, 2}, {1, 3}, {2, 3}}}, {"2x2:|+-|", [][]int64{{0, 1, 3}, {0, 2}, {2, 3}}},
	} {
		p := fromText(t, c.text)
		for a, points := range c.want {
			isCurvePoints(t, p, int64(a), points...)
			for b, others := range c.want[:a] {
				isShared(t, p, int64(a), int64(b), inBoth(points, others)...)
			}
		}
		_, code := impl.CurvePoints(p, int64(len(c.want)))
		same(t, "behind the last curve of "+c.text, code, int64(impl.ErrRange))
	}
}

// TestSharedPointsWritten writes points out that two curves share, also of many curves in the greatest panel.
func TestSharedPointsWritten(t *testing.T) {
	for _, c := range []struct {
		p    impl.Panel
		a, b int64
		want []int64
	}{
		{fromText(t, "2x1:|"), 0, 1, []int64{0}}, {fromText(t, "1x2:-"), 0, 1, []int64{0}},
		{fromText(t, "3x1:||"), 0, 1, []int64{0}}, {fromText(t, "3x1:||"), 1, 2, []int64{1}}, {fromText(t, "3x1:||"), 0, 2, nil},
		{fromText(t, "3x1:|+"), 0, 1, []int64{0}}, {fromText(t, "2x2:++++"), 0, 1, []int64{0, 1, 2, 3}}, {fromText(t, "2x2:|--|"), 0, 3, nil}, {fromText(t, "2x2:|--|"), 1, 2, nil},
		{smallCircles(8, 8), 0, 1, []int64{7}}, {smallCircles(8, 8), 0, 8, []int64{0}}, {smallCircles(8, 8), 0, 9, nil}, {smallCircles(8, 8), 0, 63, nil},
		{smallCircles(8, 8), 9, 10, []int64{23}}, {smallCircles(8, 8), 9, 17, []int64{16}}, {smallCircles(8, 8), 62, 63, []int64{104}}, {smallCircles(8, 8), 55, 63, []int64{111}},
	} {
		isShared(t, c.p, c.a, c.b, c.want...)
	}
	isCurvePoints(t, smallCircles(8, 8), 0, 0, 7)
	isCurvePoints(t, smallCircles(8, 8), 9, 8, 15, 16, 23)
	isCurvePoints(t, smallCircles(8, 8), 63, 104, 111)
	isCurvePoints(t, plain(8, 7), 0, numbers(97)...)
	// Each of the 8 curves crosses each other one at four points.
	for a := range int64(8) {
		list, code := impl.CurvePoints(plain(8, 8), a)
		same(t, "points of each curve", told(int64(len(list)), code), told(28, impl.OK))
		for b := range a {
			list, code = impl.SharedPoints(plain(8, 8), a, b)
			same(t, "points of each two curves", told(int64(len(list)), code), told(4, impl.OK))
		}
	}
}

// TestCurvePoints holds the points of curves of panels of all sizes against those that the curves visit when they are
// walked, and the points that two curves share against those that both visit.
func TestCurvePoints(t *testing.T) {
	meeting, apart := 0, 0
	for _, p := range changePanels() {
		curves, _ := curvesByWords(p)
		visited := [][]int64{}
		for a, points := range curves {
			visited = append(visited, numbersOfCurve(p, points))
			isCurvePoints(t, p, int64(a), visited[a]...)
			for b, others := range visited[:a] {
				shared := inBoth(others, visited[a])
				isShared(t, p, int64(a), int64(b), shared...)
				if len(shared) > 0 {
					meeting++
				} else {
					apart++
				}
			}
		}
	}
	if meeting < 1000 || apart < 1000 {
		t.Errorf("only %d pairs of curves meet, and %d do not", meeting, apart)
	}
}

// TestSharedPointsEffects: at points that two curves share, each change to another break joins them.
func TestSharedPointsEffects(t *testing.T) {
	for _, p := range effectPanels(t) {
		n, _ := impl.CountCurves(p)
		for a := range n {
			for b := range a {
				list, _ := impl.SharedPoints(p, a, b)
				for _, k := range list {
					at := innerByOrder(p.W, p.H)[k]
					want := []int64{n - 1, n - 1, n - 1}
					want[p.Breaks[k]] = n
					isEffects(t, p, at, want...)
					through, code := impl.CurvesThrough(p, at)
					isList(t, fmt.Sprint("curves at ", at, " of ", p), through, code, []int64{b, a}, impl.OK)
				}
			}
		}
	}
}

// TestFirstChangeWritten writes first changes out: of several changes that lead equally near the one with the least
// number of its point, and then the least kind, also if other points or kinds before it do not lead nearer.
func TestFirstChangeWritten(t *testing.T) {
	none := change{}
	for _, c := range []struct {
		text   string
		curves int64
		want   change
		ok     bool
	}{
		{"1x1:", 1, none, false}, {"1x1:", 2, none, false}, {"1x1:", 128, none, false},
		{"2x1:+", 1, none, false}, {"2x1:+", 2, change{0, 1}, true}, {"2x1:+", 3, change{0, 1}, true}, {"2x1:+", 128, change{0, 1}, true}, {"2x1:-", 2, change{0, 1}, true},
		{"2x1:|", 1, change{0, 0}, true}, {"2x1:|", 2, none, false}, {"2x1:|", 3, none, false}, {"2x1:|", 128, none, false},
		{"1x2:-", 1, change{0, 0}, true}, {"1x2:|", 2, change{0, 2}, true}, {"1x2:+", 2, change{0, 2}, true}, {"1x2:-", 3, none, false},
		{"3x1:|+", 1, change{0, 0}, true}, {"3x1:|+", 2, none, false}, {"3x1:|+", 3, change{1, 1}, true}, {"3x1:|+", 64, change{1, 1}, true}, {"3x1:+|", 1, change{1, 0}, true}, {"3x1:+|", 3, change{0, 1}, true},
		{"3x1:++", 3, change{0, 1}, true}, {"3x1:||", 1, change{0, 0}, true}, {"5x1:|-+|", 5, change{1, 1}, true}, {"5x1:-++|", 2, none, false}, {"5x1:-++|", 1, change{3, 0}, true},
		{"1x5:-|+-", 5, change{1, 2}, true}, {"1x5:|++-", 1, change{3, 0}, true}, {"8x1:||||||+", 8, change{6, 1}, true}, {"1x8:------|", 9, change{6, 2}, true},
		// The least kind with which two curves are joined where they cross is an upright mirror.
		{"2x2:++++", 1, change{0, 1}, true}, {"2x2:++++", 2, none, false}, {"2x2:++++", 3, none, false}, {"2x2:++++", 4, none, false},
		{"2x2:|+++", 2, change{0, 0}, true}, {"2x2:|+++", 1, none, false}, {"2x2:|--|", 1, change{0, 0}, true}, {"2x2:|--|", 3, change{0, 0}, true}, {"2x2:|--|", 5, none, false},
		{"2x2:-||-", 1, change{0, 0}, true}, {"2x2:-||-", 3, none, false},
	} {
		isFirst(t, fromText(t, c.text), c.curves, c.want, c.ok)
	}
	last := smallCircles(8, 8)
	last.Breaks[111] = impl.BreakNone
	isFirst(t, last, 64, change{111, 1}, true)
	isFirst(t, last, 62, change{0, 0}, true)
	isFirst(t, smallCircles(8, 8), 1, change{0, 0}, true)
	isFirst(t, smallCircles(8, 8), 64, none, false)
	isFirst(t, smallCircles(8, 8), 65, none, false)
	isFirst(t, smallCircles(8, 8), 128, none, false)
	isFirst(t, plain(8, 8), 7, change{0, 1}, true)
	isFirst(t, plain(8, 8), 1, change{0, 1}, true)
	isFirst(t, plain(8, 8), 8, none, false)
	isFirst(t, plain(8, 8), 9, none, false)
}

// TestFirstChange holds first changes of panels of all sizes against the best of all changes. All numbers of curves
// are asked for in small panels, and in others those near that of the panel and the greatest and the least ones.
func TestFirstChange(t *testing.T) {
	found, none := 0, 0
	for _, p := range changePanels() {
		n := waysOf(p)
		outcomes := outcomesByWords(p)
		asked := []int64{1, 2, n - 2, n - 1, n, n + 1, n + 2, 64, 65, 128}
		if p.W*p.H <= 6 {
			asked = numbers(129)
		}
		for _, curves := range asked {
			if curves < 1 {
				continue
			}
			want, ok := firstByWords(p, outcomes, curves)
			isFirst(t, p, curves, want, ok)
			if ok {
				found++
			} else {
				none++
			}
		}
	}
	if found < 5000 || none < 5000 {
		t.Errorf("only %d first changes, and %d times none", found, none)
	}
}

// TestStepsToWritten writes out what changes lead to: none, one and many, up to 63, also where they end before they
// lead to the number of curves, though another panel of the size has it.
func TestStepsToWritten(t *testing.T) {
	for _, c := range []struct {
		from   string
		curves int64
		to     string // empty if they do not lead there
		steps  int64
	}{
		{"1x1:", 1, "1x1:", 0}, {"1x1:", 2, "", 0}, {"1x1:", 128, "", 0},
		{"2x1:+", 1, "2x1:+", 0}, {"2x1:-", 1, "2x1:-", 0}, {"2x1:-", 2, "2x1:|", 1}, {"2x1:|", 1, "2x1:+", 1}, {"2x1:|", 2, "2x1:|", 0}, {"2x1:+", 3, "", 0}, {"2x1:|", 3, "", 0},
		{"1x2:|", 2, "1x2:-", 1}, {"1x2:-", 1, "1x2:+", 1},
		{"3x1:++", 3, "3x1:||", 2}, {"3x1:--", 2, "3x1:|-", 1}, {"3x1:||", 1, "3x1:++", 2}, {"3x1:||", 2, "3x1:+|", 1}, {"3x1:-|", 1, "3x1:-+", 1}, {"3x1:-|", 3, "3x1:||", 1}, {"3x1:++", 4, "", 0}, {"3x1:++", 128, "", 0},
		{"5x1:|-+|", 5, "5x1:||||", 2}, {"5x1:|-+|", 1, "5x1:+-++", 2}, {"5x1:|-+|", 3, "5x1:|-+|", 0}, {"8x1:-------", 8, "8x1:|||||||", 7}, {"8x1:|||||||", 3, "8x1:+++++||", 5}, {"1x8:+++++++", 6, "1x8:-----++", 5},
		{"2x2:++++", 1, "2x2:|+++", 1}, {"2x2:++++", 2, "2x2:++++", 0}, {"2x2:++++", 3, "", 0}, {"2x2:|+++", 2, "2x2:++++", 1}, {"2x2:|+++", 3, "", 0}, {"2x2:|+++", 4, "", 0},
		{"2x2:|--|", 3, "2x2:+--|", 1}, {"2x2:|--|", 2, "2x2:++-|", 2}, {"2x2:|--|", 1, "2x2:+++|", 3}, {"2x2:|--|", 4, "2x2:|--|", 0}, {"2x2:-||-", 1, "2x2:+||-", 1}, {"2x2:-||-", 4, "", 0},
	} {
		if c.to == "" {
			isSteps(t, fromText(t, c.from), c.curves, impl.Panel{}, 0, false)
		} else {
			isSteps(t, fromText(t, c.from), c.curves, fromText(t, c.to), c.steps, true)
		}
	}
}

// TestStepsToMany joins the 64 circles of the greatest panel, with the first points at which two are still apart: those
// of the first row beside each other, and then each one with that above it.
func TestStepsToMany(t *testing.T) {
	circles := smallCircles(8, 8)
	joined := smallCircles(8, 8)
	steps := int64(0)
	for k, at := range innerByOrder(8, 8) {
		if at.Y == 1 || at.Y%2 == 0 {
			joined.Breaks[k] = impl.BreakNone
			steps++
			isSteps(t, circles, 64-steps, joined, steps, true)
		}
	}
	same(t, "changes", steps, int64(63))
	isSteps(t, circles, 64, circles, 0, true)
	for _, curves := range []int64{65, 66, 127, 128} {
		isSteps(t, circles, curves, impl.Panel{}, 0, false)
	}
	isSteps(t, plain(8, 8), 8, plain(8, 8), 0, true)
	isSteps(t, plain(8, 8), 9, impl.Panel{}, 0, false)
	isSteps(t, plain(8, 7), 1, plain(8, 7), 0, true)
}

// TestStepsTo holds what changes lead to against the best change, chosen again and again: all numbers of curves up to
// the greatest one of the size and one more, for many panels of small sizes and some greater ones.
func TestStepsTo(t *testing.T) {
	led, none, most := 0, 0, int64(0)
	panels := slices.Concat(allPanels(2, 2), allPanels(3, 1), []impl.Panel{mixedPanel(3, 4), mixedPanel(5, 3), plain(4, 3), smallCircles(3, 3), mixedPanel(7, 5), mixedPanel(8, 8)})
	for _, p := range panels {
		for curves := int64(1); curves <= p.W*p.H+1; curves++ {
			q, n, ok := changesByWords(p, curves)
			isSteps(t, p, curves, q, n, ok)
			if ok {
				led++
				most = max(most, n)
			} else {
				none++
			}
		}
		isSteps(t, p, 128, impl.Panel{}, 0, false)
	}
	if led < 200 || none < 200 || most < 10 {
		t.Errorf("only %d ways lead to the number, %d do not, and the longest one has %d changes", led, none, most)
	}
}

// TestStepsAreFirstChanges makes the changes of FirstChange one by one in panels of all sizes: each leads nearer by
// one curve, and StepsTo makes just these. The distance from the first panel is not greater than their number.
func TestStepsAreFirstChanges(t *testing.T) {
	eachSize(func(w, h int64) {
		for _, p := range []impl.Panel{mixedPanel(w, h), smallCircles(w, h)} {
			before := waysOf(p)
			for _, curves := range []int64{1, max(before-3, 1), before + 2, w * h} {
				q, steps := p, int64(0)
				code := int64(impl.OK)
				for code == impl.OK && waysOf(q) != curves {
					var at impl.Point
					var kind int64
					if at, kind, code = impl.FirstChange(q, curves); code == impl.OK {
						q, _ = impl.SetBreak(q, at, kind)
						steps++
						same(t, fmt.Sprint("from ", p, " after ", steps, " changes to ", curves), distance(waysOf(q), curves), distance(before, curves)-steps)
					}
				}
				if code != impl.OK {
					isSteps(t, p, curves, impl.Panel{}, 0, false)
					continue
				}
				isSteps(t, p, curves, q, steps, true)
				n, code := impl.DistanceOf(p, q)
				same(t, fmt.Sprint("distance of ", p, " from ", q), []any{code, n <= steps, n == 0}, []any{int64(impl.OK), true, steps == 0})
			}
		}
	})
}

// isDistance holds DistanceOf against a number and a code, in both directions.
func isDistance(t *testing.T, a, b impl.Panel, want, code int64) {
	t.Helper()
	same(t, fmt.Sprint("DistanceOf ", a, " and ", b), told(impl.DistanceOf(a, b)), told(want, code))
	same(t, fmt.Sprint("DistanceOf ", b, " and ", a), told(impl.DistanceOf(b, a)), told(want, code))
}

// TestDistance writes distances out, also of panels that are equal, and of those that differ everywhere.
func TestDistance(t *testing.T) {
	for _, c := range []struct {
		a, b string
		want int64
	}{
		{"1x1:", "1x1:", 0}, {"2x1:+", "2x1:+", 0}, {"2x1:+", "2x1:|", 1}, {"2x1:|", "2x1:-", 1}, {"2x1:-", "2x1:+", 1}, {"1x2:|", "1x2:|", 0}, {"1x2:+", "1x2:-", 1},
		{"3x1:++", "3x1:|+", 1}, {"3x1:++", "3x1:+|", 1}, {"3x1:++", "3x1:-|", 2}, {"3x1:|-", "3x1:-|", 2}, {"2x2:|--|", "2x2:|--|", 0}, {"2x2:|--|", "2x2:-||-", 4}, {"2x2:|+-+", "2x2:|-++", 2}, {"2x2:++++", "2x2:+-|+", 2},
	} {
		isDistance(t, fromText(t, c.a), fromText(t, c.b), c.want, impl.OK)
	}
	eachSize(func(w, h int64) {
		p := mixedPanel(w, h)
		isDistance(t, p, mixedPanel(w, h), 0, impl.OK)
		q := mixedPanel(w, h)
		for k := range q.Breaks {
			q.Breaks[k] = (q.Breaks[k] + 1 + int64(k%2)) % 3
			isDistance(t, p, q, int64(k)+1, impl.OK)
		}
	})
	isDistance(t, plain(8, 8), smallCircles(8, 8), 112, impl.OK)
}

// TestDistanceSizes: panels of different sizes have no distance, also if they have equally many points or just the
// same breaks.
func TestDistanceSizes(t *testing.T) {
	eachSize(func(w, h int64) {
		for _, other := range [][2]int64{{h, w}, {w + 1, h}, {w, h + 1}, {w - 1, h + 1}, {8, 8}, {1, 1}} {
			if x, y := other[0], other[1]; (x != w || y != h) && x >= 1 && x <= 8 && y <= 8 {
				isDistance(t, plain(w, h), plain(x, y), 0, impl.ErrState)
				isDistance(t, mixedPanel(w, h), smallCircles(x, y), 0, impl.ErrState)
			}
		}
	})
}

// TestDistanceInvalid: one panel that is not valid, or both, are found before sizes that are different.
func TestDistanceInvalid(t *testing.T) {
	for _, p := range invalidPanels() {
		for _, q := range []impl.Panel{panelOf(1, 1), plain(2, 1), plain(1, 2), plain(2, 2), plain(8, 7), mixedPanel(8, 8), panelOf(p.W, p.H), panelOf(0, 0), panelOf(3, 3)} {
			isDistance(t, p, q, 0, impl.ErrInvalid)
		}
		isDistance(t, p, p, 0, impl.ErrInvalid)
	}
}

// borderPoints are the border points of a size.
func borderPoints(w, h int64) []impl.Point {
	return slices.DeleteFunc(pointsOf(w, h), func(at impl.Point) bool { return !onEdge(w, h, at) })
}

// noPoints are places that are no points of a size, near and far.
func noPoints(w, h int64) []impl.Point {
	return slices.DeleteFunc(append(placesAround(w, h), farPlaces()...), func(at impl.Point) bool { return hasPlace(w, h, at) })
}

// noKinds are numbers that are no kinds of breaks.
func noKinds() []int64 { return numbersBeside(3) }

// errorPanels are panels with and without inner points, with one curve and with many.
func errorPanels() []impl.Panel {
	return []impl.Panel{panelOf(1, 1), plain(2, 1), panelOf(2, 1, 1), panelOf(1, 2, 2), plain(2, 2), mixedPanel(3, 4), plain(8, 7), mixedPanel(8, 8), smallCircles(8, 8)}
}

// isEffectCode holds EffectOf and EffectsAt at a place against codes with which nothing is told.
func isEffectCode(t *testing.T, p impl.Panel, at impl.Point, kind, one, all int64) {
	t.Helper()
	name := fmt.Sprint(" at ", at, " of ", p)
	same(t, fmt.Sprint("EffectOf ", kind, name), told(impl.EffectOf(p, at, kind)), told(0, one))
	list, code := impl.EffectsAt(p, at)
	isList(t, "EffectsAt"+name, list, code, nil, all)
}

// TestEffectErrors: a place that is no point, and a kind that is none, are found before a border point is.
func TestEffectErrors(t *testing.T) {
	for _, p := range errorPanels() {
		for _, at := range noPoints(p.W, p.H) {
			for _, kind := range []int64{0, 1, 2, 3, -1, math.MaxInt64, math.MinInt64} {
				isEffectCode(t, p, at, kind, impl.ErrRange, impl.ErrRange)
			}
		}
		for _, at := range borderPoints(p.W, p.H) {
			for kind := range int64(3) {
				isEffectCode(t, p, at, kind, impl.ErrState, impl.ErrState)
			}
			for _, kind := range noKinds() {
				isEffectCode(t, p, at, kind, impl.ErrRange, impl.ErrState)
			}
		}
		for _, at := range innerByOrder(p.W, p.H) {
			for _, kind := range noKinds() {
				same(t, fmt.Sprint("EffectOf ", kind, " at ", at, " of ", p), told(impl.EffectOf(p, at, kind)), told(0, impl.ErrRange))
			}
		}
	}
}

// isSharedCode holds SharedPoints against a code with which nothing is told.
func isSharedCode(t *testing.T, p impl.Panel, a, b, want int64) {
	t.Helper()
	list, code := impl.SharedPoints(p, a, b)
	isList(t, fmt.Sprint("SharedPoints of ", a, " and ", b, " in ", p), list, code, nil, want)
}

// TestCurvePointsErrors: curves that there are not, also both, and also if they are equal, are found before curves
// that there are and that are equal.
func TestCurvePointsErrors(t *testing.T) {
	for _, p := range errorPanels() {
		n := waysOf(p)
		for _, curve := range numbersBeside(n) {
			list, code := impl.CurvePoints(p, curve)
			isList(t, fmt.Sprint("CurvePoints of ", curve, " in ", p), list, code, nil, impl.ErrRange)
			for _, other := range []int64{0, n - 1, n, -1, curve, math.MaxInt64, math.MinInt64} {
				isSharedCode(t, p, curve, other, impl.ErrRange)
				isSharedCode(t, p, other, curve, impl.ErrRange)
			}
		}
		for curve := range n {
			isSharedCode(t, p, curve, curve, impl.ErrState)
		}
	}
}

// isSoughtCode holds FirstChange and StepsTo against a code with which nothing is told.
func isSoughtCode(t *testing.T, p impl.Panel, curves, want int64) {
	t.Helper()
	name := fmt.Sprint(" of ", p, " to ", curves)
	at, kind, code := impl.FirstChange(p, curves)
	same(t, "FirstChange"+name, []any{at, kind, code}, []any{impl.Point{}, int64(0), want})
	q, n, code := impl.StepsTo(p, curves)
	isZero(t, "StepsTo"+name, q)
	same(t, "StepsTo"+name, told(n, code), told(0, want))
}

// TestSoughtErrors: numbers of curves that are not 1 to 128 are found before it is that no change leads nearer.
func TestSoughtErrors(t *testing.T) {
	for _, p := range errorPanels() {
		asked := append([]int64{0, -1, -2, -128, 129, 130, 256, 1000, 1 << 32, 1<<32 + 1}, edgeNumbers...)
		for _, curves := range asked {
			if curves < 1 || curves > 128 {
				isSoughtCode(t, p, curves, impl.ErrRange)
			}
		}
		_, _, code := impl.FirstChange(p, 128)
		same(t, fmt.Sprint("FirstChange of ", p, " to 128"), code == impl.OK || code == impl.ErrNotFound, true)
		isSteps(t, p, 128, impl.Panel{}, 0, false)
	}
	isSoughtCode(t, panelOf(1, 1), 2, impl.ErrNotFound)
	isSoughtCode(t, smallCircles(8, 8), 128, impl.ErrNotFound)
}

// TestChangesInvalidPanels: a panel that is not valid is found before a point, a kind, a curve or a number of curves
// that there is not, before border points and before equal curves; nothing is told with it.
func TestChangesInvalidPanels(t *testing.T) {
	for _, p := range invalidPanels() {
		name := fmt.Sprint(" of ", p)
		list, code := impl.JoiningPoints(p)
		isList(t, "JoiningPoints"+name, list, code, nil, impl.ErrInvalid)
		list, code = impl.DividingPoints(p)
		isList(t, "DividingPoints"+name, list, code, nil, impl.ErrInvalid)
		for _, at := range append(placesAround(2, 2), farPlaces()...) {
			for _, kind := range []int64{0, 2, 3, -1, math.MinInt64, math.MaxInt64} {
				isEffectCode(t, p, at, kind, impl.ErrInvalid, impl.ErrInvalid)
			}
		}
		for _, k := range append([]int64{128, 129}, edgeNumbers...) {
			list, code = impl.CurvePoints(p, k)
			isList(t, fmt.Sprint("CurvePoints of ", k, name), list, code, nil, impl.ErrInvalid)
			isSoughtCode(t, p, k, impl.ErrInvalid)
			for _, other := range []int64{0, 1, -1, k, math.MaxInt64} {
				isSharedCode(t, p, k, other, impl.ErrInvalid)
				isSharedCode(t, p, other, k, impl.ErrInvalid)
			}
		}
	}
}

// allOfChanges tells what the functions of chapter 10 return for a panel and many other arguments.
func allOfChanges(p impl.Panel) []string {
	joining, one := impl.JoiningPoints(p)
	dividing, two := impl.DividingPoints(p)
	out := []string{fmt.Sprint(joining, one, dividing, two)}
	for _, at := range append(placesAround(2, 2), pt(15, 14), pt(14, 15), pt(math.MaxInt64, math.MinInt64)) {
		list, code := impl.EffectsAt(p, at)
		out = append(out, fmt.Sprint(list, code))
		for _, kind := range []int64{-1, 0, 1, 2, 3} {
			out = append(out, fmt.Sprint(told(impl.EffectOf(p, at, kind))))
		}
	}
	for _, k := range append([]int64{5, 63, 64, 128, 129}, edgeNumbers...) {
		list, one := impl.CurvePoints(p, k)
		shared, two := impl.SharedPoints(p, 0, k)
		at, kind, three := impl.FirstChange(p, k)
		q, n, four := impl.StepsTo(p, k)
		out = append(out, fmt.Sprint(list, one, shared, two, at, kind, three, q, n, four))
	}
	for _, q := range []impl.Panel{{}, panelOf(2, 1, 1), mixedPanel(3, 4), mixedPanel(8, 8), p} {
		out = append(out, fmt.Sprint(told(impl.DistanceOf(p, q)), told(impl.DistanceOf(q, p))))
	}
	return out
}

// TestChangesUnchanged is P1: no function of chapter 10 changes a panel, nor what lies behind its list in memory, and
// all tell the same again, also for a copy.
func TestChangesUnchanged(t *testing.T) {
	for _, p := range append(invalidPanels(), errorPanels()...) {
		unchanged(t, p, allOfChanges)
	}
}

// listsOfChanges are all lists that the functions of chapter 10 return for a panel.
func listsOfChanges(p impl.Panel) [][]int64 {
	joining, _ := impl.JoiningPoints(p)
	dividing, _ := impl.DividingPoints(p)
	list := [][]int64{joining, dividing}
	for _, at := range innerByOrder(p.W, p.H) {
		effects, _ := impl.EffectsAt(p, at)
		list = append(list, effects)
	}
	for curve := range int64(3) {
		points, _ := impl.CurvePoints(p, curve)
		shared, _ := impl.SharedPoints(p, 0, curve)
		list = append(list, points, shared)
	}
	n, _ := impl.CountCurves(p)
	for _, curves := range []int64{1, n, n + 1} {
		q, _, _ := impl.StepsTo(p, curves)
		list = append(list, q.Breaks)
	}
	return list
}

// TestChangesNew is P1: no list of a result shares memory with the panel or with another result, also where no change
// is made.
func TestChangesNew(t *testing.T) {
	for _, p := range []impl.Panel{panelOf(1, 1), panelOf(2, 1, 1), plain(3, 1), plain(2, 2), mixedPanel(3, 4), smallCircles(3, 3), mixedPanel(8, 8)} {
		q := panelOf(p.W, p.H, slices.Grow(slices.Clone(p.Breaks), 9)...)
		want := listsOfChanges(p)
		first, second := listsOfChanges(q), listsOfChanges(q)
		for k, list := range first {
			if !slices.Equal(list, want[k]) {
				t.Errorf("the list %d of %v after those before were spoilt: got %v, want %v", k, p, list, want[k])
			}
			spoil(list)
		}
		samePanel(t, "the panel", q, p)
		spoil(q.Breaks)
		for k, list := range second {
			if !slices.Equal(list, want[k]) {
				t.Errorf("the list %d of another result of %v: got %v, want %v", k, p, list, want[k])
			}
		}
	}
}
