package tests

import (
	"fmt"
	"math"
	"slices"
	"testing"

	"loop.example/g00931/impl"
)

// pt and leaving write points and walkers shortly.
func pt(x, y int64) impl.Point { return impl.Point{X: x, Y: y} }

func leaving(x, y, dx, dy int64) impl.Walker { return impl.Walker{At: pt(x, y), DX: dx, DY: dy} }

// nextOf is the point to which a step leads.
func nextOf(w impl.Walker) impl.Point { return pt(w.At.X+w.DX, w.At.Y+w.DY) }

// walkPanels are a panel of each size with all kinds of breaks, and some with one kind only.
func walkPanels() []impl.Panel {
	list := []impl.Panel{}
	eachSize(func(w, h int64) {
		list = append(list, mixedPanel(w, h))
		if w > 4 || h > 4 {
			return
		}
		for kind := range int64(3) {
			p, _ := impl.NewPanel(w, h)
			for k := range p.Breaks {
				p.Breaks[k] = kind
			}
			list = append(list, p)
		}
	})
	return list
}

// hasPlace reports whether a place is a point of a size, as chapter 2 words it.
func hasPlace(w, h int64, at impl.Point) bool {
	return at.X >= 0 && at.X <= 2*w && at.Y >= 0 && at.Y <= 2*h && (at.X+at.Y)%2 != 0
}

// walkersByOrder finds the walkers of a size as chapter 3 orders them: by the X of the left point, by its Y,
// upwards before downwards, and to the right before to the left.
func walkersByOrder(w, h int64) []impl.Walker {
	list := []impl.Walker{}
	for x := int64(0); x <= 2*w; x++ {
		for y := int64(0); y <= 2*h; y++ {
			for _, dy := range []int64{-1, 1} {
				if hasPlace(w, h, pt(x, y)) && hasPlace(w, h, pt(x+1, y+dy)) {
					list = append(list, leaving(x, y, 1, dy), leaving(x+1, y+dy, -1, -dy))
				}
			}
		}
	}
	return list
}

// stepByWords makes a step as chapter 3 words it, and tells whether the walker is turned.
func stepByWords(p impl.Panel, w impl.Walker) (impl.Walker, bool) {
	at := nextOf(w)
	v := impl.Walker{At: at, DX: w.DX, DY: w.DY}
	if at.X == 0 || at.X == 2*p.W {
		v.DX = -v.DX
	}
	if at.Y == 0 || at.Y == 2*p.H {
		v.DY = -v.DY
	}
	if k := slices.Index(innerByOrder(p.W, p.H), at); k >= 0 {
		switch p.Breaks[k] {
		case impl.BreakUpright:
			v.DX = -v.DX
		case impl.BreakLevel:
			v.DY = -v.DY
		}
	}
	return v, v.DX != w.DX || v.DY != w.DY
}

// is fails the test unless a walker and OK were returned as wanted.
func is(t *testing.T, name string, p impl.Panel, w, got impl.Walker, code int64, want impl.Walker) {
	t.Helper()
	if got != want || code != impl.OK {
		t.Errorf("%s of %v in %v: got %v %d, want %v", name, w, p, got, code, want)
	}
}

// stepped, backed and walked are results that must come with OK.
func stepped(t *testing.T, p impl.Panel, w impl.Walker) impl.Walker {
	t.Helper()
	v, code := impl.StepWalker(p, w)
	isOK(t, "StepWalker", p, w, code)
	return v
}

func backed(t *testing.T, p impl.Panel, w impl.Walker) impl.Walker {
	t.Helper()
	v, code := impl.BackWalker(p, w)
	isOK(t, "BackWalker", p, w, code)
	return v
}

func walked(t *testing.T, p impl.Panel, w impl.Walker, steps int64) impl.Walker {
	t.Helper()
	v, code := impl.WalkSteps(p, w, steps)
	isOK(t, "WalkSteps", p, w, code)
	return v
}

func isOK(t *testing.T, name string, p impl.Panel, w impl.Walker, code int64) {
	t.Helper()
	if code != impl.OK {
		t.Errorf("%s of %v in %v: code %d", name, w, p, code)
	}
}

// TestWalkExample is the example of chapter 3, with the rest of the way in the panel of 1 by 1.
func TestWalkExample(t *testing.T) {
	p := panelOf(1, 1)
	w := leaving(0, 1, 1, -1)
	v := stepped(t, p, w)
	same(t, "the example", v, leaving(1, 0, 1, 1))
	v = stepped(t, p, v)
	same(t, "the second step", v, leaving(2, 1, -1, 1))
	v = stepped(t, p, v)
	same(t, "the third step", v, leaving(1, 2, -1, -1))
	same(t, "the fourth step", stepped(t, p, v), w)
}

// turnCase is a walker, what the breaks of a panel of 2 by 2 are, and the walker after a step.
type turnCase struct {
	name     string
	kind     int64
	from, to impl.Walker
	turned   bool
}

// borderTurns are steps to each of the four borders, with the sign of the other direction kept.
func borderTurns() []turnCase {
	return []turnCase{
		{"left border, upwards", 0, leaving(1, 2, -1, -1), leaving(0, 1, 1, -1), true},
		{"left border, downwards", 0, leaving(1, 2, -1, 1), leaving(0, 3, 1, 1), true},
		{"right border, upwards", 0, leaving(3, 2, 1, -1), leaving(4, 1, -1, -1), true},
		{"right border, downwards", 0, leaving(3, 2, 1, 1), leaving(4, 3, -1, 1), true},
		{"upper border, to the left", 0, leaving(2, 1, -1, -1), leaving(1, 0, -1, 1), true},
		{"upper border, to the right", 0, leaving(2, 1, 1, -1), leaving(3, 0, 1, 1), true},
		{"lower border, to the left", 0, leaving(2, 3, -1, 1), leaving(1, 4, -1, -1), true},
		{"lower border, to the right", 0, leaving(2, 3, 1, 1), leaving(3, 4, 1, -1), true},
		{"upper border beside mirrors", 1, leaving(0, 1, 1, -1), leaving(1, 0, 1, 1), true},
		{"left border beside mirrors", 2, leaving(1, 0, -1, 1), leaving(0, 1, 1, 1), true},
	}
}

// innerTurns are steps to the inner point {2 3} from each of the four directions.
func innerTurns() []turnCase {
	list := []turnCase{}
	for _, d := range [][2]int64{{1, 1}, {1, -1}, {-1, 1}, {-1, -1}} {
		from := leaving(2-d[0], 3-d[1], d[0], d[1])
		list = append(list,
			turnCase{"no break", impl.BreakNone, from, leaving(2, 3, d[0], d[1]), false},
			turnCase{"upright mirror", impl.BreakUpright, from, leaving(2, 3, -d[0], d[1]), true},
			turnCase{"level mirror", impl.BreakLevel, from, leaving(2, 3, d[0], -d[1]), true})
	}
	return list
}

// TestTurns checks the signs: what a walker does at each border, at each mirror and where there is none.
func TestTurns(t *testing.T) {
	for _, c := range append(borderTurns(), innerTurns()...) {
		p := panelOf(2, 2, c.kind, c.kind, c.kind, c.kind)
		v, code := impl.StepWalker(p, c.from)
		is(t, c.name, p, c.from, v, code, c.to)
		turned, code := impl.TurnsOf(p, c.from)
		same(t, fmt.Sprint("TurnsOf: ", c.name, " from ", c.from), []any{turned, code}, []any{c.turned, int64(impl.OK)})
	}
}

// TestMirrorAtStart: a mirror turns the walkers that come to it, not those that leave it in any direction.
func TestMirrorAtStart(t *testing.T) {
	p := panelOf(2, 2, 1, 2, 0, 0)
	for _, c := range [][2]impl.Walker{
		{leaving(2, 1, 1, 1), leaving(3, 2, 1, 1)}, {leaving(2, 1, 1, -1), leaving(3, 0, 1, 1)},
		{leaving(2, 1, -1, 1), leaving(1, 2, -1, -1)}, {leaving(2, 1, -1, -1), leaving(1, 0, -1, 1)},
		{leaving(1, 2, 1, -1), leaving(2, 1, -1, -1)}, {leaving(1, 2, 1, 1), leaving(2, 3, 1, 1)},
	} {
		v, code := impl.StepWalker(p, c[0])
		is(t, "StepWalker", p, c[0], v, code, c[1])
	}
}

// TestSteps holds each step of each walker in each size against the words of chapter 3.
func TestSteps(t *testing.T) {
	for _, p := range walkPanels() {
		for _, w := range walkersByOrder(p.W, p.H) {
			want, turns := stepByWords(p, w)
			v, code := impl.StepWalker(p, w)
			is(t, "StepWalker", p, w, v, code, want)
			turned, code := impl.TurnsOf(p, w)
			if turned != turns || code != impl.OK {
				t.Errorf("TurnsOf of %v in %v: got %v %d, want %v", w, p, turned, code, turns)
			}
			if !impl.ValidWalker(p, v) {
				t.Errorf("the step of %v in %v leads to %v, which is not valid", w, p, v)
			}
		}
	}
}

// TestWayBack is the guarantee of chapter 3 and P3: each step, and the way of many steps, leads back.
func TestWayBack(t *testing.T) {
	for _, p := range walkPanels() {
		for _, w := range walkersByOrder(p.W, p.H) {
			to := nextOf(w)
			v, code := impl.BackWalker(p, w)
			is(t, "BackWalker", p, w, v, code, leaving(to.X, to.Y, -w.DX, -w.DY))
			is(t, "BackWalker twice", p, w, backed(t, p, v), impl.OK, w)
			far := stepped(t, p, w)
			is(t, "a step back", p, w, stepped(t, p, backed(t, p, far)), impl.OK, v)
		}
		for k, w := range walkersByOrder(p.W, p.H) {
			steps := int64(k*k) % 97
			far := walked(t, p, w, steps)
			is(t, "the way back", p, w, walked(t, p, backed(t, p, far), steps), impl.OK, backed(t, p, w))
		}
	}
	p := mixedPanel(8, 8)
	w := leaving(3, 4, -1, 1)
	far := walked(t, p, w, 10000)
	is(t, "the longest way back", p, w, walked(t, p, backed(t, p, far), 10000), impl.OK, backed(t, p, w))
}

// TestBackWalkerPlaces writes some results out: leaving inner and border points backwards, mirrors or not.
func TestBackWalkerPlaces(t *testing.T) {
	for kind := range int64(3) {
		p := panelOf(2, 2, kind, kind, kind, kind)
		for _, c := range [][2]impl.Walker{
			{leaving(0, 1, 1, -1), leaving(1, 0, -1, 1)}, {leaving(1, 0, -1, 1), leaving(0, 1, 1, -1)},
			{leaving(1, 2, 1, -1), leaving(2, 1, -1, 1)}, {leaving(2, 1, 1, 1), leaving(3, 2, -1, -1)},
			{leaving(3, 2, 1, 1), leaving(4, 3, -1, -1)}, {leaving(2, 3, -1, 1), leaving(1, 4, 1, -1)},
		} {
			v, code := impl.BackWalker(p, c[0])
			is(t, "BackWalker", p, c[0], v, code, c[1])
		}
	}
}

// TestWalkSteps walks step by step, beyond the length of the curve, and holds each number of steps against that.
func TestWalkSteps(t *testing.T) {
	for _, p := range []impl.Panel{panelOf(1, 1), panelOf(2, 1, 1), panelOf(1, 2, 1), panelOf(2, 2, 0, 1, 2, 0), mixedPanel(3, 2), mixedPanel(4, 5)} {
		for _, w := range walkersByOrder(p.W, p.H) {
			v := w
			for n := range 4*p.W*p.H + 10 {
				got, code := impl.WalkSteps(p, w, n)
				is(t, fmt.Sprint("WalkSteps ", n), p, w, got, code, v)
				v, _ = stepByWords(p, v)
			}
		}
	}
}

// TestWalkRound: by at most as many steps as there are segments, each walker comes back to where it began.
func TestWalkRound(t *testing.T) {
	for _, p := range walkPanels() {
		if p.W > 5 || p.H > 5 {
			continue
		}
		for _, w := range walkersByOrder(p.W, p.H) {
			n := int64(1)
			for n <= 4*p.W*p.H && walked(t, p, w, n) != w {
				n++
			}
			if n > 4*p.W*p.H {
				t.Errorf("%v in %v does not come back", w, p)
			}
		}
	}
}

// TestWalkStepsLimits: 0 to 10000 steps can be made, and nothing is returned with other numbers.
func TestWalkStepsLimits(t *testing.T) {
	for _, p := range []impl.Panel{panelOf(1, 1), mixedPanel(3, 5), mixedPanel(8, 8)} {
		for _, w := range []impl.Walker{leaving(0, 1, 1, 1), leaving(1, 0, -1, 1), leaving(2*p.W, 2*p.H-1, -1, -1), leaving(2*p.W-1, 2*p.H, 1, -1)} {
			v := w
			for range 9999 {
				v, _ = stepByWords(p, v)
			}
			got, code := impl.WalkSteps(p, w, 9999)
			is(t, "9999 steps", p, w, got, code, v)
			v, _ = stepByWords(p, v)
			got, code = impl.WalkSteps(p, w, 10000)
			is(t, "10000 steps", p, w, got, code, v)
			got, code = impl.WalkSteps(p, w, 0)
			is(t, "no steps", p, w, got, code, w)
			for _, n := range append([]int64{10001, 10002, 20000, -10000}, edgeNumbers...) {
				if n >= 0 && n <= 10000 {
					continue
				}
				got, code := impl.WalkSteps(p, w, n)
				same(t, fmt.Sprint(n, " steps"), []any{got, code}, []any{impl.Walker{}, int64(impl.ErrRange)})
			}
		}
	}
}

// TestSegments is P3: the segments of each size in order, each with its walkers to the right and to the left.
func TestSegments(t *testing.T) {
	for _, p := range walkPanels() {
		want := walkersByOrder(p.W, p.H)
		n, code := impl.CountSegments(p)
		same(t, fmt.Sprint("CountSegments of ", p), []int64{n, code}, []int64{4 * p.W * p.H, impl.OK})
		same(t, "walkers found", int64(len(want)), 2*n)
		all, code := impl.AllWalkers(p)
		same(t, fmt.Sprint("AllWalkers of ", p), []any{all, code}, []any{want, int64(impl.OK)})
		for k := range n {
			w, code := impl.WalkerAt(p, k)
			is(t, fmt.Sprint("WalkerAt ", k), p, w, w, code, want[2*k])
			same(t, "to the left", backed(t, p, w), want[2*k+1])
		}
		for k, w := range want {
			s, code := impl.SegmentOf(p, w)
			if s != int64(k/2) || code != impl.OK {
				t.Errorf("SegmentOf of %v in %v: got %d %d, want %d", w, p, s, code, k/2)
			}
		}
	}
}

// TestWalkedTwice is P3 along the ways themselves: when all walkers have made a step, each one was come to
// once, and so each segment is walked once to the right and once to the left.
func TestWalkedTwice(t *testing.T) {
	for _, p := range walkPanels() {
		all, _ := impl.AllWalkers(p)
		right, left := map[int64]int{}, map[int64]int{}
		for _, w := range all {
			v := stepped(t, p, w)
			s, _ := impl.SegmentOf(p, v)
			if v.DX == 1 {
				right[s]++
			} else {
				left[s]++
			}
		}
		for k := range 4 * p.W * p.H {
			if right[k] != 1 || left[k] != 1 {
				t.Errorf("segment %d in %v: %d times to the right, %d to the left", k, p, right[k], left[k])
			}
		}
	}
}

// TestSegmentsWritten writes the segments of two panels out.
func TestSegmentsWritten(t *testing.T) {
	cases := []struct {
		p    impl.Panel
		want []impl.Walker
	}{
		{panelOf(1, 1), []impl.Walker{
			leaving(0, 1, 1, -1), leaving(1, 0, -1, 1), leaving(0, 1, 1, 1), leaving(1, 2, -1, -1),
			leaving(1, 0, 1, 1), leaving(2, 1, -1, -1), leaving(1, 2, 1, -1), leaving(2, 1, -1, 1),
		}},
		{panelOf(1, 2, 1), []impl.Walker{
			leaving(0, 1, 1, -1), leaving(1, 0, -1, 1), leaving(0, 1, 1, 1), leaving(1, 2, -1, -1),
			leaving(0, 3, 1, -1), leaving(1, 2, -1, 1), leaving(0, 3, 1, 1), leaving(1, 4, -1, -1),
			leaving(1, 0, 1, 1), leaving(2, 1, -1, -1), leaving(1, 2, 1, -1), leaving(2, 1, -1, 1),
			leaving(1, 2, 1, 1), leaving(2, 3, -1, -1), leaving(1, 4, 1, -1), leaving(2, 3, -1, 1),
		}},
	}
	for _, c := range cases {
		all, code := impl.AllWalkers(c.p)
		same(t, fmt.Sprint("AllWalkers of ", c.p), []any{all, code}, []any{c.want, int64(impl.OK)})
	}
	p := mixedPanel(8, 8)
	for k, want := range map[int64]impl.Walker{0: leaving(0, 1, 1, -1), 15: leaving(0, 15, 1, 1), 16: leaving(1, 0, 1, 1), 254: leaving(15, 14, 1, 1), 255: leaving(15, 16, 1, -1)} {
		w, code := impl.WalkerAt(p, k)
		is(t, fmt.Sprint("WalkerAt ", k), p, w, w, code, want)
	}
}

// TestSegmentsThatAreNone: before the first and behind the last segment there is no walker.
func TestSegmentsThatAreNone(t *testing.T) {
	eachSize(func(w, h int64) {
		p := mixedPanel(w, h)
		n := 4 * w * h
		for _, k := range append([]int64{-1, -n, n, n + 1, n + 2*h, 2 * n, 255, 256}, edgeNumbers...) {
			if k >= 0 && k < n {
				continue
			}
			v, code := impl.WalkerAt(p, k)
			same(t, fmt.Sprint("WalkerAt ", k, " in ", w, " by ", h), []any{v, code}, []any{impl.Walker{}, int64(impl.ErrRange)})
		}
	})
}

// TestValidWalker tries all places of each size and those around, with directions that are 1 or -1 or not.
func TestValidWalker(t *testing.T) {
	eachSize(func(w, h int64) {
		p := mixedPanel(w, h)
		for _, at := range placesAround(w, h) {
			for dx := int64(-3); dx <= 3; dx++ {
				for dy := int64(-3); dy <= 3; dy++ {
					v := impl.Walker{At: at, DX: dx, DY: dy}
					want := dx*dx == 1 && dy*dy == 1 && hasPlace(w, h, at) && hasPlace(w, h, nextOf(v))
					if impl.ValidWalker(p, v) != want {
						t.Errorf("ValidWalker of %v in %d by %d: want %v", v, w, h, want)
					}
				}
			}
		}
	})
}

// invalidWalkers are valid in no panel, even where a sum of them overflows.
func invalidWalkers() []impl.Walker {
	list := []impl.Walker{
		{}, leaving(0, 1, -1, 1), leaving(0, 1, -1, -1), leaving(1, 0, 1, -1), leaving(1, 0, -1, -1), leaving(1, 1, 1, 1),
		leaving(1, 1, -1, -1), leaving(0, 0, 1, 1), leaving(-1, 0, 1, 1), leaving(0, -1, 1, 1), leaving(-1, 2, 1, -1),
		leaving(2, -1, -1, 1), leaving(17, 2, -1, 1), leaving(2, 17, 1, -1), leaving(18, 1, -1, 1), leaving(1, 18, 1, -1),
	}
	for _, d := range edgeNumbers {
		if d != 1 && d != -1 {
			list = append(list, leaving(0, 1, d, 1), leaving(0, 1, 1, d), leaving(0, 1, d, d), leaving(0, 1, d, -1), leaving(1, 0, -1, d))
		}
	}
	for _, at := range farPlaces() {
		if (at.X < -1 || at.X > 17) && (at.Y < -1 || at.Y > 17) {
			list = append(list, leaving(at.X, at.Y, 1, 1), leaving(at.X, at.Y, -1, -1), leaving(at.X, at.Y, 1, -1), leaving(at.X, at.Y, -1, 1))
		}
	}
	for _, far := range []int64{math.MinInt64, math.MaxInt64, math.MinInt64 + 1, math.MaxInt64 - 1} {
		list = append(list, leaving(far, 1, 1, 1), leaving(far, 0, -1, 1), leaving(1, far, 1, 1), leaving(0, far, 1, -1), leaving(far, far, far, far))
	}
	return list
}

// refuses checks that each function of a walker tells ErrInvalid and nothing else, whatever the steps are.
func refuses(t *testing.T, p impl.Panel, w impl.Walker) {
	t.Helper()
	name := fmt.Sprint(w, " in ", p)
	none := []any{impl.Walker{}, int64(impl.ErrInvalid)}
	same(t, "ValidWalker of "+name, impl.ValidWalker(p, w), false)
	v, code := impl.StepWalker(p, w)
	same(t, "StepWalker of "+name, []any{v, code}, none)
	v, code = impl.BackWalker(p, w)
	same(t, "BackWalker of "+name, []any{v, code}, none)
	for _, n := range []int64{0, 1, 10000, 10001, -1, math.MinInt64, math.MaxInt64} {
		v, code = impl.WalkSteps(p, w, n)
		same(t, fmt.Sprint("WalkSteps ", n, " of ", name), []any{v, code}, none)
	}
	k, code := impl.SegmentOf(p, w)
	same(t, "SegmentOf of "+name, []int64{k, code}, []int64{0, impl.ErrInvalid})
	turned, code := impl.TurnsOf(p, w)
	same(t, "TurnsOf of "+name, []any{turned, code}, []any{false, int64(impl.ErrInvalid)})
}

// TestInvalidWalkers: a walker that is not valid is found before the number of steps is.
func TestInvalidWalkers(t *testing.T) {
	for _, p := range []impl.Panel{panelOf(1, 1), mixedPanel(2, 1), mixedPanel(8, 8)} {
		for _, w := range invalidWalkers() {
			refuses(t, p, w)
		}
	}
	// Walkers of greater panels have no place in lesser ones.
	for _, w := range []impl.Walker{leaving(2, 1, 1, 1), leaving(1, 2, 1, 1), leaving(3, 0, -1, 1), leaving(3, 2, -1, -1), leaving(4, 1, -1, 1)} {
		refuses(t, panelOf(1, 1), w)
		same(t, fmt.Sprint(w, " in 8 by 8"), impl.ValidWalker(mixedPanel(8, 8), w), true)
	}
	// The last places of a panel that is not square, with the sides exchanged.
	same(t, "in 3 by 2", impl.ValidWalker(mixedPanel(3, 2), leaving(6, 1, -1, 1)), true)
	same(t, "in 2 by 3", impl.ValidWalker(mixedPanel(2, 3), leaving(1, 6, 1, -1)), true)
	refuses(t, mixedPanel(2, 3), leaving(6, 1, -1, 1))
	refuses(t, mixedPanel(3, 2), leaving(1, 6, 1, -1))
}

// TestWalkingInvalidPanels: ErrInvalid comes before all other errors, and nothing with it.
func TestWalkingInvalidPanels(t *testing.T) {
	walkers := append(walkersByOrder(2, 2), invalidWalkers()[:20]...)
	for _, p := range invalidPanels() {
		for _, w := range walkers {
			refuses(t, p, w)
		}
		n, code := impl.CountSegments(p)
		same(t, fmt.Sprint("CountSegments of ", p), []int64{n, code}, []int64{0, impl.ErrInvalid})
		all, code := impl.AllWalkers(p)
		same(t, fmt.Sprint("AllWalkers of ", p), []int64{int64(len(all)), code}, []int64{0, impl.ErrInvalid})
		for _, k := range edgeNumbers {
			w, code := impl.WalkerAt(p, k)
			same(t, fmt.Sprint("WalkerAt ", k, " in ", p), []any{w, code}, []any{impl.Walker{}, int64(impl.ErrInvalid)})
		}
	}
}

// TestWalkingUnchanged is P1: no function of chapter 3 changes a panel, and all tell the same again.
func TestWalkingUnchanged(t *testing.T) {
	for _, p := range append(invalidPanels(), panelOf(1, 1), mixedPanel(2, 1), mixedPanel(3, 4), mixedPanel(8, 8)) {
		unchanged(t, p, allOfWalking)
	}
}

// allOfWalking tells what all functions of chapter 3 return for a panel and many other arguments.
func allOfWalking(p impl.Panel) []string {
	n, one := impl.CountSegments(p)
	all, two := impl.AllWalkers(p)
	out := []string{fmt.Sprint(n, one, all, two)}
	for _, k := range edgeNumbers {
		w, one := impl.WalkerAt(p, k)
		v, two := impl.WalkSteps(p, leaving(1, 0, 1, 1), k)
		out = append(out, fmt.Sprint(w, one, v, two))
	}
	for _, w := range append(walkersByOrder(2, 3), invalidWalkers()[:20]...) {
		s, one := impl.StepWalker(p, w)
		b, two := impl.BackWalker(p, w)
		f, three := impl.WalkSteps(p, w, 1234)
		k, four := impl.SegmentOf(p, w)
		turned, five := impl.TurnsOf(p, w)
		out = append(out, fmt.Sprint(impl.ValidWalker(p, w), s, one, b, two, f, three, k, four, turned, five))
	}
	return out
}

// TestAllWalkersNew is P1: a list of walkers shares no memory with another one.
func TestAllWalkersNew(t *testing.T) {
	for _, p := range []impl.Panel{panelOf(1, 1), mixedPanel(3, 4), mixedPanel(8, 8)} {
		first, _ := impl.AllWalkers(p)
		second, _ := impl.AllWalkers(p)
		for k := range first[:cap(first)] {
			first[:cap(first)][k] = leaving(99, 99, 99, 99)
		}
		third, _ := impl.AllWalkers(p)
		same(t, "a list from before", second, walkersByOrder(p.W, p.H))
		same(t, "a list from afterwards", third, walkersByOrder(p.W, p.H))
	}
}
