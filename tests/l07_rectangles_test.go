package tests

import (
	"fmt"
	"math"
	"slices"
	"testing"

	"loop.example/g00931/impl"
)

// The greatest side of panels without breaks, and the greatest number of steps in them.
const (
	greatSide  = int64(1000000)
	greatSteps = int64(1000000000000)
)

// noSides are numbers that are no sides of panels without breaks.
func noSides() []int64 {
	list := append([]int64{greatSide + 1, 2 * greatSide, -greatSide, 1 << 32, math.MinInt64 + greatSide}, edgeNumbers...)
	return slices.DeleteFunc(list, func(n int64) bool { return n >= 1 && n <= greatSide })
}

// noSteps are numbers of steps that cannot be made in them.
func noSteps() []int64 {
	list := append([]int64{greatSteps + 1, 2 * greatSteps, -greatSteps}, edgeNumbers...)
	return slices.DeleteFunc(list, func(n int64) bool { return n >= 0 && n <= greatSteps })
}

// divisorByWords and multipleByWords try numbers one after the other.
func divisorByWords(a, b int64) int64 {
	d := min(a, b)
	for a%d != 0 || b%d != 0 {
		d--
	}
	return d
}

func multipleByWords(a, b int64) int64 {
	m := max(a, b)
	for m%min(a, b) != 0 {
		m += max(a, b)
	}
	return m
}

// plainStep makes a step in a panel of any size without breaks as chapter 3 words it.
func plainStep(w, h int64, v impl.Walker) impl.Walker {
	v.At = nextOf(v)
	if v.At.X == 0 || v.At.X == 2*w {
		v.DX = -v.DX
	}
	if v.At.Y == 0 || v.At.Y == 2*h {
		v.DY = -v.DY
	}
	return v
}

// byBounces moves a number between 0 and end, from one turn to the next.
func byBounces(end, n, d, steps int64) (int64, int64) {
	for {
		way := n
		if d > 0 {
			way = end - n
		}
		if steps < way {
			return n + d*steps, d
		}
		n += d * way
		steps -= way
		d = -d
	}
}

// plainWalkByWords walks without stepping: it takes X and Y from one border to the next.
func plainWalkByWords(w, h int64, x impl.Walker, steps int64) impl.Walker {
	v := impl.Walker{}
	v.At.X, v.DX = byBounces(2*w, x.At.X, x.DX, steps)
	v.At.Y, v.DY = byBounces(2*h, x.At.Y, x.DY, steps)
	return v
}

// isWalker reports whether a walker is one of the panels of any size, as chapter 7 words it.
func isWalker(w, h int64, v impl.Walker) bool {
	return (v.DX == 1 || v.DX == -1) && (v.DY == 1 || v.DY == -1) && hasPlace(w, h, v.At) && hasPlace(w, h, nextOf(v))
}

// plainWalked and plainReturn are results that must come with OK.
func plainWalked(t *testing.T, w, h int64, x impl.Walker, steps int64) impl.Walker {
	t.Helper()
	v, code := impl.PlainWalk(w, h, x, steps)
	if code != impl.OK {
		t.Fatalf("PlainWalk of %v in %d by %d with %d steps: code %d", x, w, h, steps, code)
	}
	return v
}

func plainReturn(t *testing.T, w, h int64, x impl.Walker) int64 {
	t.Helper()
	n, code := impl.PlainReturn(w, h, x)
	if code != impl.OK {
		t.Fatalf("PlainReturn of %v in %d by %d: code %d", x, w, h, code)
	}
	return n
}

// isPlain fails the test unless the numbers of a panel without breaks are these.
func isPlain(t *testing.T, w, h, curves, length, touches int64) {
	t.Helper()
	name := fmt.Sprint(" of ", w, " by ", h)
	same(t, "PlainCurves"+name, told(impl.PlainCurves(w, h)), told(curves, impl.OK))
	same(t, "PlainLength"+name, told(impl.PlainLength(w, h)), told(length, impl.OK))
	same(t, "PlainTouches"+name, told(impl.PlainTouches(w, h)), told(touches, impl.OK))
}

// TestPlainExample is the example of chapter 7.
func TestPlainExample(t *testing.T) {
	isPlain(t, 6, 4, 2, 48, 10)
	same(t, "the curves traced", told(impl.CountCurves(plain(6, 4))), told(2, impl.OK))
	lengths, code := impl.CurveLengths(plain(6, 4))
	same(t, "their lengths", []any{lengths, code}, []any{[]int64{48, 48}, int64(impl.OK)})
}

// sidesWritten are two numbers, their greatest common divisor and their least common multiple: sides of 1 and of
// 1000000, equal ones, those of which one divides the other, those without and those with a common divisor.
var sidesWritten = [][4]int64{
	{1, 1, 1, 1}, {1, 2, 1, 2}, {1, 1000000, 1, 1000000}, {1000000, 1000000, 1000000, 1000000}, {7, 7, 7, 7}, {8, 8, 8, 8},
	{3, 12, 3, 12}, {2, 1000000, 2, 1000000}, {500000, 1000000, 500000, 1000000}, {333333, 999999, 333333, 999999},
	{8, 15, 1, 120}, {999999, 1000000, 1, 999999000000}, {524288, 531441, 1, 278628139008}, {999979, 999983, 1, 999962000357},
	{514229, 832040, 1, 427859097160}, {6, 4, 2, 12}, {9, 6, 3, 18}, {12, 18, 6, 36}, {750000, 1000000, 250000, 3000000},
	{720720, 831600, 55440, 10810800}, {999998, 1000000, 2, 499999000000},
}

func TestDivisorsWritten(t *testing.T) {
	for _, c := range sidesWritten {
		for _, s := range [][2]int64{{c[0], c[1]}, {c[1], c[0]}} {
			same(t, fmt.Sprint("GreatestDivisor of ", s), told(impl.GreatestDivisor(s[0], s[1])), told(c[2], impl.OK))
			same(t, fmt.Sprint("LeastMultiple of ", s), told(impl.LeastMultiple(s[0], s[1])), told(c[3], impl.OK))
			isPlain(t, s[0], s[1], c[2], 4*c[3], 2*(s[0]+s[1])/c[2])
		}
	}
	isPlain(t, 1, 1, 1, 4, 4)
	isPlain(t, 1, 1000000, 1, 4000000, 2000002)
	isPlain(t, 1000000, 1000000, 1000000, 4000000, 4)
	isPlain(t, 1000000, 999999, 1, 3999996000000, 3999998)
	isPlain(t, 9, 6, 3, 72, 10)
}

// TestDivisors holds pairs of small numbers, and of some great ones, against numbers that are tried one by one.
func TestDivisors(t *testing.T) {
	check := func(a, b int64) {
		t.Helper()
		same(t, fmt.Sprint("GreatestDivisor of ", a, " ", b), told(impl.GreatestDivisor(a, b)), told(divisorByWords(a, b), impl.OK))
		same(t, fmt.Sprint("LeastMultiple of ", a, " ", b), told(impl.LeastMultiple(a, b)), told(multipleByWords(a, b), impl.OK))
	}
	for a := int64(1); a <= 72; a++ {
		for b := int64(1); b <= 72; b++ {
			check(a, b)
		}
	}
	great := []int64{1, 2, 1024, 65536, 99991, 123456, 360360, 500000, 720720, 999983, 999999, 1000000}
	for _, a := range great {
		for _, b := range great {
			check(a, b)
		}
	}
}

// TestPlainOutOfRange: 1 and 1000000 are sides, the numbers beside them are none, on either place and on both.
func TestPlainOutOfRange(t *testing.T) {
	none := told(0, impl.ErrRange)
	check := func(w, h int64) {
		t.Helper()
		name := fmt.Sprint(" of ", w, " ", h)
		same(t, "GreatestDivisor"+name, told(impl.GreatestDivisor(w, h)), none)
		same(t, "LeastMultiple"+name, told(impl.LeastMultiple(w, h)), none)
		same(t, "PlainCurves"+name, told(impl.PlainCurves(w, h)), none)
		same(t, "PlainLength"+name, told(impl.PlainLength(w, h)), none)
		same(t, "PlainTouches"+name, told(impl.PlainTouches(w, h)), none)
	}
	for _, n := range noSides() {
		for _, m := range append([]int64{1, 2, 6, 8, 9, greatSide - 1, greatSide}, noSides()...) {
			check(n, m)
			check(m, n)
		}
	}
}

// TestPlainTraced is P7: in panels of all sizes, the curves that are traced have the numbers of the formulas, and
// all of them together have all segments and all border points.
func TestPlainTraced(t *testing.T) {
	eachSize(func(w, h int64) {
		p := plain(w, h)
		curves, _ := impl.CountCurves(p)
		lengths, _ := impl.CurveLengths(p)
		for k, length := range lengths {
			touches, code := impl.TouchesOf(p, int64(k))
			same(t, "TouchesOf", code, int64(impl.OK))
			isPlain(t, w, h, curves, length, touches)
		}
		g, _ := impl.PlainCurves(w, h)
		length, _ := impl.PlainLength(w, h)
		touches, _ := impl.PlainTouches(w, h)
		same(t, fmt.Sprint("all of ", w, " by ", h), []int64{g * length, g * touches}, []int64{4 * w * h, 2 * (w + h)})
	})
}

// TestPlainGreater walks the curves of panels that are greater than MaxSide as chapters 3 and 4 word it.
func TestPlainGreater(t *testing.T) {
	for _, s := range [][2]int64{{9, 1}, {1, 9}, {9, 9}, {10, 9}, {9, 12}, {12, 18}, {24, 16}, {25, 24}, {40, 3}, {2, 50}, {30, 30}, {8, 9}, {128, 96}} {
		w, h := s[0], s[1]
		seen := map[[2]impl.Point]bool{}
		curves := int64(0)
		// Each curve has a border point, from which two walkers leave that walk the same curve, the other way round.
		for _, v := range bordersOf(w, h) {
			if seen[between(v.At, nextOf(v))] {
				continue
			}
			curves++
			length, touches := int64(0), map[impl.Point]bool{}
			for x := v; length == 0 || x != v; x = plainStep(w, h, x) {
				length++
				seen[between(x.At, nextOf(x))] = true
				if x.At.X == 0 || x.At.Y == 0 || x.At.X == 2*w || x.At.Y == 2*h {
					touches[x.At] = true
				}
			}
			l, code := impl.PlainLength(w, h)
			same(t, fmt.Sprint("PlainLength of ", s), told(l, code), told(length, impl.OK))
			n, code := impl.PlainTouches(w, h)
			same(t, fmt.Sprint("PlainTouches of ", s), told(n, code), told(int64(len(touches)), impl.OK))
		}
		same(t, fmt.Sprint("segments of ", s), int64(len(seen)), 4*w*h)
		same(t, fmt.Sprint("PlainCurves of ", s), told(impl.PlainCurves(w, h)), told(curves, impl.OK))
	}
}

// bordersOf are the walkers that leave the border points of a size.
func bordersOf(w, h int64) []impl.Walker {
	list := []impl.Walker{}
	for x := int64(1); x < 2*w; x += 2 {
		list = append(list, leaving(x, 0, 1, 1), leaving(x, 0, -1, 1), leaving(x, 2*h, 1, -1), leaving(x, 2*h, -1, -1))
	}
	for y := int64(1); y < 2*h; y += 2 {
		list = append(list, leaving(0, y, 1, 1), leaving(0, y, 1, -1), leaving(2*w, y, -1, 1), leaving(2*w, y, -1, -1))
	}
	return list
}

// TestPlainWalkWritten writes ways out: none, one step, turns at each border, and the longest ways.
func TestPlainWalkWritten(t *testing.T) {
	for _, c := range []struct {
		w, h  int64
		from  impl.Walker
		steps int64
		want  impl.Walker
	}{
		{1, 1, leaving(0, 1, 1, -1), 0, leaving(0, 1, 1, -1)},
		{1, 1, leaving(0, 1, 1, -1), 1, leaving(1, 0, 1, 1)},
		{1, 1, leaving(0, 1, 1, -1), 2, leaving(2, 1, -1, 1)},
		{1, 1, leaving(0, 1, 1, -1), 3, leaving(1, 2, -1, -1)},
		{1, 1, leaving(0, 1, 1, -1), 4, leaving(0, 1, 1, -1)},
		{1, 1, leaving(0, 1, 1, -1), greatSteps, leaving(0, 1, 1, -1)},
		{3, 2, leaving(2, 1, 1, 1), 1, leaving(3, 2, 1, 1)},
		{3, 2, leaving(2, 1, 1, 1), 3, leaving(5, 4, 1, -1)},
		{3, 2, leaving(2, 1, 1, 1), 4, leaving(6, 3, -1, -1)},
		{3, 2, leaving(2, 1, 1, 1), 7, leaving(3, 0, -1, 1)},
		{3, 2, leaving(2, 1, 1, 1), 10, leaving(0, 3, 1, 1)},
		{3, 2, leaving(0, 1, 1, -1), greatSteps, leaving(4, 1, 1, -1)},
		{7, 3, leaving(2, 5, 1, 1), 123456789012, leaving(6, 5, 1, 1)},
		{1, 1000000, leaving(1, 0, 1, 1), 1999999, leaving(0, 1999999, 1, 1)},
		{1, 1000000, leaving(1, 0, 1, 1), 2000000, leaving(1, 2000000, 1, -1)},
		{1, 1000000, leaving(1, 0, 1, 1), 2000001, leaving(2, 1999999, -1, -1)},
		{1000000, 7, leaving(3, 14, -1, -1), greatSteps, leaving(3, 6, -1, -1)},
		{999999, 1000000, leaving(0, 1, 1, -1), greatSteps, leaving(1000000, 1, 1, -1)},
		{1000000, 999999, leaving(2000000, 1999997, -1, -1), greatSteps - 1, leaving(1999999, 999998, 1, -1)},
	} {
		v, code := impl.PlainWalk(c.w, c.h, c.from, c.steps)
		name := fmt.Sprint("PlainWalk of ", c.from, " in ", c.w, " by ", c.h, " with ", c.steps)
		same(t, name, []any{v, code}, []any{c.want, int64(impl.OK)})
	}
}

// TestPlainWalkTraced is P7 for ways: all walkers of all sizes, step by step until they have been back, and then
// many steps at once, against the walkers of chapter 3.
func TestPlainWalkTraced(t *testing.T) {
	eachSize(func(w, h int64) {
		p := plain(w, h)
		for k, x := range walkersByOrder(w, h) {
			back := plainReturn(t, w, h, x)
			v := x
			for n := range back + 3 {
				if got := plainWalked(t, w, h, x, n); got != v {
					t.Errorf("PlainWalk of %v in %d by %d with %d: got %v, want %v", x, w, h, n, got, v)
				}
				v = plainStep(w, h, v)
			}
			for _, n := range []int64{9999, 10000, int64(k) * 19} {
				is(t, fmt.Sprint("PlainWalk with ", n), p, x, plainWalked(t, w, h, x, n), impl.OK, walked(t, p, x, n))
			}
		}
	})
}

// greatWalker is a walker in a panel without breaks.
type greatWalker struct {
	w, h int64
	x    impl.Walker
}

// greatWalkers are walkers at each border and inside, in panels up to the greatest one.
func greatWalkers() []greatWalker {
	list := []greatWalker{}
	sides := []int64{1, 2, 9, 500, 65536, 99991, 999999, 1000000}
	for _, w := range sides {
		for _, h := range sides {
			for _, x := range []impl.Walker{
				leaving(0, 2*h-1, 1, -1), leaving(2*w, 1, -1, 1), leaving(2*w-1, 0, -1, 1), leaving(1, 2*h, 1, -1),
				leaving(w/2*2+1, h/2*2, 1, 1), leaving(w/2*2, h/2*2+1, -1, -1),
			} {
				// In narrow panels some of them would go outside.
				if isWalker(w, h, x) {
					list = append(list, greatWalker{w, h, x})
				}
			}
		}
	}
	return list
}

// TestPlainWalkFar goes far in great panels, at once and in two parts, and back.
func TestPlainWalkFar(t *testing.T) {
	compared := 0
	for _, c := range greatWalkers() {
		for _, n := range []int64{0, 1, 2, 999, 2 * c.w, 2*c.h + 1, 4*c.w - 1, 4000000, 10000019, greatSteps / 1000003, greatSteps - 1, greatSteps} {
			got := plainWalked(t, c.w, c.h, c.x, n)
			name := fmt.Sprint("PlainWalk of ", c.x, " in ", c.w, " by ", c.h, " with ", n)
			// More turns than this take too long.
			if n/min(c.w, c.h) <= 2000000 {
				compared++
				same(t, name, got, plainWalkByWords(c.w, c.h, c.x, n))
			}
			same(t, name+" in parts", plainWalked(t, c.w, c.h, plainWalked(t, c.w, c.h, c.x, n/3), n-n/3), got)
			same(t, name+" and back", plainWalked(t, c.w, c.h, turnedBack(got), n), turnedBack(c.x))
		}
	}
	if compared < 1000 {
		t.Errorf("only %d ways were compared", compared)
	}
}

// turnedBack is the walker at the next point that leaves it backwards.
func turnedBack(x impl.Walker) impl.Walker {
	return impl.Walker{At: nextOf(x), DX: -x.DX, DY: -x.DY}
}

// TestPlainWalkFarNarrow: in small panels, the rest of a long way is walked step by step.
func TestPlainWalkFarNarrow(t *testing.T) {
	for _, s := range [][2]int64{{1, 1}, {1, 2}, {3, 1}, {2, 2}, {5, 7}, {9, 4}, {8, 8}, {11, 13}} {
		w, h := s[0], s[1]
		for _, x := range walkersByOrder(w, h) {
			round := int64(1)
			for v := plainStep(w, h, x); v != x; v = plainStep(w, h, v) {
				round++
			}
			for _, n := range []int64{greatSteps, greatSteps - 1, 987654321987, 1 << 39} {
				v := x
				for range n % round {
					v = plainStep(w, h, v)
				}
				same(t, fmt.Sprint("PlainWalk of ", x, " in ", s, " with ", n), plainWalked(t, w, h, x, n), v)
			}
		}
	}
}

// TestPlainReturn walks until each walker of some sizes is back, which it is not before.
func TestPlainReturn(t *testing.T) {
	for _, s := range [][2]int64{{1, 1}, {1, 2}, {2, 1}, {2, 2}, {3, 2}, {4, 6}, {6, 4}, {5, 5}, {8, 8}, {8, 7}, {1, 8}, {9, 9}, {9, 10}, {12, 8}, {20, 1}} {
		w, h := s[0], s[1]
		for _, x := range walkersByOrder(w, h) {
			round := int64(1)
			for v := plainStep(w, h, x); v != x; v = plainStep(w, h, v) {
				round++
			}
			same(t, fmt.Sprint("PlainReturn of ", x, " in ", s), plainReturn(t, w, h, x), round)
			same(t, fmt.Sprint("4 * l of ", s), 4*multipleByWords(w, h), round)
		}
	}
}

// TestPlainReturnTraced is P7 for returns: in panels of all sizes, walkers of chapter 3 are back after so many steps.
func TestPlainReturnTraced(t *testing.T) {
	eachSize(func(w, h int64) {
		p := plain(w, h)
		for _, x := range bordersOf(w, h) {
			n := plainReturn(t, w, h, x)
			is(t, "WalkSteps", p, x, walked(t, p, x, n), impl.OK, x)
			v := x
			for steps := int64(1); steps < n; steps++ {
				if v = stepped(t, p, v); v == x {
					t.Errorf("%v in %d by %d is back after %d steps, not after %d", x, w, h, steps, n)
				}
			}
		}
	})
}

// plainWalkedFar walks more steps than PlainWalk makes at once.
func plainWalkedFar(t *testing.T, w, h int64, x impl.Walker, steps int64) impl.Walker {
	t.Helper()
	for ; steps > greatSteps; steps -= greatSteps {
		x = plainWalked(t, w, h, x, greatSteps)
	}
	return plainWalked(t, w, h, x, steps)
}

// TestPlainReturnFar: walkers of great panels are back after so many steps. They are back after a multiple of the
// least such number only, so that it is enough to look at this number divided by its prime divisors.
func TestPlainReturnFar(t *testing.T) {
	for _, c := range greatWalkers() {
		n := plainReturn(t, c.w, c.h, c.x)
		name := fmt.Sprint(c.x, " in ", c.w, " by ", c.h)
		same(t, name+" after its return", plainWalkedFar(t, c.w, c.h, c.x, n), c.x)
		rest := n
		for d := int64(2); d*d <= rest; d++ {
			if rest%d != 0 {
				continue
			}
			for rest%d == 0 {
				rest /= d
			}
			if plainWalkedFar(t, c.w, c.h, c.x, n/d) == c.x {
				t.Errorf("%s is back after %d steps, and not only after %d", name, n/d, n)
			}
		}
		if rest > 1 && plainWalkedFar(t, c.w, c.h, c.x, n/rest) == c.x {
			t.Errorf("%s is back after %d steps, and not only after %d", name, n/rest, n)
		}
	}
	same(t, "the longest return", plainReturn(t, 1000000, 999999, leaving(0, 1, 1, 1)), int64(3999996000000))
	same(t, "a return in a great square", plainReturn(t, 1000000, 1000000, leaving(1999999, 2000000, 1, -1)), int64(4000000))
	same(t, "a return in the longest strip", plainReturn(t, 1, 1000000, leaving(1, 2000000, -1, -1)), int64(4000000))
	same(t, "a return in the least panel", plainReturn(t, 1, 1, leaving(2, 1, -1, -1)), int64(4))
}

// TestPlainWalkLimits: 0 to 10^12 steps can be made, and nothing is returned with other numbers.
func TestPlainWalkLimits(t *testing.T) {
	for _, s := range [][2]int64{{1, 1}, {3, 5}, {8, 8}, {9, 1}, {1000000, 1}, {1, 1000000}, {1000000, 999999}} {
		w, h := s[0], s[1]
		for _, x := range []impl.Walker{leaving(0, 1, 1, 1), leaving(1, 0, -1, 1), leaving(2*w, 2*h-1, -1, -1), leaving(2*w-1, 2*h, 1, -1)} {
			same(t, fmt.Sprint("no steps of ", x, " in ", s), plainWalked(t, w, h, x, 0), x)
			far := plainWalked(t, w, h, x, greatSteps-1)
			same(t, fmt.Sprint("most steps of ", x, " in ", s), plainWalked(t, w, h, x, greatSteps), plainStep(w, h, far))
			for _, n := range noSteps() {
				v, code := impl.PlainWalk(w, h, x, n)
				same(t, fmt.Sprint(n, " steps of ", x, " in ", s), []any{v, code}, []any{impl.Walker{}, int64(impl.ErrRange)})
			}
		}
	}
}

// plainRefuses checks that both functions of a walker tell a code and nothing else, whatever the steps are.
func plainRefuses(t *testing.T, w, h int64, x impl.Walker, want int64) {
	t.Helper()
	name := fmt.Sprint(" of ", x, " in ", w, " by ", h)
	same(t, "PlainReturn"+name, told(impl.PlainReturn(w, h, x)), told(0, want))
	for _, n := range []int64{0, 1, greatSteps, greatSteps + 1, -1, math.MinInt64, math.MaxInt64} {
		v, code := impl.PlainWalk(w, h, x, n)
		same(t, fmt.Sprint("PlainWalk with ", n, name), []any{v, code}, []any{impl.Walker{}, want})
	}
}

// TestPlainWalkers tries all places of some sizes and those around, with directions that are 1 or -1 or not. A
// walker that is not valid is found before the number of steps is.
func TestPlainWalkers(t *testing.T) {
	valid := 0
	for _, s := range [][2]int64{{1, 1}, {2, 1}, {1, 2}, {3, 2}, {8, 1}, {1, 9}, {9, 3}} {
		w, h := s[0], s[1]
		for _, at := range placesAround(w, h) {
			for k := range int64(25) {
				x := impl.Walker{At: at, DX: k%5 - 2, DY: k/5 - 2}
				if !isWalker(w, h, x) {
					plainRefuses(t, w, h, x, impl.ErrInvalid)
					continue
				}
				valid++
				same(t, fmt.Sprint("PlainWalk of ", x, " in ", s), plainWalked(t, w, h, x, 1), plainStep(w, h, x))
				same(t, fmt.Sprint("PlainReturn of ", x, " in ", s), plainReturn(t, w, h, x), 4*multipleByWords(w, h))
				v, code := impl.PlainWalk(w, h, x, -1)
				same(t, fmt.Sprint("steps back of ", x, " in ", s), []any{v, code}, []any{impl.Walker{}, int64(impl.ErrRange)})
			}
		}
	}
	// Each segment of a size is walked in two directions.
	same(t, "valid walkers", valid, 8*(1+2+2+6+8+9+27))
}

// TestPlainWalkersFar: walkers beside the corners of great panels, where a sum of them overflows, and of panels
// with the sides exchanged.
func TestPlainWalkersFar(t *testing.T) {
	for _, s := range [][2]int64{{1000000, 1000000}, {1000000, 1}, {999999, 1000000}, {1000000, 7}} {
		w, h := s[0], s[1]
		for _, at := range []impl.Point{pt(0, 0), pt(2*w, 0), pt(0, 2*h), pt(2*w, 2*h)} {
			for k := range int64(25 * 4) {
				x := leaving(at.X+k%5-2, at.Y+k/5%5-2, k/25%2*2-1, k/50*2-1)
				if !isWalker(w, h, x) {
					plainRefuses(t, w, h, x, impl.ErrInvalid)
				} else {
					same(t, fmt.Sprint("PlainWalk of ", x, " in ", s), plainWalked(t, w, h, x, 1), plainStep(w, h, x))
				}
			}
		}
		for _, far := range []int64{math.MinInt64, math.MinInt64 + 1, math.MaxInt64 - 1, math.MaxInt64} {
			for _, x := range []impl.Walker{
				leaving(far, 1, 1, 1), leaving(far, 0, -1, 1), leaving(far, 0, 1, 1), leaving(0, far, 1, 1), leaving(1, far, 1, -1),
				leaving(far, far, 1, 1), leaving(far, far, -1, -1), leaving(far, far, far, far), leaving(0, 1, far, 1), leaving(0, 1, 1, far),
			} {
				plainRefuses(t, w, h, x, impl.ErrInvalid)
			}
		}
	}
	same(t, "the last walker", plainWalked(t, 1000000, 2, leaving(2000000, 3, -1, 1), 1), leaving(1999999, 4, -1, -1))
	plainRefuses(t, 2, 1000000, leaving(2000000, 3, -1, 1), impl.ErrInvalid)
	plainRefuses(t, 999999, 2, leaving(2000000, 3, -1, 1), impl.ErrInvalid)
	for _, x := range invalidWalkers() {
		plainRefuses(t, 8, 8, x, impl.ErrInvalid)
	}
}

// TestPlainSidesFirst: sides that are out of range are found before a walker that is not valid is, and before a
// number of steps that is out of range.
func TestPlainSidesFirst(t *testing.T) {
	walkers := []impl.Walker{leaving(0, 1, 1, 1), leaving(1, 0, 1, 1), {}, leaving(0, 0, 1, 1), leaving(0, 1, 0, 1), leaving(math.MinInt64, math.MaxInt64, -1, 1)}
	for _, n := range noSides() {
		for _, x := range walkers {
			for _, m := range []int64{1, 7, greatSide, n} {
				plainRefuses(t, n, m, x, impl.ErrRange)
				plainRefuses(t, m, n, x, impl.ErrRange)
			}
		}
	}
	plainRefuses(t, 0, math.MaxInt64, leaving(0, 1, 1, 1), impl.ErrRange)
	plainRefuses(t, math.MinInt64, greatSide+1, leaving(3, 3, 3, 3), impl.ErrRange)
}

func TestSingleSizes(t *testing.T) {
	for h, want := range [][]int64{
		{1, 2, 3, 4, 5, 6, 7, 8}, {1, 3, 5, 7}, {1, 2, 4, 5, 7, 8}, {1, 3, 5, 7},
		{1, 2, 3, 4, 6, 7, 8}, {1, 5, 7}, {1, 2, 3, 4, 5, 6, 8}, {1, 3, 5, 7},
	} {
		list, code := impl.SingleSizes(int64(h + 1))
		same(t, fmt.Sprint("SingleSizes of ", h+1), []any{list, code}, []any{want, int64(impl.OK)})
		traced := []int64{}
		for w := int64(1); w <= impl.MaxSide; w++ {
			if impl.IsSingle(plain(w, int64(h+1))) {
				traced = append(traced, w)
			}
		}
		same(t, fmt.Sprint("the sizes traced of ", h+1), list, traced)
		spoil(list)
		again, _ := impl.SingleSizes(int64(h + 1))
		same(t, fmt.Sprint("SingleSizes again of ", h+1), again, want)
	}
	for _, h := range append([]int64{greatSide, -8}, edgeNumbers...) {
		if h >= 1 && h <= impl.MaxSide {
			continue
		}
		list, code := impl.SingleSizes(h)
		same(t, fmt.Sprint("SingleSizes of ", h), told(int64(len(list)), code), told(0, impl.ErrRange))
	}
}

// TestStripCurves holds all strips against tracing: each upright mirror divides a curve, no level one does.
func TestStripCurves(t *testing.T) {
	for w := int64(1); w <= impl.MaxSide; w++ {
		for _, p := range allPanels(w, 1) {
			upright := int64(0)
			for _, kind := range p.Breaks {
				if kind == impl.BreakUpright {
					upright++
				}
			}
			same(t, fmt.Sprint("StripCurves of ", p), told(impl.StripCurves(p)), told(1+upright, impl.OK))
			same(t, fmt.Sprint("CountCurves of ", p), told(impl.CountCurves(p)), told(1+upright, impl.OK))
		}
	}
	for text, want := range map[string]int64{
		"1x1:": 1, "2x1:+": 1, "2x1:|": 2, "2x1:-": 1, "3x1:||": 3, "3x1:--": 1, "3x1:|-": 2, "8x1:|||||||": 8, "8x1:-------": 1, "8x1:-|+|-|+": 4,
	} {
		same(t, "StripCurves of "+text, told(impl.StripCurves(fromText(t, text))), told(want, impl.OK))
	}
}

// TestStripCurvesErrors: a panel that is not valid is found before one that is no strip is.
func TestStripCurvesErrors(t *testing.T) {
	eachSize(func(w, h int64) {
		if h > 1 {
			for _, p := range []impl.Panel{plain(w, h), mixedPanel(w, h), smallCircles(w, h)} {
				same(t, fmt.Sprint("StripCurves of ", p), told(impl.StripCurves(p)), told(0, impl.ErrState))
			}
		}
	})
	strips, others := 0, 0
	for _, p := range append(invalidPanels(), panelOf(3, 1, 1, 4), panelOf(3, 1, -1, 1), panelOf(3, 1, 1), panelOf(9, 1, 1, 1, 1, 1, 1, 1, 1, 1)) {
		same(t, fmt.Sprint("StripCurves of ", p), told(impl.StripCurves(p)), told(0, impl.ErrInvalid))
		if p.H == 1 {
			strips++
		} else {
			others++
		}
	}
	if strips < 5 || others < 5 {
		t.Errorf("%d strips and %d other panels are not valid", strips, others)
	}
}

// allOfRectangles tells what the functions of chapter 7 return for many arguments.
func allOfRectangles(p impl.Panel) []string {
	out := []string{fmt.Sprint(told(impl.StripCurves(p)))}
	for _, a := range []int64{-1, 0, p.W, 1, 6, 9, greatSide, greatSide + 1} {
		list, code := impl.SingleSizes(a)
		out = append(out, fmt.Sprint(list, code))
		for _, b := range []int64{0, 1, p.H, 4, 999999, greatSide, math.MaxInt64} {
			out = append(out, fmt.Sprint(told(impl.GreatestDivisor(a, b)), told(impl.LeastMultiple(a, b)),
				told(impl.PlainCurves(a, b)), told(impl.PlainLength(a, b)), told(impl.PlainTouches(a, b))))
			for _, x := range []impl.Walker{leaving(0, 1, 1, 1), leaving(2, 1, 1, -1), {}} {
				v, code := impl.PlainWalk(a, b, x, greatSteps-p.W)
				out = append(out, fmt.Sprint(v, code, told(impl.PlainReturn(a, b, x))))
			}
		}
	}
	return out
}

// TestRectanglesUnchanged is P1: no function of chapter 7 changes a panel, and all tell the same again.
func TestRectanglesUnchanged(t *testing.T) {
	for _, p := range append(invalidPanels(), panelOf(1, 1), mixedPanel(2, 1), mixedPanel(8, 1), mixedPanel(1, 8), mixedPanel(8, 8)) {
		unchanged(t, p, allOfRectangles)
	}
}
