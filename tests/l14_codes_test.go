package tests

import (
	"fmt"
	"math"
	"math/rand"
	"regexp"
	"slices"
	"strconv"
	"strings"
	"sync"
	"testing"

	"loop.example/g00931/impl"
)

// codeIn is the code that a text tells, valid or not.
func codeIn(text string) [][]int64 {
	code := [][]int64{}
	if text == "none" {
		return code
	}
	for _, part := range strings.Split(text, ";") {
		curve := []int64{}
		for _, word := range strings.Fields(part) {
			if word == "o" {
				continue
			}
			n, err := strconv.ParseInt(word, 10, 64)
			if err != nil {
				panic(err)
			}
			curve = append(curve, n)
		}
		code = append(code, curve)
	}
	return code
}

// codeText is the text of a code as chapter 14 words it.
func codeText(code [][]int64) string {
	text := ""
	for k, curve := range code {
		if k > 0 {
			text += ";"
		}
		if len(curve) == 0 {
			text += "o"
		}
		text += strings.Trim(fmt.Sprint(curve), "[]")
	}
	if len(code) == 0 {
		return "none"
	}
	return text
}

// copyOf is a code that shares no memory with another one.
func copyOf(code [][]int64) [][]int64 {
	list := [][]int64{}
	for _, curve := range code {
		list = append(list, append([]int64{}, curve...))
	}
	return list
}

// oneToBoth are the numbers from 1 to n and their opposites, in ascending order.
func oneToBoth(n int) []int64 {
	list := []int64{}
	for k := -n; k <= n; k++ {
		if k != 0 {
			list = append(list, int64(k))
		}
	}
	return list
}

// codeValid reports whether a code is valid as chapter 14 words it.
func codeValid(code [][]int64) bool {
	all := slices.Sorted(slices.Values(slices.Concat(code...)))
	n := len(all) / 2
	return len(code) <= 40 && n <= 120 && slices.Equal(all, oneToBoth(n))
}

// codeAlternates reports whether the signs of each curve of a code are + and - again and again, an even number of them.
func codeAlternates(code [][]int64) bool {
	for _, curve := range code {
		signs := ""
		for _, n := range curve {
			signs += map[bool]string{true: "+", false: "-"}[n > 0]
		}
		half := len(signs) / 2
		if signs != strings.Repeat("+-", half) && signs != strings.Repeat("-+", half) {
			return false
		}
	}
	return true
}

// curveWith is the index of the first curve of a code that has a number.
func curveWith(code [][]int64, n int64) int64 {
	return int64(slices.IndexFunc(code, func(curve []int64) bool { return slices.Contains(curve, n) }))
}

// withCurve is the code in which another curve stands at an index.
func withCurve(code [][]int64, k int64, curve []int64) [][]int64 {
	list := copyOf(code)
	list[k] = curve
	return list
}

// turnedList is a list whose first element became the last one, again and again.
func turnedList(list []int64, by int64) []int64 {
	list = slices.Clone(list)
	for range by {
		if len(list) > 0 {
			list = append(list[1:], list[0])
		}
	}
	return list
}

// backwards is a list in the opposite order.
func backwards(list []int64) []int64 {
	back := []int64{}
	for _, n := range list {
		back = append([]int64{n}, back...)
	}
	return back
}

// opposites is a code with the opposite of each number.
func opposites(code [][]int64) [][]int64 {
	list := copyOf(code)
	for _, curve := range list {
		for k, n := range curve {
			curve[k] = 0 - n
		}
	}
	return list
}

// isCode holds a code with its error against what is wanted; a nil list is as an empty one.
func isCode(t *testing.T, name string, got [][]int64, code int64, want [][]int64, wantCode int64) {
	t.Helper()
	if fmt.Sprint(got) != fmt.Sprint(want) || code != wantCode {
		t.Errorf("%s: got %v %d, want %v %d", name, got, code, want, wantCode)
	}
}

// isRead holds ReadCode against what is wanted, which is nil for a text of no code.
func isRead(t *testing.T, s string, want [][]int64, ok bool) {
	t.Helper()
	got, is := impl.ReadCode(s)
	if fmt.Sprint(got) != fmt.Sprint(want) || is != ok {
		t.Errorf("ReadCode of %q: got %v %t, want %v %t", s, got, is, want, ok)
	}
}

// toldBoth are two numbers with their code.
func toldBoth(a, b, code int64) [3]int64 { return [3]int64{a, b, code} }

// turnsBy are numbers by which a curve of n elements is turned.
func turnsBy(n int) []int64 {
	k := int64(n)
	list := []int64{0, 1, 2, 3, k - 1, k, k + 1, 2*k - 1, 2 * k, 2*k + 1, 500, 999, 1000}
	return slices.DeleteFunc(list, func(by int64) bool { return by < 0 || by > 1000 })
}

// isDiagram holds all that is told of a valid code against the words of chapter 14.
func isDiagram(t *testing.T, code [][]int64) {
	t.Helper()
	name := " of " + codeText(code)
	n := int64(len(slices.Concat(code...)) / 2)
	same(t, "ValidCode"+name, impl.ValidCode(code), true)
	same(t, "SameCode"+name, impl.SameCode(code, copyOf(code)), true)
	same(t, "CountCoded"+name, told(impl.CountCoded(code)), told(n, impl.OK))
	same(t, "AlternatingCode"+name, impl.AlternatingCode(code), codeAlternates(code))
	same(t, "CodeText"+name, impl.CodeText(code), codeText(code))
	isRead(t, codeText(code), code, true)
	for k := range n {
		want := toldBoth(curveWith(code, k+1), curveWith(code, -k-1), impl.OK)
		same(t, fmt.Sprint("CurvesAt ", k, name), toldBoth(impl.CurvesAt(code, k)), want)
	}
	mirror, one := impl.MirrorCode(code)
	isCode(t, "MirrorCode"+name, mirror, one, opposites(code), impl.OK)
	for k, curve := range code {
		back, two := impl.BackCurve(code, int64(k))
		isCode(t, fmt.Sprint("BackCurve ", k, name), back, two, withCurve(code, int64(k), backwards(curve)), impl.OK)
		for _, by := range turnsBy(len(curve)) {
			turned, three := impl.TurnCurve(code, int64(k), by)
			want := withCurve(code, int64(k), turnedList(curve, by))
			isCode(t, fmt.Sprint("TurnCurve ", k, " by ", by, name), turned, three, want, impl.OK)
		}
	}
}

// isRefused holds all that is told of a code with a curve, a crossing and a number to turn by against a code with which
// nothing is told.
func isRefused(t *testing.T, code [][]int64, curve, crossing, by, want int64) {
	t.Helper()
	name := fmt.Sprint(" of ", codeText(code), " with ", curve, " ", crossing, " ", by)
	turned, one := impl.TurnCurve(code, curve, by)
	isCode(t, "TurnCurve"+name, turned, one, nil, want)
	back, two := impl.BackCurve(code, curve)
	isCode(t, "BackCurve"+name, back, two, nil, want)
	same(t, "CurvesAt"+name, toldBoth(impl.CurvesAt(code, crossing)), toldBoth(0, 0, want))
}

// isNoCode holds all that is told of a code that is not valid against the words of chapter 14: that it is not valid is
// found first.
func isNoCode(t *testing.T, code [][]int64) {
	t.Helper()
	name := " of " + codeText(code)
	same(t, "ValidCode"+name, impl.ValidCode(code), false)
	same(t, "SameCode"+name, impl.SameCode(code, copyOf(code)), true)
	same(t, "CountCoded"+name, told(impl.CountCoded(code)), told(0, impl.ErrInvalid))
	same(t, "AlternatingCode"+name, impl.AlternatingCode(code), false)
	same(t, "CodeText"+name, impl.CodeText(code), "")
	isRead(t, codeText(code), nil, false)
	mirror, one := impl.MirrorCode(code)
	isCode(t, "MirrorCode"+name, mirror, one, nil, impl.ErrInvalid)
	for _, k := range []int64{0, 1, -1, 1000, int64(len(code)), math.MaxInt64, math.MinInt64} {
		for _, by := range []int64{0, 1, -1, 1001} {
			isRefused(t, code, k, k, by, impl.ErrInvalid)
		}
	}
}

// cut is the code with numbers, in order, where the curves end at random places.
func cut(random *rand.Rand, all []int64, curves int) [][]int64 {
	code := make([][]int64, curves)
	ends := []int{}
	for range curves - 1 {
		ends = append(ends, random.Intn(len(all)+1))
	}
	slices.Sort(ends)
	ends = append(ends, len(all))
	for k, start := 0, 0; k < curves; k++ {
		code[k] = slices.Clone(all[start:ends[k]])
		start = ends[k]
	}
	return code
}

// mixedCode is a valid code with so many crossings and curves, in no order.
func mixedCode(random *rand.Rand, crossings, curves int) [][]int64 {
	all := oneToBoth(crossings)
	random.Shuffle(len(all), func(i, k int) { all[i], all[k] = all[k], all[i] })
	return cut(random, all, curves)
}

// codedPanels are panels of all sizes that have at most 40 curves.
func codedPanels() []impl.Panel {
	return slices.DeleteFunc(crossingPanels(), func(p impl.Panel) bool { return waysOf(p) > 40 })
}

// codeByWords is the code of a panel with the passes of its curves.
func codeByWords(p impl.Panel) [][]int64 {
	code := [][]int64{}
	curves, _ := curvesByWords(p)
	for _, points := range curves {
		curve := []int64{}
		for _, pass := range passesByWords(p, points) {
			if pass.Over {
				curve = append(curve, pass.Crossing+1)
			} else {
				curve = append(curve, -pass.Crossing-1)
			}
		}
		code = append(code, curve)
	}
	return code
}

// someCodes are valid codes: those without curves and without crossings, those of panels, and some that belong to none.
func someCodes() [][][]int64 {
	list := [][][]int64{nil, {}, {nil}, {{}}, {nil, {}}, {{}, {}, {}}}
	for _, text := range []string{
		"1 -1", "-1 1", "1;-1", "-1;1", "o;1 -1", "1 -1;o", "1;o;-1", "o;o;-1;o;1;o", "1 2 -1 -2", "1 -2 2 -1", "1 -2;-1 2", "2 1;-1 -2", "-2;1;2;-1", "3 -1 2;o;-3 1 -2",
	} {
		list = append(list, codeIn(text))
	}
	random := rand.New(rand.NewSource(14))
	for _, n := range [][2]int{{0, 40}, {1, 40}, {2, 2}, {3, 1}, {3, 5}, {5, 3}, {9, 2}, {10, 4}, {20, 40}, {60, 7}, {99, 1}, {112, 8}, {119, 39}, {120, 1}, {120, 2}, {120, 40}} {
		list = append(list, mixedCode(random, n[0], n[1]), mixedCode(random, n[0], n[1]))
	}
	for _, p := range errorPanels() {
		if waysOf(p) <= 40 {
			list = append(list, codeByWords(p))
		}
	}
	return list
}

// noCodes are lists of lists that are no codes, of which each breaks a rule.
func noCodes() [][][]int64 {
	list := [][][]int64{make([][]int64, 41), append(make([][]int64, 40), []int64{1, -1}), append(codeIn("1 -1"), make([][]int64, 40)...)}
	for _, text := range []string{
		// A number that is missing, alone, at the beginning, at the end, and between others.
		"1", "-1", "o;1", "-1;o", "2", "-2", "1 2", "-1 -2", "1;2", "1 -2", "-1 2", "1;-2", "1 -1 2", "1 -1 -2", "2 1 -1", "1 2 -2", "-1 2 -2", "2 -2", "2;-2", "1 -1 3 -3", "2 -2 3 -3", "1 -1 2 -3", "1 2 3 -1 -2", "1;-1;2", "1 2 3 -1 -2 -4",
		// One that occurs twice, in one curve and in two, beside the others and in the place of one.
		"1 1", "-1 -1", "1;1", "-1;-1", "1 -1 1", "1 -1 -1", "1 -1;1", "-1;1;-1", "1 -1 1 -1", "1 -1;1 -1", "1 1 -1 -1", "1 1 2 -2", "1 -1 2 2", "1 -1 -2 -2", "1 2 -1 -1", "1 2 -2 -2", "2 2 -1 -2", "1 -2;-1 2;1", "1 -1 2 -2 2 -2", "1 -1 2 -2 -1 1",
		// 0, alone, in the place of another one, and beside all others.
		"0", "0 0", "0;0", "1 0", "0 -1", "0;1", "0 1 -1", "1 0 -1", "1 -1 0", "1 -1;0", "0;1 -1", "0 1 -1 0", "0 1 -1 2 -2", "0 0 1 -1", "1 -1 0 -2", "1 -1 2 0",
		// One that is too great for its code, or too small.
		"3 -3", "1 -1 3 -2", "1 -1 2 -3", "120 -120", "121 -121", "-121 121", "1 -1 121 -121", "1 -120", "256 -256", "257 -257", "1 -1 4 -4", "1 -1 4294967298 -4294967298", "4294967297 -4294967297", "4294967297 -1", "1 -4294967297", "65537 -65537", "18014398509481985 -18014398509481985",
		// The greatest and the least int64, whose opposite is no int64.
		"9223372036854775807", "-9223372036854775808", "9223372036854775807 -9223372036854775807", "-9223372036854775808 -9223372036854775808", "9223372036854775807 -9223372036854775808", "-9223372036854775808 9223372036854775807", "1 -9223372036854775808", "-1 -9223372036854775808", "1 -1 -9223372036854775808", "1 -1;-9223372036854775808 9223372036854775807", "1 9223372036854775807", "-1 9223372036854775807", "1 -1 2 -9223372036854775808", "1 -1 9223372036854775807 -9223372036854775807",
	} {
		list = append(list, codeIn(text))
	}
	random := rand.New(rand.NewSource(41))
	for _, n := range [][2]int{{121, 1}, {121, 2}, {121, 40}, {0, 41}, {1, 41}, {20, 41}, {120, 41}, {121, 41}, {122, 3}, {200, 1}, {1000, 9}} {
		list = append(list, mixedCode(random, n[0], n[1]))
	}
	// With one more element than MaxCrossings crossings have, or one less.
	all := oneToBoth(120)
	for _, more := range []int64{121, -121, 0, 1, -120} {
		list = append(list, [][]int64{append(slices.Clone(all), more)}, [][]int64{all, {more}})
	}
	return append(list, [][]int64{all[1:]}, [][]int64{all[:239]}, [][]int64{append(slices.Clone(all[1:]), 0)}, [][]int64{append(slices.Clone(all[1:]), -119)})
}

// TestCodeExample is the example of chapter 14, with what all functions tell of it.
func TestCodeExample(t *testing.T) {
	code, err := impl.CodeOf(plain(2, 1))
	isCode(t, "CodeOf", code, err, [][]int64{{-1, 1}}, impl.OK)
	same(t, "CodeText", impl.CodeText(code), "-1 1")
	isRead(t, "-1 1", [][]int64{{-1, 1}}, true)
	same(t, "ValidCode", impl.ValidCode(code), true)
	same(t, "CountCoded", told(impl.CountCoded(code)), told(1, impl.OK))
	turned, err := impl.TurnCurve(code, 0, 1)
	isCode(t, "TurnCurve", turned, err, [][]int64{{1, -1}}, impl.OK)
	back, err := impl.BackCurve(code, 0)
	isCode(t, "BackCurve", back, err, [][]int64{{1, -1}}, impl.OK)
	mirror, err := impl.MirrorCode(code)
	isCode(t, "MirrorCode", mirror, err, [][]int64{{1, -1}}, impl.OK)
	same(t, "CurvesAt", toldBoth(impl.CurvesAt(code, 0)), toldBoth(0, 0, impl.OK))
	same(t, "AlternatingCode", impl.AlternatingCode(code), true)
	same(t, "SameCode of both", impl.SameCode(code, mirror), false)
	same(t, "SameCode of equal ones", impl.SameCode(turned, mirror), true)
}

// TestCodeConstants holds the limits against the document.
func TestCodeConstants(t *testing.T) {
	same(t, "limits", []int64{impl.MaxCrossings, impl.MaxCoded}, []int64{120, 40})
}

// TestCodesOfPanelsWritten writes the codes of some panels out: with curves without crossings alone, ahead of others,
// between them and behind them.
func TestCodesOfPanelsWritten(t *testing.T) {
	for _, c := range [][2]string{
		{"1x1:", "o"}, {"2x1:+", "-1 1"}, {"2x1:|", "o;o"}, {"2x1:-", "o"}, {"1x2:+", "-1 1"}, {"1x2:-", "o;o"}, {"1x2:|", "o"},
		{"3x1:++", "-1 2 -2 1"}, {"1x3:++", "-1 2 -2 1"}, {"3x1:|+", "o;-1 1"}, {"3x1:+|", "-1 1;o"}, {"3x1:-+", "-1 1"}, {"3x1:--", "o"}, {"3x1:||", "o;o;o"},
		{"4x1:|+|", "o;-1 1;o"}, {"5x1:+||+", "-1 1;o;-2 2"}, {"4x1:||+", "o;o;-1 1"}, {"4x1:+||", "-1 1;o;o"}, {"5x1:||++", "o;o;-1 2 -2 1"},
		{"2x2:++++", "-1 3 -4 2;-2 1 -3 4"}, {"2x2:|+++", "-1 3 -2 2 -3 1"}, {"2x2:++|+", "-1 3 -2 1 -3 2"}, {"2x2:-+++", "-2 3 -1 2 -3 1"}, {"2x2:|--|", "o;o;o;o"},
		{"3x2:+-|+|++", "-1 2 -4 1 -3 4 -2 3"},
	} {
		p := fromText(t, c[0])
		code, err := impl.CodeOf(p)
		isCode(t, "CodeOf "+c[0], code, err, codeIn(c[1]), impl.OK)
		same(t, "text of "+c[0], impl.CodeText(code), c[1])
		same(t, "the words for "+c[0], codeText(codeByWords(p)), c[1])
		isDiagram(t, code)
	}
}

// TestCodesOfPanels holds the codes of many panels against the words of chapters 13 and 14, and against the functions of
// chapters 4 and 13; it is the first half of P15: each code is valid, it alternates, and its crossings are those of the
// panel.
func TestCodesOfPanels(t *testing.T) {
	for _, p := range codedPanels() {
		name := fmt.Sprint(" of ", p)
		code, err := impl.CodeOf(p)
		isCode(t, "CodeOf"+name, code, err, codeByWords(p), impl.OK)
		same(t, "ValidCode"+name, impl.ValidCode(code), true)
		same(t, "AlternatingCode"+name, impl.AlternatingCode(code), true)
		same(t, "CountCoded"+name, told(impl.CountCoded(code)), told(int64(len(crossingPlaces(p))), impl.OK))
		crossings, _ := impl.CountBreaks(p, impl.BreakNone)
		same(t, "crossings"+name, told(impl.CountCoded(code)), told(crossings, impl.OK))
		n, _ := impl.CountCurves(p)
		same(t, "curves"+name, int64(len(code)), n)
		for k, curve := range code {
			passes, _ := impl.PassesOf(p, int64(k))
			same(t, fmt.Sprint("elements of ", k, name), len(curve), len(passes))
			for i, pass := range passes {
				same(t, fmt.Sprint("over at ", i, name), curve[i] > 0, pass.Over)
				same(t, fmt.Sprint("crossing at ", i, name), max(curve[i], -curve[i]), pass.Crossing+1)
			}
		}
		isRead(t, impl.CodeText(code), code, true)
	}
}

// TestCurvesAtPanels: the curves that pass a crossing of a panel are those that have segments there.
func TestCurvesAtPanels(t *testing.T) {
	for _, p := range errorPanels() {
		code, err := impl.CodeOf(p)
		if err != impl.OK {
			continue
		}
		for k, at := range crossingPlaces(p) {
			over, under, err := impl.CurvesAt(code, int64(k))
			both, _ := impl.CurvesThrough(p, at)
			got := slices.Compact(slices.Sorted(slices.Values([]int64{over, under})))
			isList(t, fmt.Sprint("curves at ", at, " of ", p), got, err, both, impl.OK)
		}
	}
}

// joinedTo is the panel in which mirrors of the one with the most curves of its size are taken away, one after the other,
// until it has so many curves; it has crossings there.
func joinedTo(w, h, curves int64) impl.Panel {
	p := smallCircles(w, h)
	for k := range p.Breaks {
		if waysOf(p) == curves {
			break
		}
		p.Breaks[k] = impl.BreakNone
	}
	return p
}

// TestFullCodes: panels with as many curves as codes may have, with one less and with more, with crossings and without.
func TestFullCodes(t *testing.T) {
	for _, s := range [][2]int64{{5, 8}, {8, 5}, {6, 7}, {7, 6}, {7, 7}, {8, 8}} {
		for curves := int64(38); curves <= min(s[0]*s[1], 43); curves++ {
			p := joinedTo(s[0], s[1], curves)
			same(t, fmt.Sprint("curves of ", p), told(impl.CountCurves(p)), told(curves, impl.OK))
			code, err := impl.CodeOf(p)
			if curves > 40 {
				isCode(t, fmt.Sprint("CodeOf ", p), code, err, nil, impl.ErrFull)
				continue
			}
			isCode(t, fmt.Sprint("CodeOf ", p), code, err, codeByWords(p), impl.OK)
			isDiagram(t, code)
		}
		for _, p := range []impl.Panel{smallCircles(s[0], s[1]), joinedTo(s[0], s[1], 30)} {
			if waysOf(p) > 40 {
				code, err := impl.CodeOf(p)
				isCode(t, fmt.Sprint("CodeOf ", p), code, err, nil, impl.ErrFull)
			}
		}
	}
	code, err := impl.CodeOf(smallCircles(8, 5))
	isCode(t, "CodeOf 40 circles", code, err, make([][]int64, 40), impl.OK)
	same(t, "text of 40 circles", impl.CodeText(code), "o"+strings.Repeat(";o", 39))
}

// TestCodesOfFull: the greatest panel has fewer crossings than codes may have.
func TestCodesOfFull(t *testing.T) {
	code, err := impl.CodeOf(plain(8, 8))
	same(t, "code of CodeOf", err, int64(impl.OK))
	same(t, "its crossings", told(impl.CountCoded(code)), told(112, impl.OK))
	same(t, "its curves", len(code), 8)
	isDiagram(t, code)
	code, err = impl.CodeOf(plain(8, 7))
	same(t, "code of CodeOf", err, int64(impl.OK))
	same(t, "its crossings", told(impl.CountCoded(code)), told(8*6+7*7, impl.OK))
	same(t, "its elements", []int{len(code), len(code[0])}, []int{1, 2 * (8*6 + 7*7)})
	isDiagram(t, code)
}

// TestCodePanelErrors: a panel that is not valid is found before it has too many curves.
func TestCodePanelErrors(t *testing.T) {
	great := smallCircles(8, 8)
	list := append(invalidPanels(), panelOf(8, 8, append(slices.Clone(great.Breaks), 1)...), panelOf(8, 8, great.Breaks[1:]...), panelOf(9, 8, great.Breaks...), panelOf(8, 9, great.Breaks...))
	for _, kind := range []int64{3, -1, math.MaxInt64, math.MinInt64} {
		for _, k := range []int{0, 60, 111} {
			p := smallCircles(8, 8)
			p.Breaks[k] = kind
			list = append(list, p)
		}
	}
	for _, p := range list {
		code, err := impl.CodeOf(p)
		isCode(t, fmt.Sprint("CodeOf ", p), code, err, nil, impl.ErrInvalid)
	}
}

// TestCodesValid holds all functions against the words of chapter 14 for many valid codes.
func TestCodesValid(t *testing.T) {
	for _, code := range someCodes() {
		isDiagram(t, code)
	}
	random := rand.New(rand.NewSource(114))
	for range 300 {
		isDiagram(t, mixedCode(random, random.Intn(12), 1+random.Intn(9)))
	}
}

// TestNoCodes holds all functions against the words of chapter 14 for many codes that are not valid.
func TestNoCodes(t *testing.T) {
	for _, code := range noCodes() {
		isNoCode(t, code)
	}
}

// TestCodesAll goes through all codes of at least one curve whose numbers, from -3 to 3, and whose ends of curves, but
// the last one, are up to six.
func TestCodesAll(t *testing.T) {
	found := 0
	eachList(6, -3, 4, func(list []int64) {
		code := [][]int64{{}}
		for _, n := range list {
			if n == 4 {
				code = append(code, []int64{})
				continue
			}
			code[len(code)-1] = append(code[len(code)-1], n)
		}
		valid := codeValid(code)
		if impl.ValidCode(code) != valid {
			t.Errorf("ValidCode of %v: got %t", code, !valid)
		}
		switch {
		case valid:
			found++
			isDiagram(t, code)
		case len(list) < 4:
			isNoCode(t, code)
		}
	})
	// For n crossings and s ends, these are the orders of 2 * n numbers times the ways to put the ends between them:
	// 1 for n = 0, 2 * (1 + 3 + 6 + 10 + 15) for n = 1, 24 * (1 + 5 + 15) for n = 2, and 720 for n = 3.
	same(t, "valid codes", found, 7+70+504+720)
}

// TestCodesChanged changes one number of a valid code, takes one away, or puts one more in: the code is not valid then,
// unless it is the same again.
func TestCodesChanged(t *testing.T) {
	random := rand.New(rand.NewSource(15))
	not := 0
	for range 2000 {
		code := mixedCode(random, 1+random.Intn(8), 1)
		all := code[0]
		k := random.Intn(len(all))
		switch n := []int64{0, 1, -1, -all[k], all[k] + 1, all[k] - 1, 9, -9, math.MaxInt64, math.MinInt64}[random.Intn(10)]; random.Intn(3) {
		case 0:
			all[k] = n
		case 1:
			all = slices.Delete(all, k, k+1)
		case 2:
			all = slices.Insert(all, k, n)
		}
		code = cut(random, all, 1+random.Intn(3))
		if codeValid(code) {
			isDiagram(t, code)
			continue
		}
		not++
		isNoCode(t, code)
	}
	if not < 1500 {
		t.Errorf("only %d codes were not valid", not)
	}
}

// TestEmptyCodes: nil and empty lists are codes without curves, and curves without elements have no crossings.
func TestEmptyCodes(t *testing.T) {
	for _, code := range [][][]int64{nil, {}, make([][]int64, 0, 5)} {
		same(t, "ValidCode", impl.ValidCode(code), true)
		same(t, "CountCoded", told(impl.CountCoded(code)), told(0, impl.OK))
		same(t, "AlternatingCode", impl.AlternatingCode(code), true)
		same(t, "CodeText", impl.CodeText(code), "none")
		mirror, err := impl.MirrorCode(code)
		isCode(t, "MirrorCode", mirror, err, nil, impl.OK)
		for _, k := range edgeNumbers {
			isRefused(t, code, k, k, 0, impl.ErrRange)
		}
	}
	for _, code := range [][][]int64{{nil}, {{}}, {make([]int64, 0, 5)}} {
		same(t, "ValidCode", impl.ValidCode(code), true)
		same(t, "CountCoded", told(impl.CountCoded(code)), told(0, impl.OK))
		same(t, "AlternatingCode", impl.AlternatingCode(code), true)
		same(t, "CodeText", impl.CodeText(code), "o")
		for _, by := range []int64{0, 1, 2, 999, 1000} {
			turned, err := impl.TurnCurve(code, 0, by)
			isCode(t, fmt.Sprint("TurnCurve by ", by), turned, err, [][]int64{{}}, impl.OK)
		}
		back, err := impl.BackCurve(code, 0)
		isCode(t, "BackCurve", back, err, [][]int64{{}}, impl.OK)
		same(t, "CurvesAt", toldBoth(impl.CurvesAt(code, 0)), toldBoth(0, 0, impl.ErrRange))
	}
	isRead(t, "none", nil, true)
	isRead(t, "o", [][]int64{{}}, true)
}

// TestCodeLimits: as many curves and crossings as codes may have, and one more, with one curve and with many.
func TestCodeLimits(t *testing.T) {
	isDiagram(t, make([][]int64, 40))
	isNoCode(t, make([][]int64, 41))
	isNoCode(t, make([][]int64, 1000))
	isDiagram(t, append(codeIn("1 -1"), make([][]int64, 39)...))
	isNoCode(t, append(codeIn("1 -1"), make([][]int64, 40)...))
	for _, curves := range []int{1, 2, 39, 40, 41} {
		for _, crossings := range []int{0, 1, 119, 120, 121} {
			code := mixedCode(rand.New(rand.NewSource(40)), crossings, curves)
			if curves > 40 || crossings > 120 {
				isNoCode(t, code)
			} else {
				isDiagram(t, code)
			}
		}
	}
	isDiagram(t, [][]int64{oneToBoth(120)})
	isNoCode(t, [][]int64{oneToBoth(121)})
	isDiagram(t, [][]int64{{}, oneToBoth(120)[:120], oneToBoth(120)[120:]})
	isNoCode(t, [][]int64{oneToBoth(121)[:121], {}, oneToBoth(121)[121:]})
}

// TestLongCodes: lists that are too long are no codes, and neither are texts of a million curves or numbers.
func TestLongCodes(t *testing.T) {
	same(t, "a million circles", impl.ValidCode(make([][]int64, 1000000)), false)
	same(t, "a million zeros", impl.ValidCode([][]int64{make([]int64, 1000000)}), false)
	same(t, "half a million crossings", impl.ValidCode([][]int64{{}, oneToBoth(500000)}), false)
	same(t, "their text", impl.CodeText([][]int64{oneToBoth(500000)}), "")
	isRead(t, "o"+strings.Repeat(";o", 1000000), nil, false)
	isRead(t, strings.Repeat(";", 1000000), nil, false)
	isRead(t, strings.Repeat(" ", 1000000), nil, false)
	isRead(t, "1"+strings.Repeat(" 1", 1000000), nil, false)
	isRead(t, strings.Repeat("1", 1000000), nil, false)
}

// TestSameCode: codes are the same if all curves are, in order; they need not be valid, and nil is as empty.
func TestSameCode(t *testing.T) {
	list := append(someCodes(), noCodes()...)
	for _, a := range list {
		for _, b := range list {
			want := fmt.Sprint(a) == fmt.Sprint(b)
			if impl.SameCode(a, b) != want {
				t.Errorf("SameCode of %v and %v: got %t", a, b, !want)
			}
		}
	}
	for _, c := range []struct {
		a, b [][]int64
		want bool
	}{
		{nil, nil, true}, {nil, [][]int64{}, true}, {[][]int64{}, nil, true}, {[][]int64{nil}, [][]int64{{}}, true}, {[][]int64{{}}, [][]int64{nil}, true},
		{nil, [][]int64{nil}, false}, {[][]int64{{}}, nil, false}, {[][]int64{{}}, [][]int64{{}, {}}, false}, {[][]int64{{}, nil}, [][]int64{nil}, false},
		{codeIn("1 -1"), codeIn("1 -1;o"), false}, {codeIn("1 -1"), codeIn("o;1 -1"), false}, {codeIn("o;1 -1"), codeIn("1 -1;o"), false}, {codeIn("1;o;-1"), codeIn("1;-1"), false}, {codeIn("1;o;-1"), codeIn("1;-1;o"), false},
		{codeIn("1 -1"), codeIn("1;-1"), false}, {codeIn("1 -1"), codeIn("-1 1"), false}, {codeIn("1;-1"), codeIn("-1;1"), false}, {codeIn("1 1"), codeIn("1 1"), true}, {codeIn("1 1"), codeIn("1"), false}, {codeIn("1"), codeIn("1 1"), false},
		{codeIn("0"), codeIn("0"), true}, {codeIn("0"), codeIn("o"), false}, {codeIn("5 7;9"), codeIn("5 7;9"), true}, {codeIn("5 7;9"), codeIn("5;7 9"), false}, {codeIn("5 7;9"), codeIn("5 7;8"), false}, {codeIn("5 7;9"), codeIn("6 7;9"), false},
		{[][]int64{{math.MinInt64}}, [][]int64{{math.MinInt64}}, true}, {[][]int64{{math.MinInt64}}, [][]int64{{math.MaxInt64}}, false}, {codeIn("1 -4294967297"), codeIn("1 -1"), false},
	} {
		same(t, fmt.Sprint("SameCode of ", c.a, " and ", c.b), impl.SameCode(c.a, c.b), c.want)
		same(t, fmt.Sprint("SameCode of ", c.b, " and ", c.a), impl.SameCode(c.b, c.a), c.want)
	}
}

// TestTurnsWritten writes turned, reversed and mirrored codes out.
func TestTurnsWritten(t *testing.T) {
	for _, c := range []struct {
		text      string
		curve, by int64
		want      string
	}{
		{"1 -2 3 -1;2;-3", 0, 0, "1 -2 3 -1;2;-3"}, {"1 -2 3 -1;2;-3", 0, 1, "-2 3 -1 1;2;-3"}, {"1 -2 3 -1;2;-3", 0, 2, "3 -1 1 -2;2;-3"}, {"1 -2 3 -1;2;-3", 0, 3, "-1 1 -2 3;2;-3"}, {"1 -2 3 -1;2;-3", 0, 4, "1 -2 3 -1;2;-3"}, {"1 -2 3 -1;2;-3", 0, 5, "-2 3 -1 1;2;-3"}, {"1 -2 3 -1;2;-3", 0, 1000, "1 -2 3 -1;2;-3"}, {"1 -2 3 -1;2;-3", 0, 999, "-1 1 -2 3;2;-3"},
		{"1 -2 3 -1;2;-3", 1, 1, "1 -2 3 -1;2;-3"}, {"1 -2 3 -1;2;-3", 2, 1000, "1 -2 3 -1;2;-3"}, {"o;1 2 -1;-2", 1, 1000, "o;2 -1 1;-2"}, {"o;1 2 -1;-2", 1, 998, "o;-1 1 2;-2"}, {"o;1 2 -1;-2", 0, 1, "o;1 2 -1;-2"}, {"o;1 2 -1;-2", 0, 1000, "o;1 2 -1;-2"}, {"o;1 2 -1;-2", 2, 7, "o;1 2 -1;-2"},
	} {
		got, err := impl.TurnCurve(codeIn(c.text), c.curve, c.by)
		isCode(t, fmt.Sprint("TurnCurve ", c.curve, " by ", c.by, " of ", c.text), got, err, codeIn(c.want), impl.OK)
	}
	for _, c := range []struct {
		text  string
		curve int64
		want  string
	}{
		{"1 -2 3 -1;2;-3", 0, "-1 3 -2 1;2;-3"}, {"1 -2 3 -1;2;-3", 1, "1 -2 3 -1;2;-3"}, {"-1;1 2 -2", 1, "-1;-2 2 1"}, {"o;1 -1;o", 0, "o;1 -1;o"}, {"o;1 -1;o", 1, "o;-1 1;o"}, {"o;1 -1;o", 2, "o;1 -1;o"},
	} {
		got, err := impl.BackCurve(codeIn(c.text), c.curve)
		isCode(t, fmt.Sprint("BackCurve ", c.curve, " of ", c.text), got, err, codeIn(c.want), impl.OK)
	}
	for text, want := range map[string]string{"none": "none", "o": "o", "o;o": "o;o", "1;-1": "-1;1", "o;1 -2;2 -1;o": "o;-1 2;-2 1;o", "1 -2 3 -1;2;-3": "-1 2 -3 1;-2;3"} {
		got, err := impl.MirrorCode(codeIn(text))
		isCode(t, "MirrorCode of "+text, got, err, codeIn(want), impl.OK)
	}
}

// TestCurvesAtWritten: crossings that one curve passes over and under, and such that two pass.
func TestCurvesAtWritten(t *testing.T) {
	for _, c := range []struct {
		text                  string
		crossing, over, under int64
	}{
		{"1 -1", 0, 0, 0}, {"o;-1 1", 0, 1, 1}, {"1;-1", 0, 0, 1}, {"-1;1", 0, 1, 0}, {"o;o;1;o;-1", 0, 2, 4}, {"1 -2;-1 2", 0, 0, 1}, {"1 -2;-1 2", 1, 1, 0},
		{"1 -2 3 -1;2;-3", 0, 0, 0}, {"1 -2 3 -1;2;-3", 1, 1, 0}, {"1 -2 3 -1;2;-3", 2, 0, 2},
	} {
		want := toldBoth(c.over, c.under, impl.OK)
		same(t, fmt.Sprint("CurvesAt ", c.crossing, " of ", c.text), toldBoth(impl.CurvesAt(codeIn(c.text), c.crossing)), want)
	}
}

// TestAlternatingCodes writes some codes out: one whose last and first elements alone are alike does not alternate, nor
// one with a single element, which follows itself.
func TestAlternatingCodes(t *testing.T) {
	for text, want := range map[string]bool{
		"none": true, "o": true, "o;o;o": true, "1 -1": true, "-1 1": true, "o;-1 1;o": true, "1;-1": false, "-1;1": false, "o;1;-1": false,
		"1 -2;-1 2": true, "1 -2;2 -1": true, "1 2;-1 -2": false, "1 -1;2 -2": true, "1 -1;2;-2": false, "2;1 -1;-2": false, "1 -1 2;-2": false, "-2;1 -1 2": false, "-1 2 -2;1": false,
		"1 -2 2 -1": true, "1 -1 2 -2": true, "1 2 -1 -2": false, "1 -1 -2 2": false, "-1 1 2 -2": false, "1 -2 -1 2": false, "-1 2 1 -2": false,
		"1 -1 2 -2 3;-3": false, "1 -2 3;-1 2 -3": false, "1 -2 3 -1 2 -3": true, "-1 3 -2 1 -3 2": true, "-1 3 -2 -3 1 2": false,
	} {
		same(t, "the words for "+text, codeAlternates(codeIn(text)), want)
		same(t, "ValidCode of "+text, impl.ValidCode(codeIn(text)), true)
		same(t, "AlternatingCode of "+text, impl.AlternatingCode(codeIn(text)), want)
	}
	// Here all signs alternate, but the numbers are no code.
	for _, text := range []string{"2 -2", "1 -2", "1 -1 1 -1", "1 -1;1 -1", "1 -1 3 -3", "121 -121", "9223372036854775807 -9223372036854775808"} {
		same(t, "AlternatingCode of "+text, impl.AlternatingCode(codeIn(text)), false)
	}
	same(t, "AlternatingCode of 41 circles", impl.AlternatingCode(make([][]int64, 41)), false)
}

// restored holds the ways back from a valid code against it; it is the second half of P15: turning by the rest of the
// number of elements, going backwards twice and mirroring twice restore a code, and all of them keep it valid.
func restored(t *testing.T, code [][]int64) {
	t.Helper()
	name := " of " + codeText(code)
	mirror, one := impl.MirrorCode(code)
	same(t, "ValidCode of MirrorCode"+name, impl.ValidCode(mirror), true)
	same(t, "crossings of MirrorCode"+name, told(impl.CountCoded(mirror)), told(impl.CountCoded(code)))
	same(t, "alternating MirrorCode"+name, impl.AlternatingCode(mirror), impl.AlternatingCode(code))
	twice, two := impl.MirrorCode(mirror)
	isCode(t, "MirrorCode twice"+name, twice, one+two, code, impl.OK)
	for k := range int64(len(code)) {
		back, one := impl.BackCurve(code, k)
		same(t, fmt.Sprint("ValidCode of BackCurve ", k, name), impl.ValidCode(back), true)
		same(t, fmt.Sprint("alternating BackCurve ", k, name), impl.AlternatingCode(back), impl.AlternatingCode(code))
		again, two := impl.BackCurve(back, k)
		isCode(t, fmt.Sprint("BackCurve twice ", k, name), again, one+two, code, impl.OK)
		n := int64(len(code[k]))
		for _, by := range turnsBy(int(n)) {
			turned, one := impl.TurnCurve(code, k, by)
			same(t, fmt.Sprint("ValidCode of TurnCurve ", k, " by ", by, name), impl.ValidCode(turned), true)
			same(t, fmt.Sprint("alternating TurnCurve ", k, " by ", by, name), impl.AlternatingCode(turned), impl.AlternatingCode(code))
			rest := int64(0)
			if n > 0 {
				rest = n - by%n
			}
			again, two := impl.TurnCurve(turned, k, rest)
			isCode(t, fmt.Sprint("TurnCurve ", k, " by ", by, " and the rest ", rest, name), again, one+two, code, impl.OK)
		}
	}
	read, ok := impl.ReadCode(impl.CodeText(code))
	same(t, "a text"+name, ok, true)
	same(t, "ReadCode of CodeText"+name, impl.SameCode(read, code), true)
}

// TestCodesRestored is the second half of P15.
func TestCodesRestored(t *testing.T) {
	for _, code := range someCodes() {
		restored(t, code)
	}
	for k, p := range codedPanels() {
		if k%5 == 0 {
			code, _ := impl.CodeOf(p)
			restored(t, code)
		}
	}
}

// textByWords tells whether a text is that of a valid code, and of which one.
func textByWords(s string) ([][]int64, bool) {
	if s == "none" {
		return [][]int64{}, true
	}
	if !curvesForm.MatchString(s) {
		return nil, false
	}
	code := [][]int64{}
	for _, part := range strings.Split(s, ";") {
		curve := []int64{}
		for _, word := range strings.Split(part, " ") {
			if n, err := strconv.ParseInt(word, 10, 64); err == nil {
				curve = append(curve, n)
			} else if word != "o" {
				return nil, false
			}
		}
		code = append(code, curve)
	}
	if !codeValid(code) {
		return nil, false
	}
	return code, true
}

// curvesForm is the form of the texts of codes that have curves.
var curvesForm = regexp.MustCompile(strings.ReplaceAll("^(o|N( N)*)(;(o|N( N)*))*$", "N", "-?[1-9][0-9]*"))

// isCodeText holds ReadCode of a text against the words of chapter 14, and tells whether it is that of a code.
func isCodeText(t *testing.T, s string) bool {
	t.Helper()
	want, is := textByWords(s)
	isRead(t, s, want, is)
	if is {
		same(t, "CodeText again", impl.CodeText(want), s)
	}
	return is
}

// TestCodeTexts writes texts of codes out.
func TestCodeTexts(t *testing.T) {
	for _, s := range []string{
		"none", "o", "o;o", "o;o;o", "1 -1", "-1 1", "1;-1", "-1;1", "o;1 -1", "1 -1;o", "o;1 -1;o", "1;o;-1", "o;o;1;o;o;-1;o;o", "1 -2 2 -1", "1 -2;-1 2", "-3 2;1 3 -2;o;-1", "1;2;3;-3;-2;-1",
		"1 2 3 4 5 6 7 8 9 10 -10 -9 -8 -7 -6 -5 -4 -3 -2 -1", "10 -9 8 -7 6 -5 4 -3 2 -1;o;-10 9 -8 7 -6 5 -4 3 -2 1",
	} {
		isRead(t, s, codeIn(s), true)
		same(t, "CodeText of "+s, impl.CodeText(codeIn(s)), s)
		same(t, fmt.Sprintf("%q is a text", s), isCodeText(t, s), true)
	}
	random := rand.New(rand.NewSource(16))
	for _, code := range [][][]int64{mixedCode(random, 120, 1), mixedCode(random, 120, 40), make([][]int64, 40)} {
		s := codeText(code)
		same(t, fmt.Sprintf("%q is a text", s), isCodeText(t, s), true)
		same(t, fmt.Sprintf("%q with one more curve is a text", s), isCodeText(t, s+";o"), len(code) < 40)
		for _, wrong := range []string{s + " ", " " + s, s + ";", ";" + s, s[1:], s + " o", "o " + s, s + ";" + s, s + " 121 -121", s + ";121;-121", s + " 1", s + "0", s + ";none", s + "\n"} {
			same(t, fmt.Sprintf("%q is a text", wrong), isCodeText(t, wrong), false)
		}
	}
}

// TestCodeTextsThatAreNone writes texts out that are those of no code.
func TestCodeTextsThatAreNone(t *testing.T) {
	for _, s := range []string{
		// Nothing, superfluous blanks and semicolons, and what else might part numbers and curves.
		"", " ", "  ", ";", ";;", " ;", "; ", " 1 -1", "1 -1 ", "1  -1", "1 -1  2 -2", "1; -1", "1 ;-1", "1 ; -1", "1;;-1", ";1;-1", "1;-1;", "1 -1;", ";1 -1", "1 -1;;o", "o;", ";o", "o;;o", "o ", " o", "o; o", "o ;o", "1\t-1", "1 -1\n", "\n1 -1", "1 -1\r", "1\n-1", "1,-1", "1, -1", "1:-1", "1-1", "1- 1", "1 - 1", "1 -1\x00", "\x001 -1", "1\u00a0-1", "\u20281 -1", "1 -1,o", "[1 -1]", "{1 -1}", "'1 -1'", "1 -1;\n", "1 -1\n;o",
		// Words.
		"none;o", "o;none", "none;none", "none;1 -1", "1 -1;none", "none 1 -1", "1 -1 none", "none ", " none", "none;", ";none", "nonenone", "None", "NONE", "non", "nones", "O", "0", "oo", "o o", "o o;o", "o1 -1", "1 -1o", "1 o -1", "o 1 -1", "1 -1 o", "1 -1;o o", "1 -1;O", "x", "a -a", "one", "nil", "()", "1 x", "-", "--", "1 -", "- 1", "-o", "+o", "o-", "1 -1;-",
		// Signs, leading zeros, and numbers that are not in decimal.
		"+1 -1", "1 +1 -1", "-1 +1", "--1 1", "1 --1", "1 -+1", "1 +-1", "+1;-1", "01 -1", "1 -01", "001 -1", "1 -001", "-0 1 -1", "0 -0", "1 -1 -0", "-0", "00", "1 -1;-0", "1 -1;00", "0x1 -1", "1 -0x1", "1.0 -1", "1 -1.0", "1e0 -1", "1_ -1", "1 -1_0", "0b1 -1", "1 -0b1", "I -I", "1 -\uff11", "\u0661 -1",
		// Numbers that are too great, also those that are right ones but for their upper bits.
		"9223372036854775807 -9223372036854775807", "9223372036854775808 -9223372036854775808", "9223372036854775807 -9223372036854775808", "1 -9223372036854775809", "18446744073709551617 -1", "1 -18446744073709551617", "18446744073709551617 -18446744073709551617", "1 18446744073709551615", "-18446744073709551615 -1", "4294967297 -1", "1 -4294967297", "257 -1", "1 -257", "65537 -65537", "999999999999999999 -999999999999999999", "1000000000000000000 -1000000000000000000", "99999999999999999999999999999999 -1", "1 -1;99999999999999999999999999999999",
		// Bytes from 128 on, and runes whose last byte is a right one.
		"\xff", "\x80", "1 -1\xff", "\xff1 -1", "1 -1\x80", "\xb1 -1", "1 -\xb1", "1\xa0-1", "1 -1\xbbo", "\xef", "1 -1;\xef", "1 -1;\xff", "\u0131 -1", "1 -\u0131", "1\u0120-1", "1\u013b-1", "\u016f", "o;\u016f", "\u6f6f", "1\u012d1", "1 \u012d1", "\ufeff1 -1", "1 \u22121", "1\u037e-1", "1 -1\xff;o",
		// Texts of valid form whose code is not valid.
		"1", "-1", "1 1", "-1 -1", "1;1", "2 -2", "1 -2", "1 -1 2", "1 -1 1", "1 -1;1", "1 -1;1 -1", "0 0", "0;0", "1 -1 0", "1 -1;0", "1 2 -1", "1 2 -2", "1 2 -1 -3", "1 -1 3 -3", "3 -3;1 -1", "121 -121", "120 -120", "o;1", "1;o", "o;o;2 -2", "o" + strings.Repeat(";o", 40), "1 -1" + strings.Repeat(";o", 40), "1;-1" + strings.Repeat(";o", 39), codeText([][]int64{oneToBoth(121)}),
	} {
		same(t, fmt.Sprintf("%q is a text", s), isCodeText(t, s), false)
	}
}

// eachText calls f for all texts of up to length words out of some, one behind the other.
func eachText(length int, words []string, f func(string)) {
	eachList(length, 0, int64(len(words))-1, func(list []int64) {
		s := strings.Builder{}
		for _, k := range list {
			s.WriteString(words[k])
		}
		f(s.String())
	})
}

// TestCodeTextsAll goes through all texts of up to six of some characters, and of up to seven of some words.
func TestCodeTextsAll(t *testing.T) {
	for _, c := range []struct {
		length int
		words  []string
		want   int
	}{
		// Up to three curves without crossings; 1 and -1 in either order, in one curve or in two, alone or with such a curve
		// ahead, behind or between.
		{6, strings.Split("1-o; 20+", ""), 3 + 2 + 2*2 + 2 + 2*3},
		// Up to four curves without crossings; likewise with up to two of them; and four numbers in any order, with a blank or
		// a semicolon at each of three places.
		{7, []string{"1", "-1", "2", "-2", "o", ";", " "}, 4 + 2*(1+2+3) + 2*(1+3+6) + 24*8},
	} {
		found := 0
		eachText(c.length, c.words, func(s string) {
			if isCodeText(t, s) {
				found++
			}
		})
		same(t, fmt.Sprint("texts of ", c.words), found, c.want)
	}
}

// TestCodeTextsChanged changes texts of codes: a byte is left out, put in or replaced.
func TestCodeTextsChanged(t *testing.T) {
	random := rand.New(rand.NewSource(17))
	yes, not := 0, 0
	for range 8000 {
		s := codeText(mixedCode(random, random.Intn(13), 1+random.Intn(4)))
		at := random.Intn(len(s) + 1)
		behind := min(at+random.Intn(2), len(s))
		sign := []string{"", " ", ";", "-", "0", "1", "2", "9", "+", "o", ";o", "o;", "none", "\n", "\xff"}[random.Intn(15)]
		if isCodeText(t, s[:at]+sign+s[behind:]) {
			yes++
		} else {
			not++
		}
	}
	if yes < 500 || not < 4000 {
		t.Errorf("%d texts were those of codes, and %d were not", yes, not)
	}
}

// TestCodeRange: curves and crossings that there are not, on both sides, and numbers to turn by that are too small or too
// great, also for curves without elements.
func TestCodeRange(t *testing.T) {
	for _, code := range someCodes() {
		name := " of " + codeText(code)
		curves, crossings := int64(len(code)), int64(len(slices.Concat(code...))/2)
		for _, k := range append(numbersBeside(curves), 1<<32, -1<<32, 1<<32+max(curves, 1)-1) {
			for _, by := range []int64{0, 1, 1000, 1001} {
				isRefused(t, code, k, -1, by, impl.ErrRange)
			}
		}
		for _, k := range append(numbersBeside(crossings), 119, 120, 121, 1<<32, -1<<32, 1<<32+max(crossings, 1)-1) {
			if k < 0 || k >= crossings {
				same(t, fmt.Sprint("CurvesAt ", k, name), toldBoth(impl.CurvesAt(code, k)), toldBoth(0, 0, impl.ErrRange))
			}
		}
		for k, curve := range code {
			for _, by := range []int64{-1, -2, -1000, -int64(len(curve)), 1001, 2000, 1 << 32, -1 << 32, math.MaxInt64, math.MinInt64} {
				if by != 0 {
					turned, err := impl.TurnCurve(code, int64(k), by)
					isCode(t, fmt.Sprint("TurnCurve ", k, " by ", by, name), turned, err, nil, impl.ErrRange)
				}
			}
			turned, err := impl.TurnCurve(code, int64(k), 1000)
			isCode(t, fmt.Sprint("TurnCurve ", k, name), turned, err, withCurve(code, int64(k), turnedList(curve, 1000)), impl.OK)
		}
	}
}

// allOfCodes tells what all functions with a code return for it and many other arguments.
func allOfCodes(code [][]int64) []string {
	mirror, one := impl.MirrorCode(code)
	read, ok := impl.ReadCode(impl.CodeText(code))
	out := []string{fmt.Sprint(impl.ValidCode(code), told(impl.CountCoded(code)), mirror, one, impl.AlternatingCode(code), impl.CodeText(code), read, ok)}
	out = append(out, fmt.Sprint(impl.SameCode(code, code), impl.SameCode(code, mirror), impl.SameCode(mirror, code)))
	for _, k := range append([]int64{4, 5, 39, 40, 119, 120}, edgeNumbers...) {
		back, two := impl.BackCurve(code, k)
		out = append(out, fmt.Sprint(back, two, toldBoth(impl.CurvesAt(code, k))))
		for _, by := range []int64{-1, 0, 1, 2, 7, 1000, 1001} {
			turned, three := impl.TurnCurve(code, k, by)
			out = append(out, fmt.Sprint(turned, three))
		}
	}
	return out
}

// TestCodesUnchanged is P1: no function of chapter 14 changes a code, nor what lies behind its lists in memory, and all
// tell the same again, also for a copy.
func TestCodesUnchanged(t *testing.T) {
	for _, code := range append(someCodes(), noCodes()...) {
		behind := []int64{7, -7, 8}
		memory := [][]int64{}
		argument := make([][]int64, 0, len(code)+2)
		for _, curve := range code {
			all := slices.Concat(curve, behind)
			memory = append(memory, all)
			argument = append(argument, all[:len(curve)])
		}
		more := append(argument, behind, behind)
		first := allOfCodes(argument)
		same(t, "called again for "+codeText(code), allOfCodes(argument), first)
		same(t, "called for a copy of "+codeText(code), allOfCodes(copyOf(code)), first)
		for k, curve := range code {
			same(t, fmt.Sprint("memory of ", k, " of ", codeText(code)), memory[k], slices.Concat(curve, behind))
		}
		isCode(t, "memory of "+codeText(code), more, 0, append(copyOf(code), behind, behind), 0)
	}
}

// TestCodesOfPanelsUnchanged is P1: CodeOf does not change a panel, and tells the same again.
func TestCodesOfPanelsUnchanged(t *testing.T) {
	for _, p := range append(invalidPanels(), errorPanels()...) {
		unchanged(t, p, func(q impl.Panel) []string {
			code, err := impl.CodeOf(q)
			return append(allOfCodes(code), fmt.Sprint(code, err))
		})
	}
}

// codesOf are all codes that the functions of chapter 14 return for a panel and a code.
func codesOf(p impl.Panel, code [][]int64) [][][]int64 {
	own, _ := impl.CodeOf(p)
	mirror, _ := impl.MirrorCode(code)
	read, _ := impl.ReadCode(codeText(code))
	list := [][][]int64{own, mirror, read}
	for k := range code {
		back, _ := impl.BackCurve(code, int64(k))
		list = append(list, back)
		for _, by := range []int64{0, 1, 2, 1000} {
			turned, _ := impl.TurnCurve(code, int64(k), by)
			list = append(list, turned)
		}
	}
	return list
}

// spoilCode overwrites a code and all memory behind its lists that belongs to them, and holds each of its curves before
// that against what is wanted: it must not have been spoilt with those before it.
func spoilCode(t *testing.T, name string, code, want [][]int64) {
	t.Helper()
	isCode(t, name, code, 0, want, 0)
	for k, curve := range code {
		isList(t, fmt.Sprint("the curve ", k, name, " after those before were spoilt"), curve, 0, want[k], 0)
		spoil(curve)
	}
	for k := range code[:cap(code)] {
		code[:cap(code)][k] = []int64{99}
	}
}

// TestCodesNew is P1: no list of a result shares memory with an argument or with another list.
func TestCodesNew(t *testing.T) {
	p := fromText(t, "3x2:+-|+|++")
	for _, code := range someCodes()[:24] {
		want := codesOf(p, code)
		q := panelOf(p.W, p.H, slices.Grow(slices.Clone(p.Breaks), 9)...)
		argument := slices.Grow(copyOf(code), 9)
		for k := range argument {
			argument[k] = slices.Grow(argument[k], 9)
		}
		first, second := codesOf(q, argument), codesOf(q, argument)
		name := " of " + codeText(code)
		for k := range first {
			spoilCode(t, fmt.Sprint(" of the result ", k, name), first[k], want[k])
		}
		samePanel(t, "the panel", q, p)
		isCode(t, "the argument"+name, argument, 0, code, 0)
		spoil(q.Breaks)
		for k := range argument {
			spoil(argument[k])
		}
		for k := range second {
			isCode(t, fmt.Sprint("another result ", k, name), second[k], 0, want[k], 0)
		}
	}
}

// TestCodesAtOnce is P1: calls at the same time tell what calls one after the other tell.
func TestCodesAtOnce(t *testing.T) {
	codes := someCodes()
	want := make([][]string, len(codes))
	for k, code := range codes {
		want[k] = allOfCodes(code)
	}
	var callers sync.WaitGroup
	for k, code := range codes {
		for range 3 {
			callers.Go(func() { same(t, "at once for "+codeText(code), allOfCodes(code), want[k]) })
		}
	}
	callers.Wait()
}
