package tests

import (
	"fmt"
	"math"
	"slices"
	"testing"

	"loop.example/g00931/impl"
)

// unchanged calls what tells everything of a panel, twice and once more for a copy: it tells the same each time, and
// neither the panel nor what lies behind its list in memory is changed.
func unchanged(t *testing.T, p impl.Panel, tell func(impl.Panel) []string) {
	t.Helper()
	memory := append(slices.Clone(p.Breaks), 7, 8, 9)
	before := slices.Clone(memory)
	q := impl.Panel{W: p.W, H: p.H, Breaks: memory[:len(p.Breaks)]}
	first := tell(q)
	same(t, fmt.Sprint("called again for ", p), tell(q), first)
	same(t, fmt.Sprint("memory of ", p), memory, before)
	copied := impl.Panel{W: p.W, H: p.H, Breaks: slices.Clone(p.Breaks)}
	same(t, fmt.Sprint("called for a copy of ", p), tell(copied), first)
	same(t, fmt.Sprint("sides of ", p), []int64{q.W, q.H}, []int64{p.W, p.H})
}

// TestPanelsUnchanged is P1: no function changes a panel, nor what lies behind its list in memory.
func TestPanelsUnchanged(t *testing.T) {
	for _, p := range append(invalidPanels(), panelOf(1, 1), mixedPanel(2, 1), mixedPanel(3, 4), mixedPanel(8, 8)) {
		unchanged(t, p, allOfPanel)
	}
}

// allOfPanel tells what all functions of chapter 2 return for a panel and many other arguments.
func allOfPanel(p impl.Panel) []string {
	out := []string{fmt.Sprint(impl.ValidPanel(p), impl.SamePanel(p, p), impl.SamePanel(p, mixedPanel(3, 4)))}
	for _, k := range edgeNumbers {
		at, one := impl.PointAt(p, k)
		n, two := impl.CountBreaks(p, k)
		out = append(out, fmt.Sprint(at, one, n, two))
	}
	places := append(placesAround(2, 2), impl.Point{X: 14, Y: 15}, impl.Point{X: math.MinInt64, Y: math.MaxInt64})
	for _, at := range places {
		k, one := impl.NumberOf(p, at)
		b, two := impl.BreakAt(p, at)
		out = append(out, fmt.Sprint(impl.IsPoint(p, at), impl.IsBorder(p, at), k, one, b, two))
		for _, kind := range []int64{-1, 0, 1, 2, 3} {
			q, code := impl.SetBreak(p, at, kind)
			out = append(out, fmt.Sprint(q, code))
		}
	}
	return out
}

// TestResultsAreNew is P1: a result shares no memory with an argument or with another result.
func TestResultsAreNew(t *testing.T) {
	eachSize(func(w, h int64) {
		a, _ := impl.NewPanel(w, h)
		b, _ := impl.NewPanel(w, h)
		spoil(a.Breaks)
		c, _ := impl.NewPanel(w, h)
		none := panelOf(w, h, make([]int64, len(innerByOrder(w, h)))...)
		samePanel(t, fmt.Sprint("NewPanel of ", w, " ", h, " before"), b, none)
		samePanel(t, fmt.Sprint("NewPanel of ", w, " ", h, " afterwards"), c, none)
		for k, at := range innerByOrder(w, h) {
			p := mixedPanel(w, h)
			// The break stays as it is: then, too, the result is a new panel.
			q, _ := impl.SetBreak(p, at, p.Breaks[k])
			r, _ := impl.SetBreak(p, at, p.Breaks[k])
			spoil(q.Breaks)
			samePanel(t, fmt.Sprint("the argument of SetBreak at ", at), p, mixedPanel(w, h))
			samePanel(t, fmt.Sprint("another result of SetBreak at ", at), r, mixedPanel(w, h))
		}
	})
}

// spoil overwrites a list and all memory behind it that belongs to it.
func spoil(list []int64) {
	for k := range list[:cap(list)] {
		list[:cap(list)][k] = 99
	}
}

// TestBasicsAgain is P1: the functions of chapter 1 tell the same again, and a list of words is new.
func TestBasicsAgain(t *testing.T) {
	texts := []string{"", " ", "a", "knot-3", " new  3 2 ", "-12", "-0", "\xff \t", "999999999999999999", "1000000000000000000"}
	for _, s := range texts {
		first := fmt.Sprint(impl.IsName(s), fmt.Sprintf("%q", impl.SplitWords(s)))
		n, ok := impl.ReadDecimal(s)
		words := impl.SplitWords(s)
		for k := range words[:cap(words)] {
			words[:cap(words)][k] = "spoilt"
		}
		m, again := impl.ReadDecimal(s)
		same(t, fmt.Sprintf("%q again", s), fmt.Sprint(impl.IsName(s), fmt.Sprintf("%q", impl.SplitWords(s))), first)
		same(t, fmt.Sprintf("ReadDecimal of %q again", s), []any{m, again}, []any{n, ok})
	}
	for _, n := range edgeNumbers {
		same(t, "CodeName again", impl.CodeName(n), impl.CodeName(n))
		same(t, "Decimal again", impl.Decimal(n), impl.Decimal(n))
	}
}
