package tests

import (
	"fmt"
	"math"
	"math/rand"
	"runtime"
	"slices"
	"strings"
	"sync"
	"testing"
	"time"

	"loop.example/g00931/impl"
)

// editsIn are the edits with a text, which need not be valid: blanks may be as they like.
func editsIn(text string) []impl.Edit {
	list := []impl.Edit{}
	for _, word := range strings.Fields(text) {
		e := impl.Edit{}
		if _, err := fmt.Sscanf(word, "%d=%d", &e.Number, &e.Kind); err != nil {
			panic(fmt.Sprintf("%q is no edit: %v", word, err))
		}
		list = append(list, e)
	}
	return list
}

// textOf is the text of edits, which need not be valid.
func textOf(list []impl.Edit) string {
	words := []string{}
	for _, e := range list {
		words = append(words, fmt.Sprintf("%d=%d", e.Number, e.Kind))
	}
	return strings.Join(words, " ")
}

// singlesByWords are all edits of a panel, by the numbers of the points and then by the kinds.
func singlesByWords(p impl.Panel) []impl.Edit {
	list := []impl.Edit{}
	for k := range innerByOrder(p.W, p.H) {
		for kind := range int64(3) {
			if kind != p.Breaks[k] {
				list = append(list, impl.Edit{Number: int64(k), Kind: kind})
			}
		}
	}
	return list
}

// listsByWords are all valid lists of n edits, in order: those of one edit less, each with all edits of points behind.
func listsByWords(p impl.Panel, n int) [][]impl.Edit {
	lists := [][]impl.Edit{{}}
	for range n {
		longer := [][]impl.Edit{}
		for _, list := range lists {
			for _, e := range singlesByWords(p) {
				if len(list) == 0 || list[len(list)-1].Number < e.Number {
					longer = append(longer, append(slices.Clone(list), e))
				}
			}
		}
		lists = longer
	}
	return lists
}

// editsValid tells whether a list is valid for a valid panel: each edit gives an inner point a kind of break that it does
// not have, and no later one has the same number or a lesser one.
func editsValid(p impl.Panel, list []impl.Edit) bool {
	for k, e := range list {
		isPoint, isKind := slices.Contains(numbers(int64(len(p.Breaks))), e.Number), slices.Contains(numbers(3), e.Kind)
		if !isPoint || !isKind || p.Breaks[e.Number] == e.Kind || k > 0 && list[k-1].Number >= e.Number {
			return false
		}
	}
	return true
}

// editedByWords is a panel after edits.
func editedByWords(p impl.Panel, list []impl.Edit) impl.Panel {
	q := panelOf(p.W, p.H, slices.Clone(p.Breaks)...)
	for _, e := range list {
		q.Breaks[e.Number] = e.Kind
	}
	return q
}

// allEdits are the edits of all points of a panel: to the next kind of break, or to the one behind that.
func allEdits(p impl.Panel, by int64) []impl.Edit {
	list := []impl.Edit{}
	for k, kind := range p.Breaks {
		list = append(list, impl.Edit{Number: int64(k), Kind: (kind + by) % 3})
	}
	return list
}

// someEdits is a valid list of edits, of each point with a chance of 1 in rare.
func someEdits(random *rand.Rand, p impl.Panel, rare int) []impl.Edit {
	list := []impl.Edit{}
	for k, kind := range p.Breaks {
		if random.Intn(rare) == 0 {
			list = append(list, impl.Edit{Number: int64(k), Kind: (kind + 1 + int64(random.Intn(2))) % 3})
		}
	}
	return list
}

// isEdits fails the test unless edits and their code are those wanted, where a nil list is as an empty one.
func isEdits(t *testing.T, name string, list []impl.Edit, code int64, want []impl.Edit, wantCode int64) {
	t.Helper()
	if !slices.Equal(list, want) || code != wantCode {
		t.Errorf("%s: got %v %d, want %v %d", name, list, code, want, wantCode)
	}
}

// isFewest, isCounted, isAfter and isRange hold one search against what is wanted.
func isFewest(t *testing.T, p impl.Panel, curves, most int64, want []impl.Edit, wantCode int64) {
	t.Helper()
	list, code := impl.FewestEdits(p, curves, most)
	isEdits(t, fmt.Sprint("FewestEdits of ", p, " to ", curves, " with at most ", most), list, code, want, wantCode)
}

func isCounted(t *testing.T, p impl.Panel, curves, edits, want, wantCode int64) {
	t.Helper()
	same(t, fmt.Sprint("CountEdits of ", p, " to ", curves, " with ", edits), told(impl.CountEdits(p, curves, edits)), told(want, wantCode))
}

func isAfter(t *testing.T, p impl.Panel, want []int64, wantCode int64) {
	t.Helper()
	list, code := impl.CurvesAfter(p)
	isList(t, fmt.Sprint("CurvesAfter of ", p), list, code, want, wantCode)
}

func isRange(t *testing.T, p impl.Panel, edits, least, greatest, wantCode int64) {
	t.Helper()
	low, high, code := impl.CurveRange(p, edits)
	same(t, fmt.Sprint("CurveRange of ", p, " with ", edits), []int64{low, high, code}, []int64{least, greatest, wantCode})
}

// searchSizes are the sizes with at most MaxSearched inner points.
func searchSizes() [][2]int64 {
	list := [][2]int64{}
	eachSize(func(w, h int64) {
		if len(innerByOrder(w, h)) <= 12 {
			list = append(list, [2]int64{w, h})
		}
	})
	return list
}

// searchPanels are all panels of small sizes, and some of each other one that is searched.
func searchPanels() []impl.Panel {
	list := slices.Concat(allPanels(1, 1), allPanels(2, 1), allPanels(1, 2), allPanels(3, 1), allPanels(1, 3), allPanels(2, 2))
	random := rand.New(rand.NewSource(11))
	for _, s := range searchSizes() {
		list = append(list, plain(s[0], s[1]), mixedPanel(s[0], s[1]), smallCircles(s[0], s[1]))
		for range 2 {
			p := plain(s[0], s[1])
			list = append(list, editedByWords(p, someEdits(random, p, 2)))
		}
	}
	return list
}

// TestSearchConstants: the limits are those of chapter 11.
func TestSearchConstants(t *testing.T) {
	same(t, "limits", []int64{impl.MaxSearched, impl.MaxEdits}, []int64{12, 3})
}

// TestSearchExample is the example of chapter 11, with what the other functions tell of it.
func TestSearchExample(t *testing.T) {
	p := fromText(t, "2x2:++++")
	same(t, "curves before", told(impl.CountCurves(p)), told(2, impl.OK))
	list, code := impl.ReadEdits(p, "0=1")
	isEdits(t, "ReadEdits", list, code, []impl.Edit{{Number: 0, Kind: 1}}, impl.OK)
	q, code := impl.ApplyEdits(p, list)
	same(t, "ApplyEdits", []any{q, code}, []any{fromText(t, "2x2:|+++"), int64(impl.OK)})
	same(t, "curves after", told(impl.CountCurves(q)), told(1, impl.OK))
	isFewest(t, p, 1, 1, list, impl.OK)
	isFewest(t, p, 2, 1, nil, impl.OK)
	isCounted(t, p, 1, 1, 8, impl.OK)
	isAfter(t, p, []int64{1, 1, 1, 1, 1, 1, 1, 1}, impl.OK)
	isRange(t, p, 1, 1, 1, impl.OK)
}

// TestListsByWords holds the lists of this file against all lists of numbers and kinds, in order, as what is wanted here
// rests on them; and ValidEdits takes just these.
func TestListsByWords(t *testing.T) {
	for _, p := range []impl.Panel{panelOf(1, 1), panelOf(2, 1, 1), panelOf(1, 2, 0), panelOf(3, 1, 2, 0), panelOf(1, 4, 1, 2, 0)} {
		points := int64(len(p.Breaks))
		found := map[int][][]impl.Edit{}
		// A number stands for an edit: its number, also beside those of points, and its kind, also beside those of breaks.
		eachList(3, -5, 5*points+4, func(numbers []int64) {
			list := []impl.Edit{}
			for _, n := range numbers {
				list = append(list, impl.Edit{Number: (n+5)/5 - 1, Kind: (n+5)%5 - 1})
			}
			valid := editsValid(p, list)
			same(t, fmt.Sprint("ValidEdits of ", list, " for ", p), impl.ValidEdits(p, list), valid)
			if valid {
				found[len(list)] = append(found[len(list)], list)
			}
		})
		for n := range 4 {
			lists := listsByWords(p, n)
			same(t, fmt.Sprint("lists of ", n, " edits of ", p), len(lists), len(found[n]))
			for k, list := range lists {
				same(t, fmt.Sprint("list ", k, " of ", p), list, found[n][k])
			}
		}
	}
}

// editCase is a valid list of edits with what it makes of a panel, and what leads back.
type editCase struct{ from, edits, to, back string }

// editCases are written out: no edit, one and several, at the first and at the last points, to each kind from each one.
func editCases() []editCase {
	return []editCase{
		{"1x1:", "", "1x1:", ""}, {"2x1:+", "", "2x1:+", ""}, {"8x1:|-+|-+|", "", "8x1:|-+|-+|", ""},
		{"2x1:+", "0=1", "2x1:|", "0=0"}, {"2x1:+", "0=2", "2x1:-", "0=0"}, {"2x1:|", "0=0", "2x1:+", "0=1"}, {"2x1:|", "0=2", "2x1:-", "0=1"}, {"1x2:-", "0=0", "1x2:+", "0=2"}, {"1x2:-", "0=1", "1x2:|", "0=2"},
		{"3x1:|-", "0=0", "3x1:+-", "0=1"}, {"3x1:|-", "1=0", "3x1:|+", "1=2"}, {"3x1:|-", "0=2 1=1", "3x1:-|", "0=1 1=2"}, {"1x3:+-", "0=2 1=0", "1x3:-+", "0=0 1=2"},
		{"2x2:++++", "0=1 2=2", "2x2:|+-+", "0=0 2=0"}, {"2x2:|+-+", "1=2 3=1", "2x2:|--|", "1=0 3=0"}, {"2x2:|--|", "0=2 1=1 2=0 3=2", "2x2:-|+-", "0=1 1=2 2=2 3=1"}, {"2x2:|--|", "3=0", "2x2:|--+", "3=1"},
		{"8x1:+++++++", "0=1 1=2 2=1 3=2 4=1 5=2 6=1", "8x1:|-|-|-|", "0=0 1=0 2=0 3=0 4=0 5=0 6=0"},
		{"3x3:++++++++++++", "0=2 9=1 10=2 11=1", "3x3:-++++++++|-|", "0=0 9=0 10=0 11=0"},
	}
}

// TestEditsWritten holds all functions for edits against written-out ones.
func TestEditsWritten(t *testing.T) {
	for _, c := range editCases() {
		p, q := fromText(t, c.from), fromText(t, c.to)
		name := " of " + c.edits + " for " + c.from
		list, back := editsIn(c.edits), editsIn(c.back)
		same(t, "ValidEdits"+name, impl.ValidEdits(p, list), true)
		got, code := impl.ApplyEdits(p, list)
		samePanel(t, "ApplyEdits"+name, got, q)
		same(t, "code of ApplyEdits"+name, code, int64(impl.OK))
		edits, code := impl.UndoEdits(p, list)
		isEdits(t, "UndoEdits"+name, edits, code, back, impl.OK)
		edits, code = impl.EditsBetween(p, q)
		isEdits(t, "EditsBetween"+name, edits, code, list, impl.OK)
		text, code := impl.EditsText(p, list)
		same(t, "EditsText"+name, []any{text, code}, []any{c.edits, int64(impl.OK)})
		edits, code = impl.ReadEdits(p, c.edits)
		isEdits(t, "ReadEdits"+name, edits, code, list, impl.OK)
	}
}

// leadsBack holds what a valid list makes of a panel, and all ways back, against each other.
func leadsBack(t *testing.T, p impl.Panel, list []impl.Edit) {
	t.Helper()
	name := fmt.Sprint(" of ", list, " for ", p)
	same(t, "ValidEdits"+name, impl.ValidEdits(p, list), true)
	q, code := impl.ApplyEdits(p, list)
	samePanel(t, "ApplyEdits"+name, q, editedByWords(p, list))
	same(t, "code of ApplyEdits"+name, code, int64(impl.OK))
	back, code := impl.UndoEdits(p, list)
	want := slices.Clone(list)
	for k := range want {
		want[k].Kind = p.Breaks[want[k].Number]
	}
	isEdits(t, "UndoEdits"+name, back, code, want, impl.OK)
	r, code := impl.ApplyEdits(q, back)
	samePanel(t, "the way back"+name, r, p)
	same(t, "code of the way back"+name, code, int64(impl.OK))
	again, code := impl.UndoEdits(q, back)
	isEdits(t, "UndoEdits of the way back"+name, again, code, list, impl.OK)
	between, code := impl.EditsBetween(p, q)
	isEdits(t, "EditsBetween"+name, between, code, list, impl.OK)
	between, code = impl.EditsBetween(q, p)
	isEdits(t, "EditsBetween back"+name, between, code, back, impl.OK)
	same(t, "DistanceOf"+name, told(impl.DistanceOf(p, q)), told(int64(len(list)), impl.OK))
	text, code := impl.EditsText(p, list)
	same(t, "EditsText"+name, []any{text, code}, []any{textOf(list), int64(impl.OK)})
	read, code := impl.ReadEdits(p, text)
	isEdits(t, "ReadEdits"+name, read, code, list, impl.OK)
}

// TestEditsLeadBack takes all lists of up to three edits of small panels, and lists of panels of all sizes: none, the
// longest ones, those of the first and of the last point, and some others, with more than MaxEdits edits as well.
func TestEditsLeadBack(t *testing.T) {
	for _, p := range slices.Concat(allPanels(2, 1), allPanels(3, 1), []impl.Panel{panelOf(1, 4, 2, 1, 0), mixedPanel(2, 2), uneven(2, 2), mixedPanel(3, 2)}) {
		for n := range 4 {
			for _, list := range listsByWords(p, n) {
				leadsBack(t, p, list)
			}
		}
	}
	random := rand.New(rand.NewSource(12))
	eachSize(func(w, h int64) {
		for _, p := range []impl.Panel{plain(w, h), mixedPanel(w, h), smallCircles(w, h)} {
			leadsBack(t, p, nil)
			leadsBack(t, p, []impl.Edit{})
			for by := range int64(2) {
				list := allEdits(p, by+1)
				leadsBack(t, p, list)
				if n := len(list); n > 0 {
					leadsBack(t, p, list[:1])
					leadsBack(t, p, list[n-1:])
					leadsBack(t, p, list[1:])
					leadsBack(t, p, list[:n-1])
				}
			}
			for rare := 2; rare < 6; rare++ {
				leadsBack(t, p, someEdits(random, p, rare))
			}
		}
	})
}

// TestEditsBetween takes all pairs of panels of small sizes, and pairs of all sizes that differ nowhere, somewhere and
// everywhere.
func TestEditsBetween(t *testing.T) {
	for _, panels := range [][]impl.Panel{allPanels(1, 1), allPanels(2, 1), allPanels(1, 3), allPanels(2, 2)} {
		for _, a := range panels {
			for _, b := range panels {
				isBetween(t, a, b)
			}
		}
	}
	eachSize(func(w, h int64) {
		panels := []impl.Panel{plain(w, h), mixedPanel(w, h), smallCircles(w, h), editedByWords(mixedPanel(w, h), allEdits(mixedPanel(w, h), 1))}
		for _, a := range panels {
			for _, b := range panels {
				isBetween(t, a, b)
			}
		}
	})
}

// isBetween holds the edits between two panels against their points: they lead from a to b, and there is none for a point
// that is equal in both.
func isBetween(t *testing.T, a, b impl.Panel) {
	t.Helper()
	want := []impl.Edit{}
	for k := range innerByOrder(a.W, a.H) {
		if a.Breaks[k] != b.Breaks[k] {
			want = append(want, impl.Edit{Number: int64(k), Kind: b.Breaks[k]})
		}
	}
	list, code := impl.EditsBetween(a, b)
	name := fmt.Sprint("edits between ", a, " and ", b)
	isEdits(t, name, list, code, want, impl.OK)
	q, code := impl.ApplyEdits(a, list)
	samePanel(t, name, q, b)
	same(t, "code with "+name, code, int64(impl.OK))
}

// noEdits are lists that are not valid for a panel: with a number that is no inner point, with a kind that is none or
// that the point has, and with an equal or a lesser number behind another one.
func noEdits(p impl.Panel) [][]impl.Edit {
	n := int64(len(p.Breaks))
	lists := [][]impl.Edit{{{}, {}}}
	for _, number := range numbersBeside(n) {
		for kind := range int64(3) {
			lists = append(lists, []impl.Edit{{Number: number, Kind: kind}})
		}
	}
	all := allEdits(p, 1)
	for k, e := range all {
		kinds := []int64{-1, 3, p.Breaks[k]}
		if k == 0 || k == len(all)-1 {
			kinds = append(kinds, noKinds()...)
		}
		for _, kind := range kinds {
			wrong := slices.Clone(all)
			wrong[k].Kind = kind
			lists = append(lists, wrong, wrong[k:], wrong[:k+1], []impl.Edit{{Number: e.Number, Kind: kind}})
		}
		other := allEdits(p, 2)[k]
		lists = append(lists, []impl.Edit{e, e}, []impl.Edit{e, other}, []impl.Edit{other, e}, slices.Insert(slices.Clone(all), k, other), append(slices.Clone(all), all[k:]...))
		if k > 0 {
			swapped := slices.Clone(all)
			swapped[k], swapped[k-1] = swapped[k-1], swapped[k]
			lists = append(lists, swapped, swapped[k-1:], []impl.Edit{e, all[0]}, []impl.Edit{e, all[k-1]})
		}
	}
	for _, e := range []impl.Edit{{Number: n, Kind: 1}, {Number: n, Kind: 0}, {Number: math.MaxInt64, Kind: 2}, {Number: -1, Kind: 1}, {Number: math.MinInt64}} {
		lists = append(lists, append(slices.Clone(all), e), slices.Insert(slices.Clone(all), 0, e))
	}
	return append(lists, slices.Repeat([]impl.Edit{{Number: 0, Kind: 1}}, 200))
}

// isNoList holds the functions with a list against its not being valid, or the panel's not being valid: ErrInvalid,
// and nothing else.
func isNoList(t *testing.T, p impl.Panel, list []impl.Edit) {
	t.Helper()
	name := fmt.Sprint(" of ", list, " for ", p)
	same(t, "ValidEdits"+name, impl.ValidEdits(p, list), false)
	q, code := impl.ApplyEdits(p, list)
	isZero(t, "ApplyEdits"+name, q)
	same(t, "ApplyEdits"+name, code, int64(impl.ErrInvalid))
	back, code := impl.UndoEdits(p, list)
	isEdits(t, "UndoEdits"+name, back, code, nil, impl.ErrInvalid)
	text, code := impl.EditsText(p, list)
	same(t, "EditsText"+name, []any{text, code}, []any{"", int64(impl.ErrInvalid)})
}

// TestEditsInvalid: lists that are not valid for valid panels; the texts that they would have are those of no list.
func TestEditsInvalid(t *testing.T) {
	for _, p := range errorPanels() {
		for _, list := range noEdits(p) {
			same(t, fmt.Sprint(list, " for ", p, " is valid"), editsValid(p, list), false)
			isNoList(t, p, list)
			read, code := impl.ReadEdits(p, textOf(list))
			isEdits(t, fmt.Sprintf("ReadEdits of %q for %v", textOf(list), p), read, code, nil, impl.ErrSyntax)
		}
	}
}

// TestEditsInvalidWritten writes lists out that are valid for one panel, and not for another one.
func TestEditsInvalidWritten(t *testing.T) {
	for _, c := range []struct {
		edits    string
		yes, not []string
	}{
		{"", []string{"1x1:", "2x1:+", "2x2:|--|"}, nil},
		{"0=0", []string{"2x1:|", "1x2:-"}, []string{"1x1:", "2x1:+", "2x2:+--|"}},
		{"0=1", []string{"2x1:+", "2x1:-"}, []string{"1x1:", "2x1:|"}}, {"0=2", []string{"2x1:+", "2x1:|"}, []string{"1x1:", "2x1:-"}},
		{"0=3", nil, []string{"1x1:", "2x1:+", "2x1:|"}}, {"0=-1", nil, []string{"1x1:", "2x1:+"}}, {"-1=1", nil, []string{"1x1:", "2x1:+"}},
		{"1=1", []string{"3x1:+-", "2x2:|+++"}, []string{"2x1:+", "3x1:+|"}}, {"3=1", []string{"2x2:|||+", "5x1:|||-"}, []string{"2x2:||||", "4x1:+++", "1x1:"}}, {"4=1", []string{"3x2:+++++++"}, []string{"2x2:++++"}},
		{"0=1 1=1", []string{"3x1:++"}, []string{"3x1:|+", "3x1:+|", "2x1:+"}}, {"1=1 0=1", nil, []string{"3x1:++", "2x2:----"}}, {"0=1 0=1", nil, []string{"3x1:++"}}, {"0=1 0=2", nil, []string{"2x1:+", "3x1:++"}}, {"0=1 0=0", nil, []string{"2x1:+"}},
		{"0=1 2=1 1=1", nil, []string{"2x2:++++"}}, {"0=1 2=1 3=1", []string{"2x2:+|++"}, []string{"2x2:+++|"}}, {"0=1 2=1 4=1", nil, []string{"2x2:++++"}},
		{"9223372036854775807=1", nil, []string{"1x1:", "2x2:++++"}}, {"-9223372036854775808=1", nil, []string{"1x1:", "2x2:++++"}}, {"0=9223372036854775807", nil, []string{"2x2:++++"}}, {"0=-9223372036854775808", nil, []string{"2x2:++++"}}, {"0=4294967297", nil, []string{"2x2:++++"}}, {"4294967296=1", nil, []string{"2x2:++++"}},
	} {
		for _, text := range c.yes {
			leadsBack(t, fromText(t, text), editsIn(c.edits))
		}
		for _, text := range c.not {
			isNoList(t, fromText(t, text), editsIn(c.edits))
		}
	}
	full := plain(8, 8)
	leadsBack(t, full, editsIn("111=1"))
	isNoList(t, full, editsIn("112=1"))
	isNoList(t, full, append(allEdits(full, 1), impl.Edit{Number: 112, Kind: 1}))
	isNoList(t, full, append(allEdits(full, 1), impl.Edit{Number: 111, Kind: 2}))
}

// TestEditsInvalidPanels: a panel that is not valid is found with any list, and before a text that is none.
func TestEditsInvalidPanels(t *testing.T) {
	for _, p := range invalidPanels() {
		for _, text := range []string{"", "0=0", "0=1", "0=2", "1=1", "0=1 1=2", "0=3", "5=1", "1=1 0=1", "-1=1", "0=1 0=1", "111=1", "9223372036854775807=-9223372036854775808"} {
			isNoList(t, p, editsIn(text))
		}
		for _, text := range []string{"", "0=0", "0=1", "0=2", "0=1 1=2", "0=3", " ", "0=1 ", "x", "\xff", "99999999999999999999=1"} {
			list, code := impl.ReadEdits(p, text)
			isEdits(t, fmt.Sprintf("ReadEdits of %q for %v", text, p), list, code, nil, impl.ErrInvalid)
		}
	}
}

// isBetweenCode holds EditsBetween in both directions against a code with which nothing is told.
func isBetweenCode(t *testing.T, a, b impl.Panel, want int64) {
	t.Helper()
	list, code := impl.EditsBetween(a, b)
	isEdits(t, fmt.Sprint("EditsBetween ", a, " and ", b), list, code, nil, want)
	list, code = impl.EditsBetween(b, a)
	isEdits(t, fmt.Sprint("EditsBetween ", b, " and ", a), list, code, nil, want)
}

// TestEditsBetweenErrors: panels of different sizes, also with equally many points; one panel that is not valid, or
// both, are found before that, also if their sizes are equal.
func TestEditsBetweenErrors(t *testing.T) {
	eachSize(func(w, h int64) {
		for _, other := range [][2]int64{{h, w}, {w + 1, h}, {w, h + 1}, {w - 1, h + 1}, {8, 8}, {1, 1}} {
			if x, y := other[0], other[1]; (x != w || y != h) && x >= 1 && x <= 8 && y <= 8 {
				isBetweenCode(t, plain(w, h), plain(x, y), impl.ErrState)
				isBetweenCode(t, mixedPanel(w, h), smallCircles(x, y), impl.ErrState)
			}
		}
	})
	for _, p := range invalidPanels() {
		for _, q := range []impl.Panel{panelOf(1, 1), plain(2, 1), plain(1, 2), plain(2, 2), plain(8, 7), mixedPanel(8, 8), panelOf(p.W, p.H), panelOf(0, 0), panelOf(3, 3)} {
			isBetweenCode(t, p, q, impl.ErrInvalid)
		}
		isBetweenCode(t, p, p, impl.ErrInvalid)
	}
}

// readEditsByWords tells whether a text is that of a valid list of edits of a panel, and of which one: each word is the
// text of an edit of the panel, and no later one has the same number or a lesser one.
func readEditsByWords(p impl.Panel, s string) ([]impl.Edit, bool) {
	list, last := []impl.Edit{}, int64(-1)
	if s == "" {
		return list, true
	}
	singles := singlesByWords(p)
	for _, word := range strings.Split(s, " ") {
		k := slices.IndexFunc(singles, func(e impl.Edit) bool { return textOf([]impl.Edit{e}) == word })
		if k < 0 || singles[k].Number <= last {
			return nil, false
		}
		list, last = append(list, singles[k]), singles[k].Number
	}
	return list, true
}

// isEditsText holds ReadEdits of a text against the words of chapter 11, and tells whether it is that of a list.
func isEditsText(t *testing.T, p impl.Panel, s string) bool {
	t.Helper()
	want, is := readEditsByWords(p, s)
	list, code := impl.ReadEdits(p, s)
	if !is {
		isEdits(t, fmt.Sprintf("ReadEdits of %q for %v", s, p), list, code, nil, impl.ErrSyntax)
		return false
	}
	isEdits(t, fmt.Sprintf("ReadEdits of %q for %v", s, p), list, code, want, impl.OK)
	text, code := impl.EditsText(p, want)
	same(t, "EditsText again", []any{text, code}, []any{s, int64(impl.OK)})
	return true
}

// TestEditsTextsThatAreNone writes texts out that are those of no list of edits for a panel with four points, of which
// the first one has an upright mirror, and the third one a level one.
func TestEditsTextsThatAreNone(t *testing.T) {
	p := fromText(t, "2x2:|+-+")
	for _, s := range []string{
		// Superfluous blanks, and what else might part words.
		" ", "  ", " 0=2", "0=2 ", "0=2  1=1", " 0=2 1=1", "0=2 1=1 ", "0 =2", "0= 2", "0 = 2", "0=2 1 =1", "0=2\t1=1", "0=2\n", "\n", "\t0=2", "0=2\r", "0=2,1=1", "0=2;1=1", "0=2, 1=1", "0=21=1", "0=2\x00", "\x000=2", "0=2\u00a01=1",
		// Missing parts, superfluous ones, and others.
		"=", "0", "0=", "=2", "0=2 1", "0=2 1=", "0=2 =1", "0 1=1", "= 1=1", "0==2", "=0=2", "0=2=", "0=2=1", "0=2 1=1=1", "==", "0:2", "0-2", "0=|", "0=-", "0=x", "x=2", "a", "none", "0=2 none", "0=2 x", "(0=2)", "'0=2'",
		// Signs, leading zeros, and numbers that are not in decimal.
		"+0=2", "-0=2", "0=+2", "+1=1", "1=+1", "1=-1", "-1=1", "0=-2", "1=-0", "00=2", "0=02", "01=1", "1=01", "000=2", "0x1=1", "1=0x1", "1e0=1", "1.0=1", "1=1.0", "1_0=1", "0_1=1", "0b1=1", "I=1", "\uff11=1", "1=\uff11", "\u0661=1",
		// Numbers of no points, kinds that are none, and those that the point has.
		"4=1", "5=1", "10=1", "111=1", "112=1", "0=3", "0=1", "1=0", "2=2", "3=0", "1=3", "1=10", "0=22", "0=2 4=1", "0=2 1=0", "0=1 1=1", "0=2 1=1 2=1 3=1 4=1",
		// Numbers in the wrong order, and twice.
		"1=1 0=2", "3=1 2=0", "0=2 0=2", "0=2 0=0", "1=1 1=2", "0=2 2=0 1=1", "0=2 2=0 2=1", "0=2 1=1 2=1 3=1 3=2", "0=2 1=1 2=1 3=1 0=2",
		// Numbers that are too great, also those that are right ones but for their upper bits.
		"9223372036854775807=1", "-9223372036854775808=1", "9223372036854775808=1", "-9223372036854775809=1", "1=9223372036854775807", "1=9223372036854775808", "18446744073709551616=2", "18446744073709551617=1", "1=18446744073709551617", "0=18446744073709551618", "4294967297=1", "1=4294967297", "257=1", "1=257", "65537=1", "999999999999999999999999999999=1", "1=999999999999999999999999999999", "1000000000000000000=1", "999999999999999999=1",
		// Bytes from 128 on, and runes whose last byte is a right one.
		"\xff", "\x80", "0=2\xff", "\xff0=2", "0=\xff", "\xff=2", "0\xbd2", "\xb0=2", "0=\xb2", "0=2\xa01=1", "0=2 \xff", "0=2 1=1\x80", "0\u013d2", "\u0130=2", "0=\u0132", "0=2\u01201=1",
	} {
		same(t, fmt.Sprintf("%q is a text", s), isEditsText(t, p, s), false)
	}
	for _, s := range []string{"", "0=0", "0=2", "1=1", "1=2", "2=0", "3=2", "0=2 1=1", "0=0 3=2", "1=2 2=0 3=1", "0=2 1=1 2=1 3=1"} {
		same(t, fmt.Sprintf("%q is a text", s), isEditsText(t, p, s), true)
	}
}

// TestEditsTextsOfOthers: texts with numbers of several digits, up to the last point of the greatest panel, and the empty
// text, which is the only one for a panel without inner points.
func TestEditsTextsOfOthers(t *testing.T) {
	for _, c := range []struct {
		p   impl.Panel
		s   string
		yes bool
	}{
		{panelOf(1, 1), "", true}, {panelOf(1, 1), "0=1", false}, {panelOf(1, 1), " ", false}, {panelOf(1, 1), "0=0", false},
		{plain(3, 3), "9=1 10=2 11=1", true}, {plain(3, 3), "2=1 10=1", true}, {plain(3, 3), "10=1 2=1", false}, {plain(3, 3), "12=1", false}, {plain(3, 3), "010=1", false},
		{plain(8, 8), "111=1", true}, {plain(8, 8), "112=1", false}, {plain(8, 8), "9=1 10=1 99=2 100=1 111=2", true}, {plain(8, 8), "100=1 99=1", false}, {plain(8, 8), "0=1 111=2", true},
		{plain(8, 8), "1111=1", false}, {plain(8, 8), "11=11", false}, {plain(8, 8), "0=1 1=1 10=1 100=1", true}, {smallCircles(8, 8), "111=2", true}, {smallCircles(8, 8), "111=0", true}, {smallCircles(8, 8), "111=1", false},
	} {
		same(t, fmt.Sprintf("%q is a text for %v", c.s, c.p), isEditsText(t, c.p, c.s), c.yes)
	}
	for by := range int64(2) {
		s := textOf(allEdits(plain(8, 8), by+1))
		same(t, "the longest text is one", isEditsText(t, plain(8, 8), s), true)
		for _, wrong := range []string{s + " ", " " + s, s + " 112=1", s + " 111=1", s + " x", s[:len(s)-1], s[1:], s[:len(s)-2], s + "0", strings.Replace(s, " ", "  ", 1), s + " " + s, strings.Repeat(s+" ", 50)} {
			same(t, fmt.Sprintf("%q is a text", wrong), isEditsText(t, plain(8, 8), wrong), false)
		}
	}
}

// TestEditsTextsAll goes through all texts of up to seven of some characters, for panels with none, one and two points.
func TestEditsTextsAll(t *testing.T) {
	const signs = "01 2="
	for text, want := range map[string]int{"1x1:": 1, "2x1:+": 3, "2x1:|": 3, "3x1:++": 9, "3x1:|-": 9} {
		p, found := fromText(t, text), 0
		eachList(7, 0, int64(len(signs))-1, func(list []int64) {
			s := strings.Builder{}
			for _, k := range list {
				s.WriteByte(signs[k])
			}
			if isEditsText(t, p, s.String()) {
				found++
			}
		})
		same(t, "texts of "+text, found, want)
	}
}

// TestEditsTextsChanged changes texts of lists of some panels: a byte is left out, put in or replaced.
func TestEditsTextsChanged(t *testing.T) {
	random := rand.New(rand.NewSource(13))
	yes, not := 0, 0
	for _, p := range []impl.Panel{fromText(t, "3x1:|+"), mixedPanel(2, 2), mixedPanel(3, 3), mixedPanel(8, 8)} {
		for range 1500 {
			s := textOf(someEdits(random, p, 3))
			at := random.Intn(len(s) + 1)
			behind := min(at+random.Intn(2), len(s))
			sign := []string{"", " ", "=", "0", "1", "2", "3", "9", "+", "-", "x", "\n", "\xff"}[random.Intn(13)]
			if isEditsText(t, p, s[:at]+sign+s[behind:]) {
				yes++
			} else {
				not++
			}
		}
	}
	if yes < 500 || not < 2000 {
		t.Errorf("%d texts were those of lists, and %d were not", yes, not)
	}
}

// attempts are all valid lists of 0 to 3 edits, in order, with the numbers of closed ways after them.
type attempts [4][]struct {
	list   []impl.Edit
	curves int64
}

func attemptsOf(p impl.Panel) attempts {
	all := attempts{}
	for n := range all {
		for _, list := range listsByWords(p, n) {
			all[n] = append(all[n], struct {
				list   []impl.Edit
				curves int64
			}{list, waysOf(editedByWords(p, list))})
		}
	}
	return all
}

// fewest is the first list of the fewest edits, up to most, that leads to so many curves, and its code.
func (all attempts) fewest(curves, most int64) ([]impl.Edit, int64) {
	for _, lists := range all[:most+1] {
		for _, a := range lists {
			if a.curves == curves {
				return a.list, impl.OK
			}
		}
	}
	return nil, impl.ErrNotFound
}

// after are the numbers of curves after the lists of some edits, in order.
func (all attempts) after(edits int64) []int64 {
	list := []int64{}
	for _, a := range all[edits] {
		list = append(list, a.curves)
	}
	return list
}

// countOf is how many elements of a list are equal to n.
func countOf(list []int64, n int64) int64 {
	return int64(len(slices.DeleteFunc(slices.Clone(list), func(k int64) bool { return k != n })))
}

// isSearched holds all searches in a panel against walking after each list of edits: for all numbers of curves that
// there can be, some more, and the greatest one that may be asked for.
func isSearched(t *testing.T, p impl.Panel) {
	t.Helper()
	all := attemptsOf(p)
	isAfter(t, p, all.after(1), impl.OK)
	asked := append(numbers(p.W*p.H + 3)[1:], 128, 999, 1000)
	for n := range int64(4) {
		after := all.after(n)
		for _, curves := range asked {
			list, code := all.fewest(curves, n)
			isFewest(t, p, curves, n, list, code)
			isCounted(t, p, curves, n, countOf(after, curves), impl.OK)
		}
		if len(after) == 0 {
			isRange(t, p, n, 0, 0, impl.ErrNotFound)
		} else {
			isRange(t, p, n, slices.Min(after), slices.Max(after), impl.OK)
		}
	}
}

// TestSearches takes all panels of small sizes, and some of each other size that is searched.
func TestSearches(t *testing.T) {
	for _, p := range searchPanels() {
		isSearched(t, p)
	}
}

// TestFewestWritten writes the fewest edits out: of several lists with equally many edits the first one, by the number
// of the first point at which they differ, and then by its kind; no edit where there are so many curves already.
func TestFewestWritten(t *testing.T) {
	const none = "none"
	for _, c := range []struct {
		text         string
		curves, most int64
		want         string
	}{
		{"1x1:", 1, 0, ""}, {"1x1:", 1, 3, ""}, {"1x1:", 2, 0, none}, {"1x1:", 2, 3, none}, {"1x1:", 1000, 3, none},
		// Both kinds lead from two curves to one, so that it is the lesser one.
		{"2x1:|", 1, 1, "0=0"}, {"2x1:|", 1, 3, "0=0"}, {"2x1:|", 1, 0, none}, {"2x1:|", 2, 0, ""}, {"2x1:|", 2, 3, ""}, {"2x1:|", 3, 3, none}, {"2x1:+", 2, 1, "0=1"}, {"2x1:-", 2, 1, "0=1"}, {"2x1:-", 1, 3, ""}, {"2x1:+", 2, 0, none},
		{"1x2:-", 1, 1, "0=0"}, {"1x2:+", 2, 2, "0=2"}, {"1x2:|", 2, 2, "0=2"},
		// In a panel of the height 1 there is one curve more than upright mirrors, so that the first points get them.
		{"3x1:++", 2, 1, "0=1"}, {"3x1:++", 2, 3, "0=1"}, {"3x1:++", 3, 1, none}, {"3x1:++", 3, 2, "0=1 1=1"}, {"3x1:++", 3, 3, "0=1 1=1"}, {"3x1:++", 4, 3, none}, {"3x1:|+", 3, 3, "1=1"}, {"3x1:|+", 1, 3, "0=0"}, {"3x1:-|", 3, 3, "0=1"}, {"3x1:-|", 1, 3, "1=0"},
		{"4x1:+++", 4, 2, none}, {"4x1:+++", 4, 3, "0=1 1=1 2=1"}, {"4x1:|||", 1, 3, "0=0 1=0 2=0"}, {"4x1:|||", 1, 2, none}, {"4x1:|||", 2, 3, "0=0 1=0"}, {"4x1:|||", 3, 3, "0=0"}, {"4x1:|-|", 1, 3, "0=0 2=0"}, {"4x1:|-|", 2, 3, "0=0"}, {"4x1:|-|", 4, 3, "1=1"}, {"4x1:|-|", 1, 1, none},
		{"5x1:++++", 4, 3, "0=1 1=1 2=1"}, {"5x1:++++", 5, 3, none}, {"8x1:|||||||", 5, 3, "0=0 1=0 2=0"}, {"8x1:|||||||", 4, 3, none}, {"8x1:||||+++", 8, 3, "4=1 5=1 6=1"}, {"8x1:+||||||", 8, 3, "0=1"}, {"8x1:||||||+", 8, 3, "6=1"}, {"8x1:++++|++", 1, 3, "4=0"},
		{"1x4:---", 1, 3, "0=0 1=0 2=0"}, {"1x4:|||", 4, 3, "0=2 1=2 2=2"}, {"1x4:||-", 3, 3, "0=2"}, {"1x8:-------", 5, 3, "0=0 1=0 2=0"}, {"1x8:-------", 4, 3, none},
		{"2x2:++++", 1, 1, "0=1"}, {"2x2:++++", 1, 3, "0=1"}, {"2x2:++++", 1, 0, none}, {"2x2:++++", 2, 0, ""}, {"2x2:++++", 2, 3, ""}, {"2x2:++++", 4, 3, none},
		{"2x2:|+++", 2, 1, "0=0"}, {"2x2:|+++", 1, 1, ""}, {"2x2:|+++", 4, 3, "1=2 2=2 3=1"}, {"2x2:|+++", 4, 2, none},
		// The four circles of a panel of 2 by 2: one of their mirrors is missing, two are, or three are.
		{"2x2:|--|", 4, 0, ""}, {"2x2:|--|", 3, 1, "0=0"}, {"2x2:|--|", 2, 2, "0=0 1=0"}, {"2x2:|--|", 2, 1, none}, {"2x2:|--|", 1, 3, "0=0 1=0 2=0"}, {"2x2:|--|", 1, 2, none}, {"2x2:+--|", 4, 3, "0=1"}, {"2x2:++-|", 4, 3, "0=1 1=2"}, {"2x2:+++|", 4, 3, "0=1 1=2 2=2"},
		{"2x2:|--+", 4, 3, "3=1"}, {"2x2:|+-+", 4, 3, "1=2 3=1"}, {"2x2:-||-", 4, 3, none}, {"2x2:-||-", 1, 3, "0=0"},
		{"3x3:++++++++++++", 3, 0, ""}, {"3x3:++++++++++++", 2, 1, "0=1"}, {"3x3:++++++++++++", 1, 2, "0=1 1=1"}, {"3x3:++++++++++++", 9, 3, none},
	} {
		p := fromText(t, c.text)
		if c.want == none {
			isFewest(t, p, c.curves, c.most, nil, impl.ErrNotFound)
		} else {
			isFewest(t, p, c.curves, c.most, editsIn(c.want), impl.OK)
		}
	}
}

// TestAfterWritten writes the numbers of curves out after the lists of one edit: with the same table of the numbers for
// all kinds of breaks at each point as in chapter 10, without those for the kinds that the points have.
func TestAfterWritten(t *testing.T) {
	for _, c := range effectCases {
		p := fromText(t, c.text)
		want := []int64{}
		for k, n := range c.want {
			want = append(want, slices.Delete(slices.Clone(n), int(p.Breaks[k]), int(p.Breaks[k])+1)...)
		}
		isAfter(t, p, want, impl.OK)
	}
	isAfter(t, panelOf(1, 1), nil, impl.OK)
	isAfter(t, fromText(t, "2x1:+"), []int64{2, 1}, impl.OK)
	isAfter(t, fromText(t, "2x1:|"), []int64{1, 1}, impl.OK)
	isAfter(t, fromText(t, "2x1:-"), []int64{1, 2}, impl.OK)
	isAfter(t, fromText(t, "4x1:|-+"), []int64{1, 1, 2, 3, 3, 2}, impl.OK)
	isAfter(t, fromText(t, "2x2:|+++"), []int64{2, 1, 1, 2, 1, 2, 2, 1}, impl.OK)
	isAfter(t, plain(3, 3), slices.Repeat([]int64{2}, 24), impl.OK)
	isAfter(t, smallCircles(3, 3), slices.Repeat([]int64{8}, 24), impl.OK)
}

// TestCountWritten writes out how many lists lead to some numbers of curves, also to those that a list with fewer edits
// reaches already, to none, and to more than there can be.
func TestCountWritten(t *testing.T) {
	for _, c := range []struct {
		text  string
		edits int64
		want  []int64 // from 1 curve on
	}{
		{"1x1:", 0, []int64{1, 0, 0}}, {"1x1:", 1, []int64{0, 0}}, {"1x1:", 3, []int64{0, 0}},
		{"2x1:+", 0, []int64{1, 0, 0}}, {"2x1:+", 1, []int64{1, 1, 0}}, {"2x1:+", 2, []int64{0, 0, 0}}, {"2x1:|", 0, []int64{0, 1, 0}}, {"2x1:|", 1, []int64{2, 0, 0}}, {"2x1:|", 3, []int64{0, 0, 0}},
		{"3x1:++", 0, []int64{1, 0, 0}}, {"3x1:++", 1, []int64{2, 2, 0, 0}}, {"3x1:++", 2, []int64{1, 2, 1, 0}}, {"3x1:++", 3, []int64{0, 0, 0, 0}}, {"3x1:|+", 1, []int64{2, 1, 1, 0}}, {"3x1:|+", 2, []int64{2, 2, 0, 0}}, {"3x1:||", 2, []int64{4, 0, 0, 0}},
		{"4x1:+++", 1, []int64{3, 3, 0, 0, 0}}, {"4x1:+++", 2, []int64{3, 6, 3, 0, 0}}, {"4x1:+++", 3, []int64{1, 3, 3, 1, 0}}, {"8x1:-------", 3, []int64{35, 105, 105, 35, 0, 0}}, {"1x8:+++++++", 3, []int64{35, 105, 105, 35, 0, 0}}, {"8x1:|||||||", 3, []int64{0, 0, 0, 0, 280, 0, 0, 0, 0}},
		{"2x2:++++", 0, []int64{0, 1, 0, 0, 0}}, {"2x2:++++", 1, []int64{8, 0, 0, 0, 0}}, {"2x2:|--|", 1, []int64{0, 0, 8, 0, 0}}, {"2x2:|+++", 1, []int64{4, 4, 0, 0, 0}},
	} {
		for k, n := range append(slices.Clone(c.want), 0, 0) {
			isCounted(t, fromText(t, c.text), int64(k)+1, c.edits, n, impl.OK)
		}
		isCounted(t, fromText(t, c.text), 1000, c.edits, 0, impl.OK)
	}
}

// TestRangeWritten writes the least and the greatest numbers of curves out after some edits.
func TestRangeWritten(t *testing.T) {
	for _, c := range []struct {
		text                   string
		edits, least, greatest int64
	}{
		{"1x1:", 0, 1, 1}, {"2x1:+", 0, 1, 1}, {"2x1:+", 1, 1, 2}, {"2x1:|", 0, 2, 2}, {"2x1:|", 1, 1, 1}, {"1x2:-", 1, 1, 1}, {"1x2:|", 1, 1, 2},
		{"3x1:|+", 0, 2, 2}, {"3x1:|+", 1, 1, 3}, {"3x1:|+", 2, 1, 2}, {"3x1:||", 1, 2, 2}, {"3x1:||", 2, 1, 1}, {"3x1:--", 2, 1, 3}, {"4x1:+++", 3, 1, 4}, {"4x1:|||", 3, 1, 1}, {"4x1:|-|", 2, 1, 3}, {"4x1:|-|", 3, 1, 2},
		{"8x1:|||||||", 3, 5, 5}, {"8x1:|||+|||", 3, 4, 6}, {"8x1:++++|++", 3, 1, 5},
		{"2x2:++++", 0, 2, 2}, {"2x2:++++", 1, 1, 1}, {"2x2:|--|", 0, 4, 4}, {"2x2:|--|", 1, 3, 3}, {"2x2:|+++", 1, 1, 2}, {"2x2:|+++", 3, 1, 4},
		{"3x3:++++++++++++", 0, 3, 3}, {"3x3:++++++++++++", 1, 2, 2},
	} {
		isRange(t, fromText(t, c.text), c.edits, c.least, c.greatest, impl.OK)
	}
	for edits := int64(1); edits <= 3; edits++ {
		isRange(t, panelOf(1, 1), edits, 0, 0, impl.ErrNotFound)
	}
	isRange(t, fromText(t, "2x1:|"), 2, 0, 0, impl.ErrNotFound)
	isRange(t, fromText(t, "1x2:+"), 3, 0, 0, impl.ErrNotFound)
	isRange(t, fromText(t, "3x1:|+"), 3, 0, 0, impl.ErrNotFound)
	isRange(t, smallCircles(3, 3), 0, 9, 9, impl.OK)
	isRange(t, smallCircles(3, 3), 1, 8, 8, impl.OK)
}

// choices is the number of ways to choose k of n.
func choices(n, k int64) int64 {
	if k == 0 {
		return 1
	}
	if n == 0 {
		return 0
	}
	return choices(n-1, k-1) + choices(n-1, k)
}

// TestSearchStrips holds counts in panels of the height 1, and of the width 1, against a formula: there is one curve more
// than mirrors across the strip; edits take some of them away, in two ways each, make others, or change the other points
// to the third kind.
func TestSearchStrips(t *testing.T) {
	random := rand.New(rand.NewSource(14))
	for n := range int64(8) {
		for range 12 {
			p := plain(n+1, 1)
			for k := range p.Breaks {
				p.Breaks[k] = int64(random.Intn(3))
			}
			q := panelOf(1, n+1, slices.Clone(p.Breaks)...)
			for k := range q.Breaks {
				q.Breaks[k] = (3 - q.Breaks[k]) % 3
			}
			across := countOf(p.Breaks, impl.BreakUpright)
			for edits := range int64(4) {
				want := make([]int64, 20)
				for away := range edits + 1 {
					for made := range edits - away + 1 {
						others := edits - away - made
						ways := choices(across, away) << away * choices(n-across, made+others) * choices(made+others, made)
						want[max(1+across-away+made, 0)] += ways
					}
				}
				for curves := int64(1); curves < 20; curves++ {
					isCounted(t, p, curves, edits, want[curves], impl.OK)
					isCounted(t, q, curves, edits, want[curves], impl.OK)
				}
			}
		}
	}
}

// TestFewestPromise is P11 with the guarantee of chapter 11, as the functions tell it: the edits lead to the number of
// curves, fewer do not, as CountEdits tells, and FewestEdits finds them just where some lists lead there.
func TestFewestPromise(t *testing.T) {
	found, none := [4]int{}, 0
	for _, p := range searchPanels() {
		for curves := int64(1); curves <= p.W*p.H+1; curves++ {
			list, code := impl.FewestEdits(p, curves, 3)
			name := fmt.Sprint(" of ", p, " to ", curves)
			fewer := int64(4)
			if code == impl.OK {
				fewer = int64(len(list))
				q, code := impl.ApplyEdits(p, list)
				same(t, "ApplyEdits"+name, code, int64(impl.OK))
				same(t, "curves"+name, told(impl.CountCurves(q)), told(curves, impl.OK))
				same(t, "closed ways"+name, waysOf(q), curves)
				n, code := impl.CountEdits(p, curves, fewer)
				same(t, "some lists"+name, []any{n > 0, code}, []any{true, int64(impl.OK)})
				found[fewer]++
			} else {
				same(t, "code"+name, code, int64(impl.ErrNotFound))
				none++
			}
			for n := range fewer {
				isCounted(t, p, curves, n, 0, impl.OK)
				isFewest(t, p, curves, n, nil, impl.ErrNotFound)
			}
			for most := fewer; most < 4; most++ {
				isFewest(t, p, curves, most, list, impl.OK)
			}
		}
	}
	if slices.Min(found[:]) < 20 || none < 20 {
		t.Errorf("numbers of curves by 0 to 3 edits: %v, by none: %d", found, none)
	}
}

// TestCountAll: each list is counted for one number of curves; there are as many as choices of points, with two kinds
// for each; and the range is that of the numbers for which lists are counted.
func TestCountAll(t *testing.T) {
	for _, p := range searchPanels() {
		for edits := range int64(4) {
			sum, reached := int64(0), []int64{}
			for curves := int64(1); curves <= p.W*p.H+1; curves++ {
				n, code := impl.CountEdits(p, curves, edits)
				same(t, fmt.Sprint("code for ", p), code, int64(impl.OK))
				sum += n
				if n > 0 {
					reached = append(reached, curves)
				}
			}
			same(t, fmt.Sprint("lists of ", edits, " edits of ", p), sum, choices(int64(len(p.Breaks)), edits)<<edits)
			if len(reached) == 0 {
				isRange(t, p, edits, 0, 0, impl.ErrNotFound)
			} else {
				isRange(t, p, edits, reached[0], reached[len(reached)-1], impl.OK)
			}
		}
		after, _ := impl.CurvesAfter(p)
		for curves := int64(1); curves <= p.W*p.H+1; curves++ {
			isCounted(t, p, curves, 1, countOf(after, curves), impl.OK)
		}
	}
}

// isSearchCode holds the searches with these numbers against a code with which nothing is told.
func isSearchCode(t *testing.T, p impl.Panel, curves, edits, want int64) {
	t.Helper()
	isFewest(t, p, curves, edits, nil, want)
	isCounted(t, p, curves, edits, 0, want)
}

// noCurves and noCounts are numbers of curves and of edits that may not be asked for.
func noCurves() []int64 {
	return slices.DeleteFunc(append([]int64{-1000, -1, 0, 1001, 1002, 1 << 32, 1<<32 + 1}, edgeNumbers...), func(n int64) bool { return n >= 1 && n <= 1000 })
}

func noCounts() []int64 { return append(numbersBeside(4), 1<<32, 1<<32+1) }

// TestSearchRange: numbers of curves and of edits that may not be asked for, on both sides of those that may; they are
// found before a panel with too many points, and before it is that no list leads to a number of curves.
func TestSearchRange(t *testing.T) {
	for _, p := range []impl.Panel{panelOf(1, 1), panelOf(2, 1, 1), plain(2, 2), mixedPanel(3, 3), plain(5, 2), plain(2, 5), mixedPanel(4, 3), mixedPanel(8, 8)} {
		for _, curves := range noCurves() {
			for _, edits := range append(noCounts(), 0, 1, 2, 3) {
				isSearchCode(t, p, curves, edits, impl.ErrRange)
			}
		}
		for _, edits := range noCounts() {
			for _, curves := range []int64{1, 2, 3, 64, 1000} {
				isSearchCode(t, p, curves, edits, impl.ErrRange)
			}
			isRange(t, p, edits, 0, 0, impl.ErrRange)
		}
	}
}

// TestSearchFull: panels of all sizes are searched if they have at most MaxSearched inner points, and if there is one
// more, or many, it is found before it is that no list leads to a number of curves, and also if no edit is needed.
func TestSearchFull(t *testing.T) {
	same(t, "points", []int{len(plain(3, 3).Breaks), len(plain(5, 2).Breaks), len(plain(2, 5).Breaks)}, []int{12, 13, 13})
	eachSize(func(w, h int64) {
		for _, p := range []impl.Panel{plain(w, h), mixedPanel(w, h), smallCircles(w, h)} {
			n := waysOf(p)
			if slices.Contains(searchSizes(), [2]int64{w, h}) {
				isFewest(t, p, n, 0, nil, impl.OK)
				isFewest(t, p, 1000, 0, nil, impl.ErrNotFound)
				isCounted(t, p, n, 0, 1, impl.OK)
				isCounted(t, p, 1000, 0, 0, impl.OK)
				isRange(t, p, 0, n, n, impl.OK)
				continue
			}
			isAfter(t, p, nil, impl.ErrFull)
			for edits := range int64(4) {
				for _, curves := range []int64{1, n, n + 1, w * h, 65, 1000} {
					isSearchCode(t, p, curves, edits, impl.ErrFull)
				}
				isRange(t, p, edits, 0, 0, impl.ErrFull)
			}
		}
	})
}

// TestSearchInvalidPanels: a panel that is not valid is found before numbers that may not be asked for, and before too
// many points.
func TestSearchInvalidPanels(t *testing.T) {
	for _, p := range invalidPanels() {
		isAfter(t, p, nil, impl.ErrInvalid)
		for _, edits := range append(noCounts(), 0, 1, 3) {
			for _, curves := range append(noCurves(), 1, 2, 1000) {
				isSearchCode(t, p, curves, edits, impl.ErrInvalid)
			}
			isRange(t, p, edits, 0, 0, impl.ErrInvalid)
		}
	}
}

// allOfEdits tells what the functions for edits return for a panel and a list.
func allOfEdits(p impl.Panel, list []impl.Edit) string {
	q, one := impl.ApplyEdits(p, list)
	back, two := impl.UndoEdits(p, list)
	text, three := impl.EditsText(p, list)
	return fmt.Sprint(impl.ValidEdits(p, list), q, one, back, two, text, three)
}

// allOfSearches tells what the functions of chapter 11 return for a panel and many other arguments.
func allOfSearches(p impl.Panel) []string {
	after, code := impl.CurvesAfter(p)
	out := []string{fmt.Sprint(after, code)}
	for _, text := range []string{"", "0=0", "0=1", "0=2", "0=1 1=2", "1=1 0=1", "0=3", "-1=1", "111=1"} {
		read, code := impl.ReadEdits(p, text)
		out = append(out, allOfEdits(p, editsIn(text)), fmt.Sprint(read, code))
	}
	for _, q := range []impl.Panel{{}, panelOf(2, 1, 1), mixedPanel(3, 4), mixedPanel(8, 8), p} {
		to, one := impl.EditsBetween(p, q)
		from, two := impl.EditsBetween(q, p)
		out = append(out, fmt.Sprint(to, one, from, two))
	}
	for edits := int64(-1); edits <= 4; edits++ {
		low, high, code := impl.CurveRange(p, edits)
		out = append(out, fmt.Sprint(low, high, code))
		for _, curves := range []int64{0, 1, 2, 3, 4, 1000, 1001} {
			few, code := impl.FewestEdits(p, curves, edits)
			out = append(out, fmt.Sprint(few, code, told(impl.CountEdits(p, curves, edits))))
		}
	}
	return out
}

// TestSearchesUnchanged is P1: no function of chapter 11 changes a panel, nor what lies behind its list in memory, and
// all tell the same again, also for a copy.
func TestSearchesUnchanged(t *testing.T) {
	for _, p := range append(invalidPanels(), panelOf(1, 1), panelOf(2, 1, 1), plain(2, 2), mixedPanel(3, 3), smallCircles(3, 3), plain(5, 2), mixedPanel(8, 8)) {
		unchanged(t, p, allOfSearches)
	}
}

// TestEditsUnchanged is P1: no function of chapter 11 changes a list of edits, nor what lies behind it in memory, and all
// tell the same again, also for a copy.
func TestEditsUnchanged(t *testing.T) {
	for _, p := range append(errorPanels(), panelOf(9, 9), panelOf(2, 1, 3)) {
		lists := [][]impl.Edit{nil, {}, editsIn("0=1"), editsIn("0=1 1=2"), editsIn("1=1 0=2"), editsIn("0=3"), allEdits(p, 1), allEdits(p, 2)}
		for _, list := range lists {
			memory := append(slices.Clone(list), editsIn("7=8 9=10 11=12")...)
			before := slices.Clone(memory)
			x := memory[:len(list)]
			first := allOfEdits(p, x)
			same(t, fmt.Sprint("called again for ", list, " and ", p), allOfEdits(p, x), first)
			same(t, fmt.Sprint("memory of ", list), memory, before)
			same(t, fmt.Sprint("called for a copy of ", list, " and ", p), allOfEdits(p, slices.Clone(list)), first)
		}
	}
}

// spoilEdits overwrites a list and all memory behind it that belongs to it.
func spoilEdits(list []impl.Edit) {
	for k := range list[:cap(list)] {
		list[:cap(list)][k] = impl.Edit{Number: 99, Kind: 99}
	}
}

// listsOfSearches are all lists of edits that the functions of chapter 11 return for a panel and a list of edits, and all
// lists of numbers.
func listsOfSearches(p impl.Panel, list []impl.Edit) ([][]impl.Edit, [][]int64) {
	q, _ := impl.ApplyEdits(p, list)
	back, _ := impl.UndoEdits(p, list)
	between, _ := impl.EditsBetween(p, q)
	read, _ := impl.ReadEdits(p, textOf(list))
	edits := [][]impl.Edit{back, between, read}
	for curves := int64(1); curves <= 5; curves++ {
		few, _ := impl.FewestEdits(p, curves, 3)
		edits = append(edits, few)
	}
	after, _ := impl.CurvesAfter(p)
	return edits, [][]int64{q.Breaks, after}
}

// TestSearchesNew is P1: no list of a result shares memory with an argument or with another result, also where no edit
// is made.
func TestSearchesNew(t *testing.T) {
	for _, p := range []impl.Panel{panelOf(1, 1), panelOf(2, 1, 1), plain(4, 1), plain(2, 2), mixedPanel(3, 3), smallCircles(3, 3), mixedPanel(8, 8)} {
		for _, list := range [][]impl.Edit{{}, allEdits(p, 1), allEdits(p, 2)[:min(1, len(p.Breaks))]} {
			q := panelOf(p.W, p.H, slices.Grow(slices.Clone(p.Breaks), 9)...)
			x := slices.Grow(slices.Clone(list), 9)
			wantEdits, wantNumbers := listsOfSearches(p, list)
			firstEdits, firstNumbers := listsOfSearches(q, x)
			secondEdits, secondNumbers := listsOfSearches(q, x)
			name := fmt.Sprint(" of ", list, " for ", p)
			for k, edits := range firstEdits {
				isEdits(t, fmt.Sprint("the list ", k, name, " after those before were spoilt"), edits, 0, wantEdits[k], 0)
				spoilEdits(edits)
			}
			for k, numbers := range firstNumbers {
				isList(t, fmt.Sprint("the numbers ", k, name, " after those before were spoilt"), numbers, 0, wantNumbers[k], 0)
				spoil(numbers)
			}
			samePanel(t, "the panel"+name, q, p)
			isEdits(t, "the argument"+name, x, 0, list, 0)
			spoil(q.Breaks)
			spoilEdits(x)
			for k, edits := range secondEdits {
				isEdits(t, fmt.Sprint("the list ", k, name, " of another result"), edits, 0, wantEdits[k], 0)
			}
			for k, numbers := range secondNumbers {
				isList(t, fmt.Sprint("the numbers ", k, name, " of another result"), numbers, 0, wantNumbers[k], 0)
			}
		}
	}
}

// TestSearchesAtOnce is P1: searches that run at the same time do not disturb each other, and when they have returned,
// nothing of them goes on.
func TestSearchesAtOnce(t *testing.T) {
	before := runtime.NumGoroutine()
	p := mixedPanel(3, 3)
	want := allOfSearches(p)
	var callers sync.WaitGroup
	for range 8 {
		callers.Go(func() {
			for range 3 {
				same(t, "at once", allOfSearches(p), want)
			}
		})
	}
	callers.Wait()
	// A goroutine that has sent all it has to say may still be about to end.
	for range 200 {
		if runtime.NumGoroutine() <= before {
			return
		}
		time.Sleep(10 * time.Millisecond)
	}
	t.Errorf("%d goroutines are left, and there were %d before", runtime.NumGoroutine(), before)
}
