package tests

import (
	"fmt"
	"math"
	"math/rand"
	"slices"
	"strings"
	"testing"

	"loop.example/g00931/impl"
)

// columnOf writes a column shortly, valid or not.
func columnOf(closed int64, pairing ...int64) impl.Column {
	return impl.Column{Pairing: pairing, Closed: closed}
}

// sameColumn holds a column and its code against what is wanted, where a nil list is as an empty one.
func sameColumn(t *testing.T, name string, got impl.Column, code int64, want impl.Column, wantCode int64) {
	t.Helper()
	if !slices.Equal(got.Pairing, want.Pairing) || got.Closed != want.Closed || code != wantCode {
		t.Errorf("%s: got %v %d, want %v %d", name, got, code, want, wantCode)
	}
}

// pairingByWords reports whether a list is a pairing as chapter 9 words it.
func pairingByWords(list []int64) bool {
	n := len(list)
	if n%2 != 0 || n < 2 || n > 16 {
		return false
	}
	for k, partner := range list {
		if partner < 0 || partner >= int64(n) || partner == int64(k) {
			return false
		}
	}
	for k := range list {
		if list[list[k]] != int64(k) {
			return false
		}
	}
	return true
}

// nestedByWords reports whether a pairing has no i < j < list[i] < list[j].
func nestedByWords(list []int64) bool {
	for i := range int64(len(list)) {
		for j := range int64(len(list)) {
			if i < j && j < list[i] && list[i] < list[j] {
				return false
			}
		}
	}
	return true
}

// loopsByWords gives all elements of a loop its least number, again and again until nothing changes.
func loopsByWords(a, b []int64) int64 {
	least := numbers(int64(len(a)))
	for changes := true; changes; {
		changes = false
		for k := range least {
			for _, partner := range []int64{a[k], b[k]} {
				if least[partner] < least[k] {
					least[k] = least[partner]
					changes = true
				}
			}
		}
	}
	slices.Sort(least)
	return int64(len(slices.Compact(least)))
}

// paired writes a pairing as its pairs.
func paired(pairs ...[2]int64) []int64 {
	list := make([]int64, 2*len(pairs))
	for _, pair := range pairs {
		list[pair[0]], list[pair[1]] = pair[1], pair[0]
	}
	return list
}

// allPairings are all pairings of n elements: the first one that has no partner gets each other one.
func allPairings(n int) [][]int64 {
	all := [][]int64{}
	var more func(pairs [][2]int64, free []int64)
	more = func(pairs [][2]int64, free []int64) {
		if len(free) == 0 {
			all = append(all, paired(pairs...))
			return
		}
		for k := 1; k < len(free); k++ {
			rest := slices.Delete(slices.Clone(free[1:]), k-1, k)
			more(append(slices.Clone(pairs), [2]int64{free[0], free[k]}), rest)
		}
	}
	more(nil, numbers(int64(n)))
	return all
}

// sideBySide, inEachOther and farAway are pairings of n elements: of neighbours, of those as far from the beginning
// as from the end, and of those that are half the elements away.
func sideBySide(n int64) []int64 {
	list := numbers(n)
	for k := range list {
		list[k] = int64(k) ^ 1
	}
	return list
}

func inEachOther(n int64) []int64 {
	list := numbers(n)
	slices.Reverse(list)
	return list
}

func farAway(n int64) []int64 {
	list := numbers(n)
	for k := range list {
		list[k] = (int64(k) + n/2) % n
	}
	return list
}

// mixedPairing is a pairing of n elements as it comes.
func mixedPairing(random *rand.Rand, n int) []int64 {
	order := random.Perm(n)
	list := make([]int64, n)
	for k := 0; k < n; k += 2 {
		list[order[k]], list[order[k+1]] = int64(order[k+1]), int64(order[k])
	}
	return list
}

// somePairings are many pairings of n elements, all of them if there are not more than 105.
func somePairings(n int64) [][]int64 {
	if n <= 8 {
		return allPairings(int(n))
	}
	random := rand.New(rand.NewSource(n))
	list := [][]int64{sideBySide(n), inEachOther(n), farAway(n)}
	for range 40 {
		list = append(list, mixedPairing(random, int(n)))
	}
	return list
}

// nonPairings breaks each rule for pairings, one after the other.
func nonPairings() [][]int64 {
	list := [][]int64{
		nil, {},
		// An odd number of elements, and too many of them.
		{0}, {1}, {-1}, {1, 0, 2}, {1, 0, 1}, {1, 2, 0}, {2, 1, 0}, {1, 0, 3, 2, 4}, append(sideBySide(14), 14), append(sideBySide(14), 13), append(sideBySide(16), 16),
		sideBySide(18), inEachOther(18), farAway(18), sideBySide(20), inEachOther(32), sideBySide(100000),
		// An element that is no index.
		{1, 2}, {2, 0}, {1, -1}, {-1, 0}, {-1, -1}, {2, 2}, {math.MaxInt64, 0}, {1, math.MaxInt64}, {math.MinInt64, 0}, {1, math.MinInt64},
		{1, 0, 4, 2}, {1, 0, 3, 4}, {1, 0, 3, -1}, {1, 0, -3, -2}, {4, 5, 0, 1}, {1 << 32, 0}, {1<<32 + 1, 1 << 32},
		// One that is its own partner.
		{0, 1}, {0, 0}, {1, 1}, {1, 0, 2, 3}, {0, 1, 2, 3}, {0, 2, 1, 3}, {1, 0, 3, 3}, {0, 0, 3, 2},
		// One whose partner has another partner, also in a circle.
		{1, 2, 3, 0}, {3, 0, 1, 2}, {1, 0, 0, 2}, {1, 0, 1, 0}, {2, 0, 3, 1}, {1, 2, 1, 0}, {2, 3, 0, 0}, {1, 0, 3, 1}, {3, 2, 0, 1},
		numbers(16), append(slices.Repeat([]int64{1, 0}, 7), 15, 14),
	}
	last, far := sideBySide(16), farAway(16)
	last[15], far[15] = 13, 16
	return append(list, last, far)
}

// stepsByWords tells for each walker of a panel the one after a step.
func stepsByWords(p impl.Panel) map[impl.Walker]impl.Walker {
	to := map[impl.Walker]impl.Walker{}
	for _, v := range walkersByOrder(p.W, p.H) {
		to[v], _ = stepByWords(p, v)
	}
	return to
}

// walkersAlong are the walkers along the segments of a column, in order, to the right or to the left.
func walkersAlong(p impl.Panel, x, dx int64) []impl.Walker {
	return slices.DeleteFunc(walkersByOrder(p.W, p.H), func(v impl.Walker) bool { return columnBeside(v) != x || v.DX != dx })
}

// columnBeside is the column of the segment that a walker is about to walk.
func columnBeside(v impl.Walker) int64 { return between(v.At, nextOf(v))[0].X }

// numbersIn tells for the walkers along the segments of a column, to both sides, the numbers of these segments.
func numbersIn(p impl.Panel, x int64) map[impl.Walker]int64 {
	number := map[impl.Walker]int64{}
	for _, dx := range []int64{-1, 1} {
		for k, v := range walkersAlong(p, x, dx) {
			number[v] = int64(k)
		}
	}
	return number
}

// knownByWords walks from each segment of each column to the left, or to the right if dx is 1, until it comes to the
// same column again, and tells how many curves have all their segments in columns beyond.
func knownByWords(p impl.Panel, dx int64) []impl.Column {
	to := stepsByWords(p)
	curves, of := curvesByWords(p)
	list := []impl.Column{}
	for x := range 2 * p.W {
		number := numbersIn(p, x)
		c := impl.Column{}
		for _, v := range walkersAlong(p, x, dx) {
			v = to[v]
			for columnBeside(v) != x {
				v = to[v]
			}
			c.Pairing = append(c.Pairing, number[v])
		}
		beyond := make([]bool, len(curves))
		for k := range beyond {
			beyond[k] = true
		}
		for segment, curve := range of {
			beyond[curve] = beyond[curve] && dx*(int64(segment)/(2*p.H)-x) > 0
		}
		for _, is := range beyond {
			if is {
				c.Closed++
			}
		}
		list = append(list, c)
	}
	return list
}

// nextByWords walks from each segment of the column x + 1 to the points before it, and there further along segments
// of the column x, from each of which one comes to its partner. What is not visited are curves that are closed.
func nextByWords(p impl.Panel, x int64, c impl.Column) impl.Column {
	to := stepsByWords(p)
	before, behind := numbersIn(p, x), numbersIn(p, x+1)
	back := walkersAlong(p, x, 1)
	visited := map[int64]bool{}
	around := func(v impl.Walker) impl.Walker {
		k := before[v]
		visited[k], visited[c.Pairing[k]] = true, true
		return to[back[c.Pairing[k]]]
	}
	next := impl.Column{Closed: c.Closed}
	for _, v := range walkersAlong(p, x+1, -1) {
		v = to[v]
		for v.DX < 0 {
			v = around(v)
		}
		next.Pairing = append(next.Pairing, behind[v])
	}
	for k, v := range walkersAlong(p, x, -1) {
		if visited[int64(k)] {
			continue
		}
		next.Closed++
		for w := around(v); w != v; {
			w = around(w)
		}
	}
	return next
}

// fromRight and nextColumn are results that must come with OK.
func fromRight(t *testing.T, p impl.Panel, x int64) impl.Column {
	t.Helper()
	c, code := impl.FromRight(p, x)
	if code != impl.OK {
		t.Fatalf("FromRight of %v at %d: code %d", p, x, code)
	}
	return c
}

func nextColumn(t *testing.T, p impl.Panel, x int64, c impl.Column) impl.Column {
	t.Helper()
	next, code := impl.NextColumn(p, x, c)
	if code != impl.OK {
		t.Fatalf("NextColumn of %v at %d behind %v: code %d", p, x, c, code)
	}
	return next
}

// allFromRight is FromRight of all columns.
func allFromRight(t *testing.T, p impl.Panel) []impl.Column {
	t.Helper()
	list := []impl.Column{}
	for x := range 2 * p.W {
		list = append(list, fromRight(t, p, x))
	}
	return list
}

// TestColumnExample is the example of chapter 9.
func TestColumnExample(t *testing.T) {
	p := panelOf(1, 1)
	first, code := impl.FirstColumn(p)
	sameColumn(t, "the column 0", first, code, columnOf(0, 1, 0), impl.OK)
	next, code := impl.NextColumn(p, 0, first)
	sameColumn(t, "the column 1", next, code, columnOf(0, 1, 0), impl.OK)
	list, code := impl.ColumnsOf(p)
	same(t, "ColumnsOf", []any{list, code}, []any{[]impl.Column{columnOf(0, 1, 0), columnOf(0, 1, 0)}, int64(impl.OK)})
	same(t, "from the right", allFromRight(t, p), list)
	same(t, "CountByColumns", told(impl.CountByColumns(p)), told(1, impl.OK))
}

// TestIsPairing writes pairings out, of 2 and of 16 elements as well, and what is none.
func TestIsPairing(t *testing.T) {
	for _, list := range [][]int64{
		{1, 0}, {1, 0, 3, 2}, {2, 3, 0, 1}, {3, 2, 1, 0}, {5, 4, 3, 2, 1, 0}, {3, 4, 5, 0, 1, 2}, {2, 5, 0, 4, 3, 1},
		{1, 0, 3, 2, 5, 4, 7, 6, 9, 8, 11, 10, 13, 12, 15, 14}, {15, 14, 13, 12, 11, 10, 9, 8, 7, 6, 5, 4, 3, 2, 1, 0},
		sideBySide(14), inEachOther(14), farAway(14), farAway(16),
	} {
		same(t, fmt.Sprint("IsPairing of ", list), impl.IsPairing(list), true)
		same(t, fmt.Sprint("by words: ", list), pairingByWords(list), true)
	}
	for _, list := range nonPairings() {
		name := fmt.Sprintf("%d elements %v", len(list), list[:min(len(list), 20)])
		same(t, "IsPairing of "+name, impl.IsPairing(list), false)
		same(t, "by words: "+name, pairingByWords(list), false)
	}
}

// TestIsPairingAll holds all short lists of small numbers against the words of chapter 9, and of pairings all that
// have another number at one place.
func TestIsPairingAll(t *testing.T) {
	found := map[int]int{}
	eachList(4, -1, 4, func(list []int64) {
		want := pairingByWords(list)
		same(t, fmt.Sprint("IsPairing of ", list), impl.IsPairing(list), want)
		if want {
			found[len(list)]++
		}
	})
	same(t, "how many there are", found, map[int]int{2: 1, 4: 3})
	eachList(6, 0, 5, func(list []int64) {
		if len(list) == 6 && impl.IsPairing(list) {
			found[6]++
		}
	})
	same(t, "how many there are of 6 elements", found[6], 15)
	for n := int64(2); n <= 16; n += 2 {
		for _, list := range somePairings(n) {
			for k := range list {
				for _, partner := range append(numbers(n), -1, n, n+1, -list[k], math.MinInt64, math.MaxInt64) {
					other := slices.Clone(list)
					other[k] = partner
					same(t, fmt.Sprint("IsPairing of ", other), impl.IsPairing(other), partner == list[k])
				}
			}
		}
	}
}

// TestIsNestedWritten writes pairings out that are nested, and others, of 2 and of 16 elements as well.
func TestIsNestedWritten(t *testing.T) {
	for _, list := range [][]int64{
		{1, 0}, {1, 0, 3, 2}, {3, 2, 1, 0}, {5, 4, 3, 2, 1, 0}, {5, 2, 1, 4, 3, 0}, {3, 2, 1, 0, 5, 4}, {1, 0, 5, 4, 3, 2},
		sideBySide(16), inEachOther(16), append(inEachOther(8), 9, 8, 15, 12, 11, 14, 13, 10),
	} {
		same(t, fmt.Sprint("IsNested of ", list), impl.IsNested(list), true)
	}
	for _, list := range [][]int64{
		{2, 3, 0, 1}, {3, 4, 5, 0, 1, 2}, {2, 5, 0, 4, 3, 1}, {1, 0, 4, 5, 2, 3}, {2, 3, 0, 1, 5, 4}, {4, 2, 1, 5, 0, 3}, {5, 3, 4, 1, 2, 0},
		farAway(16), append(sideBySide(12), 14, 15, 12, 13), append([]int64{2, 3, 0, 1}, sideBySide(16)[4:]...), {14, 15, 3, 2, 5, 4, 7, 6, 9, 8, 11, 10, 13, 12, 0, 1},
	} {
		same(t, fmt.Sprint("IsPairing of ", list), impl.IsPairing(list), true)
		same(t, fmt.Sprint("IsNested of ", list), impl.IsNested(list), false)
	}
	for _, list := range nonPairings() {
		same(t, fmt.Sprintf("IsNested of %d elements %v", len(list), list[:min(len(list), 20)]), impl.IsNested(list), false)
	}
}

// TestIsNested holds all pairings of up to 10 elements and others against the words of chapter 9. How many of them
// are nested is known: the numbers of Catalan.
func TestIsNested(t *testing.T) {
	catalan := map[int]int{2: 1, 4: 2, 6: 5, 8: 14, 10: 42}
	for n, want := range catalan {
		nested := 0
		for _, list := range allPairings(n) {
			is := impl.IsNested(list)
			same(t, fmt.Sprint("IsNested of ", list), is, nestedByWords(list))
			if is {
				nested++
			}
		}
		same(t, fmt.Sprint("nested ones of ", n), nested, want)
	}
	for _, n := range []int64{12, 14, 16} {
		for _, list := range somePairings(n) {
			same(t, fmt.Sprint("IsNested of ", list), impl.IsNested(list), nestedByWords(list))
		}
	}
}

// TestLoopsWritten writes the loops of some pairings out.
func TestLoopsWritten(t *testing.T) {
	// Together with sideBySide, it makes one loop.
	around := []int64{15, 2, 1, 4, 3, 6, 5, 8, 7, 10, 9, 12, 11, 14, 13, 0}
	for _, c := range []struct {
		a, b []int64
		want int64
	}{
		{[]int64{1, 0}, []int64{1, 0}, 1},
		{[]int64{1, 0, 3, 2}, []int64{1, 0, 3, 2}, 2}, {[]int64{1, 0, 3, 2}, []int64{3, 2, 1, 0}, 1}, {[]int64{1, 0, 3, 2}, []int64{2, 3, 0, 1}, 1},
		{[]int64{2, 3, 0, 1}, []int64{3, 2, 1, 0}, 1}, {[]int64{2, 3, 0, 1}, []int64{2, 3, 0, 1}, 2},
		{[]int64{1, 0, 3, 2, 5, 4}, []int64{5, 2, 1, 4, 3, 0}, 1}, {[]int64{1, 0, 3, 2, 5, 4}, []int64{1, 0, 5, 4, 3, 2}, 2}, {[]int64{5, 4, 3, 2, 1, 0}, []int64{1, 0, 3, 2, 5, 4}, 2},
		{sideBySide(16), sideBySide(16), 8}, {inEachOther(16), inEachOther(16), 8}, {farAway(16), farAway(16), 8},
		{sideBySide(16), around, 1}, {around, sideBySide(16), 1}, {around, around, 8},
		{sideBySide(16), farAway(16), 4}, {sideBySide(16), inEachOther(16), 4}, {farAway(16), inEachOther(16), 4},
	} {
		same(t, fmt.Sprint("LoopsOf ", c.a, " and ", c.b), told(impl.LoopsOf(c.a, c.b)), told(c.want, impl.OK))
	}
}

// TestLoops holds all two pairings of up to 8 elements and others against a second wording, and equal ones against
// the number of their pairs. How many pairings make so many loops with another one is known, too: the coefficients
// of x (x + 2) (x + 4) (x + 6) for 8 elements.
func TestLoops(t *testing.T) {
	for n := int64(2); n <= 16; n += 2 {
		list := somePairings(n)
		for _, a := range list {
			same(t, fmt.Sprint("LoopsOf ", a, " with itself"), told(impl.LoopsOf(a, slices.Clone(a))), told(n/2, impl.OK))
			times := map[int64]int{}
			for _, b := range list {
				loops, code := impl.LoopsOf(a, b)
				same(t, fmt.Sprint("LoopsOf ", a, " and ", b), told(loops, code), told(loopsByWords(a, b), impl.OK))
				times[loops]++
			}
			if n == 8 {
				same(t, fmt.Sprint("loops with ", a), times, map[int64]int{1: 48, 2: 44, 3: 12, 4: 1})
			}
		}
	}
}

// TestLoopsErrors: a list that is no pairing is found on both sides, before different lengths are; nothing is told
// with it.
func TestLoopsErrors(t *testing.T) {
	good := [][]int64{{1, 0}, {2, 3, 0, 1}, sideBySide(6), inEachOther(14), farAway(16)}
	bad := nonPairings()
	for k, list := range bad {
		for _, other := range append(good, list, bad[(k+1)%len(bad)]) {
			name := fmt.Sprintf("LoopsOf with %d elements %v and %d others", len(list), list[:min(len(list), 20)], len(other))
			same(t, name, told(impl.LoopsOf(list, other)), told(0, impl.ErrInvalid))
			same(t, name+", exchanged", told(impl.LoopsOf(other, list)), told(0, impl.ErrInvalid))
		}
	}
	for _, a := range good {
		for _, b := range good {
			want := told(0, impl.ErrState)
			if len(a) == len(b) {
				want = told(int64(len(a)/2), impl.OK)
			}
			same(t, fmt.Sprint("LoopsOf ", a, " and ", b), told(impl.LoopsOf(a, b)), want)
		}
	}
}

// TestPairingText writes texts out, and holds many others against their numbers.
func TestPairingText(t *testing.T) {
	for want, list := range map[string][]int64{
		"1,0": {1, 0}, "1,0,3,2": {1, 0, 3, 2}, "2,3,0,1": {2, 3, 0, 1}, "3,2,1,0": {3, 2, 1, 0}, "2,5,0,4,3,1": {2, 5, 0, 4, 3, 1},
		"15,14,13,12,11,10,9,8,7,6,5,4,3,2,1,0": inEachOther(16), "8,9,10,11,12,13,14,15,0,1,2,3,4,5,6,7": farAway(16),
	} {
		same(t, fmt.Sprint("PairingText of ", list), impl.PairingText(list), want)
	}
	for n := int64(2); n <= 16; n += 2 {
		for _, list := range somePairings(n) {
			want := strings.ReplaceAll(strings.Trim(fmt.Sprint(list), "[]"), " ", ",")
			same(t, fmt.Sprint("PairingText of ", list), impl.PairingText(list), want)
		}
	}
	for _, list := range nonPairings() {
		same(t, fmt.Sprintf("PairingText of %d elements %v", len(list), list[:min(len(list), 20)]), impl.PairingText(list), "")
	}
}

// columnCase is a panel with what is known at its columns from the left and from the right.
type columnCase struct {
	text        string
	left, right string
	curves      int64
}

// writtenColumns were found by hand. In `2x1:|` and `2x2:|--|` curves are closed by upright mirrors between two
// columns, in `2x2:|++|` by the second one of two, in `2x2:-||-` one inside another one; most others are closed at
// the right border only.
func writtenColumns() []columnCase {
	return []columnCase{
		{"1x1:", "[{[1 0] 0} {[1 0] 0}]", "[{[1 0] 0} {[1 0] 0}]", 1},
		{"2x1:+", "[{[1 0] 0} {[1 0] 0} {[1 0] 0} {[1 0] 0}]", "[{[1 0] 0} {[1 0] 0} {[1 0] 0} {[1 0] 0}]", 1},
		{"2x1:-", "[{[1 0] 0} {[1 0] 0} {[1 0] 0} {[1 0] 0}]", "[{[1 0] 0} {[1 0] 0} {[1 0] 0} {[1 0] 0}]", 1},
		{"2x1:|", "[{[1 0] 0} {[1 0] 0} {[1 0] 1} {[1 0] 1}]", "[{[1 0] 1} {[1 0] 1} {[1 0] 0} {[1 0] 0}]", 2},
		{"1x2:+", "[{[1 0 3 2] 0} {[2 3 0 1] 0}]", "[{[2 3 0 1] 0} {[1 0 3 2] 0}]", 1},
		{"1x2:-", "[{[1 0 3 2] 0} {[1 0 3 2] 0}]", "[{[1 0 3 2] 0} {[1 0 3 2] 0}]", 2},
		{"1x2:|", "[{[1 0 3 2] 0} {[3 2 1 0] 0}]", "[{[3 2 1 0] 0} {[1 0 3 2] 0}]", 1},
		{"1x3:+|", "[{[1 0 3 2 5 4] 0} {[2 5 0 4 3 1] 0}]", "[{[2 5 0 4 3 1] 0} {[1 0 3 2 5 4] 0}]", 1},
		{"2x2:++++", "[{[1 0 3 2] 0} {[2 3 0 1] 0} {[2 3 0 1] 0} {[1 0 3 2] 0}]", "[{[1 0 3 2] 0} {[2 3 0 1] 0} {[2 3 0 1] 0} {[1 0 3 2] 0}]", 2},
		{"2x2:|--|", "[{[1 0 3 2] 0} {[1 0 3 2] 0} {[1 0 3 2] 2} {[1 0 3 2] 2}]", "[{[1 0 3 2] 2} {[1 0 3 2] 2} {[1 0 3 2] 0} {[1 0 3 2] 0}]", 4},
		{"2x2:-||-", "[{[1 0 3 2] 0} {[3 2 1 0] 0} {[3 2 1 0] 0} {[3 2 1 0] 1}]", "[{[3 2 1 0] 1} {[3 2 1 0] 0} {[3 2 1 0] 0} {[1 0 3 2] 0}]", 2},
		{"2x2:|++|", "[{[1 0 3 2] 0} {[2 3 0 1] 0} {[1 0 3 2] 1} {[2 3 0 1] 1}]", "[{[2 3 0 1] 1} {[1 0 3 2] 1} {[2 3 0 1] 0} {[1 0 3 2] 0}]", 2},
		{"2x2:+|-+", "[{[1 0 3 2] 0} {[3 2 1 0] 0} {[3 2 1 0] 0} {[3 2 1 0] 0}]", "[{[3 2 1 0] 0} {[1 0 3 2] 0} {[1 0 3 2] 0} {[1 0 3 2] 0}]", 1},
	}
}

func TestColumnsWritten(t *testing.T) {
	for _, c := range writtenColumns() {
		p := fromText(t, c.text)
		list, code := impl.ColumnsOf(p)
		same(t, "ColumnsOf "+c.text, []any{fmt.Sprint(list), code}, []any{c.left, int64(impl.OK)})
		same(t, "from the right: "+c.text, fmt.Sprint(allFromRight(t, p)), c.right)
		same(t, "CountByColumns of "+c.text, told(impl.CountByColumns(p)), told(c.curves, impl.OK))
	}
}

// TestColumnsGreatest: panels of 8 by 8 of which the numbers of curves are known. In the one with small circles, 8 of
// them are closed at each second column, also at the right border; in the other one, none is closed before it.
func TestColumnsGreatest(t *testing.T) {
	circles, none := smallCircles(8, 8), plain(8, 8)
	list, code := impl.ColumnsOf(circles)
	same(t, "columns with small circles", told(int64(len(list)), code), told(16, impl.OK))
	for x, c := range list {
		before := int64(x) / 2
		sameColumn(t, fmt.Sprint("small circles at ", x), c, code, columnOf(8*before, sideBySide(16)...), impl.OK)
		sameColumn(t, fmt.Sprint("small circles from the right at ", x), fromRight(t, circles, int64(x)), impl.OK, columnOf(8*(7-before), sideBySide(16)...), impl.OK)
	}
	same(t, "number of small circles", told(impl.CountByColumns(circles)), told(64, impl.OK))
	list, code = impl.ColumnsOf(none)
	same(t, "columns without breaks", told(int64(len(list)), code), told(16, impl.OK))
	for x, c := range list {
		same(t, fmt.Sprint("closed without breaks at ", x), []int64{c.Closed, fromRight(t, none, int64(x)).Closed}, []int64{0, 0})
	}
	same(t, "number without breaks", told(impl.CountByColumns(none)), told(8, impl.OK))
	same(t, "number of 8 by 7", told(impl.CountByColumns(plain(8, 7))), told(1, impl.OK))
}

// columnPanels are those of symmetries, some with breaks as they come, and all of a few more small sizes.
func columnPanels() []impl.Panel {
	list := symPanels()
	random := rand.New(rand.NewSource(9))
	for _, s := range [][2]int64{{2, 3}, {3, 2}, {3, 3}, {4, 2}, {5, 4}, {4, 8}, {8, 3}, {8, 8}} {
		for mirrors := range 12 {
			p := plain(s[0], s[1])
			for k := range p.Breaks {
				if random.Intn(12) < mirrors {
					p.Breaks[k] = int64(1 + random.Intn(2))
				}
			}
			list = append(list, p)
		}
	}
	return slices.Concat(list, allPanels(4, 1), allPanels(1, 4))
}

// TestColumns holds what is known at the columns of many panels of all sizes against walking, and the number of
// curves against tracing. FirstColumn and NextColumn go through the same columns.
func TestColumns(t *testing.T) {
	within, atEnd := 0, 0
	for _, p := range columnPanels() {
		want, wantRight := knownByWords(p, -1), knownByWords(p, 1)
		list, code := impl.ColumnsOf(p)
		same(t, fmt.Sprint("ColumnsOf ", p), []any{list, code}, []any{want, int64(impl.OK)})
		same(t, fmt.Sprint("from the right: ", p), allFromRight(t, p), wantRight)
		curves, _ := curvesByWords(p)
		same(t, fmt.Sprint("CountByColumns of ", p), told(impl.CountByColumns(p)), told(int64(len(curves)), impl.OK))
		c, code := impl.FirstColumn(p)
		sameColumn(t, fmt.Sprint("FirstColumn of ", p), c, code, columnOf(0, sideBySide(2*p.H)...), impl.OK)
		for x := int64(1); x < 2*p.W; x++ {
			c = nextColumn(t, p, x-1, c)
			sameColumn(t, fmt.Sprint("NextColumn of ", p, " at ", x-1), c, impl.OK, want[x], impl.OK)
		}
		within += int(c.Closed)
		atEnd += len(curves) - int(c.Closed)
	}
	if within < 500 || atEnd < 500 {
		t.Errorf("only %d curves are closed between columns, and %d at the right border", within, atEnd)
	}
}

// TestColumnsTogether is P9, and the guarantee of chapter 9.
func TestColumnsTogether(t *testing.T) {
	for _, p := range columnPanels() {
		n, _ := impl.CountCurves(p)
		list, _ := impl.ColumnsOf(p)
		same(t, fmt.Sprint("number of columns of ", p), int64(len(list)), 2*p.W)
		for x, left := range list {
			right := fromRight(t, p, int64(x))
			loops, code := impl.LoopsOf(left.Pairing, right.Pairing)
			same(t, fmt.Sprint("all curves of ", p, " at ", x), told(left.Closed+right.Closed+loops, code), told(n, impl.OK))
		}
	}
}

// TestColumnsMirrored: what is known from the right is what is known from the left in the panel that is mirrored.
// Mirrors alone make nested pairings, with lines that do not cross.
func TestColumnsMirrored(t *testing.T) {
	others := 0
	for _, p := range columnPanels() {
		across, _ := impl.ColumnsOf(movedPanel(t, p, impl.SymAcross))
		right := allFromRight(t, p)
		slices.Reverse(across)
		same(t, fmt.Sprint("mirrored: ", p), right, across)
		list, _ := impl.ColumnsOf(p)
		for x, c := range append(list, right...) {
			nested := impl.IsNested(c.Pairing)
			if !nested {
				others++
			}
			if !slices.Contains(p.Breaks, impl.BreakNone) {
				same(t, fmt.Sprint("nested with mirrors: ", p, " at ", x), nested, true)
			}
		}
	}
	if others < 500 {
		t.Errorf("only %d pairings are not nested", others)
	}
}

// TestNextColumnWritten writes out what follows columns to which no panel leads, and to which Closed does not belong.
func TestNextColumnWritten(t *testing.T) {
	for _, c := range []struct {
		text string
		x    int64
		from impl.Column
		want impl.Column
	}{
		{"1x1:", 0, columnOf(5, 1, 0), columnOf(5, 1, 0)}, {"1x1:", 0, columnOf(1000, 1, 0), columnOf(1000, 1, 0)},
		{"2x1:|", 0, columnOf(7, 1, 0), columnOf(7, 1, 0)}, {"2x1:|", 1, columnOf(7, 1, 0), columnOf(8, 1, 0)},
		{"2x1:|", 1, columnOf(1000, 1, 0), columnOf(1001, 1, 0)}, {"2x1:|", 2, columnOf(999, 1, 0), columnOf(999, 1, 0)},
		{"1x2:+", 0, columnOf(0, 2, 3, 0, 1), columnOf(0, 1, 0, 3, 2)}, {"1x2:+", 0, columnOf(0, 3, 2, 1, 0), columnOf(0, 3, 2, 1, 0)},
		{"1x2:-", 0, columnOf(0, 2, 3, 0, 1), columnOf(0, 2, 3, 0, 1)}, {"1x2:-", 0, columnOf(3, 3, 2, 1, 0), columnOf(3, 3, 2, 1, 0)},
		{"1x2:|", 0, columnOf(0, 2, 3, 0, 1), columnOf(0, 3, 2, 1, 0)}, {"1x2:|", 0, columnOf(2, 3, 2, 1, 0), columnOf(3, 3, 2, 1, 0)},
		{"2x2:|--|", 1, columnOf(0, 2, 3, 0, 1), columnOf(1, 1, 0, 3, 2)}, {"2x2:|--|", 1, columnOf(1, 1, 0, 3, 2), columnOf(3, 1, 0, 3, 2)},
		{"2x2:|--+", 1, columnOf(0, 3, 2, 1, 0), columnOf(0, 1, 0, 3, 2)},
		{"2x2:|--|", 0, columnOf(0, 3, 2, 1, 0), columnOf(0, 3, 2, 1, 0)}, {"2x2:|--|", 2, columnOf(0, 2, 3, 0, 1), columnOf(0, 2, 3, 0, 1)},
		{"1x3:+|", 0, columnOf(0, 3, 4, 5, 0, 1, 2), columnOf(0, 2, 5, 0, 4, 3, 1)}, {"1x3:||", 0, columnOf(4, 5, 2, 1, 4, 3, 0), columnOf(6, 5, 2, 1, 4, 3, 0)},
	} {
		next, code := impl.NextColumn(fromText(t, c.text), c.x, c.from)
		sameColumn(t, fmt.Sprint("NextColumn of ", c.text, " at ", c.x, " behind ", c.from), next, code, c.want, impl.OK)
	}
}

// TestNextColumn holds what follows each pairing, or many of greater columns, against walking: in all panels of a few
// small sizes, and in others up to the greatest one.
func TestNextColumn(t *testing.T) {
	closed := map[int64]int{}
	panels := slices.Concat(allPanels(2, 1), allPanels(1, 2), allPanels(1, 3), allPanels(2, 2))
	for _, s := range [][2]int64{{1, 4}, {2, 3}, {3, 4}, {2, 5}, {1, 8}, {2, 8}, {8, 1}, {8, 8}} {
		panels = append(panels, mixedPanel(s[0], s[1]), smallCircles(s[0], s[1]), plain(s[0], s[1]))
	}
	for _, p := range panels {
		for x := range 2*p.W - 1 {
			for k, pairing := range somePairings(2 * p.H) {
				c := impl.Column{Pairing: pairing, Closed: int64(k * 331 % 1001)}
				want := nextByWords(p, x, c)
				next, code := impl.NextColumn(p, x, c)
				sameColumn(t, fmt.Sprint("NextColumn of ", p, " at ", x, " behind ", c), next, code, want, impl.OK)
				closed[next.Closed-c.Closed]++
			}
		}
	}
	for n := range int64(3) {
		if closed[n] < 100 {
			t.Errorf("%d curves are closed only %d times", n, closed[n])
		}
	}
}

// TestNextColumnEight: up to 8 curves are closed at once, also behind 1000 that are.
func TestNextColumnEight(t *testing.T) {
	p := plain(8, 8)
	for k, at := range innerByOrder(8, 8) {
		if at.X == 6 {
			p.Breaks[k] = impl.BreakUpright
		}
	}
	for _, closed := range []int64{0, 1, 992, 1000} {
		next, code := impl.NextColumn(p, 5, columnOf(closed, sideBySide(16)...))
		sameColumn(t, "eight circles", next, code, columnOf(closed+8, sideBySide(16)...), impl.OK)
		next, code = impl.NextColumn(p, 5, columnOf(closed, inEachOther(16)...))
		sameColumn(t, "four circles", next, code, columnOf(closed+4, sideBySide(16)...), impl.OK)
	}
}

// noColumns are columns with which NextColumn does not go on in panels of a height.
func noColumns(h int64) []impl.Column {
	list := []impl.Column{{}, {Closed: 5}, columnOf(0, numbers(2*h)...), columnOf(-1), columnOf(0, 0, 0)}
	for _, pairing := range nonPairings() {
		list = append(list, columnOf(0, pairing...), columnOf(1000, pairing...), columnOf(-1, pairing...))
	}
	for other := int64(1); other <= 8; other++ {
		if other != h {
			list = append(list, columnOf(0, sideBySide(2*other)...), columnOf(7, inEachOther(2*other)...))
		}
	}
	for _, closed := range append([]int64{1001, 1002, 2000, -1000, 1 << 32, 1 << 60}, edgeNumbers...) {
		if closed < 0 || closed > 1000 {
			list = append(list, columnOf(closed, sideBySide(2*h)...), columnOf(closed))
		}
	}
	return list
}

// TestNextColumnErrors: at each column, what is none is found last; the last column is found before it, and a column
// that there is not before both.
func TestNextColumnErrors(t *testing.T) {
	for _, p := range []impl.Panel{panelOf(1, 1), mixedPanel(2, 1), mixedPanel(1, 2), plain(3, 4), smallCircles(8, 3), mixedPanel(8, 8)} {
		last := 2*p.W - 1
		good := columnOf(3, sideBySide(2*p.H)...)
		for _, c := range append(noColumns(p.H), good) {
			want := map[int64]int64{last: impl.ErrState}
			for _, x := range numbersBeside(2 * p.W) {
				want[x] = impl.ErrRange
			}
			if !slices.Equal(c.Pairing, good.Pairing) || c.Closed != good.Closed {
				want[0], want[last/2], want[last-1] = impl.ErrFormat, impl.ErrFormat, impl.ErrFormat
			}
			for x, code := range want {
				next, got := impl.NextColumn(p, x, c)
				sameColumn(t, fmt.Sprintf("NextColumn of %v at %d behind %d and %d closed", p, x, len(c.Pairing), c.Closed), next, got, impl.Column{}, code)
			}
		}
	}
}

// TestColumnsRange: columns that there are not, on both sides, and the first and the last one, which there are.
func TestColumnsRange(t *testing.T) {
	eachSize(func(w, h int64) {
		p := mixedPanel(w, h)
		for _, x := range numbersBeside(2 * w) {
			c, code := impl.FromRight(p, x)
			sameColumn(t, fmt.Sprint("FromRight of ", p, " at ", x), c, code, impl.Column{}, impl.ErrRange)
			c, code = impl.NextColumn(p, x, columnOf(0, sideBySide(2*h)...))
			sameColumn(t, fmt.Sprint("NextColumn of ", p, " at ", x), c, code, impl.Column{}, impl.ErrRange)
		}
		c, code := impl.FromRight(p, 2*w-1)
		sameColumn(t, fmt.Sprint("the last column of ", p, " from the right"), c, code, columnOf(0, sideBySide(2*h)...), impl.OK)
		c, code = impl.FromRight(p, 0)
		same(t, fmt.Sprint("the column 0 of ", p, " from the right"), []any{len(c.Pairing), code}, []any{int(2 * h), int64(impl.OK)})
		c, code = impl.NextColumn(p, 2*w-1, columnOf(0, sideBySide(2*h)...))
		sameColumn(t, fmt.Sprint("NextColumn of ", p, " at the last column"), c, code, impl.Column{}, impl.ErrState)
	})
}

// TestColumnsInvalidPanels: a panel that is not valid is found before a column that there is not, before the last
// column, and before a column that is none; nothing is told with it.
func TestColumnsInvalidPanels(t *testing.T) {
	for _, p := range invalidPanels() {
		c, code := impl.FirstColumn(p)
		sameColumn(t, fmt.Sprint("FirstColumn of ", p), c, code, impl.Column{}, impl.ErrInvalid)
		list, code := impl.ColumnsOf(p)
		same(t, fmt.Sprint("ColumnsOf ", p), told(int64(len(list)), code), told(0, impl.ErrInvalid))
		same(t, fmt.Sprint("CountByColumns of ", p), told(impl.CountByColumns(p)), told(0, impl.ErrInvalid))
		for _, x := range append([]int64{2*p.W - 1, 2 * p.W}, edgeNumbers...) {
			c, code = impl.FromRight(p, x)
			sameColumn(t, fmt.Sprint("FromRight of ", p, " at ", x), c, code, impl.Column{}, impl.ErrInvalid)
			for _, from := range []impl.Column{{}, columnOf(0, 1, 0), columnOf(-1, 1, 0), columnOf(1001, 0, 1), columnOf(0, sideBySide(4)...), columnOf(0, sideBySide(16)...), columnOf(0, sideBySide(18)...)} {
				c, code = impl.NextColumn(p, x, from)
				sameColumn(t, fmt.Sprint("NextColumn of ", p, " at ", x, " behind ", from), c, code, impl.Column{}, impl.ErrInvalid)
			}
		}
	}
}

// allOfColumns tells what the functions of chapter 9 return for a panel.
func allOfColumns(p impl.Panel) []string {
	first, one := impl.FirstColumn(p)
	list, two := impl.ColumnsOf(p)
	n, three := impl.CountByColumns(p)
	out := []string{fmt.Sprint(first, one, list, two, n, three)}
	for _, x := range []int64{-1, 0, 1, 2, 2*p.W - 2, 2*p.W - 1, 16, math.MaxInt64} {
		c, one := impl.FromRight(p, x)
		next, two := impl.NextColumn(p, x, first)
		none, three := impl.NextColumn(p, x, columnOf(0, 0, 1))
		out = append(out, fmt.Sprint(c, one, next, two, none, three))
	}
	return out
}

// TestColumnsUnchanged is P1: no function of chapter 9 changes a panel, and all tell the same again.
func TestColumnsUnchanged(t *testing.T) {
	for _, p := range append(invalidPanels(), panelOf(1, 1), mixedPanel(2, 1), mixedPanel(3, 4), mixedPanel(8, 8), smallCircles(8, 8)) {
		unchanged(t, p, allOfColumns)
	}
}

// allOfPairing tells what the functions of chapter 9 return for a list.
func allOfPairing(list []int64) []string {
	out := []string{fmt.Sprint(impl.IsPairing(list), impl.IsNested(list), impl.PairingText(list))}
	for _, other := range [][]int64{nil, {1, 0}, {2, 3, 0, 1}, inEachOther(16), list} {
		n, one := impl.LoopsOf(list, other)
		m, two := impl.LoopsOf(other, list)
		out = append(out, fmt.Sprint(n, one, m, two))
	}
	for _, p := range []impl.Panel{panelOf(1, 1), mixedPanel(2, 2), smallCircles(2, 3), mixedPanel(8, 8), smallCircles(8, 8)} {
		for x := range 2 * p.W {
			c, code := impl.NextColumn(p, x, columnOf(3, list...))
			out = append(out, fmt.Sprint(c, code))
		}
	}
	return out
}

// TestPairingsUnchanged is P1: no function of chapter 9 changes a list, nor what lies behind it in memory, and all
// tell the same again, also for a copy.
func TestPairingsUnchanged(t *testing.T) {
	lists := slices.Concat(nonPairings(), allPairings(2), allPairings(4), allPairings(6), [][]int64{sideBySide(16), inEachOther(16), farAway(16)})
	for _, list := range lists {
		memory := append(slices.Clone(list), 7, 8, 9)
		before := slices.Clone(memory)
		q := memory[:len(list)]
		first := allOfPairing(q)
		name := fmt.Sprintf("%d elements %v", len(list), list[:min(len(list), 20)])
		same(t, "called again for "+name, allOfPairing(q), first)
		same(t, "memory of "+name, slices.Equal(memory, before), true)
		same(t, "called for a copy of "+name, allOfPairing(slices.Clone(list)), first)
	}
}

// TestColumnsNew is P1: no pairing of a result shares memory with an argument, with another pairing of the same
// result, or with another result; also where nothing changes from column to column.
func TestColumnsNew(t *testing.T) {
	for _, p := range []impl.Panel{panelOf(1, 1), panelOf(2, 1, impl.BreakLevel), smallCircles(2, 2), mixedPanel(3, 4), smallCircles(8, 8), mixedPanel(8, 8)} {
		want, wantRight := knownByWords(p, -1), knownByWords(p, 1)
		list, _ := impl.ColumnsOf(p)
		first, _ := impl.FirstColumn(p)
		right := fromRight(t, p, 2*p.W-1)
		for x, c := range list {
			sameColumn(t, fmt.Sprint("the column ", x, " after those before were spoilt"), c, impl.OK, want[x], impl.OK)
			spoil(c.Pairing)
		}
		sameColumn(t, "FirstColumn", first, impl.OK, want[0], impl.OK)
		spoil(first.Pairing)
		sameColumn(t, "the last column from the right", right, impl.OK, wantRight[2*p.W-1], impl.OK)
		spoil(right.Pairing)
		again, _ := impl.ColumnsOf(p)
		same(t, fmt.Sprint("ColumnsOf again of ", p), again, want)
		same(t, fmt.Sprint("from the right again: ", p), allFromRight(t, p), wantRight)
		for x, c := range want[1:] {
			from := columnOf(want[x].Closed, slices.Grow(slices.Clone(want[x].Pairing), 9)...)
			next := nextColumn(t, p, int64(x), from)
			other := nextColumn(t, p, int64(x), from)
			spoil(next.Pairing)
			sameColumn(t, "the argument of NextColumn", from, impl.OK, want[x], impl.OK)
			spoil(from.Pairing)
			sameColumn(t, "another result of NextColumn", other, impl.OK, c, impl.OK)
		}
	}
}
