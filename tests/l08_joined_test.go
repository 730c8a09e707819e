package tests

import (
	"fmt"
	"math"
	"math/rand"
	"slices"
	"sync"
	"testing"

	"loop.example/g00931/impl"
)

// joinedOf writes a Joined shortly, valid or not.
func joinedOf(parents []int64, log ...int64) impl.Joined {
	return impl.Joined{Parent: parents, Log: log}
}

// numbers are those from 0 to n - 1.
func numbers(n int64) []int64 {
	list := []int64{}
	for k := range n {
		list = append(list, k)
	}
	return list
}

// sameJoined holds two of them against each other, where a nil list is as an empty one.
func sameJoined(t *testing.T, name string, got, want impl.Joined) {
	t.Helper()
	if !slices.Equal(got.Parent, want.Parent) || !slices.Equal(got.Log, want.Log) {
		t.Errorf("%s: got %v, want %v", name, got, want)
	}
}

// validByWords reports whether a Joined is valid as chapter 8 words it.
func validByWords(j impl.Joined) bool {
	n := int64(len(j.Parent))
	if n < 1 || n > 256 {
		return false
	}
	for k, parent := range j.Parent {
		times := 0
		for _, logged := range j.Log {
			if logged == int64(k) {
				times++
			}
		}
		if parent < 0 || parent >= n || parent == int64(k) && times != 0 || parent != int64(k) && times != 1 {
			return false
		}
	}
	for i, k := range j.Log {
		if k < 0 || k >= n || j.Parent[k] == k || slices.Contains(j.Log[:i], j.Parent[k]) {
			return false
		}
	}
	return true
}

// groupByWords goes from an element to its Parent and so on.
func groupByWords(j impl.Joined, k int64) int64 {
	for j.Parent[k] != k {
		k = j.Parent[k]
	}
	return k
}

// joinByWords joins two groups as chapter 8 words it.
func joinByWords(j impl.Joined, a, b int64) impl.Joined {
	a, b = groupByWords(j, a), groupByWords(j, b)
	x := joinedOf(slices.Clone(j.Parent), slices.Clone(j.Log)...)
	if a != b {
		x.Parent[max(a, b)] = min(a, b)
		x.Log = append(x.Log, max(a, b))
	}
	return x
}

// undoByWords takes the last element of Log away.
func undoByWords(j impl.Joined) impl.Joined {
	last := len(j.Log) - 1
	x := joinedOf(slices.Clone(j.Parent), slices.Clone(j.Log[:last])...)
	x.Parent[j.Log[last]] = j.Log[last]
	return x
}

// groupsByWords collects the groups one after the other, from the least element that is in none yet.
func groupsByWords(j impl.Joined) [][]int64 {
	list := [][]int64{}
	done := map[int64]bool{}
	for k := range int64(len(j.Parent)) {
		if done[k] {
			continue
		}
		group := []int64{}
		for other := range int64(len(j.Parent)) {
			if groupByWords(j, other) == groupByWords(j, k) {
				group = append(group, other)
				done[other] = true
			}
		}
		list = append(list, group)
	}
	return list
}

// eachList calls f for all lists of up to length numbers, each from least to most. The list is changed afterwards.
func eachList(length int, least, most int64, f func([]int64)) {
	list := make([]int64, 0, length)
	var more func()
	more = func() {
		f(list)
		if len(list) == length {
			return
		}
		for n := least; n <= most; n++ {
			list = append(list, n)
			more()
			list = list[:len(list)-1]
		}
	}
	more()
}

// allJoined are all valid ones of 1 to 4 elements.
var allJoined = sync.OnceValue(func() []impl.Joined {
	list := []impl.Joined{}
	eachList(4, 0, 3, func(parents []int64) {
		n := int64(len(parents))
		eachList(3, 0, max(n, 1)-1, func(log []int64) {
			if j := joinedOf(slices.Clone(parents), slices.Clone(log)...); validByWords(j) {
				list = append(list, j)
			}
		})
	})
	return list
})

// chain is the Joined in which each element, but the first one, has the one before it as its Parent.
func chain(n int64) impl.Joined {
	j := joinedOf([]int64{0})
	for k := int64(1); k < n; k++ {
		j.Parent = append(j.Parent, k-1)
		j.Log = append([]int64{k}, j.Log...)
	}
	return j
}

// greatChain is the Joined in which each element, but the last one, has the one behind it as its Parent.
func greatChain(n int64) impl.Joined {
	j := joinedOf(nil)
	for k := range n {
		j.Parent = append(j.Parent, min(k+1, n-1))
		if k < n-1 {
			j.Log = append(j.Log, k)
		}
	}
	return j
}

// star is the Joined in which all elements have the same Parent.
func star(n, parent int64) impl.Joined {
	j := joinedOf(slices.Repeat([]int64{parent}, int(n)))
	for k := range n {
		if k != parent {
			j.Log = append(j.Log, k)
		}
	}
	return j
}

// mixedJoined is a valid Joined of n elements in which Parents are greater or lesser than their elements, as it
// comes; joins elements do not stand for a group.
func mixedJoined(random *rand.Rand, n, joins int) impl.Joined {
	j := joinedOf(numbers(int64(n)))
	order := random.Perm(n)
	for i, k := range order[:joins] {
		// Only elements that come later can be the Parent, so that none is before in Log. Near ones make long ways.
		behind := order[i+1 : min(n, i+2+random.Intn(n))]
		j.Parent[k] = int64(behind[random.Intn(len(behind))])
		j.Log = append(j.Log, int64(k))
	}
	return j
}

// someJoined are valid ones of many numbers of elements, up to the greatest one.
func someJoined() []impl.Joined {
	random := rand.New(rand.NewSource(8))
	list := []impl.Joined{joinedOf([]int64{0}), joinedOf(numbers(256)), chain(9), chain(256), greatChain(9), greatChain(256), star(256, 0), star(256, 255), star(256, 100)}
	for _, n := range []int{2, 5, 6, 7, 8, 12, 20, 64, 255, 256} {
		for _, joins := range []int{0, 1, n / 3, n / 2, n - 2, n - 1} {
			list = append(list, mixedJoined(random, n, joins))
		}
	}
	return list
}

// invalidJoined breaks each rule for a valid Joined, one after the other.
func invalidJoined() []impl.Joined {
	list := []impl.Joined{
		{}, joinedOf([]int64{}), joinedOf(nil, 0), joinedOf([]int64{}, 0), joinedOf(numbers(257)), joinedOf(numbers(1000)), star(257, 0), chain(257),
		// A Parent that is no index, with and without the element in Log.
		joinedOf([]int64{1}), joinedOf([]int64{-1}), joinedOf([]int64{0, 2}), joinedOf([]int64{0, -1}), joinedOf([]int64{0, 2}, 1), joinedOf([]int64{0, -1}, 1),
		joinedOf([]int64{1}, 0), joinedOf([]int64{math.MaxInt64}, 0), joinedOf([]int64{math.MinInt64}, 0), joinedOf([]int64{0, math.MaxInt64}),
		// In Log: no element, one twice, one that stands for a group, and one that is missing.
		joinedOf([]int64{0}, 1), joinedOf([]int64{0}, -1), joinedOf([]int64{0, 0}, 1, 2), joinedOf([]int64{0, 0}, -1, 1), joinedOf([]int64{0, 0}, math.MaxInt64),
		joinedOf([]int64{0, 0}, math.MinInt64, 1), joinedOf([]int64{0, 0}, 1, 1), joinedOf([]int64{0, 0, 0}, 1, 2, 1), joinedOf([]int64{0, 0, 0}, 2, 1, 2),
		joinedOf([]int64{0}, 0), joinedOf([]int64{0, 0}, 0), joinedOf([]int64{0, 0}, 0, 1), joinedOf([]int64{0, 0}, 1, 0), joinedOf([]int64{0, 1}, 1), joinedOf([]int64{0, 0, 2}, 1, 2),
		joinedOf([]int64{0, 0}), joinedOf([]int64{1, 1}), joinedOf([]int64{0, 0, 0}, 1), joinedOf([]int64{0, 0, 0}, 2), joinedOf([]int64{0, 0, 2}, 2),
		// A Parent that is before in Log, also where each one has another one as its Parent in a circle.
		joinedOf([]int64{0, 0, 1}, 1, 2), joinedOf([]int64{1, 2, 2}, 1, 0), joinedOf([]int64{0, 0, 1, 2}, 3, 1, 2), joinedOf([]int64{0, 0, 1, 2}, 2, 3, 1),
		joinedOf([]int64{1, 0}, 0, 1), joinedOf([]int64{1, 0}, 1, 0), joinedOf([]int64{1, 0}), joinedOf([]int64{1, 2, 0}, 0, 1, 2), joinedOf([]int64{0, 2, 1}, 1, 2), joinedOf([]int64{0, 2, 1}, 2, 1),
	}
	upwards := chain(256)
	slices.Reverse(upwards.Log)
	downwards := greatChain(256)
	slices.Reverse(downwards.Log)
	missing, more := chain(256), chain(256)
	missing.Log = missing.Log[1:]
	more.Log = append(more.Log, 0)
	long := joinedOf([]int64{0, 0}, slices.Repeat([]int64{1}, 100000)...)
	return append(list, upwards, downwards, missing, more, long)
}

// joined is a result that must come with OK and be valid.
func joined(t *testing.T, j impl.Joined, a, b int64) impl.Joined {
	t.Helper()
	x, code := impl.JoinGroups(j, a, b)
	if code != impl.OK || !impl.ValidJoined(x) {
		t.Fatalf("JoinGroups of %v with %d and %d: got %v %d", j, a, b, x, code)
	}
	return x
}

// TestJoinedExample is the example of chapter 8, and what arises from its pairs.
func TestJoinedExample(t *testing.T) {
	pairs, code := impl.PairsOf(panelOf(1, 1))
	same(t, "PairsOf", []any{pairs, code}, []any{[][]int64{{0, 1}, {0, 2}, {1, 3}, {2, 3}}, int64(impl.OK)})
	j, code := impl.JoinPanel(panelOf(1, 1))
	same(t, "JoinPanel", []any{j, code}, []any{joinedOf([]int64{0, 0, 0, 0}, 1, 2, 3), int64(impl.OK)})
}

func TestNewJoined(t *testing.T) {
	same(t, "MaxGrouped", int64(impl.MaxGrouped), int64(256))
	for n := int64(1); n <= 256; n++ {
		j, code := impl.NewJoined(n)
		same(t, "code of NewJoined", code, int64(impl.OK))
		sameJoined(t, fmt.Sprint("NewJoined of ", n), j, joinedOf(numbers(n)))
		same(t, fmt.Sprint("ValidJoined of ", n), impl.ValidJoined(j), true)
		same(t, fmt.Sprint("groups of ", n), told(impl.CountGroups(j)), told(n, impl.OK))
	}
	for _, n := range append([]int64{257, 512, -256, 1 << 32, 1<<32 + 1, 1 << 60}, edgeNumbers...) {
		if n >= 1 && n <= 256 {
			continue
		}
		j, code := impl.NewJoined(n)
		same(t, fmt.Sprint("code of NewJoined of ", n), code, int64(impl.ErrRange))
		sameJoined(t, fmt.Sprint("NewJoined of ", n), j, impl.Joined{})
	}
}

// TestValidJoinedWritten writes valid ones out: with a Parent that is greater or lesser, and with Parents that come
// later in Log. Nil and empty lists are as one.
func TestValidJoinedWritten(t *testing.T) {
	for _, j := range []impl.Joined{
		{Parent: []int64{0}}, {Parent: []int64{0}, Log: []int64{}}, joinedOf([]int64{0, 1, 2}),
		joinedOf([]int64{0, 0}, 1), joinedOf([]int64{1, 1}, 0), joinedOf([]int64{0, 0, 0}, 1, 2), joinedOf([]int64{0, 0, 0}, 2, 1),
		joinedOf([]int64{0, 0, 1}, 2, 1), joinedOf([]int64{1, 2, 2}, 0, 1), joinedOf([]int64{2, 0, 2}, 1, 0), joinedOf([]int64{1, 1, 0}, 2, 0),
		joinedOf([]int64{1, 1, 3, 3}, 0, 2), joinedOf([]int64{1, 1, 3, 3}, 2, 0), joinedOf([]int64{0, 0, 1, 2}, 3, 2, 1),
		star(256, 0), star(256, 255), star(256, 77), chain(256), greatChain(256), joinedOf(numbers(256)),
	} {
		same(t, fmt.Sprint("ValidJoined of ", j), impl.ValidJoined(j), true)
	}
	for _, j := range invalidJoined() {
		same(t, fmt.Sprint("ValidJoined of ", j), impl.ValidJoined(j), false)
		same(t, fmt.Sprint("by words: ", j), validByWords(j), false)
	}
}

// TestValidJoinedAll holds all of up to three elements, with all short logs, and all of four elements whose Parents
// are indices, against the words of chapter 8.
func TestValidJoinedAll(t *testing.T) {
	valid := 0
	check := func(j impl.Joined) {
		want := validByWords(j)
		if impl.ValidJoined(j) != want {
			t.Errorf("ValidJoined of %v: want %v", j, want)
		}
		if want {
			valid++
		}
	}
	eachList(3, -1, 3, func(parents []int64) {
		eachList(3, -1, 3, func(log []int64) { check(joinedOf(parents, log...)) })
	})
	eachList(4, 0, 3, func(parents []int64) {
		if len(parents) == 4 {
			eachList(4, 0, 3, func(log []int64) { check(joinedOf(parents, log...)) })
		}
	})
	same(t, "valid ones", valid, len(allJoined()))
	for _, j := range someJoined() {
		same(t, fmt.Sprint("ValidJoined of ", j), []bool{impl.ValidJoined(j), validByWords(j)}, []bool{true, true})
	}
}

// TestValidJoinedChanged changes one number of valid ones of many elements.
func TestValidJoinedChanged(t *testing.T) {
	random := rand.New(rand.NewSource(80))
	valid, others := 0, 0
	for _, j := range someJoined() {
		n := len(j.Parent)
		for range 60 {
			x := joinedOf(slices.Clone(j.Parent), slices.Clone(j.Log)...)
			list := x.Parent
			if len(x.Log) > 0 && random.Intn(2) == 0 {
				list = x.Log
			}
			list[random.Intn(len(list))] = int64(random.Intn(n+2)) - 1
			want := validByWords(x)
			if impl.ValidJoined(x) != want {
				t.Errorf("ValidJoined of %v: want %v", x, want)
			}
			if want {
				valid++
			} else {
				others++
			}
		}
	}
	if valid < 200 || others < 200 {
		t.Errorf("%d changed ones are valid, %d are not", valid, others)
	}
}

// TestSameJoined compares lists of equal and of different lengths, nil and empty ones, and those that are not valid.
func TestSameJoined(t *testing.T) {
	list := []impl.Joined{
		{}, joinedOf([]int64{0}), joinedOf([]int64{0, 1}), joinedOf([]int64{0, 0}, 1), joinedOf([]int64{1, 1}, 0), joinedOf([]int64{0, 0}),
		joinedOf([]int64{0, 0, 0}, 1, 2), joinedOf([]int64{0, 0, 0}, 2, 1), joinedOf([]int64{0, 0, 1}, 2, 1), joinedOf([]int64{0, 0, 0}, 1), joinedOf(nil, 1),
		joinedOf(nil, 1, 2), joinedOf([]int64{1, 2}), joinedOf([]int64{0}, 1), joinedOf([]int64{-1}), joinedOf([]int64{math.MaxInt64}), chain(256), greatChain(256), chain(257),
	}
	for i, a := range list {
		for k, b := range list {
			b = joinedOf(slices.Clone(b.Parent), slices.Clone(b.Log)...)
			same(t, fmt.Sprint("SameJoined of ", a, " and ", b), impl.SameJoined(a, b), i == k)
		}
	}
	empty := impl.Joined{Parent: []int64{}, Log: []int64{}}
	for _, b := range []impl.Joined{{}, empty, {Parent: []int64{}}, {Log: []int64{}}} {
		same(t, "SameJoined of empty lists", []bool{impl.SameJoined(empty, b), impl.SameJoined(b, impl.Joined{})}, []bool{true, true})
	}
	alone := impl.Joined{Parent: []int64{0}, Log: []int64{}}
	same(t, "SameJoined of an empty Log and none", impl.SameJoined(alone, joinedOf([]int64{0})), true)
	same(t, "SameJoined of no Log and an empty one", impl.SameJoined(joinedOf([]int64{0}), alone), true)
}

// TestStandingWritten writes out which element stands for a group: not always its least one.
func TestStandingWritten(t *testing.T) {
	for _, c := range []struct {
		j      impl.Joined
		stands []int64
		groups [][]int64
	}{
		{joinedOf([]int64{0}), []int64{0}, [][]int64{{0}}},
		{joinedOf([]int64{0, 1, 0}, 2), []int64{0, 1, 0}, [][]int64{{0, 2}, {1}}},
		{joinedOf([]int64{1, 1}, 0), []int64{1, 1}, [][]int64{{0, 1}}},
		{joinedOf([]int64{2, 1, 2}, 0), []int64{2, 1, 2}, [][]int64{{0, 2}, {1}}},
		{joinedOf([]int64{3, 1, 1, 3}, 0, 2), []int64{3, 1, 1, 3}, [][]int64{{0, 3}, {1, 2}}},
		{joinedOf([]int64{1, 4, 2, 2, 4}, 0, 1, 3), []int64{4, 4, 2, 2, 4}, [][]int64{{0, 1, 4}, {2, 3}}},
		{joinedOf([]int64{0, 0, 1, 2, 3, 4}, 5, 4, 3, 2, 1), []int64{0, 0, 0, 0, 0, 0}, [][]int64{{0, 1, 2, 3, 4, 5}}},
		{joinedOf([]int64{5, 0, 1, 2, 4, 4}, 3, 2, 1, 0, 5), []int64{4, 4, 4, 4, 4, 4}, [][]int64{{0, 1, 2, 3, 4, 5}}},
	} {
		for k, want := range c.stands {
			same(t, fmt.Sprint("GroupOf of ", k, " in ", c.j), told(impl.GroupOf(c.j, int64(k))), told(want, impl.OK))
		}
		groups, code := impl.GroupsOf(c.j)
		same(t, fmt.Sprint("GroupsOf of ", c.j), []any{groups, code}, []any{c.groups, int64(impl.OK)})
		same(t, fmt.Sprint("CountGroups of ", c.j), told(impl.CountGroups(c.j)), told(int64(len(c.groups)), impl.OK))
	}
}

// TestGroups holds the groups of all of up to four elements, and of greater ones, against the words of chapter 8.
func TestGroups(t *testing.T) {
	for _, j := range append(someJoined(), allJoined()...) {
		for k := range int64(len(j.Parent)) {
			same(t, fmt.Sprint("GroupOf of ", k, " in ", j), told(impl.GroupOf(j, k)), told(groupByWords(j, k), impl.OK))
		}
		want := groupsByWords(j)
		groups, code := impl.GroupsOf(j)
		same(t, fmt.Sprint("GroupsOf of ", j), []any{groups, code}, []any{want, int64(impl.OK)})
		same(t, fmt.Sprint("CountGroups of ", j), told(impl.CountGroups(j)), told(int64(len(want)), impl.OK))
	}
}

// TestJoinGroupsWritten writes out what gets another Parent: of the two elements that stand for the groups the
// greater one, whichever elements are told, and in whichever order.
func TestJoinGroupsWritten(t *testing.T) {
	for _, c := range []struct {
		j    impl.Joined
		a, b int64
		want impl.Joined
	}{
		{joinedOf([]int64{0, 1, 2}), 2, 0, joinedOf([]int64{0, 1, 0}, 2)},
		{joinedOf([]int64{0, 1, 2}), 0, 2, joinedOf([]int64{0, 1, 0}, 2)},
		{joinedOf([]int64{0, 1, 2}), 1, 2, joinedOf([]int64{0, 1, 1}, 2)},
		{joinedOf([]int64{0, 1, 1}, 2), 2, 0, joinedOf([]int64{0, 0, 1}, 2, 1)},
		{joinedOf([]int64{0, 1, 1}, 2), 0, 1, joinedOf([]int64{0, 0, 1}, 2, 1)},
		{joinedOf([]int64{2, 1, 2}, 0), 0, 1, joinedOf([]int64{2, 1, 1}, 0, 2)},
		{joinedOf([]int64{2, 1, 2}, 0), 1, 2, joinedOf([]int64{2, 1, 1}, 0, 2)},
		{joinedOf([]int64{3, 1, 1, 3}, 0, 2), 0, 2, joinedOf([]int64{3, 1, 1, 1}, 0, 2, 3)},
		{joinedOf([]int64{0, 2, 2, 0}, 1, 3), 3, 1, joinedOf([]int64{0, 2, 0, 0}, 1, 3, 2)},
		{joinedOf([]int64{0, 0, 1, 2, 4}, 3, 2, 1), 4, 3, joinedOf([]int64{0, 0, 1, 2, 0}, 3, 2, 1, 4)},
		{joinedOf([]int64{1, 2, 3, 3, 4}, 0, 1, 2), 0, 4, joinedOf([]int64{1, 2, 3, 3, 3}, 0, 1, 2, 4)},
		// Groups that are joined to themselves.
		{joinedOf([]int64{0}), 0, 0, joinedOf([]int64{0})},
		{joinedOf([]int64{0, 1, 0}, 2), 1, 1, joinedOf([]int64{0, 1, 0}, 2)},
		{joinedOf([]int64{0, 1, 0}, 2), 0, 2, joinedOf([]int64{0, 1, 0}, 2)},
		{joinedOf([]int64{0, 0, 1, 2}, 3, 2, 1), 3, 3, joinedOf([]int64{0, 0, 1, 2}, 3, 2, 1)},
		{joinedOf([]int64{0, 0, 1, 2}, 3, 2, 1), 3, 0, joinedOf([]int64{0, 0, 1, 2}, 3, 2, 1)},
		{joinedOf([]int64{1, 1, 1}, 0, 2), 2, 0, joinedOf([]int64{1, 1, 1}, 0, 2)},
	} {
		x, code := impl.JoinGroups(c.j, c.a, c.b)
		name := fmt.Sprint("JoinGroups of ", c.j, " with ", c.a, " and ", c.b)
		same(t, name, code, int64(impl.OK))
		sameJoined(t, name, x, c.want)
	}
}

// joinsAndUndoes checks that two groups are joined as chapter 8 words it, and that this is undone exactly: the first
// half of P8.
func joinsAndUndoes(t *testing.T, j impl.Joined, a, b int64) {
	t.Helper()
	name := fmt.Sprint("JoinGroups of ", j, " with ", a, " and ", b)
	x := joined(t, j, a, b)
	sameJoined(t, name, x, joinByWords(j, a, b))
	before, _ := impl.CountGroups(j)
	if groupByWords(j, a) == groupByWords(j, b) {
		sameJoined(t, name, x, j)
		return
	}
	same(t, "groups after "+name, told(impl.CountGroups(x)), told(before-1, impl.OK))
	one, _ := impl.GroupOf(x, a)
	two, _ := impl.GroupOf(x, b)
	same(t, "group of both after "+name, []int64{one, two}, slices.Repeat([]int64{min(groupByWords(j, a), groupByWords(j, b))}, 2))
	y, code := impl.UndoJoin(x)
	same(t, "undoing "+name, []any{impl.SameJoined(y, j), code}, []any{true, int64(impl.OK)})
	sameJoined(t, "undoing "+name, y, j)
}

// TestJoinGroups joins each two elements of all of up to four elements, and many elements of greater ones.
func TestJoinGroups(t *testing.T) {
	for _, j := range allJoined() {
		for a := range int64(len(j.Parent)) {
			for b := range int64(len(j.Parent)) {
				joinsAndUndoes(t, j, a, b)
			}
		}
	}
	random := rand.New(rand.NewSource(88))
	for _, j := range someJoined() {
		n := len(j.Parent)
		for range 40 {
			joinsAndUndoes(t, j, int64(random.Intn(n)), int64(random.Intn(n)))
		}
		joinsAndUndoes(t, j, int64(n)-1, int64(n)-1)
		joinsAndUndoes(t, j, 0, int64(n)-1)
	}
}

// TestUndoJoin undoes the last join of each valid one, until none is left.
func TestUndoJoin(t *testing.T) {
	for _, j := range append(someJoined(), allJoined()...) {
		for len(j.Log) > 0 {
			x, code := impl.UndoJoin(j)
			same(t, fmt.Sprint("UndoJoin of ", j), code, int64(impl.OK))
			sameJoined(t, fmt.Sprint("UndoJoin of ", j), x, undoByWords(j))
			same(t, fmt.Sprint("ValidJoined behind ", j), impl.ValidJoined(x), true)
			j = x
		}
		sameJoined(t, "all undone", j, joinedOf(numbers(int64(len(j.Parent)))))
		x, code := impl.UndoJoin(j)
		same(t, "UndoJoin of elements that are alone", code, int64(impl.ErrState))
		sameJoined(t, "UndoJoin of elements that are alone", x, impl.Joined{})
	}
	x, code := impl.UndoJoin(joinedOf([]int64{1, 2, 2}, 0, 1))
	same(t, "code of UndoJoin", code, int64(impl.OK))
	sameJoined(t, "UndoJoin", x, joinedOf([]int64{1, 1, 2}, 0))
}

// TestManyJoins is the first half of P8 for many joins: all are undone in turn, to what there was before each one.
func TestManyJoins(t *testing.T) {
	random := rand.New(rand.NewSource(888))
	for _, n := range []int64{1, 2, 3, 10, 100, 256} {
		j, _ := impl.NewJoined(n)
		before := []impl.Joined{}
		for joins := 0; joins < 3*int(n); joins++ {
			a, b := int64(random.Intn(int(n))), int64(random.Intn(int(n)))
			x := joined(t, j, a, b)
			sameJoined(t, fmt.Sprint("JoinGroups of ", j, " with ", a, " and ", b), x, joinByWords(j, a, b))
			if len(x.Log) > len(j.Log) {
				before = append(before, j)
			}
			j = x
		}
		same(t, fmt.Sprint("groups of ", n), told(impl.CountGroups(j)), told(n-int64(len(before)), impl.OK))
		for _, want := range slices.Backward(before) {
			j, _ = impl.UndoJoin(j)
			sameJoined(t, "UndoJoin", j, want)
		}
	}
}

// pairsByWords finds the pairs at each place of a panel as chapter 8 words it.
func pairsByWords(p impl.Panel) [][]int64 {
	number := segmentNumbers(p.W, p.H)
	inner := innerByOrder(p.W, p.H)
	list := [][]int64{}
	for _, at := range pointsOf(p.W, p.H) {
		beside := segmentsBeside(p.W, p.H, at)
		if onEdge(p.W, p.H, at) {
			list = append(list, beside)
			continue
		}
		left, right, up, down := at.X-1, at.X+1, at.Y-1, at.Y+1
		ul, ur := number[between(at, pt(left, up))], number[between(at, pt(right, up))]
		ll, lr := number[between(at, pt(left, down))], number[between(at, pt(right, down))]
		switch p.Breaks[slices.Index(inner, at)] {
		case impl.BreakNone:
			list = append(list, []int64{ul, lr}, []int64{ur, ll})
		case impl.BreakUpright:
			list = append(list, []int64{ul, ll}, []int64{ur, lr})
		case impl.BreakLevel:
			list = append(list, []int64{ul, ur}, []int64{ll, lr})
		}
	}
	for _, pair := range list {
		slices.Sort(pair)
	}
	slices.SortFunc(list, func(a, b []int64) int { return int(1000*(a[0]-b[0]) + a[1] - b[1]) })
	return list
}

// TestPairsWritten writes the pairs of panels with one inner point out, for each kind of break.
func TestPairsWritten(t *testing.T) {
	for text, want := range map[string][][]int64{
		"1x1:":  {{0, 1}, {0, 2}, {1, 3}, {2, 3}},
		"2x1:+": {{0, 1}, {0, 2}, {1, 3}, {2, 5}, {3, 4}, {4, 6}, {5, 7}, {6, 7}},
		"2x1:|": {{0, 1}, {0, 2}, {1, 3}, {2, 3}, {4, 5}, {4, 6}, {5, 7}, {6, 7}},
		"2x1:-": {{0, 1}, {0, 2}, {1, 3}, {2, 4}, {3, 5}, {4, 6}, {5, 7}, {6, 7}},
		"1x2:+": {{0, 1}, {0, 4}, {1, 6}, {2, 3}, {2, 5}, {3, 7}, {4, 5}, {6, 7}},
		"1x2:|": {{0, 1}, {0, 4}, {1, 2}, {2, 3}, {3, 7}, {4, 5}, {5, 6}, {6, 7}},
		"1x2:-": {{0, 1}, {0, 4}, {1, 5}, {2, 3}, {2, 6}, {3, 7}, {4, 5}, {6, 7}},
	} {
		pairs, code := impl.PairsOf(fromText(t, text))
		same(t, "PairsOf of "+text, []any{pairs, code}, []any{want, int64(impl.OK)})
	}
}

// TestPairs holds the pairs of panels of all sizes against the words of chapter 8: they are in order, and each
// segment is in two of them, one for each of its ends.
func TestPairs(t *testing.T) {
	for _, p := range tracePanels() {
		pairs, code := impl.PairsOf(p)
		same(t, fmt.Sprint("PairsOf of ", p), []any{pairs, code}, []any{pairsByWords(p), int64(impl.OK)})
		times := map[int64]int{}
		for k, pair := range pairs {
			if len(pair) != 2 || pair[0] >= pair[1] || k > 0 && slices.Compare(pairs[k-1], pair) >= 0 {
				t.Errorf("the pair %d of %v is %v", k, p, pair)
			}
			times[pair[0]]++
			times[pair[1]]++
		}
		for segment := range 4 * p.W * p.H {
			if times[segment] != 2 {
				t.Errorf("segment %d of %v is in %d pairs", segment, p, times[segment])
			}
		}
	}
}

// TestPairsWalked: the segments of each pair, and no others, come one after the other on the way of a walker.
func TestPairsWalked(t *testing.T) {
	for _, p := range walkPanels() {
		pairs, _ := impl.PairsOf(p)
		want := map[[2]int64]bool{}
		all, _ := impl.AllWalkers(p)
		for _, w := range all {
			a, _ := impl.SegmentOf(p, w)
			b, _ := impl.SegmentOf(p, stepped(t, p, w))
			want[[2]int64{min(a, b), max(a, b)}] = true
		}
		same(t, fmt.Sprint("pairs of ", p), len(pairs), len(want))
		for _, pair := range pairs {
			if !want[[2]int64{pair[0], pair[1]}] {
				t.Errorf("no walker of %v comes from one to the other of %v", p, pair)
			}
		}
	}
}

// TestJoinPanelWritten writes some out: the Parents are those that stood for groups when these were joined.
func TestJoinPanelWritten(t *testing.T) {
	for text, want := range map[string]impl.Joined{
		"1x1:":  joinedOf([]int64{0, 0, 0, 0}, 1, 2, 3),
		"2x1:+": joinedOf([]int64{0, 0, 0, 0, 0, 0, 0, 0}, 1, 2, 3, 5, 4, 6, 7),
		"2x1:|": joinedOf([]int64{0, 0, 0, 0, 4, 4, 4, 4}, 1, 2, 3, 5, 6, 7),
		"2x1:-": joinedOf([]int64{0, 0, 0, 0, 0, 0, 0, 0}, 1, 2, 3, 4, 5, 6, 7),
		"1x2:+": joinedOf([]int64{0, 0, 0, 2, 0, 2, 0, 2}, 1, 4, 6, 3, 5, 7, 2),
		"1x2:|": joinedOf([]int64{0, 0, 0, 0, 0, 0, 0, 0}, 1, 4, 2, 3, 7, 5, 6),
		"1x2:-": joinedOf([]int64{0, 0, 2, 2, 0, 0, 2, 2}, 1, 4, 5, 3, 6, 7),
	} {
		j, code := impl.JoinPanel(fromText(t, text))
		same(t, "JoinPanel of "+text, []any{j, code}, []any{want, int64(impl.OK)})
	}
}

// TestJoinPanel holds panels of all sizes against pairs that are joined one after the other. The second half of P8:
// the groups are the curves; and all joins are undone, down to segments that are alone.
func TestJoinPanel(t *testing.T) {
	deep := 0
	for _, p := range tracePanels() {
		want := joinedOf(numbers(4 * p.W * p.H))
		for _, pair := range pairsByWords(p) {
			want = joinByWords(want, pair[0], pair[1])
		}
		j, code := impl.JoinPanel(p)
		same(t, fmt.Sprint("code of JoinPanel of ", p), code, int64(impl.OK))
		sameJoined(t, fmt.Sprint("JoinPanel of ", p), j, want)
		same(t, fmt.Sprint("ValidJoined of JoinPanel of ", p), impl.ValidJoined(j), true)
		if slices.ContainsFunc(j.Log, func(k int64) bool { return j.Parent[j.Parent[k]] != j.Parent[k] }) {
			deep++
		}
		curves, of := curvesByWords(p)
		byCurve := make([][]int64, len(curves))
		for segment, curve := range of {
			byCurve[curve] = append(byCurve[curve], int64(segment))
		}
		groups, code := impl.GroupsOf(j)
		same(t, fmt.Sprint("groups of ", p), []any{groups, code}, []any{byCurve, int64(impl.OK)})
		same(t, fmt.Sprint("number of groups of ", p), told(impl.CountGroups(j)), told(int64(len(curves)), impl.OK))
		n, code := impl.CountCurves(p)
		same(t, fmt.Sprint("number of curves of ", p), told(n, code), told(int64(len(curves)), impl.OK))
		for len(j.Log) > 0 {
			j, _ = impl.UndoJoin(j)
		}
		sameJoined(t, fmt.Sprint("undone for ", p), j, joinedOf(numbers(4*p.W*p.H)))
	}
	if deep < 100 {
		t.Errorf("only in %d panels one has to go more than one step", deep)
	}
}

// TestJoinPanelGreatest: the greatest panel has as many segments as there can be elements.
func TestJoinPanelGreatest(t *testing.T) {
	for _, c := range []struct {
		p      impl.Panel
		curves int64
	}{{plain(8, 8), 8}, {smallCircles(8, 8), 64}, {plain(8, 7), 1}} {
		j, code := impl.JoinPanel(c.p)
		same(t, "elements", told(int64(len(j.Parent)), code), told(4*c.p.W*c.p.H, impl.OK))
		same(t, "groups", told(impl.CountGroups(j)), told(c.curves, impl.OK))
		pairs, code := impl.PairsOf(c.p)
		same(t, "pairs", told(int64(len(pairs)), code), told(4*c.p.W*c.p.H, impl.OK))
	}
}

// TestJoinedInvalid: a Joined that is not valid is found before all other errors, and nothing is told with it.
func TestJoinedInvalid(t *testing.T) {
	alone := 0
	for _, j := range invalidJoined() {
		name := fmt.Sprintf(" of %d elements %v with %d in Log", len(j.Parent), j.Parent[:min(len(j.Parent), 9)], len(j.Log))
		x, code := impl.UndoJoin(j)
		same(t, "UndoJoin"+name, code, int64(impl.ErrInvalid))
		sameJoined(t, "UndoJoin"+name, x, impl.Joined{})
		if len(j.Log) == 0 {
			alone++
		}
		same(t, "CountGroups"+name, told(impl.CountGroups(j)), told(0, impl.ErrInvalid))
		groups, code := impl.GroupsOf(j)
		same(t, "GroupsOf"+name, told(int64(len(groups)), code), told(0, impl.ErrInvalid))
		for _, k := range []int64{0, 1, -1, 2, 256, 257, math.MinInt64, math.MaxInt64} {
			same(t, fmt.Sprint("GroupOf of ", k, name), told(impl.GroupOf(j, k)), told(0, impl.ErrInvalid))
			for _, other := range []int64{0, 1, k} {
				x, code := impl.JoinGroups(j, k, other)
				same(t, fmt.Sprint("JoinGroups with ", k, " and ", other, name), code, int64(impl.ErrInvalid))
				sameJoined(t, fmt.Sprint("JoinGroups with ", k, " and ", other, name), x, impl.Joined{})
			}
		}
	}
	if alone < 5 {
		t.Errorf("only %d of them have an empty Log", alone)
	}
}

// TestJoinedRange: elements that there are not, one of them or both, also where nothing would be joined.
func TestJoinedRange(t *testing.T) {
	for _, j := range []impl.Joined{joinedOf([]int64{0}), joinedOf([]int64{0, 1, 0}, 2), joinedOf([]int64{1, 1}, 0), chain(256), greatChain(255), joinedOf(numbers(256))} {
		n := int64(len(j.Parent))
		for _, k := range numbersBeside(n) {
			same(t, fmt.Sprint("GroupOf of ", k, " in ", j), told(impl.GroupOf(j, k)), told(0, impl.ErrRange))
			for _, other := range []int64{0, n - 1, k, -1, n} {
				for _, pair := range [][2]int64{{k, other}, {other, k}} {
					x, code := impl.JoinGroups(j, pair[0], pair[1])
					same(t, fmt.Sprint("JoinGroups of ", j, " with ", pair), code, int64(impl.ErrRange))
					sameJoined(t, fmt.Sprint("JoinGroups of ", j, " with ", pair), x, impl.Joined{})
				}
			}
		}
	}
}

// TestPairsInvalidPanels: ErrInvalid, and nothing with it.
func TestPairsInvalidPanels(t *testing.T) {
	for _, p := range invalidPanels() {
		pairs, code := impl.PairsOf(p)
		same(t, fmt.Sprint("PairsOf of ", p), told(int64(len(pairs)), code), told(0, impl.ErrInvalid))
		j, code := impl.JoinPanel(p)
		same(t, fmt.Sprint("JoinPanel of ", p), code, int64(impl.ErrInvalid))
		sameJoined(t, fmt.Sprint("JoinPanel of ", p), j, impl.Joined{})
	}
}

// allOfJoined tells what the functions of chapter 8 return for a Joined and many other arguments.
func allOfJoined(j impl.Joined) []string {
	n, one := impl.CountGroups(j)
	groups, two := impl.GroupsOf(j)
	undone, three := impl.UndoJoin(j)
	out := []string{fmt.Sprint(impl.ValidJoined(j), n, one, groups, two, undone, three)}
	for _, other := range []impl.Joined{{}, j, chain(4), joinedOf([]int64{0, 1, 0}, 2)} {
		out = append(out, fmt.Sprint(impl.SameJoined(j, other), impl.SameJoined(other, j)))
	}
	for _, a := range []int64{-1, 0, 1, 3, int64(len(j.Parent)) - 1, 255, math.MaxInt64} {
		k, code := impl.GroupOf(j, a)
		out = append(out, fmt.Sprint(k, code))
		for _, b := range []int64{-1, 0, 2, int64(len(j.Parent)) - 1, 255} {
			x, code := impl.JoinGroups(j, a, b)
			out = append(out, fmt.Sprint(x, code))
		}
	}
	return out
}

// TestJoinedUnchanged is P1: no function of chapter 8 changes a Joined, nor what lies behind its lists in memory,
// and all tell the same again, also for a copy.
func TestJoinedUnchanged(t *testing.T) {
	for _, j := range slices.Concat(someJoined(), invalidJoined(), allJoined()[:200]) {
		if len(j.Log) > 1000 {
			continue
		}
		parents := append(slices.Clone(j.Parent), 7, 8, 9)
		log := append(slices.Clone(j.Log), 7, 8, 9)
		parentsBefore, logBefore := slices.Clone(parents), slices.Clone(log)
		x := impl.Joined{Parent: parents[:len(j.Parent)], Log: log[:len(j.Log)]}
		first := allOfJoined(x)
		same(t, fmt.Sprint("called again for ", j), allOfJoined(x), first)
		same(t, fmt.Sprint("memory of ", j), [][]int64{parents, log}, [][]int64{parentsBefore, logBefore})
		same(t, fmt.Sprint("called for a copy of ", j), allOfJoined(joinedOf(slices.Clone(j.Parent), slices.Clone(j.Log)...)), first)
	}
}

// TestJoinedNew is P1: no list of a result shares memory with an argument, with another list of the same result, or
// with another result; also where nothing is joined.
func TestJoinedNew(t *testing.T) {
	for _, j := range []impl.Joined{joinedOf([]int64{0, 1}), joinedOf([]int64{0, 1, 0}, 2), joinedOf([]int64{2, 1, 2, 2}, 0, 3), chain(256), greatChain(256), joinedOf(numbers(256))} {
		j = joinedOf(slices.Grow(slices.Clone(j.Parent), 9), slices.Grow(slices.Clone(j.Log), 9)...)
		last := int64(len(j.Parent)) - 1
		want := allOfJoined(j)
		for _, b := range []int64{0, 1, last} {
			apart(t, fmt.Sprint("JoinGroups of ", j, " with ", b), joined(t, j, last, b), joinByWords(j, last, b))
		}
		if len(j.Log) > 0 {
			x, _ := impl.UndoJoin(j)
			apart(t, fmt.Sprint("UndoJoin of ", j), x, undoByWords(j))
		}
		groups, _ := impl.GroupsOf(j)
		for k, group := range groupsByWords(j) {
			same(t, fmt.Sprint("group ", k, " after those before were spoilt"), groups[k], group)
			spoil(groups[k])
		}
		same(t, fmt.Sprint("told again of ", j), allOfJoined(j), want)
	}
	a, _ := impl.NewJoined(5)
	b, _ := impl.NewJoined(5)
	apart(t, "NewJoined", a, joinedOf(numbers(5)))
	apart(t, "another NewJoined", b, joinedOf(numbers(5)))
}

// apart spoils the lists of a result one after the other; neither has anything to do with the other one.
func apart(t *testing.T, name string, j, want impl.Joined) {
	t.Helper()
	spoil(j.Parent)
	if !slices.Equal(j.Log, want.Log) {
		t.Errorf("Log of %s: got %v, want %v", name, j.Log, want.Log)
	}
	copy(j.Parent, want.Parent)
	spoil(j.Log)
	sameJoined(t, name, joinedOf(j.Parent), joinedOf(want.Parent))
}

// allOfPairs tells what the functions of chapter 8 return for a panel.
func allOfPairs(p impl.Panel) []string {
	pairs, one := impl.PairsOf(p)
	j, two := impl.JoinPanel(p)
	return []string{fmt.Sprint(pairs, one, j, two)}
}

// TestPairsUnchanged is P1: no function of chapter 8 changes a panel, and all tell the same again.
func TestPairsUnchanged(t *testing.T) {
	for _, p := range append(invalidPanels(), panelOf(1, 1), mixedPanel(2, 1), mixedPanel(3, 4), mixedPanel(8, 8), smallCircles(8, 8)) {
		unchanged(t, p, allOfPairs)
	}
}

// TestPairsNew is P1: no pair shares memory with another one, and no result with another one.
func TestPairsNew(t *testing.T) {
	for _, p := range []impl.Panel{panelOf(1, 1), mixedPanel(3, 4), mixedPanel(8, 8)} {
		want := pairsByWords(p)
		pairs, _ := impl.PairsOf(p)
		for k, pair := range pairs {
			same(t, fmt.Sprint("pair ", k, " after those before were spoilt"), pair, want[k])
			spoil(pair)
		}
		again, _ := impl.PairsOf(p)
		same(t, fmt.Sprint("PairsOf again of ", p), again, want)
		first, _ := impl.JoinPanel(p)
		second, _ := impl.JoinPanel(p)
		wantJoined := joinedOf(slices.Clone(first.Parent), slices.Clone(first.Log)...)
		apart(t, fmt.Sprint("JoinPanel of ", p), first, wantJoined)
		sameJoined(t, fmt.Sprint("another JoinPanel of ", p), second, wantJoined)
	}
}
