package tests

import (
	"math"
	"slices"
	"testing"

	"loop.example/g00565/impl"
)

// The signatures of chapter 4: other ones do not compile.
var (
	_ func([]int64) int64                               = impl.LeavesFault
	_ func([]int64) impl.IntResult                      = impl.RootOf
	_ func([]int64, int64) impl.IntsResult              = impl.PathOf
	_ func(int64, int64, int64, []int64) impl.IntResult = impl.ClimbPath
	_ func([]byte, int64, int64, []int64, int64) bool   = impl.AcceptLeaf
	_ func(int64) impl.IntResult                        = impl.SplitOf
)

func TestMaxLeavesAndMaxPath(t *testing.T) {
	if impl.MaxLeaves != 24 || impl.MaxPath != 6 {
		t.Errorf("MaxLeaves is %d, MaxPath %d", impl.MaxLeaves, impl.MaxPath)
	}
}

// splits has at each size the greatest power of 2 that is less than it; 0: there is none.
var splits = [25]int64{0, 0, 1, 2, 2, 4, 4, 4, 4, 8, 8, 8, 8, 8, 8, 8, 8, 16, 16, 16, 16, 16, 16, 16, 16}

// risingRoots has at each size n the root of the leaves 1 to n, worked out apart.
var risingRoots = [25]int64{11, 1, 37723, 21630, 26847, 40611, 471, 51405, 57014, 49241, 14134, 56136, 64398, 8567, 8838, 54456, 11155, 60382, 522, 22894, 1524, 23955, 29651, 1727, 26873}

func rising(n int) []int64 {
	list := make([]int64, n)
	for i := range list {
		list[i] = int64(i) + 1
	}
	return list
}

// strewn tells n sums that go through all bounds in no simple order.
func strewn(n int, from int) []int64 {
	list := make([]int64, n)
	for i := range list {
		list[i] = int64((from+i)*(from+i)*7919+i*31+from) % leastPastSum
	}
	return list
}

// someLeaves has each size up to 24 in it, and of each several; none of them has a fault.
func someLeaves() [][]int64 {
	lists := [][]int64{nil, {}, {65520, 0}, {0, 65520}}
	for n := range 25 {
		lists = append(lists, rising(n), repeat(0, n), repeat(65520, n), strewn(n, 3), strewn(n, 1000+n))
	}
	return lists
}

// nodeOf works the sum of a node out with no help of the program.
func nodeOf(a int64, b int64) int64 {
	return closedSum([]byte{1, byte(a / 256), byte(a % 256), byte(b / 256), byte(b % 256)})
}

// toldRoot, toldPath and toldClimb go split by split, as the document tells it, with no help of the program.
func toldRoot(leaves []int64) int64 {
	switch len(leaves) {
	case 0:
		return 11
	case 1:
		return leaves[0]
	}
	k := splits[len(leaves)]
	return nodeOf(toldRoot(leaves[:k]), toldRoot(leaves[k:]))
}

func toldPath(leaves []int64, at int64) []int64 {
	if len(leaves) == 1 {
		return nil
	}
	k := splits[len(leaves)]
	if at < k {
		return append(toldPath(leaves[:k], at), toldRoot(leaves[k:]))
	}
	return append(toldPath(leaves[k:], at-k), toldRoot(leaves[:k]))
}

func toldSteps(at int64, size int64) int {
	steps := 0
	for size > 1 {
		k := splits[size]
		if at < k {
			size = k
		} else {
			at, size = at-k, size-k
		}
		steps++
	}
	return steps
}

func toldClimb(leaf int64, at int64, size int64, path []int64) int64 {
	if size == 1 {
		return leaf
	}
	k, last := splits[size], len(path)-1
	if at < k {
		return nodeOf(toldClimb(leaf, at, k, path[:last]), path[last])
	}
	return nodeOf(path[last], toldClimb(leaf, at-k, size-k, path[:last]))
}

// placesIn goes through all places of all sizes from 1 to 24.
func placesIn(yield func(size int64, at int64) bool) {
	for size := int64(1); size <= 24; size++ {
		for at := range size {
			if !yield(size, at) {
				return
			}
		}
	}
}

func TestSplits(t *testing.T) {
	for size := int64(2); size <= 24; size++ {
		if got := impl.SplitOf(size); got != (impl.IntResult{Value: splits[size]}) {
			t.Errorf("SplitOf(%d) is %+v, not %d", size, got, splits[size])
		}
	}
	outOfRange := impl.IntResult{Code: impl.ErrRange}
	for _, size := range []int64{math.MinInt64, math.MinInt64 + 2, -(1 << 32), -24, -2, -1, 0, 1, 25, 26, 32, 1 << 32, 1<<32 + 2, 1 << 62, math.MaxInt64 - 1, math.MaxInt64} {
		if got := impl.SplitOf(size); got != outOfRange {
			t.Errorf("SplitOf(%d) is %+v", size, got)
		}
	}
}

// asksLeavesFirst asks all three functions that begin with the LeavesFault; a code has nothing beside it, wherever at is.
func asksLeavesFirst(t *testing.T, name string, leaves []int64, want int64) {
	t.Helper()
	if got := impl.LeavesFault(leaves); got != want {
		t.Errorf("%s: LeavesFault is %d, not %d", name, got, want)
	}
	root := impl.RootOf(leaves)
	if root.Code != want || want != impl.OK && root.Value != 0 {
		t.Errorf("%s: RootOf is %+v, asked is the code %d", name, root, want)
	}
	size := int64(len(leaves))
	for _, at := range []int64{math.MinInt64, -1, 0, size - 1, size, size + 1, math.MaxInt64} {
		code := want
		if code == impl.OK && (at < 0 || at >= size) {
			code = impl.ErrRange
		}
		path := impl.PathOf(leaves, at)
		if path.Code != code || code != impl.OK && len(path.List) != 0 {
			t.Errorf("%s: PathOf at %d is %+v, asked is the code %d", name, at, path, code)
		}
	}
}

func TestLeavesWithoutFault(t *testing.T) {
	for _, leaves := range someLeaves() {
		asksLeavesFirst(t, "leaves that are sums", leaves, impl.OK)
	}
	for _, sum := range someSums {
		asksLeavesFirst(t, "one sum", []int64{sum}, impl.OK)
		asksLeavesFirst(t, "24 of one sum", repeat(sum, 24), impl.OK)
	}
}

func TestLeavesFaults(t *testing.T) {
	asksLeavesFirst(t, "25", rising(25), impl.ErrMany)
	asksLeavesFirst(t, "26", rising(26), impl.ErrMany)
	asksLeavesFirst(t, "32", repeat(0, 32), impl.ErrMany)
	asksLeavesFirst(t, "5000", repeat(7, 5000), impl.ErrMany)
	for _, bad := range noSums {
		asksLeavesFirst(t, "one that is no sum", []int64{bad}, impl.ErrRange)
		asksLeavesFirst(t, "24 that are no sums", repeat(bad, 24), impl.ErrRange)
		asksLeavesFirst(t, "25 that are no sums: ErrMany ahead of ErrRange", repeat(bad, 25), impl.ErrMany)
	}
	for size, at := range placesIn {
		for _, bad := range []int64{-1, 65521} {
			leaves := rising(int(size))
			leaves[at] = bad
			asksLeavesFirst(t, "one of them is no sum", leaves, impl.ErrRange)
		}
	}
	for at := range 25 {
		leaves := rising(25)
		leaves[at] = -1
		asksLeavesFirst(t, "25, one of them no sum", leaves, impl.ErrMany)
	}
}

func TestRootsThatAreKnown(t *testing.T) {
	for n, want := range risingRoots {
		if got := impl.RootOf(rising(n)); got != (impl.IntResult{Value: want}) {
			t.Errorf("RootOf of 1 to %d is %+v, not %d", n, got, want)
		}
	}
	cases := []struct {
		name   string
		leaves []int64
		want   int64
	}{
		{"nil", nil, 11},
		{"none", []int64{}, 11},
		{"one, the least", []int64{0}, 0},
		{"one, the greatest", []int64{65520}, 65520},
		{"three", []int64{5, 7, 9}, 38852},
		{"the least and the greatest", []int64{0, 65520}, 54127},
		{"these turned round", []int64{65520, 0}, 28931},
		{"24 of 0", repeat(0, 24), 56268},
		{"24 of 65520", repeat(65520, 24), 38687},
	}
	for _, c := range cases {
		if got := impl.RootOf(c.leaves); got != (impl.IntResult{Value: c.want}) {
			t.Errorf("%s: RootOf is %+v, not %d", c.name, got, c.want)
		}
	}
}

func TestRootsComeAsTheSplitsTell(t *testing.T) {
	for _, leaves := range someLeaves() {
		if got := impl.RootOf(leaves); got != (impl.IntResult{Value: toldRoot(leaves)}) {
			t.Fatalf("RootOf(%v) is %+v, not %d", leaves, got, toldRoot(leaves))
		}
	}
}

// By the program's own words: no other split, and no other side first.
func TestRootIsThatOfBothItsParts(t *testing.T) {
	for _, leaves := range someLeaves() {
		if len(leaves) < 2 {
			continue
		}
		k := impl.SplitOf(int64(len(leaves))).Value
		first, others := impl.RootOf(leaves[:k]), impl.RootOf(leaves[k:])
		if want := impl.NodeSum(first.Value, others.Value); first.Code != impl.OK || others.Code != impl.OK || impl.RootOf(leaves) != want {
			t.Fatalf("RootOf(%v) is %+v, of its parts comes %+v", leaves, impl.RootOf(leaves), want)
		}
	}
}

func TestPathsThatAreKnown(t *testing.T) {
	cases := []struct {
		leaves []int64
		at     int64
		want   []int64
	}{
		{[]int64{4}, 0, nil},
		{[]int64{5, 7, 9}, 0, []int64{7, 9}},
		{[]int64{5, 7, 9}, 1, []int64{5, 9}},
		{[]int64{5, 7, 9}, 2, []int64{47283}},
		{rising(2), 0, []int64{2}},
		{rising(2), 1, []int64{1}},
		{rising(5), 0, []int64{2, 9742, 5}},
		{rising(5), 4, []int64{26847}},
		{rising(6), 5, []int64{5, 26847}},
		{rising(7), 4, []int64{6, 7, 26847}},
		{rising(7), 6, []int64{47282, 26847}},
		{rising(11), 10, []int64{56841, 57014}},
		{rising(23), 22, []int64{19997, 12392, 11155}},
		{rising(24), 0, []int64{2, 9742, 30450, 51125, 59756}},
		{rising(24), 15, []int64{15, 879, 28256, 57014, 59756}},
		{rising(24), 16, []int64{18, 47978, 10198, 11155}},
		{rising(24), 23, []int64{23, 19997, 12392, 11155}},
	}
	for _, c := range cases {
		if got := impl.PathOf(c.leaves, c.at); got.Code != impl.OK || !slices.Equal(got.List, c.want) {
			t.Errorf("PathOf(%v, %d) is %+v, not %v", c.leaves, c.at, got, c.want)
		}
	}
}

func TestPathsHaveTheirLengths(t *testing.T) {
	cases := map[int][]int{
		1:  {0},
		2:  {1, 1},
		3:  {2, 2, 1},
		4:  {2, 2, 2, 2},
		5:  {3, 3, 3, 3, 1},
		6:  {3, 3, 3, 3, 2, 2},
		7:  {3, 3, 3, 3, 3, 3, 2},
		11: {4, 4, 4, 4, 4, 4, 4, 4, 3, 3, 2},
		17: {5, 5, 5, 5, 5, 5, 5, 5, 5, 5, 5, 5, 5, 5, 5, 5, 1},
		23: {5, 5, 5, 5, 5, 5, 5, 5, 5, 5, 5, 5, 5, 5, 5, 5, 4, 4, 4, 4, 4, 4, 3},
		24: {5, 5, 5, 5, 5, 5, 5, 5, 5, 5, 5, 5, 5, 5, 5, 5, 4, 4, 4, 4, 4, 4, 4, 4},
	}
	for n, lengths := range cases {
		for at, want := range lengths {
			if got := impl.PathOf(rising(n), int64(at)); got.Code != impl.OK || len(got.List) != want {
				t.Errorf("PathOf of %d leaves at %d has %d, not %d", n, at, len(got.List), want)
			}
		}
	}
}

func TestFromEachLeafItsPathLeadsUpToTheRoot(t *testing.T) {
	for _, leaves := range someLeaves() {
		size, root := int64(len(leaves)), impl.RootOf(leaves)
		for at, leaf := range leaves {
			path := impl.PathOf(leaves, int64(at))
			if want := toldPath(leaves, int64(at)); path.Code != impl.OK || !slices.Equal(path.List, want) {
				t.Fatalf("PathOf(%v, %d) is %+v, not %v", leaves, at, path, want)
			}
			if got := impl.ClimbPath(leaf, int64(at), size, path.List); got != root {
				t.Fatalf("from %d of %v its path leads up to %+v, not %+v", at, leaves, got, root)
			}
		}
	}
}

func TestPathsOfNoPlace(t *testing.T) {
	for _, leaves := range someLeaves() {
		size := int64(len(leaves))
		for _, at := range []int64{math.MinInt64, math.MinInt64 + 1, -(1 << 32), -size, -1, size, size + 1, 24, 25, 1 << 32, math.MaxInt64 - 1, math.MaxInt64} {
			if at >= 0 && at < size {
				continue
			}
			if got := impl.PathOf(leaves, at); got.Code != impl.ErrRange || len(got.List) != 0 {
				t.Fatalf("PathOf of %d leaves at %d is %+v", size, at, got)
			}
		}
	}
}

// Any sums may stand in a path: what comes of them is told, though no leaves have that root.
func TestWhatComesOfAnyPath(t *testing.T) {
	for size, at := range placesIn {
		n := toldSteps(at, size)
		for from := range 12 {
			for _, leaf := range []int64{0, 1, 11, 65520, strewn(1, from)[0]} {
				for _, path := range [][]int64{strewn(n, from), repeat(0, n), repeat(65520, n)} {
					want := impl.IntResult{Value: toldClimb(leaf, at, size, path)}
					if got := impl.ClimbPath(leaf, at, size, path); got != want {
						t.Fatalf("ClimbPath(%d, %d, %d, %v) is %+v, not %+v", leaf, at, size, path, got, want)
					}
				}
			}
		}
	}
}

func TestPathsOfAllLengths(t *testing.T) {
	for size, at := range placesIn {
		for _, n := range []int{0, 1, 2, 3, 4, 5, 6, 7, 8, 24, 25, 5000} {
			path := strewn(n, 9)
			var want impl.IntResult
			switch {
			case n > 6:
				want.Code = impl.ErrMany
			case n != toldSteps(at, size):
				want.Code = impl.ErrProof
			default:
				want.Value = toldClimb(7, at, size, path)
			}
			if got := impl.ClimbPath(7, at, size, path); got != want {
				t.Errorf("ClimbPath at %d of %d by a path of %d is %+v, not %+v", at, size, n, got, want)
			}
		}
	}
}

func TestClimbsOutOfRange(t *testing.T) {
	outOfRange := impl.IntResult{Code: impl.ErrRange}
	check := func(name string, leaf int64, at int64, size int64, path []int64) {
		t.Helper()
		if got := impl.ClimbPath(leaf, at, size, path); got != outOfRange {
			t.Errorf("%s: ClimbPath(%d, %d, %d, %v) is %+v", name, leaf, at, size, path, got)
		}
	}
	for _, bad := range noSums {
		check("leaf", bad, 0, 1, nil)
		check("leaf", bad, 2, 3, []int64{5})
	}
	for _, size := range []int64{math.MinInt64, math.MinInt64 + 1, -(1 << 32), -24, -1, 0, 25, 26, 1 << 32, 1<<32 + 1, math.MaxInt64 - 1, math.MaxInt64} {
		for _, at := range []int64{math.MinInt64, -1, 0, 1, 24, size, math.MaxInt64} {
			for n := range 7 {
				check("size", 7, at, size, strewn(n, 2))
			}
		}
	}
	for size := int64(1); size <= 24; size++ {
		for _, at := range []int64{math.MinInt64, math.MinInt64 + 1, -size, -1, size, size + 1, 24, 25, 1 << 32, math.MaxInt64 - 1, math.MaxInt64} {
			for n := range 7 {
				check("at", 7, at, size, strewn(n, 2))
			}
		}
	}
	for size, at := range placesIn {
		for n := 1; n <= 6; n++ {
			for place := range n {
				path := strewn(n, 4)
				path[place] = noSums[(int(at)+place)%len(noSums)]
				check("path", 7, at, size, path)
			}
		}
	}
}

// pathWithFaults tells a path with the faults that the lowest three bits of wrong ask for, and the code that comes first of these.
func pathWithFaults(right []int64, wrong int) (path []int64, code int64) {
	path = slices.Clone(right)
	if wrong&1 != 0 {
		path, code = append(path, 3), impl.ErrProof
	}
	if wrong&2 != 0 {
		path[len(path)-1], code = 65521, impl.ErrRange
	}
	if wrong&4 != 0 {
		path, code = append(path, 1, 2, 3, 4, 5), impl.ErrMany
	}
	return path, code
}

// Each of the things is right or wrong, in all ways together: the first code that is so is told.
func TestClimbCodesStandInTheirOrder(t *testing.T) {
	const size, at = 7, 6
	right := []int64{47282, 26847}
	for wrong := range 64 {
		leaf, place, count := int64(7), int64(at), int64(size)
		path, want := pathWithFaults(right, wrong)
		if wrong&8 != 0 {
			place, want = 7, impl.ErrRange
		}
		if wrong&16 != 0 {
			count, want = 25, impl.ErrRange
		}
		if wrong&32 != 0 {
			leaf, want = -1, impl.ErrRange
		}
		got := impl.ClimbPath(leaf, place, count, path)
		if got.Code != want || want != impl.OK && got.Value != 0 || want == impl.OK && got.Value != risingRoots[size] {
			t.Errorf("ClimbPath(%d, %d, %d, %v) is %+v, asked is the code %d", leaf, place, count, path, got, want)
		}
	}
}

// piecesOf tells n pieces, the last of them as long as a piece may be.
func piecesOf(n int) [][]byte {
	list := make([][]byte, n)
	for i := range list {
		list[i] = mixed(i*7, i)
	}
	if n > 0 {
		list[n-1] = mixed(250, n)
	}
	return list
}

func sumsOf(pieces [][]byte) []int64 {
	sums := make([]int64, len(pieces))
	for i, piece := range pieces {
		sums[i] = closedSum(append([]byte{0}, piece...))
	}
	return sums
}

func TestLeavesThatAreThereAreTaken(t *testing.T) {
	for n := 1; n <= 24; n++ {
		pieces := piecesOf(n)
		leaves := sumsOf(pieces)
		root := impl.RootOf(leaves).Value
		for at, piece := range pieces {
			path := impl.PathOf(leaves, int64(at)).List
			if !impl.AcceptLeaf(piece, int64(at), int64(n), path, root) {
				t.Fatalf("the piece at %d of %d is not taken", at, n)
			}
		}
	}
}

// What is taken is just what comes to the root, whatever else is turned.
func TestLeavesAreTakenByTheirRootAlone(t *testing.T) {
	taken, refused := 0, 0
	check := func(name string, data []byte, at int64, size int64, path []int64, root int64) {
		t.Helper()
		want := len(data) <= 250 && size >= 1 && size <= 24 && at >= 0 && at < size && len(path) == toldSteps(at, size) &&
			toldClimb(sumsOf([][]byte{data})[0], at, size, path) == root
		if impl.AcceptLeaf(data, at, size, path, root) != want {
			t.Fatalf("%s: AcceptLeaf(%v, %d, %d, %v, %d) is not %v", name, data, at, size, path, root, want)
		}
		if want {
			taken++
		} else {
			refused++
		}
	}
	for size, at := range placesIn {
		pieces := piecesOf(int(size))
		leaves := sumsOf(pieces)
		root, path, piece := toldRoot(leaves), toldPath(leaves, at), pieces[at]
		for _, other := range slices.Concat(someSums, noSums, leaves, []int64{root, root - 1, root + 1, root + leastPastSum, root - leastPastSum}) {
			check("root", piece, at, size, path, other)
		}
		for _, other := range append(pieces, nil, []byte{0}, append(slices.Clone(piece), 0)) {
			check("data", other, at, size, path, root)
		}
		for other := int64(-1); other <= size; other++ {
			check("at", piece, other, size, path, root)
		}
		for other := int64(-1); other <= 26; other++ {
			check("size", piece, at, other, path, root)
		}
		for place := range path {
			for _, sum := range someSums {
				turned := slices.Clone(path)
				turned[place] = sum
				check("path", piece, at, size, turned, root)
			}
		}
	}
	if taken == 0 || refused == 0 {
		t.Errorf("%d were taken, %d were not", taken, refused)
	}
}

// A code is never taken, not even for the root 0 that stands beside it, nor for what would come without the bound.
func TestWhatHasACodeIsNotTaken(t *testing.T) {
	data := mixed(250, 3)
	long := mixed(251, 3)
	leaf := sumsOf([][]byte{data, long})
	if !impl.AcceptLeaf(data, 0, 1, nil, leaf[0]) || !impl.AcceptLeaf(data, 1, 2, []int64{5}, nodeOf(5, leaf[0])) {
		t.Error("data of 250 bytes is not taken")
	}
	cases := []struct {
		name     string
		data     []byte
		at, size int64
		path     []int64
		roots    []int64
	}{
		{"data of 251 bytes", long, 0, 1, nil, []int64{leaf[1], 1508}},
		{"data of 251 bytes, of two", long, 1, 2, []int64{5}, []int64{nodeOf(5, leaf[1]), nodeOf(5, 0)}},
		{"data of 5000 bytes", mixed(5000, 3), 0, 1, nil, nil},
		{"at below 0", data, -1, 1, nil, []int64{leaf[0]}},
		{"at of size", data, 1, 1, nil, []int64{leaf[0]}},
		{"at of size, of two", data, 2, 2, []int64{5}, []int64{nodeOf(leaf[0], 5), nodeOf(5, leaf[0]), leaf[0]}},
		{"the least at", data, math.MinInt64, 2, []int64{5}, []int64{nodeOf(leaf[0], 5)}},
		{"the greatest at", data, math.MaxInt64, 2, []int64{5}, []int64{nodeOf(5, leaf[0])}},
		{"size of 0", data, 0, 0, nil, []int64{leaf[0], 11}},
		{"size of 25", data, 24, 25, []int64{5}, []int64{nodeOf(5, leaf[0])}},
		{"size below 0", data, 0, -1, nil, []int64{leaf[0]}},
		{"the least size", data, 0, math.MinInt64, nil, []int64{leaf[0]}},
		{"the greatest size", data, 0, math.MaxInt64, nil, []int64{leaf[0]}},
		{"a path of one less", data, 0, 3, []int64{5}, []int64{nodeOf(leaf[0], 5)}},
		{"a path of one more", data, 2, 3, []int64{5, 6}, []int64{nodeOf(5, leaf[0]), nodeOf(6, nodeOf(5, leaf[0])), nodeOf(6, leaf[0])}},
		{"a path for one leaf", data, 0, 1, []int64{5}, []int64{leaf[0], nodeOf(leaf[0], 5)}},
		{"no path", data, 0, 2, nil, []int64{leaf[0]}},
		{"a path of 6", data, 0, 24, strewn(6, 1), nil},
		{"a path of 7", data, 0, 24, strewn(7, 1), nil},
		{"a path that is no sum", data, 0, 2, []int64{65521}, []int64{nodeOf(leaf[0], 65521), leaf[0]}},
		{"a path below 0", data, 0, 2, []int64{-1}, []int64{leaf[0]}},
	}
	for _, c := range cases {
		for _, root := range append(c.roots, 0, -1, impl.ErrMany, impl.ErrRange, impl.ErrProof, 65521, math.MinInt64, math.MaxInt64) {
			if impl.AcceptLeaf(c.data, c.at, c.size, c.path, root) {
				t.Errorf("%s: it is taken for the root %d", c.name, root)
			}
		}
	}
}

// A piece whose LeafSum is 0 comes to the root 0: that root is one like any other.
func TestTheRoot0IsTaken(t *testing.T) {
	data := []byte{8, 186}
	if sumsOf([][]byte{data})[0] != 0 || impl.LeafSum(data) != (impl.IntResult{}) {
		t.Fatal("the sum of the piece is not 0")
	}
	if !impl.AcceptLeaf(data, 0, 1, nil, 0) || impl.AcceptLeaf(data, 0, 1, nil, 1) || impl.AcceptLeaf(data, 0, 1, []int64{0}, 0) {
		t.Error("the root 0 is not taken as others are")
	}
}

// wildLists has leaves and paths without a fault in it, and of each fault some.
func wildLists() [][]int64 {
	lists := append(someLeaves(), rising(25), repeat(-1, 24), repeat(65521, 25), strewn(5000, 1))
	for _, bad := range noSums {
		lists = append(lists, []int64{bad}, []int64{5, bad}, append(strewn(5, 2), bad))
	}
	return lists
}

func TestTreesLeaveTheirArgumentsAsTheyAre(t *testing.T) {
	for i, list := range wildLists() {
		leaves, kept := handed(list)
		size := int64(len(leaves))
		changesNothing(t, kept,
			namedCall{"LeavesFault", func() { impl.LeavesFault(leaves) }},
			namedCall{"RootOf", func() { impl.RootOf(leaves) }})
		for at := int64(-1); at <= min(size, 26); at++ {
			changesNothing(t, kept, namedCall{"PathOf", func() { impl.PathOf(leaves, at) }})
		}
		data, dataKept := handed(mixed(i, 3))
		bothKept := func() bool { return kept() && dataKept() }
		for size, at := range placesIn {
			changesNothing(t, bothKept,
				namedCall{"ClimbPath", func() { impl.ClimbPath(7, at, size, leaves) }},
				namedCall{"AcceptLeaf", func() { impl.AcceptLeaf(data, at, size, leaves, 7) }})
		}
	}
}

// ownMemory asks for a list out of leaves: what comes shares no memory with them, nor with another answer.
func ownMemory(t *testing.T, name string, leaves []int64, want []int64, ask func(leaves []int64) []int64) {
	t.Helper()
	given, kept := handed(leaves)
	first, second := ask(given), ask(given)
	spoil(first)
	if !kept() {
		t.Fatalf("%s shares memory with its leaves", name)
	}
	if !slices.Equal(second, want) || !slices.Equal(ask(given), want) {
		t.Fatalf("%s shares memory with another answer", name)
	}
	spoil(given[:len(leaves):len(leaves)])
	if !slices.Equal(second, want) {
		t.Fatalf("%s changes with its leaves", name)
	}
}

func TestPathsAreMemoryOfTheirOwn(t *testing.T) {
	for size, at := range placesIn {
		leaves := strewn(int(size), 5)
		ownMemory(t, "PathOf", leaves, toldPath(leaves, at), func(leaves []int64) []int64 { return impl.PathOf(leaves, at).List })
	}
}

// rowOf tells an answer that is numbers as one text.
func rowOf(numbers ...int64) string {
	var row []byte
	for _, n := range numbers {
		row = append(row, binaryOf(n)...)
	}
	return string(row)
}

// treeAnswers asks all functions of the chapter at arguments in bounds and out of them; what it tells is one row an answer.
func treeAnswers() []string {
	var rows []string
	tell := func(numbers ...int64) { rows = append(rows, rowOf(numbers...)) }
	ints := func(r impl.IntResult) { tell(r.Code, r.Value) }
	numbers := slices.Concat(wildNumbers, []int64{5, 23, 24, 25, 65520, 65521})
	for _, size := range numbers {
		ints(impl.SplitOf(size))
	}
	for i, list := range wildLists() {
		ints(impl.RootOf(list))
		tell(impl.LeavesFault(list))
		for j, at := range numbers {
			path := impl.PathOf(list, at)
			tell(append(path.List, path.Code)...)
			size := numbers[(i+j)%len(numbers)]
			ints(impl.ClimbPath(numbers[(i*j)%len(numbers)], at, size, list))
			ints(impl.ClimbPath(7, at, size, path.List))
			if impl.AcceptLeaf(mixed(i+j, j), at, size, list, numbers[i%len(numbers)]) {
				tell(at, size)
			}
		}
	}
	return rows
}

func TestTreesHangOnTheirArgumentsAlone(t *testing.T) { answeredAlike(t, treeAnswers) }

// An empty list and nil are one, and what a list could still grow to makes no difference.
func TestEmptyLeavesAndNilAreOne(t *testing.T) {
	for _, empty := range [][]int64{nil, {}, make([]int64, 0, 40)} {
		path := impl.PathOf(empty, 0)
		if impl.LeavesFault(empty) != impl.OK || impl.RootOf(empty) != (impl.IntResult{Value: 11}) || path.Code != impl.ErrRange || len(path.List) != 0 {
			t.Error("empty leaves and nil are two")
		}
		if impl.ClimbPath(7, 0, 1, empty) != (impl.IntResult{Value: 7}) || impl.ClimbPath(7, 0, 2, empty) != (impl.IntResult{Code: impl.ErrProof}) {
			t.Error("an empty path and nil are two")
		}
		if !impl.AcceptLeaf(nil, 0, 1, empty, 1508) || !impl.AcceptLeaf([]byte{}, 0, 1, empty, 1508) {
			t.Error("empty data and nil are two")
		}
	}
	roomy := append(make([]int64, 0, 400), 5, 7, 9)
	if impl.LeavesFault(roomy) != impl.OK || impl.RootOf(roomy) != impl.RootOf([]int64{5, 7, 9}) || impl.ClimbPath(7, 0, 3, roomy[:2]) != impl.ClimbPath(7, 0, 3, []int64{5, 7}) {
		t.Error("the room behind a list is told with it")
	}
}
