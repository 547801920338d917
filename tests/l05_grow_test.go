package tests

import (
	"math"
	"slices"
	"testing"

	"loop.example/g00565/impl"
)

// The signatures and the type of chapter 5: other ones do not compile.
var (
	_ func([]int64, int64) impl.IntsResult               = impl.GrowthOf
	_ func(int64, int64, int64, []int64) impl.GrowResult = impl.GrowRoots
	_ func(int64, int64, int64, int64, []int64) bool     = impl.AcceptGrowth
	_ func(int64, int64) impl.IntResult                  = impl.StepsOf
	_ struct{ Code, Old, New int64 }                     = impl.GrowResult{}
)

// growthLengths has at each count of leaves how many the growth of each size has, from size 1 on, worked out apart.
var growthLengths = [25][]int64{
	1:  {0},
	2:  {1, 0},
	3:  {2, 1, 0},
	4:  {2, 1, 3, 0},
	5:  {3, 2, 4, 1, 0},
	6:  {3, 2, 4, 1, 3, 0},
	7:  {3, 2, 4, 1, 4, 3, 0},
	8:  {3, 2, 4, 1, 4, 3, 4, 0},
	9:  {4, 3, 5, 2, 5, 4, 5, 1, 0},
	10: {4, 3, 5, 2, 5, 4, 5, 1, 3, 0},
	11: {4, 3, 5, 2, 5, 4, 5, 1, 4, 3, 0},
	12: {4, 3, 5, 2, 5, 4, 5, 1, 4, 3, 4, 0},
	13: {4, 3, 5, 2, 5, 4, 5, 1, 5, 4, 5, 3, 0},
	14: {4, 3, 5, 2, 5, 4, 5, 1, 5, 4, 5, 3, 4, 0},
	15: {4, 3, 5, 2, 5, 4, 5, 1, 5, 4, 5, 3, 5, 4, 0},
	16: {4, 3, 5, 2, 5, 4, 5, 1, 5, 4, 5, 3, 5, 4, 5, 0},
	17: {5, 4, 6, 3, 6, 5, 6, 2, 6, 5, 6, 4, 6, 5, 6, 1, 0},
	18: {5, 4, 6, 3, 6, 5, 6, 2, 6, 5, 6, 4, 6, 5, 6, 1, 3, 0},
	19: {5, 4, 6, 3, 6, 5, 6, 2, 6, 5, 6, 4, 6, 5, 6, 1, 4, 3, 0},
	20: {5, 4, 6, 3, 6, 5, 6, 2, 6, 5, 6, 4, 6, 5, 6, 1, 4, 3, 4, 0},
	21: {5, 4, 6, 3, 6, 5, 6, 2, 6, 5, 6, 4, 6, 5, 6, 1, 5, 4, 5, 3, 0},
	22: {5, 4, 6, 3, 6, 5, 6, 2, 6, 5, 6, 4, 6, 5, 6, 1, 5, 4, 5, 3, 4, 0},
	23: {5, 4, 6, 3, 6, 5, 6, 2, 6, 5, 6, 4, 6, 5, 6, 1, 5, 4, 5, 3, 5, 4, 0},
	24: {5, 4, 6, 3, 6, 5, 6, 2, 6, 5, 6, 4, 6, 5, 6, 1, 5, 4, 5, 3, 5, 4, 5, 0},
}

// growthsIn goes through all sizes from 1 to how many there are, of all counts from 1 to 24.
func growthsIn(yield func(from int64, to int64) bool) {
	for to, at := range placesIn {
		if !yield(at+1, to) {
			return
		}
	}
}

// toldGrowth, toldWhole and toldGrowRoots go split by split, as the document tells it, with no help of the program.
func toldGrowth(leaves []int64, size int64, whole bool) []int64 {
	if size == int64(len(leaves)) {
		if whole {
			return nil
		}
		return []int64{toldRoot(leaves)}
	}
	k := splits[len(leaves)]
	if size <= k {
		return append(toldGrowth(leaves[:k], size, whole), toldRoot(leaves[k:]))
	}
	return append(toldGrowth(leaves[k:], size-k, false), toldRoot(leaves[:k]))
}

// toldWhole tells whether a growth is still whole where it comes to its end.
func toldWhole(from int64, to int64) bool {
	for from < to {
		k := splits[to]
		if from > k {
			return false
		}
		to = k
	}
	return true
}

func toldGrowRoots(from int64, to int64, whole bool, root int64, path []int64) (old int64, grown int64) {
	if from == to {
		if whole {
			return root, root
		}
		return path[0], path[0]
	}
	k, rest, last := splits[to], path[:len(path)-1], path[len(path)-1]
	if from <= k {
		old, grown = toldGrowRoots(from, k, whole, root, rest)
		return old, nodeOf(grown, last)
	}
	old, grown = toldGrowRoots(from-k, to-k, false, root, rest)
	return nodeOf(last, old), nodeOf(last, grown)
}

// toldGrowResult is GrowRoots with its codes, in their order.
func toldGrowResult(from int64, to int64, root int64, path []int64) impl.GrowResult {
	isNoSum := func(n int64) bool { return n < 0 || n > 65520 }
	switch {
	case to < 1 || to > 24 || from < 1 || from > to || isNoSum(root):
		return impl.GrowResult{Code: impl.ErrRange}
	case len(path) > 6:
		return impl.GrowResult{Code: impl.ErrMany}
	case slices.ContainsFunc(path, isNoSum):
		return impl.GrowResult{Code: impl.ErrRange}
	case int64(len(path)) != growthLengths[to][from-1]:
		return impl.GrowResult{Code: impl.ErrProof}
	}
	old, grown := toldGrowRoots(from, to, true, root, path)
	return impl.GrowResult{Old: old, New: grown}
}

func TestGrowthsThatAreKnown(t *testing.T) {
	cases := []struct {
		leaves []int64
		size   int64
		want   []int64
	}{
		{[]int64{4}, 1, nil},
		{[]int64{0}, 1, nil},
		{[]int64{65520, 0}, 1, []int64{0}},
		{[]int64{0, 65520}, 1, []int64{65520}},
		{rising(2), 2, nil},
		{rising(3), 1, []int64{2, 3}},
		{rising(3), 2, []int64{3}},
		{rising(3), 3, nil},
		{rising(5), 3, []int64{3, 4, 37723, 5}},
		{rising(5), 4, []int64{5}},
		{rising(7), 3, []int64{3, 4, 37723, 20081}},
		{rising(7), 4, []int64{20081}},
		{rising(7), 5, []int64{5, 6, 7, 26847}},
		{rising(7), 6, []int64{47282, 7, 26847}},
		{rising(7), 7, nil},
		{rising(8), 7, []int64{7, 8, 47282, 26847}},
		{rising(11), 10, []int64{56841, 11, 57014}},
		{rising(17), 16, []int64{17}},
		{rising(23), 22, []int64{19997, 23, 12392, 11155}},
		{rising(24), 1, []int64{2, 9742, 30450, 51125, 59756}},
		{rising(24), 3, []int64{3, 4, 37723, 30450, 51125, 59756}},
		{rising(24), 15, []int64{15, 16, 879, 28256, 57014, 59756}},
		{rising(24), 16, []int64{59756}},
		{rising(24), 17, []int64{17, 18, 47978, 10198, 11155}},
		{rising(24), 23, []int64{23, 24, 19997, 12392, 11155}},
		{rising(24), 24, nil},
	}
	for _, c := range cases {
		if got := impl.GrowthOf(c.leaves, c.size); got.Code != impl.OK || !slices.Equal(got.List, c.want) {
			t.Errorf("GrowthOf(%v, %d) is %+v, not %v", c.leaves, c.size, got, c.want)
		}
	}
}

func TestRootsOfGrowthsThatAreKnown(t *testing.T) {
	cases := []struct {
		from, to, root int64
		path           []int64
		old, grown     int64
	}{
		{1, 1, 5, nil, 5, 5},
		{1, 1, 0, nil, 0, 0},
		{24, 24, 65520, []int64{}, 65520, 65520},
		{1, 2, 0, []int64{0}, 0, 18952},
		{1, 2, 0, []int64{65520}, 0, 54127},
		{2, 3, 5, []int64{9}, 5, 47285},
		{3, 4, 5, []int64{1, 2, 3}, 9739, 29968},
		{5, 6, 1, []int64{2, 3, 4}, 28509, 58820},
		{3, 7, 38852, []int64{9, 11, 47283, 4}, 38852, 7960},
		{7, 8, 0, []int64{0, 0, 0, 0}, 29098, 34603},
		{15, 24, 7, []int64{1, 2, 3, 4, 5, 6}, 65411, 57748},
		{16, 24, 9, []int64{10}, 9, 56841},
		{17, 24, 7, []int64{1, 2, 3, 4, 5}, 47277, 14725},
		{23, 24, 65520, repeat(65520, 5), 62825, 62601},
	}
	for _, c := range cases {
		want := impl.GrowResult{Old: c.old, New: c.grown}
		if got := impl.GrowRoots(c.from, c.to, c.root, c.path); got != want {
			t.Errorf("GrowRoots(%d, %d, %d, %v) is %+v, not %+v", c.from, c.to, c.root, c.path, got, want)
		}
		if impl.AcceptGrowth(c.from, c.root, c.to, c.grown, c.path) != (c.old == c.root) {
			t.Errorf("AcceptGrowth from %d to %d by %v does not hang on the old root", c.from, c.to, c.path)
		}
	}
}

func TestGrowthsHaveTheirLengths(t *testing.T) {
	for from, to := range growthsIn {
		want := growthLengths[to][from-1]
		if got := impl.StepsOf(from, to); got != (impl.IntResult{Value: want}) {
			t.Errorf("StepsOf(%d, %d) is %+v, not %d", from, to, got, want)
		}
		if got := impl.GrowthOf(rising(int(to)), from); got.Code != impl.OK || int64(len(got.List)) != want {
			t.Errorf("the growth of %d in %d is %+v, not %d of them", from, to, got, want)
		}
	}
}

func TestEachGreaterLogIsShownToGoOn(t *testing.T) {
	for _, leaves := range someLeaves() {
		to := int64(len(leaves))
		second := impl.RootOf(leaves).Value
		for from := int64(1); from <= to; from++ {
			path := impl.GrowthOf(leaves, from)
			if want := toldGrowth(leaves, from, true); path.Code != impl.OK || !slices.Equal(path.List, want) {
				t.Fatalf("GrowthOf(%v, %d) is %+v, not %v", leaves, from, path, want)
			}
			first := impl.RootOf(leaves[:from]).Value
			if got := impl.GrowRoots(from, to, first, path.List); got != (impl.GrowResult{Old: first, New: second}) {
				t.Fatalf("from %d of %v on its growth comes to %+v, not to %d and %d", from, leaves, got, first, second)
			}
			if !impl.AcceptGrowth(from, first, to, second, path.List) {
				t.Fatalf("%v is not shown to go on from its first %d", leaves, from)
			}
		}
	}
}

// A log that was cut anywhere, and then went on another way, is none that the greater one goes on from.
func TestALogThatWasTurnedIsNotTaken(t *testing.T) {
	for from, to := range growthsIn {
		leaves := strewn(int(to), 77)
		path, second := impl.GrowthOf(leaves, from).List, impl.RootOf(leaves).Value
		for at := range from {
			other := slices.Clone(leaves[:from])
			other[at] = (other[at] + 1) % leastPastSum
			first := impl.RootOf(other).Value
			if first == toldRoot(leaves[:from]) {
				continue
			}
			if impl.AcceptGrowth(from, first, to, second, path) {
				t.Fatalf("%d leaves are taken to go on from %d that they never had", to, from)
			}
		}
	}
}

// As long as it is whole, what there was is the root that was said; else the path alone tells it.
func TestWhatIsWholeIsToldByTheRoot(t *testing.T) {
	whole := 0
	for from, to := range growthsIn {
		path := strewn(int(growthLengths[to][from-1]), 21)
		told := map[impl.GrowResult]bool{}
		for _, root := range someSums {
			got := impl.GrowRoots(from, to, root, path)
			if toldWhole(from, to) && got.Old != root {
				t.Fatalf("GrowRoots(%d, %d, %d, %v) is %+v", from, to, root, path, got)
			}
			told[got] = true
		}
		if toldWhole(from, to) {
			whole++
		}
		if toldWhole(from, to) == (len(told) == 1) {
			t.Fatalf("from %d to %d all roots come to %d answers", from, to, len(told))
		}
	}
	// 1, 2, 4, 8 and 16 are whole in all that is greater, and all counts in themselves.
	if want := 23 + 22 + 20 + 16 + 8 + 24; whole != want {
		t.Fatalf("%d growths are whole, not %d", whole, want)
	}
}

// Any sums may stand in a path: what comes of them is told, though no leaves have these roots.
func TestWhatComesOfAnyGrowth(t *testing.T) {
	for from, to := range growthsIn {
		n := int(growthLengths[to][from-1])
		for turn := range 12 {
			for _, root := range []int64{0, 1, 11, 65520, strewn(1, turn)[0]} {
				for _, path := range [][]int64{strewn(n, turn), repeat(0, n), repeat(65520, n)} {
					want := toldGrowResult(from, to, root, path)
					if got := impl.GrowRoots(from, to, root, path); got != want {
						t.Fatalf("GrowRoots(%d, %d, %d, %v) is %+v, not %+v", from, to, root, path, got, want)
					}
				}
			}
		}
	}
}

func TestGrowthsByPathsOfAllLengths(t *testing.T) {
	for from, to := range growthsIn {
		for _, n := range []int{0, 1, 2, 3, 4, 5, 6, 7, 8, 24, 25, 5000} {
			path := strewn(n, 9)
			want := toldGrowResult(from, to, 7, path)
			if got := impl.GrowRoots(from, to, 7, path); got != want {
				t.Errorf("GrowRoots from %d to %d by a path of %d is %+v, not %+v", from, to, n, got, want)
			}
			if want.Code != impl.OK && (impl.AcceptGrowth(from, 7, to, 7, path) || impl.AcceptGrowth(from, 0, to, 0, path)) {
				t.Errorf("from %d to %d a path of %d is taken", from, to, n)
			}
		}
	}
}

func TestGrowthOfLeavesWithAFault(t *testing.T) {
	sizes := []int64{math.MinInt64, -1, 0, 1, 2, 23, 24, 25, 26, math.MaxInt64}
	check := func(name string, leaves []int64, want int64) {
		t.Helper()
		for _, size := range append(sizes, int64(len(leaves))) {
			if got := impl.GrowthOf(leaves, size); got.Code != want || len(got.List) != 0 {
				t.Errorf("%s: the growth of %d is %+v, asked is the code %d", name, size, got, want)
			}
		}
	}
	check("25", rising(25), impl.ErrMany)
	check("26", rising(26), impl.ErrMany)
	check("5000", repeat(7, 5000), impl.ErrMany)
	for _, bad := range noSums {
		check("one that is no sum", []int64{bad}, impl.ErrRange)
		check("24 that are no sums", repeat(bad, 24), impl.ErrRange)
		check("25 that are no sums: ErrMany ahead of ErrRange", repeat(bad, 25), impl.ErrMany)
	}
	for size, at := range placesIn {
		leaves := rising(int(size))
		leaves[at] = noSums[(size+at)%int64(len(noSums))]
		check("one of them is no sum", leaves, impl.ErrRange)
	}
}

func TestGrowthOfNoSize(t *testing.T) {
	for _, leaves := range append(someLeaves(), make([]int64, 0, 40)) {
		count := int64(len(leaves))
		for _, size := range []int64{math.MinInt64, math.MinInt64 + 1, -(1 << 32), -count, -1, 0, count + 1, count + 2, 25, 1 << 32, 1<<32 + 1, math.MaxInt64 - 1, math.MaxInt64} {
			if got := impl.GrowthOf(leaves, size); got.Code != impl.ErrRange || len(got.List) != 0 {
				t.Fatalf("the growth of %d in %d leaves is %+v", size, count, got)
			}
		}
	}
}

// The bounds of from and to, in all ways together.
func TestGrowthsFromAndToWhatIsNoSize(t *testing.T) {
	bounds := []int64{math.MinInt64, math.MinInt64 + 1, -(1 << 32), -25, -24, -2, -1, 0, 1, 2, 7, 8, 9, 16, 23, 24, 25, 26, 32, 1 << 32, 1<<32 + 1, 1<<32 + 24, math.MaxInt64 - 1, math.MaxInt64}
	for _, from := range bounds {
		for _, to := range bounds {
			isIn := to >= 1 && to <= 24 && from >= 1 && from <= to
			if got := impl.StepsOf(from, to); !isIn && got != (impl.IntResult{Code: impl.ErrRange}) || isIn && got.Code != impl.OK {
				t.Errorf("StepsOf(%d, %d) is %+v", from, to, got)
			}
			for n := range 9 {
				path := strewn(n, 2)
				want := toldGrowResult(from, to, 7, path)
				if got := impl.GrowRoots(from, to, 7, path); got != want {
					t.Errorf("GrowRoots(%d, %d, 7, %v) is %+v, not %+v", from, to, path, got, want)
				}
				if !isIn && (impl.AcceptGrowth(from, 7, to, 7, path) || impl.AcceptGrowth(from, 0, to, 0, path)) {
					t.Errorf("a growth from %d to %d is taken", from, to)
				}
			}
		}
	}
}

func TestGrowthsByWhatIsNoSum(t *testing.T) {
	outOfRange := impl.GrowResult{Code: impl.ErrRange}
	check := func(name string, from int64, to int64, root int64, path []int64) {
		t.Helper()
		if got := impl.GrowRoots(from, to, root, path); got != outOfRange {
			t.Errorf("%s: GrowRoots(%d, %d, %d, %v) is %+v", name, from, to, root, path, got)
		}
		for _, second := range []int64{0, root, 7, impl.ErrRange} {
			if impl.AcceptGrowth(from, root, to, second, path) {
				t.Errorf("%s: a growth from %d to %d is taken for the root %d", name, from, to, second)
			}
		}
	}
	for from, to := range growthsIn {
		n := int(growthLengths[to][from-1])
		for _, bad := range noSums {
			check("root", from, to, bad, strewn(n, 3))
		}
		for n := 1; n <= 6; n++ {
			for place := range n {
				path := strewn(n, 4)
				path[place] = noSums[(int(from)+place)%len(noSums)]
				check("path", from, to, 7, path)
			}
		}
	}
}

// Each of the things is right or wrong, in all ways together: the first code that is so is told.
func TestGrowthCodesStandInTheirOrder(t *testing.T) {
	right := impl.GrowResult{Old: risingRoots[3], New: risingRoots[7]}
	for wrong := range 64 {
		from, to, root, path := int64(3), int64(7), risingRoots[3], []int64{3, 4, 37723, 20081}
		want := impl.GrowResult{}
		if wrong&1 != 0 {
			path, want.Code = append(path, 3), impl.ErrProof
		}
		if wrong&2 != 0 {
			path[len(path)-1], want.Code = 65521, impl.ErrRange
		}
		if wrong&4 != 0 {
			path, want.Code = append(path, 1, 2, 3), impl.ErrMany
		}
		if wrong&8 != 0 {
			root, want.Code = -1, impl.ErrRange
		}
		if wrong&16 != 0 {
			from, want.Code = 8, impl.ErrRange
		}
		if wrong&32 != 0 {
			to, want.Code = 25, impl.ErrRange
		}
		if want.Code == impl.OK {
			want = right
		}
		if got := impl.GrowRoots(from, to, root, path); got != want {
			t.Errorf("GrowRoots(%d, %d, %d, %v) is %+v, not %+v", from, to, root, path, got, want)
		}
		if impl.AcceptGrowth(from, root, to, right.New, path) != (want == right) {
			t.Errorf("AcceptGrowth(%d, %d, %d, %d, %v) is not %v", from, root, to, right.New, path, want == right)
		}
	}
}

// What is taken is just what comes to both roots, whatever else is turned.
func TestGrowthsAreTakenByBothRootsAlone(t *testing.T) {
	taken, refused := 0, 0
	check := func(name string, from int64, first int64, to int64, second int64, path []int64) {
		t.Helper()
		want := toldGrowResult(from, to, first, path) == impl.GrowResult{Old: first, New: second}
		if impl.AcceptGrowth(from, first, to, second, path) != want {
			t.Fatalf("%s: AcceptGrowth(%d, %d, %d, %d, %v) is not %v", name, from, first, to, second, path, want)
		}
		if want {
			taken++
		} else {
			refused++
		}
	}
	for from, to := range growthsIn {
		leaves := strewn(int(to), 31)
		first, second, path := toldRoot(leaves[:from]), toldRoot(leaves), toldGrowth(leaves, from, true)
		check("as it is", from, first, to, second, path)
		for _, other := range slices.Concat(someSums, noSums, []int64{first, second, first - 1, first + 1, second - 1, second + 1, second + leastPastSum, first - leastPastSum}) {
			check("first", from, other, to, second, path)
			check("second", from, first, to, other, path)
			check("both", from, other, to, other, path)
		}
		check("turned round", from, second, to, first, path)
		for other := int64(-1); other <= 26; other++ {
			check("from", other, first, to, second, path)
			check("to", from, first, other, second, path)
		}
		for place := range path {
			for _, sum := range slices.Concat(someSums, []int64{-1, 65521, (path[place] + 1) % leastPastSum}) {
				other := slices.Clone(path)
				other[place] = sum
				check("path", from, first, to, second, other)
			}
			check("a path of one less", from, first, to, second, slices.Delete(slices.Clone(path), place, place+1))
		}
		check("a path of one more", from, first, to, second, append(slices.Clone(path), 0))
		check("a path of one more, ahead", from, first, to, second, append([]int64{first}, path...))
	}
	if taken < 300 || refused < 300 {
		t.Fatalf("%d taken, %d refused: this tells nothing", taken, refused)
	}
}

// By two growths one behind the other a log goes on as by one.
func TestGrowthsGoOnFromEachOther(t *testing.T) {
	leaves := strewn(24, 5)
	root := func(n int64) int64 { return impl.RootOf(leaves[:n]).Value }
	for middle, to := range growthsIn {
		onward := impl.GrowthOf(leaves[:to], middle).List
		for from := int64(1); from <= middle; from++ {
			path := impl.GrowthOf(leaves[:middle], from).List
			if !impl.AcceptGrowth(from, root(from), middle, root(middle), path) || !impl.AcceptGrowth(middle, root(middle), to, root(to), onward) {
				t.Fatalf("from %d over %d to %d it does not go on", from, middle, to)
			}
		}
	}
}

func TestGrowthsLeaveTheirArgumentsAsTheyAre(t *testing.T) {
	for _, list := range wildLists() {
		given, kept := handed(list)
		for size := int64(-1); size <= min(int64(len(given))+1, 26); size++ {
			changesNothing(t, kept, namedCall{"GrowthOf", func() { impl.GrowthOf(given, size) }})
		}
		for from, to := range growthsIn {
			changesNothing(t, kept,
				namedCall{"GrowRoots", func() { impl.GrowRoots(from, to, 7, given) }},
				namedCall{"AcceptGrowth", func() { impl.AcceptGrowth(from, 7, to, 9, given) }})
		}
	}
}

func TestGrowthsAreMemoryOfTheirOwn(t *testing.T) {
	for from, to := range growthsIn {
		leaves := strewn(int(to), 5)
		ownMemory(t, "GrowthOf", leaves, toldGrowth(leaves, from, true), func(leaves []int64) []int64 { return impl.GrowthOf(leaves, from).List })
	}
}

// growAnswers asks all functions of the chapter at arguments in bounds and out of them; what it tells is one row an answer.
func growAnswers() []string {
	var rows []string
	tell := func(numbers ...int64) { rows = append(rows, rowOf(numbers...)) }
	numbers := slices.Concat(wildNumbers, []int64{5, 23, 24, 25, 65520, 65521})
	for i, list := range wildLists() {
		for j, from := range numbers {
			to := numbers[(i+j)%len(numbers)]
			steps, path := impl.StepsOf(from, to), impl.GrowthOf(list, from)
			tell(append(path.List, path.Code, steps.Code, steps.Value)...)
			for _, by := range [][]int64{list, path.List} {
				both := impl.GrowRoots(from, to, numbers[(i*j)%len(numbers)], by)
				tell(both.Code, both.Old, both.New)
				if impl.AcceptGrowth(from, both.Old, to, both.New, by) {
					tell(from, to)
				}
			}
		}
	}
	return rows
}

func TestGrowthsHangOnTheirArgumentsAlone(t *testing.T) { answeredAlike(t, growAnswers) }

// An empty list and nil are one, and what a list could still grow to makes no difference.
func TestEmptyGrowthsAndNilAreOne(t *testing.T) {
	for _, empty := range [][]int64{nil, {}, make([]int64, 0, 40)} {
		for size := int64(-1); size <= 2; size++ {
			if got := impl.GrowthOf(empty, size); got.Code != impl.ErrRange || len(got.List) != 0 {
				t.Errorf("the growth of %d in no leaves is %+v", size, got)
			}
		}
		if impl.GrowRoots(7, 7, 5, empty) != (impl.GrowResult{Old: 5, New: 5}) || impl.GrowRoots(3, 7, 5, empty) != (impl.GrowResult{Code: impl.ErrProof}) {
			t.Error("an empty path and nil are two")
		}
		if !impl.AcceptGrowth(7, 5, 7, 5, empty) || impl.AcceptGrowth(7, 5, 7, 6, empty) || impl.AcceptGrowth(1, 5, 2, 5, empty) {
			t.Error("an empty path and nil are taken in two ways")
		}
	}
	roomy := append(make([]int64, 0, 400), 5, 7, 9)
	if got := impl.GrowthOf(roomy, 2); got.Code != impl.OK || !slices.Equal(got.List, []int64{9}) {
		t.Errorf("the room behind the leaves is told with them: %+v", got)
	}
	if impl.GrowRoots(1, 3, 7, roomy[:2]) != impl.GrowRoots(1, 3, 7, []int64{5, 7}) {
		t.Error("the room behind a path is told with it")
	}
}
