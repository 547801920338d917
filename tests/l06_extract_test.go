package tests

import (
	"bytes"
	"iter"
	"math"
	"slices"
	"testing"

	"loop.example/g00565/impl"
)

// The signatures of chapter 6: other ones do not compile.
var (
	_ func([][]byte, int64, []byte, []int64) impl.ClashResult = impl.LeafClash
	_ func([]int64, []int64, []int64) impl.ClashResult        = impl.GrowClash
	_ func([]int64, []int64) impl.ClashResult                 = impl.TreeClash
	_ func([][]byte) int64                                    = impl.PiecesFault
	_ func([][]byte) impl.IntsResult                          = impl.PieceSums
	_ func([][]byte, [][]byte) impl.ClashResult               = impl.PieceClash
)

// toldLook looks for a clash in two pieces with no help of the program.
func toldLook(a []byte, b []byte) impl.Clash {
	if bytes.Equal(a, b) || closedSum(a) != closedSum(b) {
		return impl.Clash{}
	}
	return impl.Clash{Found: true, A: a, B: b}
}

// firstOf asks one look behind the other, and ends with the first that has a clash.
func firstOf(looks ...func() impl.Clash) impl.Clash {
	for _, look := range looks {
		if c := look(); c.Found {
			return c
		}
	}
	return impl.Clash{}
}

func leafPiece(data []byte) []byte { return append([]byte{0}, data...) }

func nodePiece(a int64, b int64) []byte {
	return []byte{1, byte(a / 256), byte(a % 256), byte(b / 256), byte(b % 256)}
}

// partsPiece is what is summed for the root of two leaves or more.
func partsPiece(leaves []int64) []byte {
	k := splits[len(leaves)]
	return nodePiece(toldRoot(leaves[:k]), toldRoot(leaves[k:]))
}

// toldTreeClash, toldLeafClash and toldGrowClash go from the root on, as the document tells it, with no help of the program.
func toldTreeClash(a []int64, b []int64) impl.Clash {
	if len(a) == 1 {
		return impl.Clash{}
	}
	k := splits[len(a)]
	return firstOf(
		func() impl.Clash { return toldLook(partsPiece(a), partsPiece(b)) },
		func() impl.Clash { return toldTreeClash(a[:k], b[:k]) },
		func() impl.Clash { return toldTreeClash(a[k:], b[k:]) })
}

func toldLeafClash(leaf int64, at int64, path []int64, leaves []int64) impl.Clash {
	if len(leaves) == 1 {
		return impl.Clash{}
	}
	size, last := int64(len(leaves)), len(path)-1
	k, rest := splits[size], path[:last]
	if at < k {
		return firstOf(
			func() impl.Clash {
				return toldLook(nodePiece(toldClimb(leaf, at, k, rest), path[last]), partsPiece(leaves))
			},
			func() impl.Clash { return toldLeafClash(leaf, at, rest, leaves[:k]) })
	}
	return firstOf(
		func() impl.Clash {
			return toldLook(nodePiece(path[last], toldClimb(leaf, at-k, size-k, rest)), partsPiece(leaves))
		},
		func() impl.Clash { return toldLeafClash(leaf, at-k, rest, leaves[k:]) })
}

func toldGrowClash(old []int64, all []int64, whole bool, root int64, path []int64) impl.Clash {
	from, to := int64(len(old)), int64(len(all))
	if from == to {
		return toldTreeClash(old, all)
	}
	k, last := splits[to], len(path)-1
	rest, beside := path[:last], path[last]
	if from <= k {
		_, grown := toldGrowRoots(from, k, whole, root, rest)
		return firstOf(
			func() impl.Clash { return toldLook(nodePiece(grown, beside), partsPiece(all)) },
			func() impl.Clash { return toldGrowClash(old, all[:k], whole, root, rest) })
	}
	was, grown := toldGrowRoots(from-k, to-k, false, root, rest)
	ofOld := nodePiece(toldRoot(old[:k]), toldRoot(old[k:]))
	return firstOf(
		func() impl.Clash { return toldLook(nodePiece(beside, was), ofOld) },
		func() impl.Clash { return toldLook(nodePiece(beside, grown), partsPiece(all)) },
		func() impl.Clash { return toldTreeClash(old[:k], all[:k]) },
		func() impl.Clash { return toldGrowClash(old[k:], all[k:], false, root, rest) })
}

// weightOf tells what a side comes to in the sum of a node: sides of one weight are of one sum, and there are far more sides than weights.
func weightOf(side int64) int64 { return side/256*137 + side%256 }

const (
	firstWeight    = 137 * 137
	perFirstWeight = 28053 // times firstWeight it leaves 1
)

// sideOf tells a side of that weight; false: there is none.
func sideOf(weight int64) (int64, bool) {
	high := min(weight/137, 255)
	low := weight - high*137
	side := high*256 + low
	return side, low <= 255 && side <= 65520
}

// twinOf tells another side of the same weight; false: it has none beside it.
func twinOf(side int64) (int64, bool) {
	switch high, low := side/256, side%256; {
	case low >= 137 && side+119 <= 65520:
		return side + 119, true
	case low <= 118 && high > 0:
		return side - 119, true
	}
	return 0, false
}

// twinPaths goes through the places of a path that has another sum of the same weight there, and that path: what comes of it is the same.
func twinPaths(path []int64) iter.Seq2[int, []int64] {
	return func(yield func(int, []int64) bool) {
		for place, sum := range path {
			other := slices.Clone(path)
			twin, ok := twinOf(sum)
			other[place] = twin
			if ok && !yield(place, other) {
				return
			}
		}
	}
}

// besideOf tells what makes, behind own (isFirst) or ahead of it, a node of that sum; false: nothing does.
func besideOf(sum int64, own int64, isFirst bool) (int64, bool) {
	if isFirst {
		return sideOf((sum - nodeOf(own, 0) + leastPastSum) % leastPastSum)
	}
	return sideOf((sum - nodeOf(0, own) + leastPastSum) % leastPastSum * perFirstWeight % leastPastSum)
}

// leavesOf tells n leaves of that root, others with each turn.
func leavesOf(root int64, n int64, turn int) []int64 {
	if n == 1 {
		return []int64{root}
	}
	for k := splits[n]; ; turn++ {
		first := strewn(int(k), turn)
		if others, ok := besideOf(root, toldRoot(first), true); ok {
			return append(first, leavesOf(others, n-k, turn+1)...)
		}
	}
}

// A span is a part of a log that has a node of its own: the leaves from from on, less than to.
type span struct{ from, to int64 }

func (s span) of(leaves []int64) []int64 { return leaves[s.from:s.to] }

// spansOf has each node of n leaves in it, as they are met from the root on: a node, its first part, the others.
func spansOf(n int64) []span {
	var list []span
	var walk func(from int64, to int64)
	walk = func(from int64, to int64) {
		if to-from < 2 {
			return
		}
		k := from + splits[to-from]
		list = append(list, span{from, to})
		walk(from, k)
		walk(k, to)
	}
	walk(0, n)
	return list
}

// turned tells other leaves in a span, of the same root: what is summed for it is no more the same.
func turned(leaves []int64, s span, turn int) []int64 {
	root, was := toldRoot(s.of(leaves)), partsPiece(s.of(leaves))
	for ; ; turn++ {
		if others := leavesOf(root, s.to-s.from, turn); !bytes.Equal(partsPiece(others), was) {
			return slices.Concat(leaves[:s.from], others, leaves[s.to:])
		}
	}
}

func TestLogsThatAreTurnedKeepTheirRoot(t *testing.T) {
	if firstWeight*perFirstWeight%leastPastSum != 1 {
		t.Fatal("the weights are not told as they should be")
	}
	for _, a := range someSums {
		for _, b := range someSums {
			if want := (nodeOf(0, 0) + weightOf(a)*firstWeight + weightOf(b)) % leastPastSum; nodeOf(a, b) != want {
				t.Fatalf("the node of %d and %d is not told by its weights", a, b)
			}
		}
		if twin, ok := twinOf(a); ok && (twin == a || weightOf(twin) != weightOf(a)) {
			t.Fatalf("%d is no twin of %d", twin, a)
		}
	}
	for n := int64(2); n <= 24; n++ {
		leaves := strewn(int(n), 8)
		for _, s := range spansOf(n) {
			if other := turned(leaves, s, 1); toldRoot(other) != toldRoot(leaves) || slices.Equal(other, leaves) || slices.Max(other) > 65520 || slices.Min(other) < 0 {
				t.Fatalf("%v is not %v turned at %v", other, leaves, s)
			}
		}
	}
}

// answersClash holds an answer against the clash that is asked for; the zero value: there is none.
func answersClash(t *testing.T, name string, got impl.ClashResult, want impl.Clash) {
	t.Helper()
	if got.Code != impl.OK || got.Clash.Found != want.Found || !bytes.Equal(got.Clash.A, want.A) || !bytes.Equal(got.Clash.B, want.B) {
		t.Fatalf("%s: it is %+v, not %+v", name, got, want)
	}
	if impl.IsClash(got.Clash) != got.Clash.Found {
		t.Fatalf("%s: %+v is no clash", name, got.Clash)
	}
}

// answersCode holds an answer against a code: nothing stands beside it.
func answersCode(t *testing.T, name string, got impl.ClashResult, want int64) {
	t.Helper()
	if got.Code != want || got.Clash.Found || len(got.Clash.A) != 0 || len(got.Clash.B) != 0 {
		t.Errorf("%s: it is %+v, asked is the code %d", name, got, want)
	}
}

func clashOf(a []byte, b []byte) impl.Clash { return impl.Clash{Found: true, A: a, B: b} }

func swapped(c impl.Clash) impl.Clash { return impl.Clash{Found: c.Found, A: c.B, B: c.A} }

func TestTreeClashesThatAreKnown(t *testing.T) {
	var none impl.Clash
	cases := []struct {
		name string
		a, b []int64
		want impl.Clash
	}{
		{"one leaf", []int64{7}, []int64{7}, none},
		{"one leaf, the least", []int64{0}, []int64{0}, none},
		{"one leaf, the greatest", []int64{65520}, []int64{65520}, none},
		{"two leaves, the bounds", []int64{0, 65520}, []int64{0, 65520}, none},
		{"the first of two", []int64{1480, 7}, []int64{1599, 7}, clashOf([]byte{1, 5, 200, 0, 7}, []byte{1, 6, 63, 0, 7})},
		{"the other of two", []int64{7, 1480}, []int64{7, 1599}, clashOf([]byte{1, 0, 7, 5, 200}, []byte{1, 0, 7, 6, 63})},
		{"both of two", []int64{0, 137*256 + 5}, []int64{1, 5}, clashOf([]byte{1, 0, 0, 137, 5}, []byte{1, 0, 1, 0, 5})},
		{"both of two, with 0", []int64{256, 0}, []int64{137, 0}, clashOf([]byte{1, 1, 0, 0, 0}, []byte{1, 0, 137, 0, 0})},
		{"the first part of three", []int64{1480, 7, 9}, []int64{1599, 7, 9}, clashOf([]byte{1, 5, 200, 0, 7}, []byte{1, 6, 63, 0, 7})},
		{"the root of three", []int64{1, 2, 1480}, []int64{1, 2, 1599}, clashOf([]byte{1, 147, 91, 5, 200}, []byte{1, 147, 91, 6, 63})},
		{"the root of three, and below it", []int64{1480, 7, 1480}, []int64{1599, 7, 1599}, clashOf(nodePiece(nodeOf(1480, 7), 1480), nodePiece(nodeOf(1480, 7), 1599))},
		{"the others of four", []int64{9, 8, 7, 1480}, []int64{9, 8, 7, 1599}, clashOf([]byte{1, 0, 7, 5, 200}, []byte{1, 0, 7, 6, 63})},
		{"both parts of four", []int64{1480, 7, 1480, 9}, []int64{1599, 7, 1599, 9}, clashOf([]byte{1, 5, 200, 0, 7}, []byte{1, 6, 63, 0, 7})},
		{"the root of five", rising(5), []int64{51992, 37605, 53867, 5280, 46874}, clashOf([]byte{1, 104, 223, 0, 5}, []byte{1, 5, 13, 183, 26})},
		{"the first part of five", rising(5), []int64{2413, 29, 38435, 30029, 5}, clashOf([]byte{1, 147, 91, 38, 14}, []byte{1, 183, 67, 68, 178})},
		{"the others of that", rising(5), []int64{1, 2, 48158, 31620, 5}, clashOf([]byte{1, 0, 3, 0, 4}, []byte{1, 188, 30, 123, 132})},
		{"the others of seven", rising(7), []int64{1, 2, 3, 4, 1434, 17871, 9595}, clashOf([]byte{1, 184, 178, 0, 7}, []byte{1, 198, 75, 37, 123})},
		{"the first part of these", rising(7), []int64{1, 2, 3, 4, 52554, 8134, 7}, clashOf([]byte{1, 0, 5, 0, 6}, []byte{1, 205, 74, 31, 198})},
		{"two of seven", rising(7), []int64{59675, 65177, 3, 4, 57180, 61999, 7}, clashOf([]byte{1, 0, 1, 0, 2}, []byte{1, 233, 27, 254, 153})},
		{"the first one lies deeper", rising(7), []int64{1, 2, 43443, 27579, 12647, 36924, 33553}, clashOf([]byte{1, 0, 3, 0, 4}, []byte{1, 169, 179, 107, 187})},
		{"eleven", rising(11), []int64{1, 2, 3, 4, 5, 6, 7, 8, 27833, 18798, 11}, clashOf([]byte{1, 0, 9, 0, 10}, []byte{1, 108, 185, 73, 110})},
	}
	for _, c := range cases {
		answersClash(t, c.name, impl.TreeClash(c.a, c.b), c.want)
		answersClash(t, c.name+", turned round", impl.TreeClash(c.b, c.a), swapped(c.want))
		answersClash(t, c.name+", with itself", impl.TreeClash(c.a, slices.Clone(c.a)), none)
	}
}

// Each node of each size is the one in which two logs are not the same.
func TestTwoLogsOfOneRootClashWhereTheyPart(t *testing.T) {
	for n := int64(2); n <= 24; n++ {
		a := strewn(int(n), int(n))
		for i, s := range spansOf(n) {
			b := turned(a, s, i)
			want := clashOf(partsPiece(s.of(a)), partsPiece(s.of(b)))
			answersClash(t, "TreeClash", impl.TreeClash(a, b), want)
			answersClash(t, "TreeClash, turned round", impl.TreeClash(b, a), swapped(want))
		}
	}
}

// Where two nodes are not the same, the one that is met first from the root on is told.
func TestTheFirstOfTwoClashesIsTold(t *testing.T) {
	for _, n := range []int64{3, 4, 6, 7, 11, 16, 17, 24} {
		a, spans := strewn(int(n), 50+int(n)), spansOf(n)
		for i, s := range spans {
			for _, other := range spans[i+1:] {
				b := turned(turned(a, s, i), other, i+1)
				answersClash(t, "TreeClash", impl.TreeClash(a, b), clashOf(partsPiece(s.of(a)), partsPiece(s.of(b))))
			}
		}
	}
}

// Any two logs of one root and one size: they are the same, or there are two pieces of one sum.
func TestTwoLogsOfOneRootAreTheSame(t *testing.T) {
	for n := int64(1); n <= 24; n++ {
		for turn, root := range someSums {
			a, b := leavesOf(root, n, turn), leavesOf(root, n, 7*turn+40)
			got := impl.TreeClash(a, b)
			answersClash(t, "TreeClash", got, toldTreeClash(a, b))
			if got.Clash.Found == slices.Equal(a, b) {
				t.Fatalf("TreeClash(%v, %v) is %+v", a, b, got)
			}
		}
	}
	for _, leaves := range someLeaves() {
		if len(leaves) > 0 {
			answersClash(t, "the same", impl.TreeClash(leaves, slices.Clone(leaves)), impl.Clash{})
			answersClash(t, "one and the same", impl.TreeClash(leaves, leaves), impl.Clash{})
		}
	}
}

// Logs that are not the same need no clash where their roots are not the same either.
func TestTwoLogsOfTwoRootsHaveNoClash(t *testing.T) {
	for size, at := range placesIn {
		a := strewn(int(size), 6)
		b := slices.Clone(a)
		b[at] = (b[at] + 1) % leastPastSum
		want := int64(impl.ErrProof)
		if toldRoot(a) == toldRoot(b) {
			want = impl.OK
		}
		if got := impl.TreeClash(a, b); got.Code != want {
			t.Errorf("TreeClash(%v, %v) is %+v, asked is the code %d", a, b, got, want)
		}
	}
}

// wrongLeaves has by their code lists of leaves that have a fault.
func wrongLeaves() map[int64][][]int64 {
	lists := map[int64][][]int64{
		impl.ErrMany:  {rising(25), repeat(-1, 25), repeat(65521, 26), strewn(5000, 1)},
		impl.ErrRange: {{-1}, {65521}, repeat(65521, 24), append(rising(23), -1)},
	}
	for _, bad := range noSums {
		lists[impl.ErrRange] = append(lists[impl.ErrRange], []int64{5, bad, 7})
	}
	return lists
}

func TestTreeClashCodes(t *testing.T) {
	right := [][]int64{nil, {}, {7}, {5, 7, 9}, rising(24)}
	for code, lists := range wrongLeaves() {
		for _, wrong := range lists {
			for _, other := range right {
				answersCode(t, "a", impl.TreeClash(wrong, other), code)
				answersCode(t, "b", impl.TreeClash(other, wrong), code)
			}
			answersCode(t, "a with itself", impl.TreeClash(wrong, wrong), code)
			for _, others := range wrongLeaves() {
				for _, other := range others {
					answersCode(t, "a ahead of b", impl.TreeClash(wrong, other), code)
				}
			}
		}
	}
	for _, a := range right {
		for _, b := range right {
			if len(a) != len(b) || len(a) == 0 {
				answersCode(t, "not as many, or none", impl.TreeClash(a, b), impl.ErrForm)
			}
		}
	}
	// The root of none is 11: a leaf of that sum is not none.
	answersCode(t, "none and 11", impl.TreeClash(nil, []int64{11}), impl.ErrForm)
	// The root of two is a leaf: they are not as many.
	answersCode(t, "a root as a leaf", impl.TreeClash([]int64{1, 2}, []int64{risingRoots[2]}), impl.ErrForm)
	answersCode(t, "a root as a leaf of three", impl.TreeClash(rising(4), []int64{risingRoots[2], 9742}), impl.ErrForm)
	answersCode(t, "two roots", impl.TreeClash([]int64{1480, 7}, []int64{1600, 7}), impl.ErrProof)
	answersCode(t, "one leaf, two roots", impl.TreeClash([]int64{1480}, []int64{1599}), impl.ErrProof)
	answersCode(t, "a clash in the first part, two roots", impl.TreeClash([]int64{1480, 7, 9}, []int64{1599, 7, 10}), impl.ErrProof)
	answersCode(t, "turned round", impl.TreeClash(rising(3), []int64{3, 2, 1}), impl.ErrProof)
}

func TestPieces(t *testing.T) {
	check := func(name string, list [][]byte, want int64) {
		t.Helper()
		if got := impl.PiecesFault(list); got != want {
			t.Errorf("%s: PiecesFault is %d, not %d", name, got, want)
		}
		var sums []int64
		if want == impl.OK {
			sums = sumsOf(list)
		}
		if got := impl.PieceSums(list); got.Code != want || !slices.Equal(got.List, sums) {
			t.Errorf("%s: PieceSums is %+v, not %v with the code %d", name, got, sums, want)
		}
	}
	check("nil", nil, impl.OK)
	check("none", [][]byte{}, impl.OK)
	check("one that is nil", [][]byte{nil}, impl.OK)
	check("one of 0 bytes", [][]byte{{}}, impl.OK)
	check("one of 250 bytes", [][]byte{mixed(250, 1)}, impl.OK)
	check("one of 251 bytes", [][]byte{mixed(251, 1)}, impl.ErrMany)
	check("one of 300 bytes", [][]byte{mixed(300, 1)}, impl.ErrMany)
	check("one of 301 bytes", [][]byte{mixed(301, 1)}, impl.ErrMany)
	check("one of 5000 bytes", [][]byte{mixed(5000, 1)}, impl.ErrMany)
	for n := range 25 {
		check("pieces", piecesOf(n), impl.OK)
		check("as many that are nil", make([][]byte, n), impl.OK)
	}
	for _, n := range []int{25, 26, 5000} {
		check("too many", make([][]byte, n), impl.ErrMany)
		check("too many, too long", slices.Repeat([][]byte{mixed(251, 1)}, n), impl.ErrMany)
	}
	check("24 of 250 bytes", slices.Repeat([][]byte{mixed(250, 9)}, 24), impl.OK)
	for size, at := range placesIn {
		list := piecesOf(int(size))
		list[at] = mixed(251, 2)
		check("one of them is too long", list, impl.ErrMany)
		list[at] = mixed(250, 2)
		check("one of them is as long as it may be", list, impl.OK)
	}
	if got := impl.PieceSums([][]byte{{1}, {5, 200}, nil, []byte("a")}); got.Code != impl.OK || !slices.Equal(got.List, []int64{10035, 65124, 1508, 10131}) {
		t.Errorf("the sums that are known are %+v", got)
	}
}

// twinPiece tells another piece of the same sum; it needs two bytes, of which the last but one can go up and the last one down, or the other way round.
func twinPiece(piece []byte) []byte {
	twin := slices.Clone(piece)
	if n := len(twin); twin[n-1] >= 137 {
		twin[n-2]++
		twin[n-1] -= 137
	} else {
		twin[n-2]--
		twin[n-1] += 137
	}
	return twin
}

// plainPieces tells n pieces each of which has a twin.
func plainPieces(n int) [][]byte {
	list := make([][]byte, n)
	for i := range list {
		list[i] = append(mixed(i*10%230, i), byte(i+1), byte(i*3))
	}
	return list
}

// pieceOfSum tells a piece of that LeafSum, others with each turn.
func pieceOfSum(sum int64, turn int) []byte {
	for ; ; turn++ {
		begin := []byte{byte(turn * 37), byte(turn / 7)}
		rest := (sum - closedSum(append(leafPiece(begin), 0, 0)) + leastPastSum) % leastPastSum
		high := min(rest/137, 255)
		if low := rest - high*137; low <= 255 {
			return append(begin, byte(high), byte(low))
		}
	}
}

func piecesOfSums(sums []int64, turn int) [][]byte {
	list := make([][]byte, len(sums))
	for i, sum := range sums {
		list[i] = pieceOfSum(sum, turn+i)
	}
	return list
}

func TestPieceClashesThatAreKnown(t *testing.T) {
	var none impl.Clash
	pair := clashOf([]byte{0, 5, 200}, []byte{0, 6, 63})
	cases := []struct {
		name string
		a, b [][]byte
		want impl.Clash
	}{
		{"one, the same", [][]byte{{1}}, [][]byte{{1}}, none},
		{"one of 0 bytes, empty and nil", [][]byte{{}}, [][]byte{nil}, none},
		{"one", [][]byte{{5, 200}}, [][]byte{{6, 63}}, pair},
		{"one of 0 bytes", [][]byte{nil}, [][]byte{{19, 187}}, clashOf([]byte{0}, []byte{0, 19, 187})},
		{"the first", [][]byte{{5, 200}, {2}, {3}}, [][]byte{{6, 63}, {2}, {3}}, pair},
		{"the middle one", [][]byte{{1}, {5, 200}, {3}}, [][]byte{{1}, {6, 63}, {3}}, pair},
		{"the last", [][]byte{{1}, {2}, {5, 200}}, [][]byte{{1}, {2}, {6, 63}}, pair},
		{"two: the first is told", [][]byte{{1}, {5, 200}, {5, 201}}, [][]byte{{1}, {6, 63}, {6, 64}}, pair},
		{"of 250 bytes", [][]byte{append(mixed(248, 3), 5, 200)}, [][]byte{append(mixed(248, 3), 6, 63)}, clashOf(leafPiece(append(mixed(248, 3), 5, 200)), leafPiece(append(mixed(248, 3), 6, 63)))},
	}
	for _, c := range cases {
		answersClash(t, c.name, impl.PieceClash(c.a, c.b), c.want)
		answersClash(t, c.name+", turned round", impl.PieceClash(c.b, c.a), swapped(c.want))
		answersClash(t, c.name+", with itself", impl.PieceClash(c.a, slices.Clone(c.a)), none)
	}
}

func TestPiecesOfOneSumClash(t *testing.T) {
	for size, at := range placesIn {
		a := plainPieces(int(size))
		b := slices.Clone(a)
		answersClash(t, "the same pieces", impl.PieceClash(a, b), impl.Clash{})
		for last := at; last < size; last += 5 {
			// From at on: the first one is told.
			b[last] = twinPiece(a[last])
			answersClash(t, "PieceClash", impl.PieceClash(a, b), clashOf(leafPiece(a[at]), leafPiece(b[at])))
		}
	}
}

// What is above the leaves is looked at ahead of all pieces.
func TestPiecesClashInTheirTreeFirst(t *testing.T) {
	for n := int64(2); n <= 24; n++ {
		a := plainPieces(int(n))
		sums := sumsOf(a)
		for i, s := range spansOf(n) {
			others := turned(sums, s, i)
			b := slices.Concat(a[:s.from], piecesOfSums(s.of(others), i), a[s.to:])
			want := clashOf(partsPiece(s.of(sums)), partsPiece(s.of(others)))
			answersClash(t, "a node", impl.PieceClash(a, b), want)
			if s.from > 0 {
				b[0] = twinPiece(a[0])
				answersClash(t, "a node, and a piece ahead of it", impl.PieceClash(a, b), want)
			}
		}
	}
}

func TestPieceClashCodes(t *testing.T) {
	wrong := [][][]byte{{mixed(251, 1)}, make([][]byte, 25), append(piecesOf(3), mixed(251, 2)), slices.Repeat([][]byte{mixed(300, 1)}, 30)}
	right := [][][]byte{nil, {}, {nil}, {{1}}, piecesOf(3), piecesOf(24)}
	for _, list := range wrong {
		for _, other := range append(right, wrong...) {
			answersCode(t, "a", impl.PieceClash(list, other), impl.ErrMany)
			answersCode(t, "b", impl.PieceClash(other, list), impl.ErrMany)
		}
	}
	for _, a := range right {
		for _, b := range right {
			switch {
			case len(a) != len(b) || len(a) == 0:
				answersCode(t, "not as many, or none", impl.PieceClash(a, b), impl.ErrForm)
			case !slices.Equal(sumsOf(a), sumsOf(b)):
				answersCode(t, "two roots", impl.PieceClash(a, b), impl.ErrProof)
			}
		}
	}
	answersCode(t, "a clash, but two roots", impl.PieceClash([][]byte{{5, 200}, {1}}, [][]byte{{6, 63}, {2}}), impl.ErrProof)
	answersCode(t, "a clash, but not as many", impl.PieceClash([][]byte{{5, 200}, {1}}, [][]byte{{6, 63}}), impl.ErrForm)
	answersCode(t, "the last one is too long, and they are not as many", impl.PieceClash([][]byte{{5, 200}}, [][]byte{{6, 63}, mixed(251, 1)}), impl.ErrMany)
}

func TestLeafClashesThatAreKnown(t *testing.T) {
	// Of the sums 10035, 65124 and 10037; what is summed for their root, and for that of the first two.
	list := [][]byte{{1}, {5, 200}, {3}}
	root, first := []byte{1, 249, 147, 39, 53}, []byte{1, 39, 51, 254, 100}
	var none impl.Clash
	cases := []struct {
		name string
		at   int64
		data []byte
		path []int64
		want impl.Clash
	}{
		{"the first as it is", 0, []byte{1}, []int64{65124, 10037}, none},
		{"the second as it is", 1, []byte{5, 200}, []int64{10035, 10037}, none},
		{"the last as it is", 2, []byte{3}, []int64{63891}, none},
		{"at the leaf", 1, []byte{6, 63}, []int64{10035, 10037}, clashOf([]byte{0, 6, 63}, []byte{0, 5, 200})},
		{"at the root, from the first", 0, []byte{9}, []int64{7, 22728}, clashOf([]byte{1, 187, 238, 88, 200}, root)},
		{"at the root, from the second", 1, []byte{9}, []int64{8, 58288}, clashOf([]byte{1, 169, 200, 227, 176}, root)},
		{"at the root, from the last", 2, []byte{10}, []int64{64202}, clashOf([]byte{1, 250, 202, 39, 60}, root)},
		{"below it, from the first", 0, []byte{9}, []int64{29354, 10037}, clashOf([]byte{1, 39, 59, 114, 170}, first)},
		{"below it, from the second", 1, []byte{10}, []int64{54907, 10037}, clashOf([]byte{1, 214, 123, 39, 60}, first)},
		{"the other side alone", 0, []byte{1}, []int64{65124, 10037 - 53 - 256 + 190}, clashOf([]byte{1, 249, 147, 38, 190}, root)},
		{"the other side alone, below", 0, []byte{1}, []int64{65124 - 100 - 256 + 237, 10037}, clashOf([]byte{1, 39, 51, 253, 237}, first)},
	}
	for _, c := range cases {
		answersClash(t, c.name, impl.LeafClash(list, c.at, c.data, c.path), c.want)
	}
	answersClash(t, "of one, as it is", impl.LeafClash([][]byte{{5, 200}}, 0, []byte{5, 200}, nil), none)
	answersClash(t, "of one", impl.LeafClash([][]byte{{5, 200}}, 0, []byte{6, 63}, nil), clashOf([]byte{0, 6, 63}, []byte{0, 5, 200}))
	answersClash(t, "of one, of 0 bytes", impl.LeafClash([][]byte{nil}, 0, []byte{19, 187}, nil), clashOf([]byte{0, 19, 187}, []byte{0}))
	answersClash(t, "of one, of no data", impl.LeafClash([][]byte{{19, 187}}, 0, nil, nil), clashOf([]byte{0}, []byte{0, 19, 187}))
}

// wayTo has the nodes above a place in it, from the root on.
func wayTo(n int64, at int64) []span {
	return slices.DeleteFunc(spansOf(n), func(s span) bool { return at < s.from || at >= s.to })
}

// forgedPath leads from a leaf that is not there up to the node of a span, and from there on as the true path does;
// node is what is summed there by it, and is not what there is; false: it leads to no such node.
func forgedPath(leaf int64, at int64, s span, leaves []int64, turn int) (path []int64, node []byte, ok bool) {
	within := s.of(leaves)
	place, size := at-s.from, s.to-s.from
	k := splits[size]
	isFirst := place < k
	part := k
	if !isFirst {
		place, part = place-k, size-k
	}
	low := strewn(toldSteps(place, part), turn)
	own := toldClimb(leaf, place, part, low)
	beside, ok := besideOf(toldRoot(within), own, isFirst)
	node = nodePiece(own, beside)
	if !isFirst {
		node = nodePiece(beside, own)
	}
	above := toldPath(leaves, at)[toldSteps(at-s.from, size):]
	return slices.Concat(low, []int64{beside}, above), node, ok && !bytes.Equal(node, partsPiece(within))
}

// Each node on the way to each place of each size is the one in which a proof and what there is are not the same.
func TestALeafThatIsTakenClashesWhereItsPathParts(t *testing.T) {
	for size, at := range placesIn {
		list := plainPieces(int(size))
		sums := sumsOf(list)
		for depth, s := range wayTo(size, at) {
			for met, turn := 0, depth; met < 2; turn++ {
				data := mixed(turn%9, turn)
				path, node, ok := forgedPath(sumsOf([][]byte{data})[0], at, s, sums, turn)
				if !ok {
					continue
				}
				met++
				answersClash(t, "LeafClash", impl.LeafClash(list, at, data, path), clashOf(node, partsPiece(s.of(sums))))
				// Below such a node it makes no difference what there is.
				twin := pieceOfSum(sumsOf([][]byte{data})[0], turn)
				answersClash(t, "LeafClash, of a twin", impl.LeafClash(list, at, twin, path), clashOf(node, partsPiece(s.of(sums))))
			}
		}
	}
}

// A proof of the true data, too, has what is not there beside it.
func TestWhatStandsBesideALeafClashes(t *testing.T) {
	met := 0
	for size, at := range placesIn {
		list := plainPieces(int(size))
		sums := sumsOf(list)
		way, path := wayTo(size, at), toldPath(sums, at)
		for place, other := range twinPaths(path) {
			met++
			got := impl.LeafClash(list, at, list[at], other)
			answersClash(t, "LeafClash", got, toldLeafClash(sums[at], at, other, sums))
			if s := way[len(way)-1-place]; !bytes.Equal(got.Clash.B, partsPiece(s.of(sums))) {
				t.Fatalf("at %d of %d, with another side at %d, the clash is %+v", at, size, place, got)
			}
			// Whatever lies below a node is looked at behind it, the leaf at last.
			for low := range place {
				if twin, ok := twinOf(other[low]); ok {
					other[low] = twin
				}
				answersClash(t, "LeafClash, turned below", impl.LeafClash(list, at, list[at], other), got.Clash)
			}
			answersClash(t, "LeafClash, of a twin", impl.LeafClash(list, at, twinPiece(list[at]), other), got.Clash)
		}
	}
	if met < 300 {
		t.Errorf("no more than %d paths were turned", met)
	}
}

func TestALeafThatIsTakenIsTheOneThatThereIs(t *testing.T) {
	for size, at := range placesIn {
		list := plainPieces(int(size))
		path := toldPath(sumsOf(list), at)
		answersClash(t, "as it is", impl.LeafClash(list, at, slices.Clone(list[at]), path), impl.Clash{})
		answersClash(t, "as it is, one and the same", impl.LeafClash(list, at, list[at], path), impl.Clash{})
		twin := twinPiece(list[at])
		answersClash(t, "a twin", impl.LeafClash(list, at, twin, path), clashOf(leafPiece(twin), leafPiece(list[at])))
		far := pieceOfSum(sumsOf(list)[at], int(at))
		answersClash(t, "a far twin", impl.LeafClash(list, at, far, path), clashOf(leafPiece(far), leafPiece(list[at])))
	}
}

// Nodes that are equal lead on, though a sum of a path stands at the wrong side of others: all leaves are one here.
func TestLeavesThatAreAllOne(t *testing.T) {
	for size, at := range placesIn {
		list := slices.Repeat([][]byte{{5, 200}}, int(size))
		path := toldPath(sumsOf(list), at)
		answersClash(t, "as it is", impl.LeafClash(list, at, []byte{5, 200}, path), impl.Clash{})
		answersClash(t, "a twin", impl.LeafClash(list, at, []byte{6, 63}, path), clashOf([]byte{0, 6, 63}, []byte{0, 5, 200}))
		turnedList := slices.Clone(list)
		turnedList[at] = []byte{6, 63}
		answersClash(t, "a twin in the list", impl.LeafClash(turnedList, at, []byte{5, 200}, path), clashOf([]byte{0, 5, 200}, []byte{0, 6, 63}))
		for other := range size {
			if other != at {
				answersClash(t, "a twin elsewhere", impl.LeafClash(turnedList, other, []byte{5, 200}, toldPath(sumsOf(list), other)), impl.Clash{})
			}
		}
	}
}

func TestLeafClashCodes(t *testing.T) {
	list := piecesOf(7)
	path := toldPath(sumsOf(list), 3)
	cases := []struct {
		name string
		list [][]byte
		at   int64
		data []byte
		path []int64
		want int64
	}{
		{"no pieces, nil", nil, 0, nil, nil, impl.ErrRange},
		{"no pieces, empty", [][]byte{}, 0, list[3], path, impl.ErrRange},
		{"no pieces, data too long", nil, 0, mixed(251, 1), nil, impl.ErrMany},
		{"25 pieces", make([][]byte, 25), 3, list[3], path, impl.ErrMany},
		{"25 pieces, at below 0", make([][]byte, 25), -1, list[3], path, impl.ErrMany},
		{"a piece of 251 bytes", append(piecesOf(6), mixed(251, 1)), 3, list[3], path, impl.ErrMany},
		{"a piece of 251 bytes, at below 0", append(piecesOf(6), mixed(251, 1)), -1, list[3], path, impl.ErrMany},
		{"data of 251 bytes", list, 3, mixed(251, 1), path, impl.ErrMany},
		{"data of 251 bytes, at below 0", list, -1, mixed(251, 1), path, impl.ErrMany},
		{"data of 250 bytes", list, 3, mixed(250, 1), path, impl.ErrProof},
		{"data of 0 bytes", list, 3, nil, path, impl.ErrProof},
		{"at of how many there are", list, 7, list[3], path, impl.ErrRange},
		{"at below 0", list, -1, list[3], path, impl.ErrRange},
		{"the least at", list, math.MinInt64, list[3], path, impl.ErrRange},
		{"the greatest at", list, math.MaxInt64, list[3], path, impl.ErrRange},
		{"at far below 0", list, -(1 << 32) + 3, list[3], path, impl.ErrRange},
		{"at far above", list, 1<<32 + 3, list[3], path, impl.ErrRange},
		{"at of how many there are, a path of 7", list, 7, list[3], repeat(1, 7), impl.ErrRange},
		{"at 0", list, 0, list[3], path, impl.ErrProof},
		{"at the last place, a path of one more", list, 6, list[6], append(toldPath(sumsOf(list), 6), 0), impl.ErrProof},
		{"a path of 7", list, 3, list[3], repeat(1, 7), impl.ErrMany},
		{"a path of 7 that are no sums", list, 3, list[3], repeat(-1, 7), impl.ErrMany},
		{"a path of 6", list, 3, list[3], repeat(1, 6), impl.ErrProof},
		{"a path of 6 that are no sums", list, 3, list[3], repeat(65521, 6), impl.ErrRange},
		{"a path with what is below 0", list, 3, list[3], []int64{path[0], -1, path[2]}, impl.ErrRange},
		{"a path with 65521", list, 3, list[3], []int64{path[0], path[1], 65521}, impl.ErrRange},
		{"a path with 65520", list, 3, list[3], []int64{path[0], path[1], 65520}, impl.ErrProof},
		{"a path with 0", list, 3, list[3], []int64{0, path[1], path[2]}, impl.ErrProof},
		{"a path of one less", list, 3, list[3], path[:2], impl.ErrProof},
		{"no path", list, 3, list[3], nil, impl.ErrProof},
		{"another piece", list, 3, list[2], path, impl.ErrProof},
		{"another place", list, 2, list[3], path, impl.ErrProof},
		{"one piece, a path", [][]byte{{1}}, 0, []byte{1}, []int64{5}, impl.ErrProof},
		{"one piece, another", [][]byte{{1}}, 0, []byte{2}, nil, impl.ErrProof},
		{"one piece, at 1", [][]byte{{1}}, 1, []byte{1}, nil, impl.ErrRange},
	}
	for _, c := range cases {
		answersCode(t, c.name, impl.LeafClash(c.list, c.at, c.data, c.path), c.want)
	}
	for size, at := range placesIn {
		list := plainPieces(int(size))
		for _, wrong := range []int64{math.MinInt64, math.MinInt64 + 1, -size, -1, size, size + 1, 24, 25, 1 << 32, math.MaxInt64 - 1, math.MaxInt64} {
			answersCode(t, "at", impl.LeafClash(list, wrong, list[at], toldPath(sumsOf(list), at)), impl.ErrRange)
		}
	}
}

// Each of the things is right or wrong, in all ways together: the first code that is so is told.
func TestLeafClashCodesStandInTheirOrder(t *testing.T) {
	for wrong := range 64 {
		list, at := plainPieces(7), int64(3)
		data := list[3]
		path, want := pathWithFaults(toldPath(sumsOf(list), 3), wrong)
		if wrong&8 != 0 {
			at, want = 7, impl.ErrRange
		}
		if wrong&16 != 0 {
			data, want = mixed(251, 2), impl.ErrMany
		}
		if wrong&32 != 0 {
			list[6], want = mixed(251, 2), impl.ErrMany
		}
		answersCode(t, "LeafClash", impl.LeafClash(list, at, data, path), want)
	}
}

func TestGrowClashesThatAreKnown(t *testing.T) {
	var none impl.Clash
	pair := clashOf([]byte{1, 5, 200, 0, 7}, []byte{1, 6, 63, 0, 7})
	cases := []struct {
		name           string
		old, all, path []int64
		want           impl.Clash
	}{
		{"one and one", []int64{7}, []int64{7}, nil, none},
		{"as many, the same", rising(7), rising(7), nil, none},
		{"as many", []int64{1480, 7}, []int64{1599, 7}, nil, pair},
		{"from one to two, as it is", []int64{1480}, []int64{1480, 7}, []int64{7}, none},
		{"from one to two, the bounds", []int64{0}, []int64{0, 65520}, []int64{65520}, none},
		{"from one to two", []int64{1480}, []int64{1599, 7}, []int64{7}, pair},
		{"from one to two, the last", []int64{7}, []int64{7, 1599}, []int64{1480}, clashOf([]byte{1, 0, 7, 5, 200}, []byte{1, 0, 7, 6, 63})},
		{"from two to three, nodes that are equal lead on", []int64{1480, 7}, []int64{1599, 7, 9}, []int64{9}, pair},
		{"from two to three, the last", []int64{1, 2}, []int64{1, 2, 1599}, []int64{1480}, clashOf([]byte{1, 147, 91, 5, 200}, []byte{1, 147, 91, 6, 63})},
		{"from three to four, as it is", rising(3), rising(4), []int64{3, 4, 37723}, none},
		{"from three to four, the old side", []int64{1, 2, 1480}, []int64{1, 2, 1599, 7}, []int64{1599, 7, 37723}, clashOf([]byte{1, 147, 91, 6, 63}, []byte{1, 147, 91, 5, 200})},
		{"from three to four, the new side", rising(3), []int64{1, 2, 5, 51906}, []int64{3, 4, 37723}, clashOf([]byte{1, 147, 91, 38, 14}, []byte{1, 147, 91, 37, 151})},
		{"from three to four, the first part", []int64{1480, 7, 3}, []int64{1599, 7, 3, 4}, []int64{3, 4, nodeOf(1480, 7)}, pair},
		{"from three to four, the others", []int64{1, 2, 1480}, []int64{1, 2, 1599, 7}, []int64{1480, 7, 37723}, pair},
		{"to seven, the new side at the root", rising(3), []int64{64896, 6103, 23733, 52447, 52742, 16415, 61460}, []int64{3, 4, 37723, 20081}, clashOf([]byte{1, 104, 223, 78, 113}, []byte{1, 58, 109, 37, 36})},
		{"to seven, the new side below it", rising(3), []int64{45850, 6145, 52193, 3447, 5, 6, 7}, []int64{3, 4, 37723, 20081}, clashOf([]byte{1, 147, 91, 38, 14}, []byte{1, 151, 94, 114, 201})},
		{"to seven, the old side below it", []int64{2993, 38572, 37338}, rising(7), []int64{3, 4, 37723, 20081}, clashOf([]byte{1, 147, 91, 0, 3}, []byte{1, 0, 27, 145, 218})},
		{"to seven, the first two", []int64{42952, 15491, 3}, rising(7), []int64{3, 4, 37723, 20081}, clashOf([]byte{1, 167, 200, 60, 131}, []byte{1, 0, 1, 0, 2})},
		{"to seven, the others of the first part", rising(3), []int64{1, 2, 59605, 8391, 5, 6, 7}, []int64{3, 4, 37723, 20081}, clashOf([]byte{1, 0, 3, 0, 4}, []byte{1, 232, 213, 32, 199})},
		{"to seven, what came behind is all its own", rising(3), []int64{1, 2, 3, 4, 33728, 37741, 32901}, []int64{3, 4, 37723, 20081}, none},
		{"to seven, of a split", []int64{41515, 23683, 28160, 7291}, rising(7), []int64{20081}, clashOf([]byte{1, 113, 242, 68, 176}, []byte{1, 147, 91, 38, 14})},
		{"to seven, the old side at the root", []int64{32778, 57676, 44473, 34423, 39859, 12837}, rising(7), []int64{47282, 7, 26847}, clashOf([]byte{1, 104, 223, 184, 178}, []byte{1, 151, 211, 153, 223})},
		{"to seven, the new side, the old one as it is", rising(6), []int64{31702, 14597, 9050, 39147, 54657, 56723, 27807}, []int64{47282, 7, 26847}, clashOf([]byte{1, 104, 223, 78, 113}, []byte{1, 65, 127, 98, 246})},
		{"to seven, the new side of the others", rising(6), []int64{1, 2, 3, 4, 12369, 50990, 35455}, []int64{47282, 7, 26847}, clashOf([]byte{1, 184, 178, 0, 7}, []byte{1, 167, 195, 138, 127})},
		{"to seven, the old ones of the others", []int64{1, 2, 3, 4, 42466, 38481}, rising(7), []int64{47282, 7, 26847}, clashOf([]byte{1, 165, 226, 150, 81}, []byte{1, 0, 5, 0, 6})},
		{"to seven, the first part ahead of the others", []int64{36552, 59273, 24551, 30018, 5, 6}, []int64{1, 2, 3, 4, 34561, 25504, 51813}, []int64{47282, 7, 26847}, clashOf([]byte{1, 208, 184, 244, 83}, []byte{1, 147, 91, 38, 14})},
		{"to seven, a node that has an old leaf and a new one", rising(5), []int64{1, 2, 3, 4, 8312, 27696, 7}, []int64{5, 6, 7, 26847}, clashOf([]byte{1, 0, 5, 0, 6}, []byte{1, 32, 120, 108, 48})},
		{"to seven, a node of old leaves in all", rising(6), []int64{1, 2, 3, 4, 3527, 29921, 7}, []int64{47282, 7, 26847}, clashOf([]byte{1, 0, 5, 0, 6}, []byte{1, 13, 199, 116, 225})},
		{"to seven, all of the first two, old of the next", []int64{1, 2, 27714, 64080, 5, 6}, []int64{64289, 50056, 3, 4, 5, 6, 7}, []int64{47282, 7, 26847}, clashOf([]byte{1, 0, 1, 0, 2}, []byte{1, 251, 33, 195, 136})},
		{"nothing is as it was, from one to two", []int64{52800}, []int64{64176, 34423}, []int64{16076}, clashOf([]byte{1, 206, 64, 62, 204}, []byte{1, 250, 176, 134, 119})},
		{"nothing is as it was, from three to four", []int64{58295, 29236, 28174}, []int64{51374, 54477, 5011, 53561}, []int64{58474, 39530, 43923}, clashOf([]byte{1, 171, 147, 228, 106}, []byte{1, 128, 31, 110, 14})},
		{"nothing is as it was, from ten to eleven", []int64{3742, 11965, 1973, 39974, 50696, 37340, 7349, 44701, 64395, 10632}, []int64{32223, 4968, 30729, 15208, 6563, 24308, 23722, 63043, 44624, 40998, 59532}, []int64{21193, 24017, 43204}, clashOf([]byte{1, 168, 196, 82, 201}, []byte{1, 176, 42, 158, 61})},
	}
	for _, c := range cases {
		answersClash(t, c.name, impl.GrowClash(c.old, c.all, c.path), c.want)
	}
}

func TestAGrowthThatIsTakenGoesOnFromWhatThereWas(t *testing.T) {
	for from, to := range growthsIn {
		all := strewn(int(to), int(from))
		path := toldGrowth(all, from, true)
		answersClash(t, "as it is", impl.GrowClash(slices.Clone(all[:from]), all, path), impl.Clash{})
		answersClash(t, "as it is, in one memory", impl.GrowClash(all[:from], all, path), impl.Clash{})
		same := repeat(7, int(to))
		answersClash(t, "all are one", impl.GrowClash(same[:from], same, toldGrowth(same, from, true)), impl.Clash{})
	}
}

// Each node of all that has an old leaf below it is looked at, the others are nothing that was.
func TestAGrowthClashesWhereAllParts(t *testing.T) {
	for from, to := range growthsIn {
		all := strewn(int(to), 100+int(from))
		old, path := all[:from], toldGrowth(all, from, true)
		for i, s := range spansOf(to) {
			other := turned(all, s, i)
			var want impl.Clash
			if s.from < from {
				want = clashOf(partsPiece(s.of(all)), partsPiece(s.of(other)))
			}
			answersClash(t, "GrowClash", impl.GrowClash(old, other, path), want)
		}
	}
}

// A node that old and all have both is held against that of all, one that old alone has is held against the proof.
func TestAGrowthClashesWhereOldParts(t *testing.T) {
	for from, to := range growthsIn {
		all := strewn(int(to), 200+int(from))
		path, ofAll := toldGrowth(all, from, true), spansOf(to)
		for i, s := range spansOf(from) {
			old := turned(all[:from], s, i)
			want := clashOf(partsPiece(s.of(all[:from])), partsPiece(s.of(old)))
			if slices.Contains(ofAll, s) {
				want = swapped(want)
			}
			answersClash(t, "GrowClash", impl.GrowClash(old, all, path), want)
		}
	}
}

// Both are turned, each in each of its nodes: the clash that the document tells first is told.
func TestTheFirstOfTwoClashesOfAGrowthIsTold(t *testing.T) {
	for _, c := range []span{{2, 3}, {3, 4}, {3, 7}, {5, 7}, {6, 7}, {7, 7}, {7, 8}, {10, 11}, {11, 13}, {15, 16}, {19, 20}} {
		from, to := c.from, c.to
		all := strewn(int(to), 300+int(from))
		path := toldGrowth(all, from, true)
		for i, ofOld := range spansOf(from) {
			old := turned(all[:from], ofOld, i)
			for j, ofAll := range spansOf(to) {
				other := turned(all, ofAll, 31+j)
				want := toldGrowClash(old, other, true, toldRoot(old), path)
				if !want.Found {
					t.Fatalf("from %d to %d, turned at %v and at %v, there is no clash", from, to, ofOld, ofAll)
				}
				answersClash(t, "GrowClash", impl.GrowClash(old, other, path), want)
			}
		}
	}
}

// othersTurned keeps the first part, and has others of another root: that of both parts stays, and what is summed for it does not. false: there are none.
func othersTurned(leaves []int64, turn int) ([]int64, bool) {
	n := int64(len(leaves))
	k := splits[n]
	twin, ok := twinOf(toldRoot(leaves[k:]))
	return append(slices.Clone(leaves[:k]), leavesOf(twin, n-k, turn)...), ok
}

// The old side is looked at ahead of the new one, and both ahead of what lies in the first part, and has a clash of its own.
func TestAGrowthLooksAtBothSidesFirst(t *testing.T) {
	met := 0
	for from, to := range growthsIn {
		all := strewn(int(to), 600+int(from))
		other, ok := []int64(nil), false
		if from < to && from > 1 {
			other, ok = othersTurned(all, int(from))
		}
		if !ok {
			continue
		}
		path, k := toldGrowth(all, from, true), splits[to]
		old := turned(all[:from], span{0, min(from, k)}, int(from))
		answersClash(t, "the new side", impl.GrowClash(old, other, path), clashOf(partsPiece(all), partsPiece(other)))
		if from <= k {
			continue
		}
		if was, ok := othersTurned(old, int(to)); ok {
			met++
			answersClash(t, "the old side", impl.GrowClash(was, other, path), clashOf(partsPiece(all[:from]), partsPiece(was)))
		}
	}
	if met < 20 {
		t.Errorf("no more than %d had an old side", met)
	}
}

// A path that tells nothing of what there is, and is taken all the same.
func TestAGrowthOfWhichNothingIsSoClashes(t *testing.T) {
	for from, to := range growthsIn {
		for turn := range 3 {
			path := strewn(int(growthLengths[to][from-1]), 5*turn+int(from))
			root := strewn(1, turn+int(to))[0]
			was, grown := toldGrowRoots(from, to, true, root, path)
			old, all := leavesOf(was, from, turn), leavesOf(grown, to, turn+9)
			got := impl.GrowClash(old, all, path)
			answersClash(t, "GrowClash", got, toldGrowClash(old, all, true, was, path))
			if isSo := slices.Equal(old, all[:from]) && slices.Equal(path, toldGrowth(all, from, true)); got.Clash.Found == isSo {
				t.Fatalf("GrowClash(%v, %v, %v) is %+v", old, all, path, got)
			}
		}
	}
}

// A path of which one sum has another one of its weight is taken as it was, and is not what there is.
func TestWhatStandsBesideAGrowthClashes(t *testing.T) {
	met := 0
	for from, to := range growthsIn {
		all := strewn(int(to), 400+int(from))
		path := toldGrowth(all, from, true)
		for place, other := range twinPaths(path) {
			met++
			want := toldGrowClash(all[:from], all, true, toldRoot(all[:from]), other)
			if !want.Found {
				t.Fatalf("from %d to %d, with another sum at %d, there is no clash", from, to, place)
			}
			answersClash(t, "GrowClash", impl.GrowClash(all[:from], all, other), want)
		}
	}
	if met < 300 {
		t.Errorf("no more than %d paths were turned", met)
	}
}

func TestGrowClashCodes(t *testing.T) {
	right := [][]int64{nil, {}, {7}, rising(3), rising(24)}
	for code, lists := range wrongLeaves() {
		for _, wrong := range lists {
			for _, other := range right {
				answersCode(t, "old", impl.GrowClash(wrong, other, nil), code)
				answersCode(t, "all", impl.GrowClash(other, wrong, nil), code)
				answersCode(t, "all, by a path of 7", impl.GrowClash(other, wrong, repeat(-1, 7)), code)
			}
			for _, others := range wrongLeaves() {
				for _, other := range others {
					answersCode(t, "old ahead of all", impl.GrowClash(wrong, other, nil), code)
				}
			}
		}
	}
	for _, none := range [][]int64{nil, {}, make([]int64, 0, 40)} {
		for _, all := range right {
			for _, path := range [][]int64{nil, {5}, repeat(-1, 7)} {
				answersCode(t, "old are none", impl.GrowClash(none, all, path), impl.ErrForm)
			}
		}
	}
	for to := 0; to < 24; to++ {
		for _, path := range [][]int64{nil, {5}, repeat(-1, 7)} {
			answersCode(t, "one more than all", impl.GrowClash(rising(to+1), rising(to), path), impl.ErrForm)
		}
		answersCode(t, "more than all", impl.GrowClash(rising(24), rising(to), nil), impl.ErrForm)
	}
}

// Whatever is wrong with a path, it is not taken: there is one code for all of it.
func TestGrowthsThatAreNotTaken(t *testing.T) {
	for from, to := range growthsIn {
		all := strewn(int(to), 500+int(from))
		old, path := all[:from], toldGrowth(all, from, true)
		for n := range 9 {
			if n != len(path) {
				answersCode(t, "a path of another length", impl.GrowClash(old, all, strewn(n, 1)), impl.ErrProof)
			}
		}
		answersCode(t, "a path that is too long, of no sums", impl.GrowClash(old, all, repeat(-1, 7)), impl.ErrProof)
		answersCode(t, "a path of one more", impl.GrowClash(old, all, append(slices.Clone(path), 7)), impl.ErrProof)
		for place := range path {
			for _, sum := range []int64{-1, 65521, math.MinInt64, math.MaxInt64, path[place] + leastPastSum, path[place] - leastPastSum} {
				other := slices.Clone(path)
				other[place] = sum
				answersCode(t, "a path with what is no sum", impl.GrowClash(old, all, other), impl.ErrProof)
			}
		}
		for at := range from {
			other := slices.Clone(old)
			other[at] = (other[at] + 1) % leastPastSum
			if toldRoot(other) != toldRoot(old) {
				answersCode(t, "another root of old", impl.GrowClash(other, all, path), impl.ErrProof)
			}
		}
		for at := range to {
			other := slices.Clone(all)
			other[at] = (other[at] + 1) % leastPastSum
			if toldRoot(other) != toldRoot(all) {
				answersCode(t, "another root of all", impl.GrowClash(old, other, path), impl.ErrProof)
			}
		}
	}
}

// Sizes about the splits: of a split, one less, one more.
func TestGrowthsAboutASplit(t *testing.T) {
	for _, k := range []int64{2, 4, 8, 16} {
		for to := k + 1; to <= min(2*k, 24); to++ {
			for from := k - 1; from <= k+1; from++ {
				all := strewn(int(to), int(to))
				all[0], all[1] = 1599, 7
				old := slices.Clone(all[:from])
				old[0] = 1480
				answersClash(t, "about a split", impl.GrowClash(old, all, toldGrowth(all, from, true)), clashOf([]byte{1, 5, 200, 0, 7}, []byte{1, 6, 63, 0, 7}))
			}
		}
	}
}

// Each of the things is right or wrong, in all ways together: the first code that is so is told.
func TestTreeAndGrowClashCodesStandInTheirOrder(t *testing.T) {
	for wrong := range 32 {
		a, b := rising(7), rising(7)
		old, all, path := rising(3), rising(7), []int64{3, 4, 37723, 20081}
		tree, grow := int64(impl.OK), int64(impl.OK)
		if wrong&1 != 0 {
			b[6], tree = 8, impl.ErrProof
			path[3], grow = 9, impl.ErrProof
		}
		if wrong&2 != 0 {
			b, tree = append(b, 9), impl.ErrForm
			old, grow = rising(8), impl.ErrForm
		}
		if wrong&4 != 0 {
			b[0], tree = -1, impl.ErrRange
			all[0], grow = 65521, impl.ErrRange
		}
		if wrong&8 != 0 {
			a, tree = append(a, rising(18)...), impl.ErrMany
			old, grow = append(old, rising(22)...), impl.ErrMany
		}
		if wrong&16 != 0 && wrong&8 == 0 {
			a[2], tree = -1, impl.ErrRange
			old[2], grow = -1, impl.ErrRange
		}
		answersCode(t, "TreeClash", impl.TreeClash(a, b), tree)
		answersCode(t, "GrowClash", impl.GrowClash(old, all, path), grow)
	}
}

// handedPieces lays pieces where others stand behind them, and behind each piece other bytes; all of it is looked at by kept.
func handedPieces(pieces [][]byte) (list [][]byte, kept func() bool) {
	var room [][]byte
	var looks []func() bool
	for _, piece := range append(slices.Clone(pieces), []byte{77}, nil) {
		given, look := handed(piece)
		room, looks = append(room, given), append(looks, look)
	}
	was := slices.Clone(room)
	return room[:len(pieces)], func() bool {
		for i, piece := range room {
			// Other memory of the same bytes would be a change, too.
			if !looks[i]() || len(piece) != len(was[i]) || len(piece) > 0 && &piece[0] != &was[i][0] {
				return false
			}
		}
		return true
	}
}

// wildPieces has pieces without a fault in it, and of each fault some.
func wildPieces() [][][]byte {
	lists := [][][]byte{nil, {}, {nil}, {{}}, {{5, 200}}, {{6, 63}}, {mixed(251, 1)}, make([][]byte, 25), append(piecesOf(3), mixed(300, 2))}
	for _, n := range []int{1, 2, 3, 7, 24} {
		twins := plainPieces(n)
		twins[n-1] = twinPiece(twins[n-1])
		lists = append(lists, piecesOf(n), plainPieces(n), twins)
		for _, s := range spansOf(int64(n)) {
			lists = append(lists, piecesOfSums(turned(sumsOf(twins), s, 3), n))
		}
	}
	return lists
}

func TestClashesLeaveTheirArgumentsAsTheyAre(t *testing.T) {
	for _, a := range wildPieces() {
		list, kept := handedPieces(a)
		changesNothing(t, kept,
			namedCall{"PiecesFault", func() { impl.PiecesFault(list) }},
			namedCall{"PieceSums", func() { impl.PieceSums(list) }})
		for _, b := range wildPieces() {
			other, otherKept := handedPieces(b)
			changesNothing(t, func() bool { return kept() && otherKept() }, namedCall{"PieceClash", func() { impl.PieceClash(list, other) }})
		}
		sums := impl.PieceSums(a).List
		for at := int64(-1); at <= int64(len(a)); at++ {
			path, pathKept := handed(impl.PathOf(sums, at).List)
			data, dataKept := handed([]byte{6, 63})
			if at >= 0 && at < int64(len(sums)) {
				data, dataKept = handed(a[at])
			}
			changesNothing(t, func() bool { return kept() && pathKept() && dataKept() }, namedCall{"LeafClash", func() { impl.LeafClash(list, at, data, path) }})
		}
	}
	for from, to := range growthsIn {
		all := strewn(int(to), 9)
		for _, s := range spansOf(to) {
			old, oldKept := handed(all[:from])
			other, otherKept := handed(turned(all, s, 1))
			path, pathKept := handed(toldGrowth(all, from, true))
			allKept := func() bool { return oldKept() && otherKept() && pathKept() }
			changesNothing(t, allKept,
				namedCall{"GrowClash", func() { impl.GrowClash(old, other, path) }},
				namedCall{"TreeClash", func() { impl.TreeClash(other, all) }},
				namedCall{"TreeClash, of two", func() { impl.TreeClash(old, other) }})
		}
	}
}

// ownPieces asks for a clash: its two pieces share no memory with each other, nor with what was handed in, nor with another answer.
func ownPieces(t *testing.T, name string, want impl.Clash, kept func() bool, spoilGiven func(), ask func() impl.ClashResult) {
	t.Helper()
	first, second := ask(), ask()
	answersClash(t, name, first, want)
	spoil(first.Clash.A)
	if !bytes.Equal(first.Clash.B, want.B) {
		t.Fatalf("%s: both pieces of an answer are in one memory", name)
	}
	spoil(first.Clash.B)
	if !kept() {
		t.Fatalf("%s: an answer shares memory with an argument", name)
	}
	answersClash(t, name+", asked ahead", second, want)
	answersClash(t, name+", asked behind", ask(), want)
	spoilGiven()
	answersClash(t, name+", asked ahead of a change", second, want)
}

func TestClashesAreMemoryOfTheirOwn(t *testing.T) {
	list, kept := handedPieces([][]byte{{1}, {5, 200}, {3}})
	data, dataKept := handed([]byte{6, 63})
	path, pathKept := handed([]int64{10035, 10037})
	want := clashOf([]byte{0, 6, 63}, []byte{0, 5, 200})
	ownPieces(t, "LeafClash", want, func() bool { return kept() && dataKept() && pathKept() },
		func() { spoil(data[:2:2]); spoil(list[1][:2:2]); spoil(path[:2:2]) },
		func() impl.ClashResult { return impl.LeafClash(list, 1, data, path) })

	first, firstKept := handedPieces([][]byte{{1}, {5, 200}, {3}})
	other, otherKept := handedPieces([][]byte{{1}, {6, 63}, {3}})
	ownPieces(t, "PieceClash", swapped(want), func() bool { return firstKept() && otherKept() },
		func() { spoil(first[1][:2:2]); spoil(other[1][:2:2]) },
		func() impl.ClashResult { return impl.PieceClash(first, other) })

	a, aKept := handed([]int64{1480, 7, 9})
	b, bKept := handed([]int64{1599, 7, 9})
	want = clashOf([]byte{1, 5, 200, 0, 7}, []byte{1, 6, 63, 0, 7})
	ownPieces(t, "TreeClash", want, func() bool { return aKept() && bKept() },
		func() { spoil(a[:3:3]); spoil(b[:3:3]) },
		func() impl.ClashResult { return impl.TreeClash(a, b) })

	old, oldKept := handed([]int64{1480, 7})
	all, allKept := handed([]int64{1599, 7, 9})
	ownPieces(t, "GrowClash", want, func() bool { return oldKept() && allKept() },
		func() { spoil(old[:2:2]); spoil(all[:3:3]) },
		func() impl.ClashResult { return impl.GrowClash(old, all, []int64{9}) })

	pieces, piecesKept := handedPieces(piecesOf(5))
	sums, again := impl.PieceSums(pieces), impl.PieceSums(pieces)
	spoil(sums.List)
	if !piecesKept() || !slices.Equal(again.List, sumsOf(piecesOf(5))) || !slices.Equal(impl.PieceSums(pieces).List, again.List) {
		t.Error("PieceSums shares memory")
	}
}

// clashAnswers asks all functions of the chapter at arguments in bounds and out of them; what it tells is one row an answer.
func clashAnswers() []string {
	var rows []string
	tell := func(r impl.ClashResult) {
		found := int64(0)
		if r.Clash.Found {
			found = 1
		}
		rows = append(rows, rowOf(r.Code, found, int64(len(r.Clash.A)))+string(r.Clash.A)+string(r.Clash.B))
	}
	pieces := wildPieces()
	for i, a := range pieces {
		sums := impl.PieceSums(a)
		rows = append(rows, rowOf(append(sums.List, sums.Code, impl.PiecesFault(a))...))
		for j, b := range pieces {
			tell(impl.PieceClash(a, b))
			tell(impl.TreeClash(sums.List, impl.PieceSums(b).List))
			tell(impl.LeafClash(a, int64(j)-1, mixed(i, j), impl.PathOf(sums.List, int64(j)-1).List))
		}
	}
	lists := wildLists()
	for i, a := range lists {
		for _, b := range [][]int64{a, lists[(i*7+3)%len(lists)], lists[(i+1)%len(lists)]} {
			tell(impl.TreeClash(a, b))
			tell(impl.GrowClash(a, b, impl.GrowthOf(b, int64(len(a))).List))
			tell(impl.GrowClash(a, b, a))
		}
	}
	for from, to := range growthsIn {
		all := strewn(int(to), 11)
		for i, s := range spansOf(to) {
			tell(impl.GrowClash(all[:from], turned(all, s, i), toldGrowth(all, from, true)))
		}
	}
	return rows
}

func TestClashesHangOnTheirArgumentsAlone(t *testing.T) { answeredAlike(t, clashAnswers) }

// An empty list and nil are one, and what a list could still grow to makes no difference.
func TestEmptyPieceListsAndNilAreOne(t *testing.T) {
	for _, empty := range [][][]byte{nil, {}, make([][]byte, 0, 40)} {
		sums := impl.PieceSums(empty)
		if impl.PiecesFault(empty) != impl.OK || sums.Code != impl.OK || len(sums.List) != 0 {
			t.Errorf("no pieces are %+v", sums)
		}
		answersCode(t, "no pieces", impl.PieceClash(empty, nil), impl.ErrForm)
		answersCode(t, "no pieces", impl.PieceClash([][]byte{}, empty), impl.ErrForm)
		answersCode(t, "one and no pieces", impl.PieceClash([][]byte{{1}}, empty), impl.ErrForm)
		answersCode(t, "no pieces and one", impl.PieceClash(empty, [][]byte{{1}}), impl.ErrForm)
		answersCode(t, "no pieces", impl.LeafClash(empty, 0, nil, nil), impl.ErrRange)
	}
	for _, empty := range [][]int64{nil, {}, make([]int64, 0, 40)} {
		answersCode(t, "no leaves", impl.TreeClash(empty, nil), impl.ErrForm)
		answersCode(t, "no leaves", impl.TreeClash([]int64{}, empty), impl.ErrForm)
		answersClash(t, "no path", impl.GrowClash([]int64{7}, []int64{7}, empty), impl.Clash{})
		answersCode(t, "no path where there is one", impl.GrowClash([]int64{7}, []int64{7, 8}, empty), impl.ErrProof)
		answersClash(t, "no path", impl.LeafClash([][]byte{{}}, 0, nil, empty), impl.Clash{})
	}
	for _, empty := range [][]byte{nil, {}, make([]byte, 0, 40)} {
		answersClash(t, "no data", impl.LeafClash([][]byte{nil}, 0, empty, nil), impl.Clash{})
		answersClash(t, "no bytes", impl.PieceClash([][]byte{empty}, [][]byte{{}}), impl.Clash{})
	}
	roomy := append(make([]int64, 0, 400), 1480, 7)
	answersClash(t, "leaves with room behind them", impl.TreeClash(roomy, []int64{1599, 7}), clashOf([]byte{1, 5, 200, 0, 7}, []byte{1, 6, 63, 0, 7}))
}
