package tests

import (
	"bytes"
	"math"
	"slices"
	"testing"

	"loop.example/g00565/impl"
)

// The signatures and the types of chapter 7: other ones do not compile.
var (
	_ func([]impl.Slot) int64                                         = impl.SlotsFault
	_ func([]impl.Slot) impl.IntResult                                = impl.MapRoot
	_ func([]impl.Slot, int64) impl.IntsResult                        = impl.MapPath
	_ func(int64, bool, int64, []int64) impl.IntResult                = impl.ClimbSlot
	_ func(int64, bool, int64, []int64, int64) bool                   = impl.AcceptSlot
	_ func([]impl.Slot, int64, bool, int64, []int64) impl.ClashResult = impl.MapClash
	_ func([]impl.Slot, impl.Slot) impl.SlotsResult                   = impl.PutSlot
	_ func([]impl.Slot, int64) impl.IntResult                         = impl.FindSlot
	_ struct{ Key, Value int64 }                                      = impl.Slot{}
	_                                                                 = impl.SlotsResult{Code: int64(0), Slots: []impl.Slot(nil)}
)

func TestMaxSlotsAndMapDepth(t *testing.T) {
	if impl.MaxSlots != 12 || impl.MapDepth != 6 {
		t.Errorf("MaxSlots is %d, MapDepth %d", impl.MaxSlots, impl.MapDepth)
	}
}

// slots tells a map by a key and a value, a key and a value.
func slots(numbers ...int64) []impl.Slot {
	var list []impl.Slot
	for i := 0; i < len(numbers); i += 2 {
		list = append(list, impl.Slot{Key: numbers[i], Value: numbers[i+1]})
	}
	return list
}

// stepSlots tells n slots whose keys are step apart, from first on.
func stepSlots(n int, first int64, step int64) []impl.Slot {
	var list []impl.Slot
	for i, value := range strewn(n, int(first+step)) {
		list = append(list, impl.Slot{Key: first + int64(i)*step, Value: value})
	}
	return list
}

// someMaps has each count of slots up to 12 in it, and of each several; none of them has a fault.
func someMaps() [][]impl.Slot {
	maps := [][]impl.Slot{nil, {}, slots(0, 0), slots(0, 65520), slots(63, 0), slots(63, 65520), slots(5, 11), slots(31, 1, 32, 2), slots(0, 0, 63, 65520), slots(5, 1480, 60, 251, 63, 7), slots(0, 0, 1, 0, 2, 0, 3, 0), slots(0, 7489, 1, 11)}
	for n := range 13 {
		maps = append(maps, stepSlots(n, 0, 1), stepSlots(n, int64(64-n), 1), stepSlots(n, 2, 5), stepSlots(n, 1, 4))
	}
	return maps
}

func slotPiece(key int64, value int64) []byte {
	return []byte{2, byte(key), byte(value / 256), byte(value % 256)}
}

// toldSlot looks a key up, slot by slot.
func toldSlot(list []impl.Slot, key int64) (value int64, there bool) {
	for _, s := range list {
		if s.Key == key {
			return s.Value, true
		}
	}
	return 0, false
}

// toldProofPiece is what is summed for the leaf by a proof, toldLeafPiece by slots.
func toldProofPiece(key int64, there bool, value int64) []byte {
	if there {
		return slotPiece(key, value)
	}
	return nil
}

func toldLeafPiece(list []impl.Slot, key int64) []byte {
	value, there := toldSlot(list, key)
	return toldProofPiece(key, there, value)
}

// A toldTree has its levels, from the 64 leaves up to the root; all of it is worked out with no help of the program.
type toldTree [7][]int64

func treeOf(list []impl.Slot) toldTree {
	var tree toldTree
	for key := range int64(64) {
		tree[0] = append(tree[0], closedSum(toldLeafPiece(list, key)))
	}
	for level := range 6 {
		for at := 0; at < len(tree[level]); at += 2 {
			tree[level+1] = append(tree[level+1], nodeOf(tree[level][at], tree[level][at+1]))
		}
	}
	return tree
}

func (t toldTree) root() int64 { return t[6][0] }

// sidesOf has the two places beside each other of which one is above key, on that level.
func sidesOf(key int64, level int) (first int64, second int64) {
	at := key
	for range level {
		at /= 2
	}
	return at / 2 * 2, at/2*2 + 1
}

// isFirstAt tells whether key is below the first of these two.
func isFirstAt(key int64, level int) bool {
	for range level {
		key /= 2
	}
	return key%2 == 0
}

func (t toldTree) node(key int64, level int) []byte {
	first, second := sidesOf(key, level)
	return nodePiece(t[level][first], t[level][second])
}

func (t toldTree) path(key int64) []int64 {
	var path []int64
	for level := range 6 {
		first, second := sidesOf(key, level)
		if isFirstAt(key, level) {
			path = append(path, t[level][second])
		} else {
			path = append(path, t[level][first])
		}
	}
	return path
}

// toldProofNodes has what is summed by a proof on the way up, toldProofRoot what comes of it.
func toldProofNodes(key int64, there bool, value int64, path []int64) [][]byte {
	own := closedSum(toldProofPiece(key, there, value))
	var nodes [][]byte
	for level, beside := range path {
		if isFirstAt(key, level) {
			nodes = append(nodes, nodePiece(own, beside))
		} else {
			nodes = append(nodes, nodePiece(beside, own))
		}
		own = closedSum(nodes[level])
	}
	return nodes
}

func toldProofRoot(key int64, there bool, value int64, path []int64) int64 {
	return closedSum(toldProofNodes(key, there, value, path)[5])
}

func toldMapClash(list []impl.Slot, key int64, there bool, value int64, path []int64) impl.Clash {
	tree, nodes := treeOf(list), toldProofNodes(key, there, value, path)
	for level := 5; level >= 0; level-- {
		if c := toldLook(nodes[level], tree.node(key, level)); c.Found {
			return c
		}
	}
	return toldLook(toldProofPiece(key, there, value), toldLeafPiece(list, key))
}

// asksSlotsFirst asks all functions that have slots: their code is told, whatever else is handed in; nothing stands beside it.
func asksSlotsFirst(t *testing.T, name string, list []impl.Slot, want int64) {
	t.Helper()
	if got := impl.SlotsFault(list); got != want {
		t.Errorf("%s: SlotsFault is %d, not %d", name, got, want)
	}
	root := impl.MapRoot(list)
	if root.Code != want || want != impl.OK && root.Value != 0 {
		t.Errorf("%s: MapRoot is %+v, asked is the code %d", name, root, want)
	}
	if want == impl.OK {
		return
	}
	for _, key := range []int64{math.MinInt64, -1, 0, 1, 5, 63, 64, math.MaxInt64} {
		if got := impl.MapPath(list, key); got.Code != want || len(got.List) != 0 {
			t.Errorf("%s: MapPath of %d is %+v, asked is the code %d", name, key, got, want)
		}
		if got := impl.FindSlot(list, key); got != (impl.IntResult{Code: want}) {
			t.Errorf("%s: FindSlot of %d is %+v, asked is the code %d", name, key, got, want)
		}
		for _, value := range []int64{-1, 0, 7, 65521} {
			if got := impl.PutSlot(list, impl.Slot{Key: key, Value: value}); got.Code != want || len(got.Slots) != 0 {
				t.Errorf("%s: PutSlot of %d is %+v, asked is the code %d", name, key, got, want)
			}
			for n := 5; n <= 7; n++ {
				answersCode(t, name+": MapClash", impl.MapClash(list, key, true, value, repeat(value, n)), want)
				answersCode(t, name+": MapClash, none", impl.MapClash(list, key, false, value, repeat(value, n)), want)
			}
		}
	}
}

func TestSlotsWithoutFault(t *testing.T) {
	for _, list := range someMaps() {
		asksSlotsFirst(t, "slots that have no fault", list, impl.OK)
	}
	for key := range int64(64) {
		asksSlotsFirst(t, "one slot", slots(key, 7), impl.OK)
	}
	for _, value := range someSums {
		asksSlotsFirst(t, "one value", slots(0, value, 5, value, 63, value), impl.OK)
	}
	asksSlotsFirst(t, "no slots, with room", make([]impl.Slot, 0, 40), impl.OK)
}

func TestSlotsFaults(t *testing.T) {
	cases := []struct {
		name string
		list []impl.Slot
		want int64
	}{
		{"13", stepSlots(13, 0, 1), impl.ErrMany},
		{"14", stepSlots(14, 3, 2), impl.ErrMany},
		{"64", stepSlots(64, 0, 1), impl.ErrMany},
		{"5000 that are zero", make([]impl.Slot, 5000), impl.ErrMany},
		{"13 that are zero", make([]impl.Slot, 13), impl.ErrMany},
		{"13, the first out of range", append(slots(-1, 0), stepSlots(12, 0, 1)...), impl.ErrMany},
		{"two that are zero", make([]impl.Slot, 2), impl.ErrForm},
		{"12 that are zero", make([]impl.Slot, 12), impl.ErrForm},
		{"the key -1", slots(-1, 0), impl.ErrRange},
		{"the key 64", slots(64, 0), impl.ErrRange},
		{"the least key", slots(math.MinInt64, 0), impl.ErrRange},
		{"the greatest key", slots(math.MaxInt64, 0), impl.ErrRange},
		{"the value -1", slots(0, -1), impl.ErrRange},
		{"the value 65521", slots(0, 65521), impl.ErrRange},
		{"the least value", slots(63, math.MinInt64), impl.ErrRange},
		{"the greatest value", slots(63, math.MaxInt64), impl.ErrRange},
		{"both out of range", slots(64, 65521), impl.ErrRange},
		{"keys that are alike", slots(5, 1, 5, 2), impl.ErrForm},
		{"slots that are alike", slots(5, 1, 5, 1), impl.ErrForm},
		{"keys that fall", slots(6, 1, 5, 2), impl.ErrForm},
		{"keys that fall from the greatest", slots(63, 1, 0, 2), impl.ErrForm},
		{"keys that fall behind others", slots(1, 1, 2, 2, 9, 3, 8, 4), impl.ErrForm},
		{"keys that are alike behind others", slots(1, 1, 2, 2, 9, 3, 9, 4), impl.ErrForm},
		{"a key that rises above the one ahead, and not above another", slots(5, 1, 2, 2, 3, 3), impl.ErrForm},
		{"alike, though not beside each other", slots(5, 1, 6, 2, 5, 3), impl.ErrForm},
		{"a key -1 that falls, too", slots(5, 1, -1, 2), impl.ErrRange},
		{"a value that is no sum, and a key that is alike", slots(5, 1, 5, 65521), impl.ErrRange},
		{"a key that falls, and then one out of range", slots(5, 1, 4, 2, 64, 3), impl.ErrForm},
		{"a key that is alike, and then a value that is no sum", slots(5, 1, 5, 2, 6, -1), impl.ErrForm},
		{"a value that is no sum, and then a key that falls", slots(5, 1, 6, -1, 4, 2), impl.ErrRange},
		{"the first out of range, the next one alike", slots(64, 1, 64, 2), impl.ErrRange},
		{"the first value no sum, the next key falls", slots(5, -1, 4, 2), impl.ErrRange},
	}
	for _, c := range cases {
		asksSlotsFirst(t, c.name, c.list, c.want)
	}
}

// Each place of 12 slots has each fault once.
func TestSlotsFaultsAtEachPlace(t *testing.T) {
	for place := range 12 {
		for _, key := range noKeys {
			list := stepSlots(12, 2, 5)
			list[place].Key = key
			asksSlotsFirst(t, "one key", list, impl.ErrRange)
		}
		for _, value := range noSums {
			list := stepSlots(12, 2, 5)
			list[place].Value = value
			asksSlotsFirst(t, "one value", list, impl.ErrRange)
		}
		list := stepSlots(12, 2, 5)
		if place > 0 {
			list[place].Key = list[place-1].Key
			asksSlotsFirst(t, "one that is alike", list, impl.ErrForm)
			list[place].Key--
			asksSlotsFirst(t, "one that falls", list, impl.ErrForm)
		}
		for behind := place + 1; behind < 12 && place > 0; behind++ {
			list[behind].Value = 65521
			asksSlotsFirst(t, "one that falls, behind it one out of range", list, impl.ErrForm)
			list[behind].Value = 0
		}
	}
}

func TestMapRootsThatAreKnown(t *testing.T) {
	var first, last, fives []impl.Slot
	for i := range int64(12) {
		first = append(first, impl.Slot{Key: i, Value: i})
		last = append(last, impl.Slot{Key: 52 + i, Value: 65520 - i})
		fives = append(fives, impl.Slot{Key: 5*i + 2, Value: 1000 * i})
	}
	roots := []struct {
		list []impl.Slot
		want int64
	}{
		{nil, 7489}, {[]impl.Slot{}, 7489}, {slots(0, 0), 33202}, {slots(63, 65520), 7971}, {slots(5, 100, 63, 7), 21046},
		{slots(0, 0, 63, 65520), 33684}, {slots(31, 1, 32, 2), 28831}, {slots(5, 1480, 60, 251, 63, 7), 49020},
		{first, 52616}, {last, 17710}, {fives, 44829},
	}
	for _, r := range roots {
		if got := impl.MapRoot(r.list); got != (impl.IntResult{Value: r.want}) {
			t.Errorf("MapRoot(%v) is %+v, not %d", r.list, got, r.want)
		}
	}
	paths := []struct {
		list []impl.Slot
		key  int64
		want []int64
	}{
		{nil, 0, []int64{11, 28859, 32893, 45183, 7158, 27872}},
		{[]impl.Slot{}, 63, []int64{11, 28859, 32893, 45183, 7158, 27872}},
		{slots(0, 0), 0, []int64{11, 28859, 32893, 45183, 7158, 27872}},
		{slots(0, 0), 1, []int64{52998, 28859, 32893, 45183, 7158, 27872}},
		{slots(5, 100, 63, 7), 4, []int64{15901, 28859, 32893, 45183, 7158, 30266}},
		{slots(5, 100, 63, 7), 5, []int64{11, 28859, 32893, 45183, 7158, 30266}},
		{slots(5, 100, 63, 7), 32, []int64{11, 28859, 32893, 45183, 11694, 24465}},
		{slots(5, 100, 63, 7), 62, []int64{56074, 28859, 32893, 45183, 7158, 24465}},
		{slots(5, 100, 63, 7), 63, []int64{11, 28859, 32893, 45183, 7158, 24465}},
		{fives, 0, []int64{11, 29392, 48427, 49730, 34937, 22360}},
		{fives, 12, []int64{11, 28859, 32893, 15231, 34937, 22360}},
		{fives, 63, []int64{11, 28859, 24889, 34372, 2298, 58544}},
		{last, 51, []int64{11, 28859, 38058, 12694, 7158, 27872}},
		{last, 52, []int64{34593, 40311, 32893, 12694, 7158, 27872}},
	}
	for _, p := range paths {
		if got := impl.MapPath(p.list, p.key); got.Code != impl.OK || !slices.Equal(got.List, p.want) {
			t.Errorf("MapPath(%v, %d) is %+v, not %v", p.list, p.key, got, p.want)
		}
	}
}

func TestMapRootsComeAsTheTreeTells(t *testing.T) {
	for _, list := range someMaps() {
		if got, want := impl.MapRoot(list), treeOf(list).root(); got != (impl.IntResult{Value: want}) {
			t.Fatalf("MapRoot(%v) is %+v, not %d", list, got, want)
		}
	}
}

// Each slot counts, its key and its value.
func TestEachSlotTurnsTheRoot(t *testing.T) {
	for key := range int64(64) {
		for _, value := range []int64{0, 1, 256, 65520} {
			if got, want := impl.MapRoot(slots(key, value)), treeOf(slots(key, value)).root(); got != (impl.IntResult{Value: want}) || want == treeOf(nil).root() && closedSum(slotPiece(key, value)) != 11 {
				t.Fatalf("MapRoot of %d with %d is %+v, not %d", key, value, got, want)
			}
		}
	}
}

func TestMapPathsOfNoKey(t *testing.T) {
	for _, list := range someMaps() {
		for _, key := range noKeys {
			if got := impl.MapPath(list, key); got.Code != impl.ErrRange || len(got.List) != 0 {
				t.Fatalf("MapPath(%v, %d) is %+v", list, key, got)
			}
		}
	}
}

// P8: of each key it is shown what it has, or that it has nothing, and of each no more than that.
func TestOfEachKeyItIsShownWhatItHas(t *testing.T) {
	for _, list := range someMaps() {
		tree, root := treeOf(list), impl.MapRoot(list).Value
		for key := range int64(64) {
			path := impl.MapPath(list, key)
			if want := tree.path(key); path.Code != impl.OK || len(path.List) != 6 || !slices.Equal(path.List, want) {
				t.Fatalf("MapPath(%v, %d) is %+v, not %v", list, key, path, want)
			}
			found := impl.FindSlot(list, key)
			there := found.Code == impl.OK
			if value, want := toldSlot(list, key); there != want || found.Value != value || !there && found.Code != impl.ErrNone {
				t.Fatalf("FindSlot(%v, %d) is %+v", list, key, found)
			}
			if got := impl.ClimbSlot(key, there, found.Value, path.List); got != (impl.IntResult{Value: root}) || !impl.AcceptSlot(key, there, found.Value, path.List, root) {
				t.Fatalf("of %d in %v it is not shown what it has, it comes to %+v", key, list, got)
			}
			answersClash(t, "as it is", impl.MapClash(list, key, there, found.Value, path.List), impl.Clash{})
			if there {
				isOfOneSum(t, list, key, false, 0, path.List, root)
			}
			for _, other := range []int64{0, 1, 11, 65520, (found.Value + 1) % leastPastSum} {
				if !there || other != found.Value {
					isOfOneSum(t, list, key, true, other, path.List, root)
				}
			}
		}
	}
}

// isOfOneSum asks for what is not so: it is taken just where it comes to the root, and then there are two pieces of one sum.
func isOfOneSum(t *testing.T, list []impl.Slot, key int64, there bool, value int64, path []int64, root int64) {
	t.Helper()
	isTaken := toldProofRoot(key, there, value, path) == root
	if impl.AcceptSlot(key, there, value, path, root) != isTaken {
		t.Fatalf("of %d in %v with %d (%v) it is not so that it is taken: %v", key, list, value, there, isTaken)
	}
	if got := impl.MapClash(list, key, there, value, path); isTaken != (got.Code == impl.OK) || isTaken != impl.IsClash(got.Clash) {
		t.Fatalf("of %d in %v with %d (%v) the clash is %+v", key, list, value, there, got)
	}
}

// The leaf of none is the sum of nothing; a slot of the value 0 is another one, at each key.
func TestNoneIsNotTheValue0(t *testing.T) {
	for key := range int64(64) {
		with, without := slots(key, 0), []impl.Slot(nil)
		path := impl.MapPath(without, key).List
		if !slices.Equal(impl.MapPath(with, key).List, path) {
			t.Fatalf("the path of %d hangs on its own slot", key)
		}
		none, zero := impl.MapRoot(without).Value, impl.MapRoot(with).Value
		if none == zero || !impl.AcceptSlot(key, false, 0, path, none) || impl.AcceptSlot(key, true, 0, path, none) || impl.AcceptSlot(key, false, 0, path, zero) || !impl.AcceptSlot(key, true, 0, path, zero) {
			t.Errorf("of %d nothing and the value 0 are one", key)
		}
		beside := key/2*2 + 1 - key%2
		if got := impl.MapPath(without, beside).List; got[0] != 11 {
			t.Errorf("the leaf of none is %d", got[0])
		}
		if got := impl.MapPath(with, beside).List; got[0] != closedSum([]byte{2, byte(key), 0, 0}) {
			t.Errorf("the leaf of %d with the value 0 is %d", key, got[0])
		}
		answersCode(t, "none, where there is 0", impl.MapClash(with, key, false, 0, path), impl.ErrProof)
		answersCode(t, "0, where there is none", impl.MapClash(without, key, true, 0, path), impl.ErrProof)
		if impl.FindSlot(with, key) != (impl.IntResult{}) || impl.FindSlot(without, key) != (impl.IntResult{Code: impl.ErrNone}) {
			t.Errorf("FindSlot of %d does not tell 0 and none apart", key)
		}
	}
}

func TestFindSlot(t *testing.T) {
	for _, list := range someMaps() {
		for _, key := range noKeys {
			if got := impl.FindSlot(list, key); got != (impl.IntResult{Code: impl.ErrNone}) {
				t.Fatalf("FindSlot(%v, %d) is %+v", list, key, got)
			}
		}
	}
	for _, value := range someSums {
		if got := impl.FindSlot(slots(0, 1, 5, value, 63, 2), 5); got != (impl.IntResult{Value: value}) {
			t.Errorf("FindSlot of %d is %+v", value, got)
		}
	}
}

func TestClimbsOfSlotsThatAreKnown(t *testing.T) {
	cases := []struct {
		key   int64
		there bool
		value int64
		path  []int64
		want  int64
	}{
		{0, false, 0, repeat(0, 6), 29540},
		{63, false, 0, repeat(0, 6), 39943},
		{0, true, 0, repeat(0, 6), 43855},
		{63, true, 65520, repeat(65520, 6), 61505},
		{5, true, 100, rising(6), 48037},
		{5, false, 0, rising(6), 13369},
		{42, true, 7, rising(6), 26186},
		{21, true, 7, rising(6), 38520},
	}
	for _, c := range cases {
		if got := impl.ClimbSlot(c.key, c.there, c.value, c.path); got != (impl.IntResult{Value: c.want}) {
			t.Errorf("ClimbSlot(%d, %v, %d, %v) is %+v, not %d", c.key, c.there, c.value, c.path, got, c.want)
		}
	}
}

// Any sums may stand in a path: what comes of them is told, though no slots have that root.
func TestWhatComesOfAnyMapPath(t *testing.T) {
	for key := range int64(64) {
		for turn := range 4 {
			for _, path := range [][]int64{strewn(6, turn+int(key)), repeat(0, 6), repeat(65520, 6)} {
				for _, value := range []int64{0, 1, 11, 65520, strewn(1, turn)[0]} {
					want := impl.IntResult{Value: toldProofRoot(key, true, value, path)}
					if got := impl.ClimbSlot(key, true, value, path); got != want {
						t.Fatalf("ClimbSlot(%d, true, %d, %v) is %+v, not %+v", key, value, path, got, want)
					}
				}
				want := impl.IntResult{Value: toldProofRoot(key, false, 0, path)}
				if got := impl.ClimbSlot(key, false, 0, path); got != want {
					t.Fatalf("ClimbSlot(%d, false, 0, %v) is %+v, not %+v", key, path, got, want)
				}
			}
		}
	}
}

// climbsTo asks both of a proof: what comes of it, and that it is taken for that alone; a code is taken for no root.
func climbsTo(t *testing.T, name string, key int64, there bool, value int64, path []int64, want impl.IntResult) {
	t.Helper()
	if got := impl.ClimbSlot(key, there, value, path); got != want {
		t.Errorf("%s: ClimbSlot(%d, %v, %d, %v) is %+v, not %+v", name, key, there, value, path, got, want)
	}
	for _, root := range []int64{want.Value, want.Value + 1, 0, 11, impl.ErrRange, impl.ErrProof, -1, 65521, want.Value + leastPastSum, want.Value - leastPastSum, math.MinInt64, math.MaxInt64} {
		if impl.AcceptSlot(key, there, value, path, root) != (want.Code == impl.OK && root == want.Value) {
			t.Errorf("%s: AcceptSlot(%d, %v, %d, %v, %d) is not so", name, key, there, value, path, root)
		}
	}
	if want.Code != impl.OK {
		answersCode(t, name+": MapClash", impl.MapClash(slots(5, 1480, 63, 7), key, there, value, path), want.Code)
	}
}

func TestClimbsOfSlotsAtTheBounds(t *testing.T) {
	outOfRange := impl.IntResult{Code: impl.ErrRange}
	for _, key := range noKeys {
		climbsTo(t, "key", key, true, 7, rising(6), outOfRange)
		climbsTo(t, "key, none", key, false, 0, rising(6), outOfRange)
		climbsTo(t, "key, a path of none", key, true, 7, nil, outOfRange)
	}
	for _, key := range []int64{0, 1, 5, 62, 63} {
		for _, value := range noSums {
			climbsTo(t, "value", key, true, value, rising(6), outOfRange)
		}
		for _, value := range slices.Concat(noSums, someSums) {
			want := outOfRange
			if value == 0 {
				want = impl.IntResult{Value: toldProofRoot(key, false, 0, rising(6))}
			}
			climbsTo(t, "none with a value", key, false, value, rising(6), want)
		}
		for _, value := range someSums {
			climbsTo(t, "a value that is a sum", key, true, value, rising(6), impl.IntResult{Value: toldProofRoot(key, true, value, rising(6))})
		}
	}
}

func TestMapPathsOfAllLengths(t *testing.T) {
	for _, n := range []int{0, 1, 2, 3, 4, 5, 6, 7, 8, 12, 24, 64, 5000} {
		for _, key := range []int64{0, 5, 32, 63} {
			want := impl.IntResult{Code: impl.ErrProof}
			if n == 6 {
				want = impl.IntResult{Value: toldProofRoot(key, true, 7, strewn(n, 1))}
			}
			climbsTo(t, "a path of some length", key, true, 7, strewn(n, 1), want)
			if n != 6 {
				climbsTo(t, "no sums of another length", key, true, 7, repeat(-1, n), want)
				climbsTo(t, "none, by another length", key, false, 0, strewn(n, 1), want)
			}
		}
	}
}

func TestMapPathsOfWhatIsNoSum(t *testing.T) {
	for place := range 6 {
		for _, sum := range slices.Concat(noSums, someSums) {
			path := rising(6)
			path[place] = sum
			want := impl.IntResult{Code: impl.ErrRange}
			if sum >= 0 && sum <= 65520 {
				want = impl.IntResult{Value: toldProofRoot(5, true, 7, path)}
			}
			climbsTo(t, "one of a path", 5, true, 7, path, want)
		}
	}
}

// mapPathWithFaults tells a path with the faults that the lowest two bits of wrong ask for, and the code that comes first of these.
func mapPathWithFaults(right []int64, wrong int) (path []int64, code int64) {
	path = slices.Clone(right)
	if wrong&1 != 0 {
		path[2], code = 65521, impl.ErrRange
	}
	if wrong&2 != 0 {
		path, code = append(path, 3), impl.ErrProof
	}
	return path, code
}

// Each of the things is right or wrong, in all ways together: the first code that is so is told.
func TestMapCodesStandInTheirOrder(t *testing.T) {
	for wrong := range 128 {
		list, key, there, value := slots(5, 1480, 60, 251, 63, 7), int64(5), true, int64(1480)
		path, want := mapPathWithFaults(treeOf(list).path(key), wrong)
		if wrong&4 != 0 {
			there, want = false, impl.ErrRange
		}
		if wrong&8 != 0 {
			value, want = 65521, impl.ErrRange
		}
		if wrong&16 != 0 {
			key, want = 64, impl.ErrRange
		}
		climb := impl.IntResult{Code: want}
		if want == impl.OK {
			climb.Value = treeOf(list).root()
		}
		climbsTo(t, "ClimbSlot", key, there, value, path, climb)
		if wrong&32 != 0 {
			// Another root is the last thing that is asked for.
			list[2].Value++
			if want == impl.OK {
				want = impl.ErrProof
			}
		}
		if wrong&64 != 0 {
			list[1].Key, want = 5, impl.ErrForm
		}
		answersCode(t, "MapClash", impl.MapClash(list, key, there, value, path), want)
	}
}

// holdsSlots asks that an answer has just these.
func holdsSlots(t *testing.T, name string, got impl.SlotsResult, want []impl.Slot) {
	t.Helper()
	if got.Code != impl.OK || !slices.Equal(got.Slots, want) {
		t.Errorf("%s: it is %+v, not %v", name, got, want)
	}
}

func TestPutSlotThatIsKnown(t *testing.T) {
	three := slots(5, 1, 9, 2, 60, 3)
	cases := []struct {
		name string
		list []impl.Slot
		s    impl.Slot
		want []impl.Slot
	}{
		{"among none", nil, impl.Slot{Key: 5, Value: 7}, slots(5, 7)},
		{"among none, empty", []impl.Slot{}, impl.Slot{}, slots(0, 0)},
		{"among none, the greatest", nil, impl.Slot{Key: 63, Value: 65520}, slots(63, 65520)},
		{"in front", three, impl.Slot{Key: 0, Value: 7}, slots(0, 7, 5, 1, 9, 2, 60, 3)},
		{"in front, one less", three, impl.Slot{Key: 4, Value: 7}, slots(4, 7, 5, 1, 9, 2, 60, 3)},
		{"between", three, impl.Slot{Key: 6, Value: 65520}, slots(5, 1, 6, 65520, 9, 2, 60, 3)},
		{"between the last two", three, impl.Slot{Key: 59, Value: 0}, slots(5, 1, 9, 2, 59, 0, 60, 3)},
		{"behind", three, impl.Slot{Key: 61, Value: 0}, slots(5, 1, 9, 2, 60, 3, 61, 0)},
		{"behind, the greatest", three, impl.Slot{Key: 63, Value: 1}, slots(5, 1, 9, 2, 60, 3, 63, 1)},
		{"the first anew", three, impl.Slot{Key: 5, Value: 7}, slots(5, 7, 9, 2, 60, 3)},
		{"the middle one anew", three, impl.Slot{Key: 9, Value: 0}, slots(5, 1, 9, 0, 60, 3)},
		{"the last anew", three, impl.Slot{Key: 60, Value: 65520}, slots(5, 1, 9, 2, 60, 65520)},
		{"anew as it was", three, impl.Slot{Key: 9, Value: 2}, three},
		{"the one that there is", slots(5, 1), impl.Slot{Key: 5, Value: 9}, slots(5, 9)},
	}
	for _, c := range cases {
		holdsSlots(t, c.name, impl.PutSlot(c.list, c.s), c.want)
	}
}

// toldPut takes what was there away, appends the slot, and sorts.
func toldPut(list []impl.Slot, s impl.Slot) []impl.Slot {
	others := slices.DeleteFunc(slices.Clone(list), func(o impl.Slot) bool { return o.Key == s.Key })
	others = append(others, s)
	slices.SortFunc(others, func(a impl.Slot, b impl.Slot) int { return int(a.Key - b.Key) })
	return others
}

func TestEachKeyIsPutIntoEachMap(t *testing.T) {
	for _, list := range someMaps() {
		for key := range int64(64) {
			for _, value := range []int64{0, 77, 65520} {
				s := impl.Slot{Key: key, Value: value}
				got := impl.PutSlot(list, s)
				want := toldPut(list, s)
				if len(want) > 12 {
					if got.Code != impl.ErrFull || len(got.Slots) != 0 {
						t.Fatalf("PutSlot(%v, %v) is %+v", list, s, got)
					}
					continue
				}
				holdsSlots(t, "PutSlot", got, want)
				if impl.SlotsFault(got.Slots) != impl.OK || impl.FindSlot(got.Slots, key) != (impl.IntResult{Value: value}) {
					t.Fatalf("what PutSlot(%v, %v) told is not taken", list, s)
				}
			}
		}
	}
}

// A map is the same in whatever order its slots were put, and whatever stood there ahead.
func TestSlotsArePutInAnyOrder(t *testing.T) {
	for n := range 13 {
		want := stepSlots(n, 2, 5)
		for turn := range 12 {
			var list []impl.Slot
			for i := range n {
				s := want[(i*7+turn)%12%n]
				list = impl.PutSlot(list, impl.Slot{Key: s.Key, Value: 65520 - s.Value}).Slots
			}
			for i := range n {
				list = impl.PutSlot(list, want[(i+turn)%n]).Slots
			}
			if !slices.Equal(list, want) || impl.MapRoot(list) != impl.MapRoot(want) {
				t.Fatalf("%v comes out as %v", want, list)
			}
		}
	}
}

func TestPutSlotCodes(t *testing.T) {
	check := func(name string, list []impl.Slot, s impl.Slot, want int64) {
		t.Helper()
		if got := impl.PutSlot(list, s); got.Code != want || len(got.Slots) != 0 {
			t.Errorf("%s: PutSlot(%v, %v) is %+v, asked is the code %d", name, list, s, got, want)
		}
	}
	full := stepSlots(12, 2, 5)
	for _, list := range [][]impl.Slot{nil, {}, slots(5, 1), full[:11], full} {
		for _, key := range noKeys {
			check("key", list, impl.Slot{Key: key, Value: 7}, impl.ErrRange)
			check("key and value", list, impl.Slot{Key: key, Value: -1}, impl.ErrRange)
		}
		for _, value := range noSums {
			check("value", list, impl.Slot{Key: 3, Value: value}, impl.ErrRange)
			check("value, anew", list, impl.Slot{Key: 2, Value: value}, impl.ErrRange)
		}
	}
	for key := range int64(64) {
		if _, there := toldSlot(full, key); there {
			holdsSlots(t, "anew where there are 12", impl.PutSlot(full, impl.Slot{Key: key, Value: 9}), toldPut(full, impl.Slot{Key: key, Value: 9}))
			continue
		}
		check("one more than 12", full, impl.Slot{Key: key, Value: 9}, impl.ErrFull)
		holdsSlots(t, "the twelfth", impl.PutSlot(full[:11], impl.Slot{Key: key, Value: 9}), toldPut(full[:11], impl.Slot{Key: key, Value: 9}))
	}
	check("slots with a fault, s with one", slots(5, 1, 5, 2), impl.Slot{Key: -1}, impl.ErrForm)
	check("13 slots, s with a fault", stepSlots(13, 0, 1), impl.Slot{Key: -1}, impl.ErrMany)
	check("13 slots, anew", stepSlots(13, 0, 1), impl.Slot{Key: 5}, impl.ErrMany)
	check("12 slots with a fault, one more", append(stepSlots(11, 0, 1), impl.Slot{Key: 3}), impl.Slot{Key: 50}, impl.ErrForm)
}

func TestMapClashesThatAreKnown(t *testing.T) {
	// 1480 and 1599 are of one weight; 60 with 251 has the sum of nothing.
	list := slots(5, 1480, 60, 251, 63, 7)
	root, of5, of4 := []byte{1, 165, 160, 118, 58}, []int64{11, 28859, 32893, 45183, 7158, 30266}, []int64{4, 9}
	var none impl.Clash
	cases := []struct {
		name  string
		key   int64
		there bool
		value int64
		path  []int64
		want  impl.Clash
	}{
		{"as it is", 5, true, 1480, of5, none},
		{"as it is, the last", 63, true, 7, []int64{11, 28859, 32893, 45183, 7158, 42400}, none},
		{"as it is, none", 0, false, 0, []int64{11, 28859, 22140, 45183, 7158, 30266}, none},
		{"another value", 5, true, 1599, of5, clashOf([]byte{2, 5, 6, 63}, []byte{2, 5, 5, 200})},
		{"none beside a slot", 60, false, 0, []int64{11, 58861, 32893, 45183, 7158, 42400}, clashOf(nil, []byte{2, 60, 0, 251})},
		{"another value beside that", 60, true, 370, []int64{11, 58861, 32893, 45183, 7158, 42400}, clashOf([]byte{2, 60, 1, 114}, []byte{2, 60, 0, 251})},
		{"a slot beside none", 0, true, 23244, []int64{11, 28859, 22140, 45183, 7158, 30266}, clashOf([]byte{2, 0, 90, 204}, nil)},
		{"at the root, from the first side", 5, true, 1480, []int64{1, 2, 3, 4, 5, 44932}, clashOf([]byte{1, 104, 93, 175, 132}, root)},
		{"at the root, from the other side", 63, true, 8, []int64{1, 2, 3, 4, 5, 45840}, clashOf([]byte{1, 179, 16, 34, 28}, root)},
		{"at the root, none there", 5, false, 0, []int64{2, 3, 4, 5, 6, 38463}, clashOf([]byte{1, 87, 188, 150, 63}, root)},
		{"at the root, none beside others", 0, false, 0, []int64{3, 4, 5, 6, 7, 5945}, clashOf([]byte{1, 88, 24, 23, 57}, root)},
		{"at the root, from the other side, a slot", 32, true, 65520, []int64{1, 2, 3, 4, 5, 8326}, clashOf([]byte{1, 32, 134, 116, 8}, root)},
		{"below it, on the first side", 5, true, 1480, []int64{1, 2, 3, 4, 29254, 30266}, clashOf([]byte{1, 221, 241, 114, 70}, []byte{1, 125, 184, 27, 246})},
		{"below it, on the other side", 63, true, 8, []int64{3, 4, 5, 6, 19283, 42400}, clashOf([]byte{1, 75, 83, 19, 216}, []byte{1, 27, 246, 45, 174})},
		{"on the third level", 4, false, 0, []int64{1, 2, 3, 16655, 7158, 30266}, clashOf([]byte{1, 93, 29, 65, 15}, []byte{1, 154, 4, 176, 127})},
		{"on the second level", 5, false, 0, []int64{2, 3, 43269, 45183, 7158, 30266}, clashOf([]byte{1, 169, 5, 249, 175}, []byte{1, 128, 125, 86, 124})},
		{"on the first level", 0, false, 0, []int64{1, 12370, 22140, 45183, 7158, 30266}, clashOf([]byte{1, 112, 177, 48, 82}, []byte{1, 112, 187, 112, 187})},
		{"above the leaf", of4[0], true, of4[1], []int64{61716, 28859, 32893, 45183, 7158, 30266}, clashOf([]byte{1, 244, 98, 241, 20}, []byte{1, 0, 11, 65, 46})},
	}
	for _, c := range cases {
		answersClash(t, c.name, impl.MapClash(list, c.key, c.there, c.value, c.path), c.want)
	}
	answersClash(t, "no slots, as it is", impl.MapClash(nil, 7, false, 0, []int64{11, 28859, 32893, 45183, 7158, 27872}), none)
	answersClash(t, "no slots", impl.MapClash(nil, 7, true, 22665, []int64{11, 28859, 32893, 45183, 7158, 27872}), clashOf([]byte{2, 7, 88, 137}, nil))
	answersCode(t, "no slots, a slot", impl.MapClash(nil, 7, true, 22666, []int64{11, 28859, 32893, 45183, 7158, 27872}), impl.ErrProof)
}

// forgedSlotPath leads from a leaf up to the node above key on a level (0: the one above the leaf), as if it came to the sum that is there, and from there on as the true path does;
// node is what is summed there by it, and is not what there is; false: it leads to no such node.
func forgedSlotPath(tree toldTree, key int64, there bool, value int64, level int, turn int) (path []int64, node []byte, ok bool) {
	low := strewn(level, turn)
	own := closedSum(toldProofPiece(key, there, value))
	if level > 0 {
		own = closedSum(toldProofNodes(key, there, value, low)[level-1])
	}
	beside, ok := besideOf(closedSum(tree.node(key, level)), own, isFirstAt(key, level))
	path = slices.Concat(low, []int64{beside}, tree.path(key)[level+1:])
	node = toldProofNodes(key, there, value, path)[level]
	return path, node, ok && !bytes.Equal(node, tree.node(key, level))
}

// Each node above each key is the one in which a proof and the slots are not the same: where nodes are equal, they lead on.
func TestASlotThatIsTakenClashesWhereItsPathParts(t *testing.T) {
	for _, list := range [][]impl.Slot{nil, slots(63, 7), slots(5, 1480, 60, 251, 63, 7), stepSlots(12, 0, 1), stepSlots(12, 2, 5)} {
		tree := treeOf(list)
		for key := range int64(64) {
			for level := range 6 {
				for met, turn := 0, int(key); met < 2; turn++ {
					there, value := turn%3 > 0, int64(0)
					if there {
						value = strewn(1, turn+level)[0]
					}
					path, node, ok := forgedSlotPath(tree, key, there, value, level, turn)
					if !ok {
						continue
					}
					met++
					want := clashOf(node, tree.node(key, level))
					if !impl.AcceptSlot(key, there, value, path, tree.root()) {
						t.Fatalf("the proof %v of %d is not taken", path, key)
					}
					answersClash(t, "MapClash", impl.MapClash(list, key, there, value, path), want)
					answersClash(t, "as it is told", impl.ClashResult{Clash: want}, toldMapClash(list, key, there, value, path))
				}
			}
		}
	}
}

// A proof of what is so, too, has what is not there beside it; the first such node from the root on is told, ahead of the leaf.
func TestWhatStandsBesideASlotClashes(t *testing.T) {
	met := 0
	for _, list := range someMaps() {
		tree := treeOf(list)
		for key := range int64(64) {
			value, there := toldSlot(list, key)
			for level, other := range twinPaths(tree.path(key)) {
				met++
				want := clashOf(toldProofNodes(key, there, value, other)[level], tree.node(key, level))
				answersClash(t, "MapClash", impl.MapClash(list, key, there, value, other), want)
				for low := range level {
					if twin, ok := twinOf(other[low]); ok {
						other[low] = twin
					}
				}
				answersClash(t, "MapClash, turned below", impl.MapClash(list, key, there, value, other), want)
				if twin, ok := twinOf(value); ok && there {
					answersClash(t, "MapClash, of a twin", impl.MapClash(list, key, there, twin, other), want)
				}
			}
		}
	}
	if met < 1000 {
		t.Errorf("no more than %d paths were turned", met)
	}
}

// A value beside another one of the same weight.
func TestASlotBesideAnotherValueOfIt(t *testing.T) {
	met := 0
	for _, list := range someMaps() {
		tree := treeOf(list)
		for _, s := range list {
			twin, ok := twinOf(s.Value)
			if !ok {
				continue
			}
			met++
			want := clashOf(slotPiece(s.Key, twin), slotPiece(s.Key, s.Value))
			answersClash(t, "a twin", impl.MapClash(list, s.Key, true, twin, tree.path(s.Key)), want)
			other := toldPut(list, impl.Slot{Key: s.Key, Value: twin})
			answersClash(t, "a twin in the list", impl.MapClash(other, s.Key, true, s.Value, tree.path(s.Key)), swapped(want))
			for key := range int64(64) {
				if value, there := toldSlot(list, key); key != s.Key {
					answersClash(t, "a twin elsewhere", impl.MapClash(other, key, there, value, tree.path(key)), impl.Clash{})
				}
			}
		}
	}
	if met < 200 {
		t.Errorf("no more than %d values had another one of their weight", met)
	}
}

// likeNone tells a value with which key has the sum of nothing; false: it has none.
func likeNone(key int64) (int64, bool) {
	return sideOf((11 - closedSum(slotPiece(key, 0)) + leastPastSum) % leastPastSum)
}

func TestASlotBesideNoneAndNoneBesideASlot(t *testing.T) {
	met := 0
	for key := range int64(64) {
		value, ok := likeNone(key)
		if !ok {
			continue
		}
		met++
		piece := slotPiece(key, value)
		for _, others := range [][]impl.Slot{nil, slots((key+1)%64, 7), toldPut(stepSlots(11, key%2, 3), impl.Slot{Key: key, Value: 1})} {
			without := slices.DeleteFunc(slices.Clone(others), func(s impl.Slot) bool { return s.Key == key })
			with := toldPut(without, impl.Slot{Key: key, Value: value})
			path := treeOf(without).path(key)
			answersClash(t, "a slot beside none", impl.MapClash(without, key, true, value, path), clashOf(piece, nil))
			answersClash(t, "none beside a slot", impl.MapClash(with, key, false, 0, path), clashOf(nil, piece))
			answersClash(t, "a slot beside itself", impl.MapClash(with, key, true, value, path), impl.Clash{})
			answersClash(t, "none beside none", impl.MapClash(without, key, false, 0, path), impl.Clash{})
		}
	}
	if met != 37 {
		t.Errorf("%d keys have a slot of the sum of nothing, not 37", met)
	}
}

// P8: whatever is taken is as there is one, or as there is none, or there are two pieces of one sum.
func TestASlotThatIsTakenIsAsThereIsOneOrClashes(t *testing.T) {
	for i, list := range someMaps() {
		root := treeOf(list).root()
		for key := range int64(64) {
			there, value := (int(key)+i)%3 > 0, int64(0)
			if there {
				value = strewn(1, int(key)*i)[0]
			}
			path, _, ok := forgedSlotPath(treeOf(list), key, there, value, 5, i)
			if !ok {
				continue
			}
			got := impl.MapClash(list, key, there, value, path)
			answersClash(t, "MapClash", got, toldMapClash(list, key, there, value, path))
			was, wasThere := toldSlot(list, key)
			if !impl.AcceptSlot(key, there, value, path, root) || !got.Clash.Found && (was != value || wasThere != there) {
				t.Fatalf("MapClash(%v, %d, %v, %d, %v) is %+v", list, key, there, value, path, got)
			}
		}
	}
}

func TestMapClashOfAnotherRoot(t *testing.T) {
	for _, list := range someMaps() {
		tree := treeOf(list)
		for key := int64(0); key < 64; key += 7 {
			value, there := toldSlot(list, key)
			for _, path := range append([][]int64{repeat(0, 6), repeat(65520, 6), strewn(6, int(key))}, tree.path((key+5)%64)) {
				if toldProofRoot(key, there, value, path) != tree.root() {
					answersCode(t, "another path", impl.MapClash(list, key, there, value, path), impl.ErrProof)
				}
			}
			for level := range 6 {
				path := tree.path(key)
				path[level] = (path[level] + 1) % leastPastSum
				answersCode(t, "one more in a path", impl.MapClash(list, key, there, value, path), impl.ErrProof)
			}
			answersCode(t, "another value", impl.MapClash(list, key, true, (value+1)%leastPastSum, tree.path(key)), impl.ErrProof)
		}
	}
}

// handedSlots lays slots where others stand behind them; all that is handed over is looked at by kept.
func handedSlots(slots []impl.Slot) (list []impl.Slot, kept func() bool) {
	room := append(slices.Clone(slots), impl.Slot{Key: 77, Value: 78}, impl.Slot{Key: 1, Value: 2})
	was := slices.Clone(room)
	return room[:len(slots)], func() bool { return slices.Equal(room, was) }
}

func spoilSlots(list []impl.Slot) {
	list = list[:cap(list)]
	for i := range list {
		list[i] = impl.Slot{Key: list[i].Key ^ 0xA5, Value: list[i].Value ^ 0xA5}
	}
}

// wildMaps has slots without a fault in it, and of each fault some.
func wildMaps() [][]impl.Slot {
	return append(someMaps(), slots(-1, 0), slots(64, 65521), slots(5, 1, 5, 2), slots(9, 1, 5, 2), slots(5, 1, 6, -1), stepSlots(13, 0, 1), stepSlots(64, 0, 1))
}

func TestMapsLeaveTheirArgumentsAsTheyAre(t *testing.T) {
	for _, given := range wildMaps() {
		list, kept := handedSlots(given)
		changesNothing(t, kept,
			namedCall{"SlotsFault", func() { impl.SlotsFault(list) }},
			namedCall{"MapRoot", func() { impl.MapRoot(list) }})
		for key := int64(-1); key <= 64; key++ {
			changesNothing(t, kept,
				namedCall{"MapPath", func() { impl.MapPath(list, key) }},
				namedCall{"FindSlot", func() { impl.FindSlot(list, key) }},
				namedCall{"PutSlot", func() { impl.PutSlot(list, impl.Slot{Key: key, Value: 99}) }})
			value, there := toldSlot(given, key)
			for _, steps := range [][]int64{impl.MapPath(list, key).List, strewn(6, 3), strewn(5, 3), strewn(7, 3), repeat(65521, 6)} {
				path, pathKept := handed(steps)
				changesNothing(t, func() bool { return kept() && pathKept() },
					namedCall{"ClimbSlot", func() { impl.ClimbSlot(key, there, value, path) }},
					namedCall{"AcceptSlot", func() { impl.AcceptSlot(key, there, value, path, 7) }},
					namedCall{"MapClash", func() { impl.MapClash(list, key, there, value, path) }},
					namedCall{"MapClash, another value", func() { impl.MapClash(list, key, true, 119, path) }})
			}
		}
	}
}

func TestMapPathsAreMemoryOfTheirOwn(t *testing.T) {
	for _, given := range someMaps() {
		for _, key := range []int64{0, 5, 32, 63} {
			list, kept := handedSlots(given)
			want := treeOf(given).path(key)
			first, second := impl.MapPath(list, key), impl.MapPath(list, key)
			spoil(first.List)
			if !kept() || !slices.Equal(second.List, want) || !slices.Equal(impl.MapPath(list, key).List, want) {
				t.Fatalf("MapPath of %d shares memory", key)
			}
			spoilSlots(list[:len(list):len(list)])
			if !slices.Equal(second.List, want) {
				t.Fatalf("MapPath of %d changes with its slots", key)
			}
		}
	}
}

func TestSlotsThatWerePutAreMemoryOfTheirOwn(t *testing.T) {
	for _, given := range someMaps() {
		for _, key := range []int64{0, 5, 32, 63} {
			s := impl.Slot{Key: key, Value: 99}
			want := toldPut(given, s)
			if len(want) > 12 {
				continue
			}
			list, kept := handedSlots(given)
			first, second := impl.PutSlot(list, s), impl.PutSlot(list, s)
			spoilSlots(first.Slots)
			if !kept() {
				t.Fatalf("PutSlot of %d shares memory with its slots", key)
			}
			holdsSlots(t, "asked ahead", second, want)
			holdsSlots(t, "asked behind", impl.PutSlot(list, s), want)
			spoilSlots(list[:len(list):len(list)])
			holdsSlots(t, "asked ahead of a change", second, want)
		}
	}
}

func TestMapClashesAreMemoryOfTheirOwn(t *testing.T) {
	cases := []struct {
		there bool
		value int64
		key   int64
		path  []int64
	}{
		{true, 1599, 5, []int64{11, 28859, 32893, 45183, 7158, 30266}},
		{false, 0, 60, []int64{11, 58861, 32893, 45183, 7158, 42400}},
		{true, 23244, 0, []int64{11, 28859, 22140, 45183, 7158, 30266}},
		{true, 1480, 5, []int64{1, 2, 3, 4, 5, 44932}},
		{true, 9, 4, []int64{61716, 28859, 32893, 45183, 7158, 30266}},
	}
	for _, c := range cases {
		list, kept := handedSlots(slots(5, 1480, 60, 251, 63, 7))
		path, pathKept := handed(c.path)
		want := toldMapClash(slots(5, 1480, 60, 251, 63, 7), c.key, c.there, c.value, c.path)
		if !want.Found {
			t.Fatalf("%+v has no clash", c)
		}
		ownPieces(t, "MapClash", want, func() bool { return kept() && pathKept() },
			func() { spoilSlots(list[:3:3]); spoil(path[:6:6]) },
			func() impl.ClashResult { return impl.MapClash(list, c.key, c.there, c.value, path) })
	}
}

// mapAnswers asks all functions of the chapter at arguments in bounds and out of them; what it tells is one row an answer.
func mapAnswers() []string {
	var rows []string
	tell := func(numbers ...int64) { rows = append(rows, rowOf(numbers...)) }
	keys := slices.Concat(wildNumbers, []int64{5, 31, 32, 60, 62, 63, 64, 65})
	for i, list := range wildMaps() {
		root := impl.MapRoot(list)
		tell(impl.SlotsFault(list), root.Code, root.Value)
		for j, key := range keys {
			found, path := impl.FindSlot(list, key), impl.MapPath(list, key)
			tell(append(path.List, path.Code, found.Code, found.Value)...)
			put := impl.PutSlot(list, impl.Slot{Key: key, Value: keys[(i+j)%len(keys)]})
			tell(put.Code)
			for _, s := range put.Slots {
				tell(s.Key, s.Value)
			}
			for _, there := range []bool{false, true} {
				value := keys[(i*j)%len(keys)]
				climb := impl.ClimbSlot(key, there, value, path.List)
				tell(climb.Code, climb.Value)
				for _, proof := range [][]int64{path.List, strewn(6, i), keys[:6]} {
					c := impl.MapClash(list, key, there, found.Value, proof)
					rows = append(rows, rowOf(c.Code)+string(c.Clash.A)+string(c.Clash.B))
					if impl.AcceptSlot(key, there, found.Value, proof, root.Value) {
						tell(key, found.Value)
					}
				}
			}
		}
	}
	return rows
}

func TestMapsHangOnTheirArgumentsAlone(t *testing.T) { answeredAlike(t, mapAnswers) }

// An empty list and nil are one, and what a list could still grow to makes no difference.
func TestEmptySlotsAndNilAreOne(t *testing.T) {
	for _, empty := range [][]impl.Slot{nil, {}, make([]impl.Slot, 0, 40)} {
		path := impl.MapPath(empty, 5)
		if impl.SlotsFault(empty) != impl.OK || impl.MapRoot(empty) != (impl.IntResult{Value: 7489}) || !slices.Equal(path.List, []int64{11, 28859, 32893, 45183, 7158, 27872}) {
			t.Error("empty slots and nil are two")
		}
		if impl.FindSlot(empty, 0) != (impl.IntResult{Code: impl.ErrNone}) {
			t.Error("no slots have something")
		}
		holdsSlots(t, "put among none", impl.PutSlot(empty, impl.Slot{}), slots(0, 0))
		answersClash(t, "no slots", impl.MapClash(empty, 5, false, 0, path.List), impl.Clash{})
	}
	for _, empty := range [][]int64{nil, {}, make([]int64, 0, 40)} {
		climbsTo(t, "no path", 5, true, 7, empty, impl.IntResult{Code: impl.ErrProof})
		climbsTo(t, "no path, none", 5, false, 0, empty, impl.IntResult{Code: impl.ErrProof})
	}
	roomy := append(make([]impl.Slot, 0, 400), slots(5, 100, 63, 7)...)
	if impl.SlotsFault(roomy) != impl.OK || impl.MapRoot(roomy) != (impl.IntResult{Value: 21046}) || len(impl.PutSlot(roomy, impl.Slot{Key: 6}).Slots) != 3 {
		t.Error("the room behind a list is told with it")
	}
}
