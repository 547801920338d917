package tests

import (
	"bytes"
	"math"
	"math/big"
	"slices"
	"testing"

	"loop.example/g00565/impl"
)

// The signatures and shapes of chapter 2: other ones do not compile.
var (
	_ func([]byte) impl.IntResult         = impl.SumOf
	_ func([]byte) impl.IntResult         = impl.LeafSum
	_ func(int64, int64) impl.IntResult   = impl.NodeSum
	_ func(int64, int64) impl.IntResult   = impl.SlotSum
	_ func([]byte) impl.BytesResult       = impl.LeafBytes
	_ func(int64, int64) impl.BytesResult = impl.NodeBytes
	_ func(impl.Clash) bool               = impl.IsClash

	_ = impl.Clash{Found: false, A: []byte(nil), B: []byte(nil)}
	_ = impl.ClashResult{Code: int64(0), Clash: impl.Clash{}}
)

const leastPastSum = 65521

func bytesOf(n int, b byte) []byte { return bytes.Repeat([]byte{b}, n) }

// mixed tells n bytes that go through all values in no simple order.
func mixed(n int, from int) []byte {
	data := make([]byte, n)
	for i := range data {
		data[i] = byte((from+i)*(from+i)*31 + 7*i + from)
	}
	return data
}

// somePieces has each length up to 300 in it, and of some several.
func somePieces() [][]byte {
	list := [][]byte{nil, {}}
	for n := range 301 {
		list = append(list, bytesOf(n, 0), bytesOf(n, 255), mixed(n, n))
	}
	for b := range 256 {
		list = append(list, []byte{byte(b)}, []byte{byte(b), 0}, []byte{0, byte(b)}, []byte{byte(b), 9, byte(b)})
	}
	return list
}

var longPieces = [][]byte{bytesOf(301, 0), bytesOf(301, 255), mixed(301, 5), mixed(302, 5), mixed(5000, 1)}

// closedSum works the whole sum out as one great number and takes what is left once, at the end.
func closedSum(piece []byte) int64 {
	factor := big.NewInt(137)
	total := big.NewInt(11)
	for _, b := range piece {
		total.Mul(total, factor)
		total.Add(total, big.NewInt(int64(b)+1))
	}
	return total.Mod(total, big.NewInt(leastPastSum)).Int64()
}

var someSums = []int64{0, 1, 2, 11, 127, 128, 255, 256, 257, 258, 511, 512, 4660, 32767, 32768, 61680, 65279, 65280, 65519, 65520}

var noSums = []int64{math.MinInt64, math.MinInt64 + 11, -(1 << 32), -65521, -65520, -256, -1, 65521, 65522, 65535, 65536, 65547, 1 << 31, 1 << 32, 1<<32 + 3, math.MaxInt64 - 1, math.MaxInt64}

var noKeys = []int64{math.MinInt64, math.MinInt64 + 5, -256, -64, -1, 64, 65, 127, 128, 255, 256, 261, 1 << 32, math.MaxInt64}

func TestMaxSum(t *testing.T) {
	if impl.MaxSum != 65520 {
		t.Errorf("MaxSum is %d", impl.MaxSum)
	}
}

func TestSumsThatAreKnown(t *testing.T) {
	cases := []struct {
		name  string
		piece []byte
		want  int64
	}{
		{"nil", nil, 11},
		{"none", []byte{}, 11},
		{"a byte 0", []byte{0}, 1508},
		{"a byte 255", []byte{255}, 1763},
		{"two bytes 0", []byte{0, 0}, 10034},
		{"a word", []byte("ledger"), 51886},
		{"300 bytes 0", bytesOf(300, 0), 51364},
		{"300 bytes 255", bytesOf(300, 255), 2994},
		{"a sum of 0", []byte{0, 8, 186}, 0},
		{"a sum of MaxSum", []byte{0, 8, 185}, 65520},
		{"the sum of nothing", []byte{0, 8, 197}, 11},
	}
	for _, c := range cases {
		if got := impl.SumOf(c.piece); got != (impl.IntResult{Value: c.want}) {
			t.Errorf("%s: SumOf is %+v, not %d", c.name, got, c.want)
		}
	}
}

func TestSumIsTheWholeNumberLeft(t *testing.T) {
	for _, piece := range somePieces() {
		if got := impl.SumOf(piece); got != (impl.IntResult{Value: closedSum(piece)}) {
			t.Fatalf("SumOf(%v) is %+v, not %d", piece, got, closedSum(piece))
		}
	}
}

// All pieces of two bytes: each sum is in its bounds, and goes on from that of the first byte.
func TestSumsAreInBounds(t *testing.T) {
	for a := range 256 {
		first := impl.SumOf([]byte{byte(a)})
		if first != (impl.IntResult{Value: 1508 + int64(a)}) {
			t.Fatalf("SumOf of the byte %d is %+v", a, first)
		}
		for b := range 256 {
			r := impl.SumOf([]byte{byte(a), byte(b)})
			if r.Code != impl.OK || r.Value < 0 || r.Value > impl.MaxSum || (first.Value*137+int64(b)+1-r.Value)%leastPastSum != 0 {
				t.Fatalf("SumOf of %d, %d is %+v", a, b, r)
			}
		}
	}
}

func TestPiecesThatAreTooLong(t *testing.T) {
	many := impl.IntResult{Code: impl.ErrMany}
	for _, piece := range longPieces {
		if got := impl.SumOf(piece); got != many {
			t.Errorf("SumOf of %d bytes is %+v", len(piece), got)
		}
	}
	for _, n := range []int{251, 252, 299, 300, 301, 5000} {
		if got := impl.LeafSum(mixed(n, 1)); got != many {
			t.Errorf("LeafSum of %d bytes is %+v", n, got)
		}
		if got := impl.LeafBytes(mixed(n, 1)); got.Code != impl.ErrMany || len(got.Bytes) != 0 {
			t.Errorf("LeafBytes of %d bytes is %+v", n, got)
		}
	}
	if got := impl.SumOf(mixed(300, 1)); got.Code != impl.OK {
		t.Errorf("SumOf of 300 bytes is %+v", got)
	}
}

func TestLeaves(t *testing.T) {
	known := []struct {
		name string
		data []byte
		want int64
	}{
		{"nil", nil, 1508},
		{"none", []byte{}, 1508},
		{"one letter", []byte("a"), 10131},
		{"250 bytes 0", bytesOf(250, 0), 15444},
		{"250 bytes 255", bytesOf(250, 255), 34120},
	}
	for _, c := range known {
		if got := impl.LeafSum(c.data); got != (impl.IntResult{Value: c.want}) {
			t.Errorf("%s: LeafSum is %+v, not %d", c.name, got, c.want)
		}
	}
	for _, data := range somePieces() {
		if len(data) > 250 {
			continue
		}
		want := append([]byte{0}, data...)
		if got := impl.LeafBytes(data); got.Code != impl.OK || !bytes.Equal(got.Bytes, want) {
			t.Fatalf("LeafBytes(%v) is %+v", data, got)
		}
		if got := impl.LeafSum(data); got != (impl.IntResult{Value: closedSum(want)}) {
			t.Fatalf("LeafSum(%v) is %+v, not %d", data, got, closedSum(want))
		}
	}
}

func TestNodes(t *testing.T) {
	known := []struct {
		a, b  int64
		piece []byte
		sum   int64
	}{
		{258, 3, []byte{1, 1, 2, 0, 3}, 7006},
		{0, 0, []byte{1, 0, 0, 0, 0}, 18952},
		{65520, 65520, []byte{1, 255, 240, 255, 240}, 64106},
	}
	for _, c := range known {
		if got := impl.NodeBytes(c.a, c.b); got.Code != impl.OK || !bytes.Equal(got.Bytes, c.piece) {
			t.Errorf("NodeBytes(%d, %d) is %+v, not %v", c.a, c.b, got, c.piece)
		}
		if got := impl.NodeSum(c.a, c.b); got != (impl.IntResult{Value: c.sum}) {
			t.Errorf("NodeSum(%d, %d) is %+v, not %d", c.a, c.b, got, c.sum)
		}
	}
	for _, a := range someSums {
		for _, b := range someSums {
			want := []byte{1, byte(a / 256), byte(a % 256), byte(b / 256), byte(b % 256)}
			if got := impl.NodeBytes(a, b); got.Code != impl.OK || !bytes.Equal(got.Bytes, want) {
				t.Fatalf("NodeBytes(%d, %d) is %+v, not %v", a, b, got, want)
			}
			if got := impl.NodeSum(a, b); got != (impl.IntResult{Value: closedSum(want)}) {
				t.Fatalf("NodeSum(%d, %d) is %+v, not %d", a, b, got, closedSum(want))
			}
		}
	}
}

func TestNodesOfNoSums(t *testing.T) {
	outOfRange := impl.IntResult{Code: impl.ErrRange}
	check := func(a int64, b int64) {
		if got := impl.NodeBytes(a, b); got.Code != impl.ErrRange || len(got.Bytes) != 0 {
			t.Errorf("NodeBytes(%d, %d) is %+v", a, b, got)
		}
		if got := impl.NodeSum(a, b); got != outOfRange {
			t.Errorf("NodeSum(%d, %d) is %+v", a, b, got)
		}
	}
	for _, bad := range noSums {
		for _, good := range someSums {
			check(bad, good)
			check(good, bad)
		}
		for _, other := range noSums {
			check(bad, other)
		}
	}
}

func TestSlots(t *testing.T) {
	known := []struct{ key, value, sum int64 }{{0, 0, 52998}, {63, 65520, 25721}, {5, 258, 15940}}
	for _, c := range known {
		if got := impl.SlotSum(c.key, c.value); got != (impl.IntResult{Value: c.sum}) {
			t.Errorf("SlotSum(%d, %d) is %+v, not %d", c.key, c.value, got, c.sum)
		}
	}
	for key := range int64(64) {
		for _, value := range someSums {
			want := closedSum([]byte{2, byte(key), byte(value / 256), byte(value % 256)})
			if got := impl.SlotSum(key, value); got != (impl.IntResult{Value: want}) {
				t.Fatalf("SlotSum(%d, %d) is %+v, not %d", key, value, got, want)
			}
		}
	}
}

func TestSlotsOutOfRange(t *testing.T) {
	outOfRange := impl.IntResult{Code: impl.ErrRange}
	check := func(key int64, value int64) {
		if got := impl.SlotSum(key, value); got != outOfRange {
			t.Errorf("SlotSum(%d, %d) is %+v", key, value, got)
		}
	}
	for _, key := range noKeys {
		for _, value := range slices.Concat(someSums, noSums) {
			check(key, value)
		}
	}
	for key := range int64(64) {
		for _, value := range noSums {
			check(key, value)
		}
	}
}

// What a leaf's data says cannot make it a node: the first byte tells, whatever follows.
func TestLeafIsNeverANode(t *testing.T) {
	for _, a := range someSums {
		for _, b := range someSums {
			node := impl.NodeBytes(a, b).Bytes
			for _, data := range [][]byte{nil, node, node[1:], node[:4], append([]byte{1}, node...), bytesOf(4, 0), bytesOf(4, 1)} {
				leaf := impl.LeafBytes(data).Bytes
				if bytes.Equal(leaf, node) || leaf[0] != 0 || node[0] != 1 {
					t.Fatalf("the leaf of %v is %v, the node of %d and %d is %v", data, leaf, a, b, node)
				}
			}
		}
	}
}

// Where a byte is one up and the one behind it 137 down, the sum is the same.
func TestClashes(t *testing.T) {
	long := append(mixed(298, 3), 5, 200)
	longToo := append(mixed(298, 3), 6, 63)
	cases := []struct {
		name string
		a, b []byte
	}{
		{"two bytes", []byte{5, 200}, []byte{6, 63}},
		{"the least two bytes", []byte{0, 137}, []byte{1, 0}},
		{"of 300 bytes", long, longToo},
		{"nothing and something", nil, []byte{0, 8, 197}},
		{"empty and something", []byte{}, []byte{0, 9, 60}},
		{"in the middle", []byte{1, 8, 137, 9}, []byte{1, 9, 0, 9}},
		{"of the sum 0", []byte{0, 8, 186}, []byte{0, 9, 49}},
		{"of the sum MaxSum", []byte{0, 8, 185}, []byte{2, 212, 220}},
	}
	for _, c := range cases {
		if closedSum(c.a) != closedSum(c.b) {
			t.Fatalf("%s: the pair has two sums", c.name)
		}
		if !impl.IsClash(impl.Clash{Found: true, A: c.a, B: c.b}) || !impl.IsClash(impl.Clash{Found: true, A: c.b, B: c.a}) {
			t.Errorf("%s: no clash", c.name)
		}
		if impl.IsClash(impl.Clash{A: c.a, B: c.b}) || impl.IsClash(impl.Clash{A: c.b, B: c.a}) {
			t.Errorf("%s: a clash that is not Found", c.name)
		}
		if impl.IsClash(impl.Clash{Found: true, A: c.a, B: c.a}) || impl.IsClash(impl.Clash{Found: true, A: c.b, B: slices.Clone(c.b)}) {
			t.Errorf("%s: a piece with itself is a clash", c.name)
		}
	}
}

func TestNoClashes(t *testing.T) {
	long := append(mixed(299, 3), 5, 200)
	longToo := append(mixed(299, 3), 6, 63)
	sumOfNone := []byte{0, 8, 186}
	cases := []struct {
		name string
		a, b []byte
	}{
		{"nil and nil", nil, nil},
		{"nil and empty", nil, []byte{}},
		{"empty and empty", []byte{}, make([]byte, 0, 7)},
		{"sums that are not the same", []byte{5, 200}, []byte{6, 64}},
		{"the same bytes, another order", []byte{1, 2}, []byte{2, 1}},
		{"nothing and a byte", nil, []byte{0}},
		{"a piece and what begins it", []byte{5, 200, 0}, []byte{5, 200}},
		{"both too long", long, longToo},
		{"one too long", long, []byte{5, 200}},
		{"one too long, one of the sum 0", long, sumOfNone},
		{"one of 301 and one of 300", bytesOf(301, 0), bytesOf(300, 0)},
		{"too long, of two lengths", bytesOf(301, 0), bytesOf(302, 0)},
		{"a long one with itself", long, long},
	}
	for _, c := range cases {
		for _, found := range []bool{true, false} {
			if impl.IsClash(impl.Clash{Found: found, A: c.a, B: c.b}) || impl.IsClash(impl.Clash{Found: found, A: c.b, B: c.a}) {
				t.Errorf("%s: a clash", c.name)
			}
		}
	}
	if impl.IsClash(impl.Clash{}) {
		t.Error("the zero value is a clash")
	}
}

// Were they not too long, each of these would clash with the short one beside it.
func TestTooLongToClash(t *testing.T) {
	pairs := []struct{ long, short []byte }{
		{append(bytesOf(298, 0), 1, 149, 217), []byte{0, 8, 186}},
		{append(bytesOf(298, 0), 1, 149, 228), nil},
		{append(bytesOf(298, 0), 1, 229, 176), []byte{5, 200}},
	}
	for _, p := range pairs {
		if len(p.long) != 301 || closedSum(p.long) != closedSum(p.short) {
			t.Fatalf("%v: the pair has two sums", p.short)
		}
		if impl.IsClash(impl.Clash{Found: true, A: p.long, B: p.short}) || impl.IsClash(impl.Clash{Found: true, A: p.short, B: p.long}) {
			t.Errorf("%v clashes with a piece that is too long", p.short)
		}
	}
}

// All pairs of some pieces: a clash is just two that are not the same, of one sum.
func TestClashIsTwoPiecesOfOneSum(t *testing.T) {
	var pieces [][]byte
	for a := range 6 {
		for b := 0; b < 256; b += 1 + a%2 {
			pieces = append(pieces, []byte{byte(a), byte(b)})
		}
	}
	found := 0
	for _, a := range pieces {
		for _, b := range pieces {
			want := string(a) != string(b) && closedSum(a) == closedSum(b)
			if impl.IsClash(impl.Clash{Found: true, A: a, B: b}) != want {
				t.Fatalf("IsClash of %v and %v is not %v", a, b, want)
			}
			if want {
				found++
			}
		}
	}
	if found == 0 {
		t.Error("no pair is a clash")
	}
}

// handed lays a list where other elements stand behind it in the same memory; all that is handed over is looked at by kept.
func handed[T byte | int64](data []T) (list []T, kept func() bool) {
	room := append(slices.Clone(data), 77, 78, 79, 80)
	was := slices.Clone(room)
	return room[:len(data)], func() bool { return slices.Equal(room, was) }
}

func TestPiecesStayAsTheyAre(t *testing.T) {
	for _, data := range slices.Concat(somePieces(), longPieces) {
		piece, kept := handed(data)
		changesNothing(t, kept,
			namedCall{"SumOf", func() { impl.SumOf(piece) }},
			namedCall{"LeafSum", func() { impl.LeafSum(piece) }},
			namedCall{"LeafBytes", func() { impl.LeafBytes(piece) }},
			namedCall{"IsClash, A", func() { impl.IsClash(impl.Clash{Found: true, A: piece, B: []byte{6, 63}}) }},
			namedCall{"IsClash, B", func() { impl.IsClash(impl.Clash{Found: true, A: []byte{6, 63}, B: piece}) }})
	}
}

type namedCall struct {
	name string
	call func()
}

func changesNothing(t *testing.T, kept func() bool, calls ...namedCall) {
	t.Helper()
	for _, c := range calls {
		// Looked at behind each call: two calls could undo each other's change.
		if c.call(); !kept() {
			t.Fatalf("%s changed what it was handed", c.name)
		}
	}
}

// spoil writes over all memory that a list can reach.
func spoil[T byte | int64](list []T) {
	list = list[:cap(list)]
	for i := range list {
		list[i] ^= 0xA5
	}
}

func TestBytesAreMemoryOfTheirOwn(t *testing.T) {
	for _, n := range []int{0, 1, 2, 7, 8, 249, 250} {
		piece, kept := handed(mixed(n, 2))
		want := append([]byte{0}, piece...)
		first, second := impl.LeafBytes(piece), impl.LeafBytes(piece)
		spoil(first.Bytes)
		if !kept() {
			t.Errorf("LeafBytes of %d bytes shares memory with its data", n)
		}
		if !bytes.Equal(second.Bytes, want) || !bytes.Equal(impl.LeafBytes(piece).Bytes, want) {
			t.Errorf("LeafBytes of %d bytes shares memory with another answer", n)
		}
		spoil(piece[:n:n])
		if !bytes.Equal(second.Bytes, want) {
			t.Errorf("LeafBytes of %d bytes changes with its data", n)
		}
	}
	first, second := impl.NodeBytes(258, 3), impl.NodeBytes(258, 3)
	spoil(first.Bytes)
	for _, got := range [][]byte{second.Bytes, impl.NodeBytes(258, 3).Bytes} {
		if !bytes.Equal(got, []byte{1, 1, 2, 0, 3}) {
			t.Errorf("NodeBytes shares memory with another answer: %v", got)
		}
	}
	if impl.SlotSum(5, 258).Value != 15940 || impl.LeafSum(nil).Value != 1508 || impl.NodeSum(258, 3).Value != 7006 {
		t.Error("a sum changed with the bytes of an answer")
	}
}

// sumAnswers asks all functions of the chapter at arguments in bounds and out of them; what it tells is one row an answer.
func sumAnswers() []string {
	var rows []string
	tell := func(code int64, value int64, list []byte, truth bool) {
		row := append(binaryOf(code), binaryOf(value)...)
		if truth {
			row = append(row, 1)
		}
		rows = append(rows, string(append(row, list...)))
	}
	ints := func(r impl.IntResult) { tell(r.Code, r.Value, nil, false) }
	pieces := slices.Concat(somePieces(), longPieces)
	for i, piece := range pieces {
		ints(impl.SumOf(piece))
		ints(impl.LeafSum(piece))
		r := impl.LeafBytes(piece)
		tell(r.Code, 0, r.Bytes, false)
		tell(0, 0, nil, impl.IsClash(impl.Clash{Found: true, A: piece, B: pieces[len(pieces)-1-i]}))
	}
	numbers := slices.Concat(someSums, noSums, noKeys, wildNumbers)
	for _, a := range numbers {
		for _, b := range numbers {
			ints(impl.NodeSum(a, b))
			ints(impl.SlotSum(a, b))
			r := impl.NodeBytes(a, b)
			tell(r.Code, 0, r.Bytes, false)
		}
	}
	return rows
}

func binaryOf(n int64) []byte {
	var list []byte
	for shift := 0; shift < 64; shift += 8 {
		list = append(list, byte(uint64(n)>>shift))
	}
	return list
}

func TestSumsHangOnTheirArgumentsAlone(t *testing.T) { answeredAlike(t, sumAnswers) }

// answeredAlike asks all that answers asks again, by itself and beside others.
func answeredAlike(t *testing.T, answers func() []string) {
	t.Helper()
	first := answers()
	if !slices.Equal(first, answers()) {
		t.Error("the same arguments were answered in two ways")
	}
	told := make(chan []string)
	for range 4 {
		go func() { told <- answers() }()
	}
	for range 4 {
		if !slices.Equal(first, <-told) {
			t.Error("beside others the same arguments were answered in another way")
		}
	}
}

// An empty piece and nil are one, and what a piece could still grow to makes no difference.
func TestEmptyPiecesAndNilAreOne(t *testing.T) {
	for _, empty := range [][]byte{{}, make([]byte, 0, 400)} {
		if impl.SumOf(empty) != impl.SumOf(nil) || impl.LeafSum(empty) != impl.LeafSum(nil) || !bytes.Equal(impl.LeafBytes(empty).Bytes, []byte{0}) || !bytes.Equal(impl.LeafBytes(nil).Bytes, []byte{0}) {
			t.Error("an empty piece and nil are two")
		}
	}
	roomy := append(make([]byte, 0, 4000), 5, 200)
	if impl.SumOf(roomy) != impl.SumOf([]byte{5, 200}) || impl.LeafSum(roomy) != impl.LeafSum([]byte{5, 200}) || impl.LeafBytes(roomy).Code != impl.OK {
		t.Error("the room behind a piece is told with it")
	}
}
