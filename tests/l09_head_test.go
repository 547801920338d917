package tests

import (
	"bytes"
	"math"
	"slices"
	"testing"

	"loop.example/g00565/impl"
)

// The signatures and the types of chapter 9: other ones do not compile.
var (
	_ func(impl.Head) int64                           = impl.HeadFault
	_ func(impl.Head) impl.BytesResult                = impl.PackHead
	_ func([]byte) impl.HeadResult                    = impl.ReadHead
	_ func(impl.Head) impl.IntResult                  = impl.HeadSum
	_ func(int64, int64, impl.Head) impl.SignedResult = impl.SignHead
	_ func(int64, int64, impl.Signed) bool            = impl.CheckHead
	_ func(impl.Signed) int64                         = impl.SignedFault
	_ func(impl.Signed, impl.Signed) bool             = impl.SameSigned
	_ struct{ Size, Root, Map, Key int64 }            = impl.Head{}
	_ struct {
		Head impl.Head
		Sign impl.Sign
		Path []int64
	} = impl.Signed{}
	_ = impl.HeadResult{Code: int64(0), Head: impl.Head{}}
	_ = impl.SignedResult{Code: int64(0), Signed: impl.Signed{}}
)

var noSizes = []int64{math.MinInt64, math.MinInt64 + 3, -(1 << 32), -256, -24, -1, 25, 26, 31, 32, 127, 128, 255, 256, 259, 1 << 32, 1<<32 + 3, math.MaxInt64 - 1, math.MaxInt64}

var plainHead = impl.Head{Size: 3, Root: 258, Map: 772, Key: 1}

// someHeads has each size, each key and all of someSums in it; none of them has a fault.
func someHeads() []impl.Head {
	heads := []impl.Head{{}, plainHead, {Size: 24, Root: 65520, Map: 65520, Key: 7}, {Size: 24}, {Root: 65520}, {Map: 65520}, {Key: 7}}
	for size := range int64(25) {
		heads = append(heads, impl.Head{Size: size, Root: 4660, Map: 61680, Key: size % 8})
	}
	for i, sum := range someSums {
		other, turn := someSums[len(someSums)-1-i], int64(i)
		heads = append(heads, impl.Head{Size: turn % 25, Root: sum, Map: other, Key: turn % 8}, impl.Head{Size: 24 - turn, Root: other, Map: sum, Key: 7 - turn%8})
	}
	return heads
}

// What follows is worked out with no help of the program.

func toldHeadBytes(h impl.Head) []byte {
	return []byte{5, byte(h.Size), byte(h.Root / 256), byte(h.Root % 256), byte(h.Map / 256), byte(h.Map % 256), byte(h.Key)}
}

func toldHeadSum(h impl.Head) int64 { return closedSum(toldHeadBytes(h)) }

func toldSigned(seed int64, count int64, h impl.Head) impl.Signed {
	return impl.Signed{Head: h, Sign: toldSign(seed, h.Key, toldHeadSum(h)), Path: toldPath(toldKeys(seed, count), h.Key)}
}

func toldCheckHead(root int64, count int64, g impl.Signed) bool {
	return toldCheck(g.Sign, toldHeadSum(g.Head), count, g.Path, root)
}

func holdSameNumbers(a impl.Signed, b impl.Signed) bool {
	return a.Head == b.Head && sameSigns(a.Sign, b.Sign) && slices.Equal(a.Path, b.Path)
}

func cloneSigned(g impl.Signed) impl.Signed {
	return impl.Signed{Head: g.Head, Sign: impl.Sign{Index: g.Sign.Index, Shown: slices.Clone(g.Sign.Shown), Others: slices.Clone(g.Sign.Others)}, Path: slices.Clone(g.Path)}
}

// changed tells a copy of g that change was let on.
func changed(g impl.Signed, change func(g *impl.Signed)) impl.Signed {
	g = cloneSigned(g)
	change(&g)
	return g
}

func holdsSigned(t *testing.T, name string, got impl.SignedResult, want impl.Signed) {
	t.Helper()
	if got.Code != impl.OK || !holdSameNumbers(got.Signed, want) {
		t.Fatalf("%s: the signed head is %+v, not %+v", name, got, want)
	}
}

func holdsNoSigned(t *testing.T, name string, got impl.SignedResult, want int64) {
	t.Helper()
	if got.Code != want || !holdSameNumbers(got.Signed, impl.Signed{}) {
		t.Errorf("%s: the signed head is %+v, asked is the code %d", name, got, want)
	}
}

func holdsBytes(t *testing.T, name string, got impl.BytesResult, code int64, want []byte) {
	t.Helper()
	if got.Code != code || !bytes.Equal(got.Bytes, want) {
		t.Errorf("%s is %+v, asked are the code %d and %v", name, got, code, want)
	}
}

func holdsHead(t *testing.T, name string, got impl.HeadResult, want impl.HeadResult) {
	t.Helper()
	if got != want {
		t.Errorf("%s is %+v, not %+v", name, got, want)
	}
}

var noHead = impl.HeadResult{Code: impl.ErrText}

// asksHeadFirst asks all functions that have a head: its code is told, whatever else is handed in.
func asksHeadFirst(t *testing.T, name string, h impl.Head, want int64) {
	t.Helper()
	if got := impl.HeadFault(h); got != want {
		t.Errorf("%s: HeadFault(%+v) is %d, not %d", name, h, got, want)
	}
	if want == impl.OK {
		return
	}
	holdsBytes(t, name+": PackHead", impl.PackHead(h), want, nil)
	holdsInt(t, name+": HeadSum", impl.HeadSum(h), impl.IntResult{Code: want})
	for _, seed := range []int64{-1, 0, 7, 999, 1000} {
		for _, count := range []int64{0, 1, 4, 8, 9} {
			holdsNoSigned(t, name+": SignHead", impl.SignHead(seed, count, h), want)
		}
	}
	for _, sign := range []impl.Sign{{}, strewnSign(h.Key, 3), strewnSign(0, 3), toldSign(7, 1, 6172), {Index: h.Key}} {
		for _, path := range [][]int64{nil, {21434, 26573}, strewn(7, 3), {-1}} {
			g := impl.Signed{Head: h, Sign: sign, Path: path}
			if got := impl.SignedFault(g); got != want {
				t.Errorf("%s: SignedFault(%+v) is %d, not %d", name, g, got, want)
			}
			for _, root := range []int64{0, want, 42557} {
				if impl.CheckHead(root, 4, g) || impl.CheckHead(root, 1, g) {
					t.Errorf("%s: %+v is taken", name, g)
				}
			}
		}
	}
}

func TestHeadsWithoutFault(t *testing.T) {
	for _, h := range someHeads() {
		asksHeadFirst(t, "a head", h, impl.OK)
	}
	for size := range int64(25) {
		for key := range int64(8) {
			for _, sum := range []int64{0, 65520} {
				asksHeadFirst(t, "a head at its bounds", impl.Head{Size: size, Root: sum, Map: 65520 - sum, Key: key}, impl.OK)
				asksHeadFirst(t, "a head at its bounds", impl.Head{Size: size, Root: sum, Map: sum, Key: key}, impl.OK)
			}
		}
	}
}

func TestHeadsOutOfRange(t *testing.T) {
	for _, right := range []impl.Head{{}, plainHead, {Size: 24, Root: 65520, Map: 65520, Key: 7}} {
		for _, size := range noSizes {
			h := right
			h.Size = size
			asksHeadFirst(t, "no size", h, impl.ErrRange)
		}
		for _, sum := range noSums {
			h := right
			h.Root = sum
			asksHeadFirst(t, "no root", h, impl.ErrRange)
			h = right
			h.Map = sum
			asksHeadFirst(t, "no map", h, impl.ErrRange)
		}
		for _, key := range noIndexes {
			h := right
			h.Key = key
			asksHeadFirst(t, "no key", h, impl.ErrRange)
		}
	}
}

// Each of the four is right or wrong, in all ways together.
func TestHeadsOfWhichSomeIsOutOfRange(t *testing.T) {
	for wrong := 1; wrong < 16; wrong++ {
		for turn := range len(noSums) {
			h := plainHead
			if wrong&1 != 0 {
				h.Size = noSizes[turn]
			}
			if wrong&2 != 0 {
				h.Root = noSums[turn]
			}
			if wrong&4 != 0 {
				h.Map = noSums[len(noSums)-1-turn]
			}
			if wrong&8 != 0 {
				h.Key = noIndexes[turn]
			}
			asksHeadFirst(t, "some of it out of range", h, impl.ErrRange)
		}
	}
}

func TestBytesOfHeadsThatAreKnown(t *testing.T) {
	cases := []struct {
		h    impl.Head
		want string
		sum  int64
	}{
		{impl.Head{}, "\x05\x00\x00\x00\x00\x00\x00", 1246},
		{impl.Head{Size: 24, Root: 65520, Map: 65520, Key: 7}, "\x05\x18\xff\xf0\xff\xf0\x07", 63488},
		{plainHead, "\x05\x03\x01\x02\x03\x04\x01", 6172},
		{impl.Head{Size: 1, Root: 1}, "\x05\x01\x00\x01\x00\x00\x00", 21473},
		{impl.Head{Root: 256, Map: 255}, "\x05\x00\x01\x00\x00\xff\x00", 5125},
		{impl.Head{Size: 24}, "\x05\x18\x00\x00\x00\x00\x00", 36357},
		{impl.Head{Root: 65520}, "\x05\x00\xff\xf0\x00\x00\x00", 57949},
		{impl.Head{Map: 65520}, "\x05\x00\x00\x00\xff\xf0\x00", 37188},
		{impl.Head{Key: 7}, "\x05\x00\x00\x00\x00\x00\x07", 1253},
	}
	for _, c := range cases {
		holdsBytes(t, "PackHead", impl.PackHead(c.h), impl.OK, []byte(c.want))
		holdsHead(t, "ReadHead", impl.ReadHead([]byte(c.want)), impl.HeadResult{Head: c.h})
		holdsInt(t, "HeadSum", impl.HeadSum(c.h), impl.IntResult{Value: c.sum})
	}
}

func TestHeadsAreReadBackFromTheirBytes(t *testing.T) {
	held := func(h impl.Head) {
		packed := impl.PackHead(h)
		holdsBytes(t, "PackHead", packed, impl.OK, toldHeadBytes(h))
		holdsHead(t, "ReadHead of PackHead", impl.ReadHead(packed.Bytes), impl.HeadResult{Head: h})
		holdsInt(t, "HeadSum", impl.HeadSum(h), impl.IntResult{Value: toldHeadSum(h)})
		holdsInt(t, "HeadSum", impl.HeadSum(h), impl.SumOf(packed.Bytes))
	}
	for _, h := range someHeads() {
		held(h)
	}
	for size := range int64(25) {
		for key := range int64(8) {
			for turn, sum := range someSums {
				held(impl.Head{Size: size, Root: sum, Map: someSums[(turn+int(size)+3)%len(someSums)], Key: key})
			}
		}
	}
}

// Of each sum that there is as a root, and as a map.
func TestEachRootAndEachMapIsReadBack(t *testing.T) {
	for sum := range int64(leastPastSum) {
		h := impl.Head{Size: sum % 25, Root: sum, Map: (sum*7 + 5) % leastPastSum, Key: sum % 8}
		packed := impl.PackHead(h)
		if packed.Code != impl.OK || !bytes.Equal(packed.Bytes, toldHeadBytes(h)) || impl.ReadHead(packed.Bytes) != (impl.HeadResult{Head: h}) {
			t.Fatalf("%+v is packed as %+v", h, packed)
		}
	}
}

// isHeadBytes asks the words of the document of data, byte by byte.
func isHeadBytes(data []byte) bool {
	if len(data) != 7 || data[0] != 5 || data[1] > 24 || data[6] > 7 {
		return false
	}
	isOver := func(high byte, low byte) bool { return high == 255 && low > 240 }
	return !isOver(data[2], data[3]) && !isOver(data[4], data[5])
}

// readsAsTold holds what is read against the bytes: there is a head of them, and these are its bytes, or there is none.
func readsAsTold(t *testing.T, data []byte) (read bool) {
	t.Helper()
	got := impl.ReadHead(data)
	if !isHeadBytes(data) {
		holdsHead(t, "ReadHead of no head", got, noHead)
		return false
	}
	if got.Code != impl.OK || !bytes.Equal(toldHeadBytes(got.Head), data) || !bytes.Equal(impl.PackHead(got.Head).Bytes, data) {
		t.Errorf("ReadHead(%v) is %+v", data, got)
	}
	return true
}

func TestBytesOfOtherLengths(t *testing.T) {
	for _, none := range [][]byte{nil, {}, make([]byte, 0, 7), append(make([]byte, 0, 7), 5, 0, 0, 0, 0, 0, 0)[:0]} {
		holdsHead(t, "ReadHead of none", impl.ReadHead(none), noHead)
	}
	for _, h := range someHeads() {
		packed := toldHeadBytes(h)
		for n := range 7 {
			holdsHead(t, "ReadHead of too few", impl.ReadHead(packed[:n]), noHead)
			holdsHead(t, "ReadHead of too few", impl.ReadHead(slices.Clone(packed[:n])), noHead)
			holdsHead(t, "ReadHead of the last ones", impl.ReadHead(packed[n+1:]), noHead)
		}
		for _, more := range []int{1, 2, 7, 8, 249, 5000} {
			for _, b := range []byte{0, 5, 255} {
				holdsHead(t, "ReadHead of too many", impl.ReadHead(append(slices.Clone(packed), bytesOf(more, b)...)), noHead)
				holdsHead(t, "ReadHead behind others", impl.ReadHead(append(bytesOf(more, b), packed...)), noHead)
			}
		}
		holdsHead(t, "ReadHead of it twice", impl.ReadHead(append(slices.Clone(packed), packed...)), noHead)
	}
	for n := range 20 {
		for _, b := range []byte{0, 5, 255} {
			readsAsTold(t, bytesOf(n, b))
		}
	}
}

// Each byte of a head is turned into each other one, by itself.
func TestEachByteOfAHead(t *testing.T) {
	for _, h := range someHeads() {
		for place := range 7 {
			for b := range 256 {
				data := toldHeadBytes(h)
				data[place] = byte(b)
				readsAsTold(t, data)
			}
		}
	}
}

func TestBytesOutOfBounds(t *testing.T) {
	cases := [][]byte{
		{4, 3, 1, 2, 3, 4, 1}, {6, 3, 1, 2, 3, 4, 1}, {0, 3, 1, 2, 3, 4, 1}, {255, 3, 1, 2, 3, 4, 1}, {1, 1, 2, 3, 4}, {0, 5, 3, 1, 2, 3, 4, 1},
		{5, 25, 1, 2, 3, 4, 1}, {5, 255, 1, 2, 3, 4, 1}, {5, 25, 0, 0, 0, 0, 0},
		{5, 3, 255, 241, 3, 4, 1}, {5, 3, 255, 255, 3, 4, 1}, {5, 3, 1, 2, 255, 241, 1}, {5, 3, 1, 2, 255, 255, 1},
		{5, 3, 1, 2, 3, 4, 8}, {5, 3, 1, 2, 3, 4, 255}, {5, 25, 255, 241, 255, 241, 8}, {5, 255, 255, 255, 255, 255, 255},
	}
	for _, data := range cases {
		holdsHead(t, "ReadHead out of bounds", impl.ReadHead(data), noHead)
	}
	for high := 250; high < 256; high++ {
		for low := range 256 {
			readsAsTold(t, []byte{5, 24, byte(high), byte(low), 0, 0, 7})
			readsAsTold(t, []byte{5, 24, 0, 0, byte(high), byte(low), 7})
		}
	}
}

func TestStrewnBytesAreReadAsTold(t *testing.T) {
	read := 0
	for from := range 20000 {
		data := mixed(7, from)
		readsAsTold(t, data)
		data[0], data[1], data[6] = 5, data[1]%26, data[6]%9
		if readsAsTold(t, data) {
			read++
		}
	}
	if read < 1000 {
		t.Errorf("only %d of all were heads", read)
	}
}

func TestSumsOfHeadsTellNoneForSure(t *testing.T) {
	a, b := impl.Head{Size: 5, Root: 456, Map: 9, Key: 2}, impl.Head{Size: 5, Root: 575, Map: 9, Key: 2}
	same := impl.IntResult{Value: 54182}
	holdsInt(t, "HeadSum", impl.HeadSum(a), same)
	holdsInt(t, "HeadSum", impl.HeadSum(b), same)
	if !impl.IsClash(impl.Clash{Found: true, A: impl.PackHead(a).Bytes, B: impl.PackHead(b).Bytes}) {
		t.Error("two heads of one sum are no clash")
	}
}

func TestSignedHeadsThatAreKnown(t *testing.T) {
	cases := []struct {
		seed, count, root int64
		want              impl.Signed
	}{
		{0, 1, 3654, impl.Signed{Sign: impl.Sign{
			Shown:  []int64{49492, 49630, 49767, 49904, 50041, 50177, 50315, 50452, 50588, 50725, 50863, 50999, 51136, 51273, 51410, 51547},
			Others: []int64{25244, 25380, 25398, 25535, 25553, 25572, 25708, 25726, 25864, 25882, 26018, 26037, 26174, 26192, 26329, 26347}}}},
		{999, 8, 30084, impl.Signed{Head: impl.Head{Size: 24, Root: 65520, Map: 65520, Key: 7}, Sign: impl.Sign{Index: 7,
			Shown:  []int64{56864, 57001, 57138, 57275, 57412, 57549, 57686, 57823, 57960, 58097, 58234, 58372, 58509, 58646, 58783, 58920},
			Others: []int64{29165, 29302, 29320, 29457, 29475, 29612, 29630, 29767, 29785, 29922, 29940, 29957, 30094, 30112, 30249, 30267}},
			Path: []int64{60104, 35001, 43354}}},
		{7, 4, 42557, impl.Signed{Head: plainHead, Sign: impl.Sign{Index: 1,
			Shown:  []int64{49457, 49594, 49732, 49869, 50006, 50142, 50279, 50416, 50553, 50690, 50827, 50965, 51102, 51238, 51375, 51512},
			Others: []int64{25209, 25346, 25363, 25500, 25518, 25656, 25674, 25811, 25829, 25847, 25984, 26001, 26138, 26157, 26294, 26312}},
			Path: []int64{21434, 26573}}},
		{7, 5, 35257, impl.Signed{Head: impl.Head{Size: 5, Root: 456, Map: 9, Key: 4}, Sign: impl.Sign{Index: 4,
			Shown:  []int64{40243, 40380, 40517, 40655, 40791, 40929, 41065, 41203, 41340, 41477, 41613, 41750, 41888, 42024, 42162, 42299},
			Others: []int64{20279, 20416, 20434, 20570, 20589, 20725, 20744, 20880, 20898, 20916, 21054, 21072, 21208, 21227, 21363, 21381}},
			Path: []int64{42557}}},
		{7, 3, 49241, impl.Signed{Head: impl.Head{Size: 1, Root: 1, Map: 2, Key: 2}, Sign: impl.Sign{Index: 2,
			Shown:  []int64{2706, 2842, 2980, 3116, 3254, 3391, 3528, 3665, 3801, 3938, 4076, 4212, 4350, 4486, 4624, 4760},
			Others: []int64{233, 252, 388, 407, 543, 561, 698, 716, 854, 872, 1008, 1027, 1163, 1182, 1199, 1337}},
			Path: []int64{13607}}},
	}
	for _, c := range cases {
		holdsSigned(t, "a signed head that is known", impl.SignHead(c.seed, c.count, c.want.Head), c.want)
		if impl.SignedFault(c.want) != impl.OK || !impl.CheckHead(c.root, c.count, c.want) {
			t.Errorf("%+v is not taken", c.want)
		}
	}
}

// headsOf has heads of that key.
func headsOf(key int64) []impl.Head {
	heads := []impl.Head{{Key: key}, {Size: 24, Root: 65520, Map: 65520, Key: key}}
	for turn := range int64(4) {
		list := strewn(2, int(7*turn+key))
		heads = append(heads, impl.Head{Size: (turn*9 + key) % 25, Root: list[0], Map: list[1], Key: key})
	}
	return heads
}

func TestWhatWasSignedIsTakenByItsRootAtEachKeyAndEachCount(t *testing.T) {
	for _, seed := range someSeeds {
		for count, key := range signedPlaces {
			root := impl.KeysRoot(seed, count).Value
			for _, h := range headsOf(key) {
				got := impl.SignHead(seed, count, h)
				holdsSigned(t, "SignHead", got, toldSigned(seed, count, h))
				if impl.SignedFault(got.Signed) != impl.OK || !impl.CheckHead(root, count, got.Signed) {
					t.Fatalf("what %d signed at %d of %d is not taken: %+v", seed, key, count, h)
				}
			}
		}
	}
}

func TestEachSeedSigns(t *testing.T) {
	for seed := range int64(1000) {
		h := impl.Head{Size: seed % 25, Root: seed * 65, Map: 65520 - seed*65, Key: seed % 8}
		got := impl.SignHead(seed, 8, h)
		if got.Code != impl.OK || !impl.CheckHead(impl.KeysRoot(seed, 8).Value, 8, got.Signed) {
			t.Fatalf("what %d signed is not taken: %+v", seed, got)
		}
		if seed%97 == 0 {
			holdsSigned(t, "SignHead", got, toldSigned(seed, 8, h))
		}
	}
}

func TestSignHeadCodes(t *testing.T) {
	for turn, seed := range noSeeds {
		for _, count := range []int64{1, 4, 8, noCounts[turn]} {
			holdsNoSigned(t, "SignHead of no seed", impl.SignHead(seed, count, plainHead), impl.ErrRange)
		}
	}
	for _, count := range noCounts {
		for key := range int64(8) {
			for _, seed := range []int64{0, 7, 999} {
				holdsNoSigned(t, "SignHead of no count", impl.SignHead(seed, count, impl.Head{Key: key}), impl.ErrRange)
			}
		}
	}
	for count := int64(1); count <= 8; count++ {
		for key := range int64(8) {
			for _, seed := range []int64{0, 7, 999} {
				got := impl.SignHead(seed, count, impl.Head{Size: 3, Root: 258, Map: 772, Key: key})
				if key >= count {
					holdsNoSigned(t, "SignHead by a key that is not there", got, impl.ErrKeys)
				} else if got.Code != impl.OK {
					t.Errorf("by the key %d of %d nothing is signed: %d", key, count, got.Code)
				}
			}
		}
	}
}

// Each of the things is right or wrong, in all ways together: the first code that is so is told.
func TestSignHeadCodesStandInTheirOrder(t *testing.T) {
	for wrong := range 128 {
		seed, count, h, want := int64(7), int64(4), plainHead, int64(impl.OK)
		if wrong&1 != 0 {
			h.Key, want = 4, impl.ErrKeys
		}
		if wrong&2 != 0 {
			h.Key, want = 7, impl.ErrKeys
		}
		if wrong&4 != 0 {
			count, want = 0, impl.ErrRange
		}
		if wrong&8 != 0 {
			count, want = 9, impl.ErrRange
		}
		if wrong&16 != 0 {
			seed, want = 1000, impl.ErrRange
		}
		if wrong&32 != 0 {
			h.Map, want = 65521, impl.ErrRange
		}
		if wrong&64 != 0 {
			h.Size, want = -1, impl.ErrRange
		}
		got := impl.SignHead(seed, count, h)
		if want != impl.OK {
			holdsNoSigned(t, "SignHead of some faults", got, want)
		} else {
			holdsSigned(t, "SignHead without fault", got, toldSigned(7, 4, plainHead))
		}
	}
}

// strewnSigned is signed by no key.
func strewnSigned(key int64, n int) impl.Signed {
	return impl.Signed{Head: impl.Head{Size: 3, Root: 258, Map: 772, Key: key}, Sign: strewnSign(key, 3), Path: strewn(n, 3)}
}

// asksSignedFirst asks both functions that have a signed head.
func asksSignedFirst(t *testing.T, name string, g impl.Signed, want int64) {
	t.Helper()
	if got := impl.SignedFault(g); got != want {
		t.Errorf("%s: SignedFault(%+v) is %d, not %d", name, g, got, want)
	}
	if want == impl.OK {
		return
	}
	for _, count := range []int64{0, 1, 4, 8, 9, 24, 25} {
		for _, root := range []int64{-1, 0, want, 42557, 65520} {
			if impl.CheckHead(root, count, g) {
				t.Errorf("%s: %+v is taken", name, g)
			}
		}
	}
}

func TestSignedHeadsWithoutFault(t *testing.T) {
	for key := range int64(8) {
		for n := range 7 {
			asksSignedFirst(t, "a path", strewnSigned(key, n), impl.OK)
			for _, sum := range someSums {
				g := strewnSigned(key, 0)
				g.Path = repeat(sum, n)
				asksSignedFirst(t, "a path of one sum", g, impl.OK)
			}
		}
		g := strewnSigned(key, 0)
		for _, empty := range [][]int64{nil, {}, make([]int64, 0, 40)} {
			g.Path = empty
			asksSignedFirst(t, "an empty path", g, impl.OK)
		}
		asksSignedFirst(t, "a signed head", toldSigned(7, 8, impl.Head{Key: key}), impl.OK)
	}
}

func TestSignedHeadsOfOtherSignatures(t *testing.T) {
	for _, index := range noIndexes {
		g := strewnSigned(2, 3)
		g.Sign.Index = index
		asksSignedFirst(t, "no index", g, impl.ErrRange)
	}
	counts := []int{0, 1, 15, 16, 17, 32}
	for _, shown := range counts {
		for _, others := range counts {
			if shown != 16 || others != 16 {
				g := strewnSigned(2, 3)
				g.Sign.Shown, g.Sign.Others = strewn(shown, 3), strewn(others, 3)
				asksSignedFirst(t, "a signature of another count", g, impl.ErrMany)
			}
		}
	}
	for _, bad := range noSums {
		for place := range 16 {
			g := strewnSigned(2, 3)
			g.Sign.Shown[place] = bad
			asksSignedFirst(t, "one that is shown is no sum", g, impl.ErrRange)
			g = strewnSigned(2, 3)
			g.Sign.Others[place] = bad
			asksSignedFirst(t, "one of the others is no sum", g, impl.ErrRange)
		}
	}
	asksSignedFirst(t, "the zero value", impl.Signed{}, impl.ErrMany)
}

func TestSignedHeadsOfAnotherKey(t *testing.T) {
	for key := range int64(8) {
		for index := range int64(8) {
			g := strewnSigned(key, 3)
			g.Sign.Index = index
			want := int64(impl.ErrForm)
			if index == key {
				want = impl.OK
			}
			asksSignedFirst(t, "a key, and an index", g, want)
		}
	}
}

func TestSignedHeadsOfOtherPaths(t *testing.T) {
	for key := range int64(8) {
		for _, n := range []int{7, 8, 9, 24, 5000} {
			asksSignedFirst(t, "too long a path", strewnSigned(key, n), impl.ErrMany)
			g := strewnSigned(key, 0)
			g.Path = repeat(-1, n)
			asksSignedFirst(t, "too long a path, and no sums", g, impl.ErrMany)
		}
		for n := 1; n <= 6; n++ {
			for place := range n {
				for _, bad := range noSums {
					g := strewnSigned(key, n)
					g.Path[place] = bad
					asksSignedFirst(t, "a path with no sum", g, impl.ErrRange)
				}
			}
		}
	}
}

// Each of the things is right or wrong, in all ways together: the first code that is so is told.
func TestSignedCodesStandInTheirOrder(t *testing.T) {
	faults := []struct {
		code   int64
		change func(g *impl.Signed)
	}{
		{impl.ErrRange, func(g *impl.Signed) { g.Path[1] = 65521 }},
		{impl.ErrRange, func(g *impl.Signed) { g.Path[0] = -1 }},
		{impl.ErrMany, func(g *impl.Signed) { g.Path = append(g.Path, strewn(5, 3)...) }},
		{impl.ErrForm, func(g *impl.Signed) { g.Sign.Index = 3 }},
		{impl.ErrRange, func(g *impl.Signed) { g.Sign.Others[15] = -1 }},
		{impl.ErrRange, func(g *impl.Signed) { g.Sign.Shown[0] = 65521 }},
		{impl.ErrMany, func(g *impl.Signed) { g.Sign.Others = g.Sign.Others[:15] }},
		{impl.ErrRange, func(g *impl.Signed) { g.Sign.Index = 8 }},
		{impl.ErrRange, func(g *impl.Signed) { g.Head.Root = 65521 }},
		{impl.ErrRange, func(g *impl.Signed) { g.Head.Key = 8 }},
	}
	for wrong := range 1 << len(faults) {
		g, want := strewnSigned(2, 2), int64(impl.OK)
		for i, fault := range faults {
			if wrong>>i&1 != 0 {
				fault.change(&g)
				want = fault.code
			}
		}
		asksSignedFirst(t, "some faults", g, want)
	}
}

// headChecksAsTold holds an answer against what is summed: that is taken, and nothing else.
func headChecksAsTold(t *testing.T, name string, root int64, count int64, g impl.Signed) (taken bool) {
	t.Helper()
	want := toldCheckHead(root, count, g)
	if got := impl.CheckHead(root, count, g); got != want {
		t.Fatalf("%s: CheckHead(%d, %d, %+v) is %v", name, root, count, g, got)
	}
	return want
}

// otherHeads has heads that differ from h in one number, and not in the key.
func otherHeads(h impl.Head) []impl.Head {
	var heads []impl.Head
	for size := range int64(25) {
		heads = append(heads, impl.Head{Size: size, Root: h.Root, Map: h.Map, Key: h.Key})
	}
	for _, sum := range slices.Concat(someSums, []int64{h.Root ^ 1, h.Root ^ 256, h.Map ^ 1, h.Map ^ 256}) {
		heads = append(heads, impl.Head{Size: h.Size, Root: sum, Map: h.Map, Key: h.Key}, impl.Head{Size: h.Size, Root: h.Root, Map: sum, Key: h.Key})
	}
	heads = append(heads, impl.Head{Size: h.Size, Root: h.Map, Map: h.Root, Key: h.Key})
	return slices.DeleteFunc(heads, func(other impl.Head) bool { return other == h || impl.HeadFault(other) != impl.OK })
}

// Not taken are all but those whose sum, or the key that it opens to, is the same: no promise is made of these.
func TestAnotherHeadIsNotTaken(t *testing.T) {
	const seed = 7
	for count, key := range signedPlaces {
		root := toldRoot(toldKeys(seed, count))
		h := impl.Head{Size: 3, Root: 258, Map: 772, Key: key}
		g := toldSigned(seed, count, h)
		others := otherHeads(h)
		refused := 0
		for _, other := range others {
			x := g
			x.Head = other
			taken := headChecksAsTold(t, "another head", root, count, x)
			if taken && toldHeadSum(other) != toldHeadSum(h) && toldOpen(g.Sign, toldHeadSum(other)) != toldKeys(seed, count)[key] {
				t.Errorf("what was signed of %+v is taken for %+v", h, other)
			}
			if !taken {
				refused++
			}
		}
		if refused < len(others)-2 {
			t.Errorf("only %d of %d other heads are not taken", refused, len(others))
		}
	}
}

func TestAnotherKeyIsNotTaken(t *testing.T) {
	const seed = 7
	for count, key := range signedPlaces {
		keys := toldKeys(seed, count)
		g := toldSigned(seed, count, impl.Head{Size: 3, Root: 258, Map: 772, Key: key})
		for other := range int64(8) {
			if other == key {
				continue
			}
			x := g
			x.Head.Key = other
			if impl.CheckHead(toldRoot(keys), count, x) {
				t.Errorf("what was signed by %d of %d is taken for %d", key, count, other)
			}
			x.Sign.Index = other
			for by := range count {
				x.Path = toldPath(keys, by)
				if headChecksAsTold(t, "another key and index", toldRoot(keys), count, x) {
					t.Errorf("what was signed by %d of %d is taken for %d by the path of %d", key, count, other, by)
				}
			}
		}
	}
}

// Signed right by a key, at its place: a head that names another key is no head of that one.
func TestAHeadThatNamesAnotherKeyIsNotTaken(t *testing.T) {
	const seed = 7
	for count, index := range signedPlaces {
		keys := toldKeys(seed, count)
		for key := range int64(8) {
			h := impl.Head{Size: 3, Root: 258, Map: 772, Key: key}
			g := impl.Signed{Head: h, Sign: toldSign(seed, index, toldHeadSum(h)), Path: toldPath(keys, index)}
			if !toldCheckHead(toldRoot(keys), count, g) {
				t.Fatal("its signature is not right")
			}
			if taken := impl.CheckHead(toldRoot(keys), count, g); taken != (key == index) {
				t.Errorf("a head that names the key %d is taken, signed by %d of %d: %v", key, index, count, taken)
			}
		}
	}
}

// Beside a code stands the sum 0: a key that signed it has signed no head by that.
func TestAHeadWithAFaultIsNotTakenForItsZero(t *testing.T) {
	const seed = 7
	for count, key := range signedPlaces {
		keys := toldKeys(seed, count)
		g := impl.Signed{Sign: toldSign(seed, key, 0), Path: toldPath(keys, key)}
		for _, h := range []impl.Head{{Size: 25}, {Size: -1}, {Root: 65521}, {Root: -1}, {Map: 65521}, {Map: -1}} {
			g.Head = h
			g.Head.Key = key
			if impl.CheckHead(toldRoot(keys), count, g) {
				t.Errorf("%+v is taken, as the sum 0 was signed", g.Head)
			}
		}
	}
}

// What is summed is the same, so both are taken: no sum tells two pieces apart for sure.
func TestTwoHeadsOfOneSumAreBothTaken(t *testing.T) {
	for count := int64(3); count <= 8; count++ {
		root := impl.KeysRoot(7, count).Value
		g := impl.SignHead(7, count, impl.Head{Size: 5, Root: 456, Map: 9, Key: 2}).Signed
		x := g
		x.Head.Root = 575
		if !impl.CheckHead(root, count, g) || !impl.CheckHead(root, count, x) || impl.SameSigned(g, x) {
			t.Errorf("of two heads of one sum one is not taken among %d", count)
		}
	}
}

func TestAnotherSignIsNotTaken(t *testing.T) {
	const seed = 7
	for count, key := range signedPlaces {
		root := toldRoot(toldKeys(seed, count))
		g := toldSigned(seed, count, impl.Head{Size: 3, Root: 258, Map: 772, Key: key})
		for place := range 16 {
			shown := changed(g, func(g *impl.Signed) { g.Sign.Shown[place] = (g.Sign.Shown[place] + 1) % leastPastSum })
			others := changed(g, func(g *impl.Signed) { g.Sign.Others[place] = (g.Sign.Others[place] + 65520) % leastPastSum })
			if headChecksAsTold(t, "another shown", root, count, shown) || headChecksAsTold(t, "another of the others", root, count, others) {
				t.Errorf("another number of bit %d is taken", place)
			}
		}
		x := g
		x.Sign = toldSign(seed+1, key, toldHeadSum(g.Head))
		headChecksAsTold(t, "a sign of another seed", root, count, x)
		x.Sign = strewnSign(key, 3)
		headChecksAsTold(t, "a sign of no key", root, count, x)
		x.Sign = impl.Sign{Index: key, Shown: g.Sign.Others, Others: g.Sign.Shown}
		headChecksAsTold(t, "a sign with both lists the other way round", root, count, x)
	}
}

func TestAnotherPathIsNotTaken(t *testing.T) {
	const seed = 7
	for count, key := range signedPlaces {
		root := toldRoot(toldKeys(seed, count))
		g := toldSigned(seed, count, impl.Head{Size: 3, Root: 258, Map: 772, Key: key})
		at := func(path []int64) impl.Signed {
			x := g
			x.Path = path
			return x
		}
		for place := range g.Path {
			for _, turn := range []int64{1, 256, 65520} {
				path := slices.Clone(g.Path)
				path[place] = (path[place] + turn) % leastPastSum
				if headChecksAsTold(t, "another path", root, count, at(path)) && turn == 1 {
					t.Error("a path with another number is taken")
				}
			}
			for _, bad := range noSums {
				path := slices.Clone(g.Path)
				path[place] = bad
				if impl.CheckHead(root, count, at(path)) || impl.CheckHead(0, count, at(path)) {
					t.Errorf("a path with %d is taken", bad)
				}
			}
			headChecksAsTold(t, "a path that is too short", root, count, at(g.Path[:place]))
			headChecksAsTold(t, "a path that begins late", root, count, at(g.Path[place+1:]))
		}
		for n := 1; n <= 8; n++ {
			for _, more := range []int64{0, 11, root} {
				path := append(slices.Clone(g.Path), repeat(more, n)...)
				if impl.CheckHead(root, count, at(path)) {
					t.Error("a path that is too long is taken")
				}
			}
		}
	}
}

func TestAnotherCountIsNotTaken(t *testing.T) {
	for _, seed := range []int64{0, 7, 999} {
		for count, key := range signedPlaces {
			root := toldRoot(toldKeys(seed, count))
			g := toldSigned(seed, count, impl.Head{Size: 3, Root: 258, Map: 772, Key: key})
			for other := int64(-1); other <= 25; other++ {
				taken := headChecksAsTold(t, "another count", root, other, g)
				if taken && (other <= key || toldSteps(key, other) != toldSteps(key, count)) {
					t.Errorf("what was signed by %d of %d is taken among %d", key, count, other)
				}
			}
			for _, other := range noCounts {
				if (other < 1 || other > 24) && impl.CheckHead(root, other, g) {
					t.Errorf("it is taken among %d", other)
				}
			}
		}
	}
}

// A count is asked by the way up alone, as a signature's is: any tree that has the key at its place takes it.
func TestAHeadUnderTheRootOfAGreaterTree(t *testing.T) {
	for size := int64(9); size <= 24; size++ {
		for key := range int64(8) {
			leaves := strewn(int(size), 5)
			leaves[key] = toldKeySum(toldPublic(7, key))
			h := impl.Head{Size: 3, Root: 258, Map: 772, Key: key}
			g := impl.Signed{Head: h, Sign: toldSign(7, key, toldHeadSum(h)), Path: toldPath(leaves, key)}
			if !headChecksAsTold(t, "a greater tree", toldRoot(leaves), size, g) {
				t.Errorf("a key at %d of %d is not taken", key, size)
			}
		}
	}
}

func TestAKeyThatCountHasNotIsNotTaken(t *testing.T) {
	for key := range int64(8) {
		sum := toldKeySum(toldPublic(7, key))
		for count := range key + 1 {
			g := toldSigned(7, 8, impl.Head{Key: key})
			for n := range 4 {
				g.Path = strewn(n, 3)
				for _, root := range []int64{0, 3, sum, toldRoot(toldKeys(7, max(count, 1)))} {
					if impl.CheckHead(root, count, g) {
						t.Errorf("the key %d is taken among %d", key, count)
					}
				}
			}
		}
	}
}

func TestAnotherRootIsNotTaken(t *testing.T) {
	for _, seed := range []int64{0, 7, 999} {
		for count, key := range signedPlaces {
			keys := toldKeys(seed, count)
			root := toldRoot(keys)
			g := toldSigned(seed, count, impl.Head{Size: 3, Root: 258, Map: 772, Key: key})
			roots := slices.Concat(someSums, noSums, keys, []int64{root - 1, root + 1, root ^ 1, root ^ 256, root - leastPastSum, root + leastPastSum, root + 65536, root + 1<<32, toldHeadSum(g.Head)})
			for _, other := range roots {
				if taken := impl.CheckHead(other, count, g); taken != (other == root) {
					t.Errorf("at the root %d instead of %d it is taken: %v", other, root, taken)
				}
			}
		}
	}
}

// holdsAlike asks SameSigned both ways.
func holdsAlike(t *testing.T, name string, a impl.Signed, b impl.Signed, want bool) {
	t.Helper()
	if impl.SameSigned(a, b) != want || impl.SameSigned(b, a) != want {
		t.Errorf("%s: asked is %v of %+v and %+v", name, want, a, b)
	}
}

// roomySigned is the same, with room behind each list.
func roomySigned(g impl.Signed) impl.Signed {
	roomy := func(list []int64) []int64 { return append(make([]int64, 0, 400), list...) }
	return impl.Signed{Head: g.Head, Sign: impl.Sign{Index: g.Sign.Index, Shown: roomy(g.Sign.Shown), Others: roomy(g.Sign.Others)}, Path: roomy(g.Path)}
}

func TestSignedHeadsThatAreTheSame(t *testing.T) {
	for _, g := range wildSigneds() {
		holdsAlike(t, "itself", g, g, true)
		holdsAlike(t, "a copy", g, cloneSigned(g), true)
		holdsAlike(t, "a copy with room", g, roomySigned(g), true)
	}
	empty := impl.Signed{Sign: impl.Sign{Shown: []int64{}, Others: []int64{}}, Path: []int64{}}
	holdsAlike(t, "empty and nil", impl.Signed{}, empty, true)
	for key := range int64(8) {
		g := toldSigned(7, 8, impl.Head{Key: key})
		for _, list := range []func(g *impl.Signed) *[]int64{shownOf, othersOf, pathOf} {
			gone := changed(g, func(g *impl.Signed) { *list(g) = nil })
			none := changed(g, func(g *impl.Signed) { *list(g) = []int64{} })
			holdsAlike(t, "empty and nil", gone, none, true)
			holdsAlike(t, "nil and some", gone, g, false)
			holdsAlike(t, "empty and some", none, g, false)
		}
	}
}

func shownOf(g *impl.Signed) *[]int64  { return &g.Sign.Shown }
func othersOf(g *impl.Signed) *[]int64 { return &g.Sign.Others }
func pathOf(g *impl.Signed) *[]int64   { return &g.Path }

// numbersIn tells where each number of a signed head stands.
func numbersIn(g *impl.Signed) []*int64 {
	places := []*int64{&g.Head.Size, &g.Head.Root, &g.Head.Map, &g.Head.Key, &g.Sign.Index}
	for _, list := range [][]int64{g.Sign.Shown, g.Sign.Others, g.Path} {
		for i := range list {
			places = append(places, &list[i])
		}
	}
	return places
}

func TestSignedHeadsThatDifferInOneNumber(t *testing.T) {
	for _, g := range wildSigneds() {
		for i := range numbersIn(&g) {
			for _, turn := range []int64{1, 2, 256, 65521, 1 << 32, math.MinInt64} {
				other := changed(g, func(g *impl.Signed) { *numbersIn(g)[i] += turn })
				holdsAlike(t, "one other number", g, other, false)
			}
		}
	}
}

func TestSignedHeadsThatDifferInOneLength(t *testing.T) {
	for _, g := range wildSigneds() {
		for _, list := range []func(g *impl.Signed) *[]int64{shownOf, othersOf, pathOf} {
			for _, more := range []int64{0, 1, 65520} {
				longer := changed(g, func(g *impl.Signed) { *list(g) = append(*list(g), more) })
				holdsAlike(t, "one number more", g, longer, false)
			}
			if n := len(*list(&g)); n > 0 {
				shorter := changed(g, func(g *impl.Signed) { *list(g) = (*list(g))[:n-1] })
				holdsAlike(t, "one number less", g, shorter, false)
				later := changed(g, func(g *impl.Signed) { *list(g) = (*list(g))[1:] })
				holdsAlike(t, "the first one less", g, later, false)
			}
		}
	}
}

func TestSignedHeadsWhoseNumbersStandElsewhere(t *testing.T) {
	g := toldSigned(7, 8, impl.Head{Size: 3, Root: 258, Map: 772, Key: 5})
	changes := map[string]func(g *impl.Signed){
		"root and map":     func(g *impl.Signed) { g.Head.Root, g.Head.Map = g.Head.Map, g.Head.Root },
		"size and key":     func(g *impl.Signed) { g.Head.Size, g.Head.Key = g.Head.Key, g.Head.Size },
		"shown and others": func(g *impl.Signed) { g.Sign.Shown, g.Sign.Others = g.Sign.Others, g.Sign.Shown },
		"shown and path":   func(g *impl.Signed) { g.Sign.Shown, g.Path = g.Path, g.Sign.Shown },
		"shown backwards":  func(g *impl.Signed) { slices.Reverse(g.Sign.Shown) },
		"others backwards": func(g *impl.Signed) { slices.Reverse(g.Sign.Others) },
		"path backwards":   func(g *impl.Signed) { slices.Reverse(g.Path) },
		"one is moved over": func(g *impl.Signed) {
			g.Sign.Shown, g.Sign.Others = g.Sign.Shown[:15], append([]int64{g.Sign.Shown[15]}, g.Sign.Others...)
		},
		"one is moved on": func(g *impl.Signed) {
			g.Sign.Others, g.Path = g.Sign.Others[:15], append([]int64{g.Sign.Others[15]}, g.Path...)
		},
	}
	for name, change := range changes {
		holdsAlike(t, name, g, changed(g, change), false)
	}
}

// wildSigneds has signed heads without a fault in it, and of each fault some.
func wildSigneds() []impl.Signed {
	paths := [][]int64{nil, {21434, 26573}, strewn(6, 3), strewn(7, 3), {-1, 0, 65520, 65521}, {math.MinInt64, math.MaxInt64}}
	list := []impl.Signed{{}, {Head: impl.Head{Size: -1, Root: math.MinInt64, Map: math.MaxInt64, Key: 8}, Sign: impl.Sign{Index: 9, Shown: []int64{5}, Others: []int64{6, 7}}, Path: []int64{8}}}
	for i, sign := range wildSigns() {
		list = append(list, impl.Signed{Head: impl.Head{Size: int64(i), Root: 258, Map: 772, Key: sign.Index}, Sign: sign, Path: paths[i%len(paths)]})
	}
	for key := range int64(8) {
		list = append(list, toldSigned(7, 8, impl.Head{Size: 3, Root: 258, Map: 772, Key: key}), strewnSigned(key, int(key)))
	}
	return list
}

// handedSigned lays all lists of a signed head where others stand behind them.
func handedSigned(given impl.Signed) (g impl.Signed, kept func() bool) {
	sign, signKept := handedSign(given.Sign)
	path, pathKept := handed(given.Path)
	return impl.Signed{Head: given.Head, Sign: sign, Path: path}, func() bool { return signKept() && pathKept() }
}

func TestHeadsLeaveTheirArgumentsAsTheyAre(t *testing.T) {
	for _, data := range [][]byte{nil, {5, 3, 1, 2, 3, 4}, {5, 3, 1, 2, 3, 4, 1}, {5, 3, 1, 2, 3, 4, 1, 0}, {4, 3, 1, 2, 3, 4, 1}, {5, 25, 255, 241, 255, 241, 8}, mixed(300, 3)} {
		list, kept := handed(data)
		changesNothing(t, kept, namedCall{"ReadHead", func() { impl.ReadHead(list) }})
	}
	wild := wildSigneds()
	for i, given := range wild {
		g, kept := handedSigned(given)
		other, otherKept := handedSigned(wild[len(wild)-1-i])
		changesNothing(t, kept, namedCall{"SignedFault", func() { impl.SignedFault(g) }})
		for _, count := range []int64{0, 1, 4, 8, 9} {
			changesNothing(t, kept, namedCall{"CheckHead", func() { impl.CheckHead(43109, count, g) }})
		}
		changesNothing(t, func() bool { return kept() && otherKept() },
			namedCall{"SameSigned", func() { impl.SameSigned(g, other) }},
			namedCall{"SameSigned", func() { impl.SameSigned(other, g) }},
			namedCall{"SameSigned of one", func() { impl.SameSigned(g, g) }})
	}
}

func TestBytesOfHeadsAreMemoryOfTheirOwn(t *testing.T) {
	want := toldHeadBytes(plainHead)
	first, second := impl.PackHead(plainHead), impl.PackHead(plainHead)
	spoil(first.Bytes)
	if !bytes.Equal(second.Bytes, want) || !bytes.Equal(impl.PackHead(plainHead).Bytes, want) {
		t.Error("PackHead shares memory with another answer")
	}
	holdsInt(t, "HeadSum behind a change", impl.HeadSum(plainHead), impl.IntResult{Value: 6172})
	data := toldHeadBytes(plainHead)
	read := impl.ReadHead(data)
	spoil(data)
	holdsHead(t, "ReadHead, its bytes changed", read, impl.HeadResult{Head: plainHead})
}

func TestSignedHeadsAreMemoryOfTheirOwn(t *testing.T) {
	for count, key := range signedPlaces {
		h := impl.Head{Size: 3, Root: 258, Map: 772, Key: key}
		want := toldSigned(7, count, h)
		kept := impl.SignHead(7, count, h)
		lists := []func(g *impl.Signed) *[]int64{shownOf, othersOf, pathOf}
		for i, list := range lists {
			g := impl.SignHead(7, count, h).Signed
			spoil(*list(&g))
			for j, other := range lists {
				if j != i && !slices.Equal(*other(&g), *other(&want)) {
					t.Error("two lists of a signed head share memory")
				}
			}
			holdsSigned(t, "asked ahead of a change", kept, want)
			holdsSigned(t, "asked behind a change", impl.SignHead(7, count, h), want)
		}
	}
}

// headAnswers asks all functions of the chapter at arguments in bounds and out of them; what it tells is one row an answer.
func headAnswers() []string {
	var rows []string
	tell := func(numbers ...int64) { rows = append(rows, rowOf(numbers...)) }
	ints := func(r impl.IntResult) { tell(r.Code, r.Value) }
	numbers := slices.Concat(wildNumbers, []int64{5, 7, 8, 9, 23, 24, 25, 999, 1000, 65520, 65521})
	for i, a := range numbers {
		for j, b := range numbers {
			c, d := numbers[(i+j)%len(numbers)], numbers[(i*j+1)%len(numbers)]
			h := impl.Head{Size: a, Root: b, Map: c, Key: d}
			tell(impl.HeadFault(h))
			ints(impl.HeadSum(h))
			packed := impl.PackHead(h)
			rows = append(rows, rowOf(packed.Code)+string(packed.Bytes))
			read := impl.ReadHead(packed.Bytes)
			tell(read.Code, read.Head.Size, read.Head.Root, read.Head.Map, read.Head.Key)
			g := impl.SignHead(c, d, impl.Head{Size: 3, Root: 258, Map: 772, Key: b})
			tell(append(slices.Concat(g.Signed.Sign.Shown, g.Signed.Sign.Others, g.Signed.Path), g.Code, g.Signed.Sign.Index, g.Signed.Head.Key)...)
		}
	}
	wild := wildSigneds()
	for i, g := range wild {
		tell(impl.SignedFault(g))
		for j, root := range append(numbers, 43109) {
			if impl.CheckHead(root, 8, g) || impl.CheckHead(43109, root, g) || impl.SameSigned(g, wild[j%len(wild)]) {
				tell(int64(i), int64(j))
			}
		}
	}
	for n := range 300 {
		read := impl.ReadHead(mixed(n%9, n))
		tell(read.Code, read.Head.Size, read.Head.Root, read.Head.Map, read.Head.Key)
	}
	return rows
}

func TestHeadsHangOnTheirArgumentsAlone(t *testing.T) { answeredAlike(t, headAnswers) }

// An empty list and nil are one, and what a list could still grow to makes no difference.
func TestEmptyPathsOfHeadsAndNilAreOne(t *testing.T) {
	g := impl.SignHead(7, 1, impl.Head{Size: 3, Root: 258, Map: 772}).Signed
	for _, empty := range [][]int64{nil, {}, make([]int64, 0, 40)} {
		g.Path = empty
		if !impl.CheckHead(21434, 1, g) || impl.CheckHead(13607, 2, g) || impl.SignedFault(g) != impl.OK {
			t.Error("an empty path and nil are two")
		}
	}
	if !impl.CheckHead(42557, 4, roomySigned(toldSigned(7, 4, plainHead))) {
		t.Error("the room behind a list is told with it")
	}
	roomy := append(make([]byte, 0, 400), 5, 3, 1, 2, 3, 4, 1)
	holdsHead(t, "ReadHead with room", impl.ReadHead(roomy), impl.HeadResult{Head: plainHead})
	holdsHead(t, "ReadHead of a part", impl.ReadHead(roomy[:6]), noHead)
}
