package tests

import (
	"math"
	"slices"
	"testing"

	"loop.example/g00565/impl"
)

// The signatures and the types of chapter 8: other ones do not compile.
var (
	_ func(int64, int64, int64, int64) impl.IntResult    = impl.SecretOf
	_ func(int64, int64) impl.IntsResult                 = impl.PublicOf
	_ func([]int64) impl.IntResult                       = impl.KeySum
	_ func(int64, int64) impl.IntResult                  = impl.KeysRoot
	_ func(int64, int64, int64) impl.SignResult          = impl.SignSum
	_ func(impl.Sign, int64) impl.IntResult              = impl.OpenSign
	_ func(impl.Sign) int64                              = impl.SignFault
	_ func(impl.Sign, int64, int64, []int64, int64) bool = impl.CheckSign
	_ struct {
		Index         int64
		Shown, Others []int64
	} = impl.Sign{}
	_ = impl.SignResult{Code: int64(0), Sign: impl.Sign{}}
)

func TestKeyBitsAndMaxKeys(t *testing.T) {
	if impl.KeyBits != 16 || impl.MaxKeys != 8 {
		t.Errorf("KeyBits is %d, MaxKeys %d", impl.KeyBits, impl.MaxKeys)
	}
}

var (
	someSeeds = []int64{0, 1, 2, 7, 127, 128, 255, 256, 257, 511, 512, 513, 767, 768, 998, 999}
	noSeeds   = []int64{math.MinInt64, math.MinInt64 + 7, -(1 << 32), -999, -256, -1, 1000, 1001, 1023, 1024, 65535, 65536, 1 << 32, 1<<32 + 7, math.MaxInt64 - 1, math.MaxInt64}
	noIndexes = []int64{math.MinInt64, math.MinInt64 + 2, -(1 << 32), -256, -8, -7, -1, 8, 9, 15, 16, 255, 256, 258, 1 << 32, 1<<32 + 2, math.MaxInt64 - 1, math.MaxInt64}
	noBits    = []int64{math.MinInt64, math.MinInt64 + 5, -(1 << 32), -256, -16, -1, 16, 17, 31, 32, 63, 64, 255, 256, 261, 1 << 32, 1<<32 + 5, math.MaxInt64 - 1, math.MaxInt64}
	noSides   = []int64{math.MinInt64, math.MinInt64 + 1, -(1 << 32), -256, -2, -1, 2, 3, 4, 255, 256, 257, 1 << 32, 1<<32 + 1, math.MaxInt64 - 1, math.MaxInt64}
	noCounts  = []int64{math.MinInt64, math.MinInt64 + 4, -(1 << 32), -256, -8, -1, 0, 9, 10, 16, 24, 255, 256, 260, 1 << 32, 1<<32 + 4, math.MaxInt64 - 1, math.MaxInt64}
)

// bitSums has sums with no bit, with one bit, and with all bits but one, as far as these are sums.
func bitSums() []int64 {
	sums := []int64{0}
	for bit := range 16 {
		sums = append(sums, 1<<bit)
		if all := int64(65535 - 1<<bit); all < leastPastSum {
			sums = append(sums, all)
		}
	}
	return sums
}

// What follows is worked out with no help of the program.

func toldSecret(seed int64, index int64, bit int64, side int64) int64 {
	return closedSum([]byte{3, byte(seed / 256), byte(seed % 256), byte(index), byte(bit), byte(side)})
}

func toldNumber(secret int64) int64 {
	return closedSum([]byte{0, byte(secret / 256), byte(secret % 256)})
}

func toldPublic(seed int64, index int64) []int64 {
	var list []int64
	for bit := range int64(16) {
		list = append(list, toldNumber(toldSecret(seed, index, bit, 0)), toldNumber(toldSecret(seed, index, bit, 1)))
	}
	return list
}

func toldKeySum(public []int64) int64 {
	piece := []byte{4}
	for _, number := range public {
		piece = append(piece, byte(number/256), byte(number%256))
	}
	return closedSum(piece)
}

func toldKeys(seed int64, count int64) []int64 {
	var sums []int64
	for index := range count {
		sums = append(sums, toldKeySum(toldPublic(seed, index)))
	}
	return sums
}

// toldSides tells the side of each bit: a sum that is halved time and again tells it by what is odd.
func toldSides(sum int64) [16]int64 {
	var sides [16]int64
	for bit := range sides {
		sides[bit] = sum % 2
		sum /= 2
	}
	return sides
}

func toldSign(seed int64, index int64, sum int64) impl.Sign {
	g := impl.Sign{Index: index}
	for bit, side := range toldSides(sum) {
		g.Shown = append(g.Shown, toldSecret(seed, index, int64(bit), side))
		g.Others = append(g.Others, toldNumber(toldSecret(seed, index, int64(bit), 1-side)))
	}
	return g
}

func toldOpen(g impl.Sign, sum int64) int64 {
	var public []int64
	for bit, side := range toldSides(sum) {
		shown, other := toldNumber(g.Shown[bit]), g.Others[bit]
		if side == 0 {
			public = append(public, shown, other)
		} else {
			public = append(public, other, shown)
		}
	}
	return toldKeySum(public)
}

// toldCheck goes by what is summed alone; what is handed in has no fault but that of the count and of the path.
func toldCheck(g impl.Sign, sum int64, count int64, path []int64, root int64) bool {
	if count < 1 || count > 24 || g.Index >= count || len(path) != toldSteps(g.Index, count) {
		return false
	}
	return toldClimb(toldOpen(g, sum), g.Index, count, path) == root
}

func sameSigns(a impl.Sign, b impl.Sign) bool {
	return a.Index == b.Index && slices.Equal(a.Shown, b.Shown) && slices.Equal(a.Others, b.Others)
}

func holdsSign(t *testing.T, name string, got impl.SignResult, want impl.Sign) {
	t.Helper()
	if got.Code != impl.OK || !sameSigns(got.Sign, want) {
		t.Fatalf("%s: the signature is %+v, not %+v", name, got, want)
	}
}

func holdsNoSign(t *testing.T, name string, got impl.SignResult, want int64) {
	t.Helper()
	if got.Code != want || got.Sign.Index != 0 || len(got.Sign.Shown) != 0 || len(got.Sign.Others) != 0 {
		t.Errorf("%s: the signature is %+v, asked is the code %d", name, got, want)
	}
}

func holdsList(t *testing.T, name string, got impl.IntsResult, code int64, want []int64) {
	t.Helper()
	if got.Code != code || !slices.Equal(got.List, want) {
		t.Errorf("%s is %+v, asked are the code %d and %v", name, got, code, want)
	}
}

func holdsInt(t *testing.T, name string, got impl.IntResult, want impl.IntResult) {
	t.Helper()
	if got != want {
		t.Errorf("%s is %+v, not %+v", name, got, want)
	}
}

var outOfRange = impl.IntResult{Code: impl.ErrRange}

func TestSecretsThatAreKnown(t *testing.T) {
	cases := []struct{ seed, index, bit, side, want int64 }{
		{0, 0, 0, 0, 49492}, {0, 0, 0, 1, 49493}, {999, 7, 15, 1, 58920}, {999, 0, 0, 0, 56523}, {0, 7, 0, 0, 49833}, {0, 0, 15, 0, 51547},
		{7, 2, 5, 1, 3391}, {256, 1, 1, 0, 37342}, {1, 1, 1, 0, 18911}, {255, 3, 9, 1, 2359}, {513, 4, 8, 0, 14065},
	}
	for _, c := range cases {
		if got := impl.SecretOf(c.seed, c.index, c.bit, c.side); got != (impl.IntResult{Value: c.want}) {
			t.Errorf("SecretOf%v is %+v", c, got)
		}
	}
}

func TestSecretsAreTheSumsOfTheirBytes(t *testing.T) {
	for _, seed := range someSeeds {
		for index := range int64(8) {
			for bit := range int64(16) {
				for side := range int64(2) {
					want := toldSecret(seed, index, bit, side)
					if got := impl.SecretOf(seed, index, bit, side); got != (impl.IntResult{Value: want}) {
						t.Fatalf("SecretOf(%d, %d, %d, %d) is %+v, not %d", seed, index, bit, side, got, want)
					}
				}
			}
		}
	}
	for seed := range int64(1000) {
		index, bit, side := seed%8, seed/8%16, seed/128%2
		if got, want := impl.SecretOf(seed, index, bit, side), toldSecret(seed, index, bit, side); got != (impl.IntResult{Value: want}) {
			t.Fatalf("SecretOf(%d, %d, %d, %d) is %+v, not %d", seed, index, bit, side, got, want)
		}
	}
}

func TestSecretsOutOfRange(t *testing.T) {
	for _, seed := range noSeeds {
		holdsInt(t, "a secret of no seed", impl.SecretOf(seed, 2, 5, 1), outOfRange)
		holdsInt(t, "a secret of no seed", impl.SecretOf(seed, 0, 0, 0), outOfRange)
	}
	for _, index := range noIndexes {
		holdsInt(t, "a secret of no index", impl.SecretOf(7, index, 5, 1), outOfRange)
		holdsInt(t, "a secret of no index", impl.SecretOf(0, index, 0, 0), outOfRange)
	}
	for _, bit := range noBits {
		holdsInt(t, "a secret of no bit", impl.SecretOf(7, 2, bit, 1), outOfRange)
		holdsInt(t, "a secret of no bit", impl.SecretOf(0, 0, bit, 0), outOfRange)
	}
	for _, side := range noSides {
		holdsInt(t, "a secret of no side", impl.SecretOf(7, 2, 5, side), outOfRange)
		holdsInt(t, "a secret of no side", impl.SecretOf(0, 0, 0, side), outOfRange)
	}
}

// Each of the four is right or wrong, in all ways together.
func TestSecretsOfWhichSomeAreOutOfRange(t *testing.T) {
	for wrong := 1; wrong < 16; wrong++ {
		for turn := range 16 {
			seed, index, bit, side := int64(7), int64(2), int64(5), int64(1)
			if wrong&1 != 0 {
				seed = noSeeds[turn]
			}
			if wrong&2 != 0 {
				index = noIndexes[turn]
			}
			if wrong&4 != 0 {
				bit = noBits[turn]
			}
			if wrong&8 != 0 {
				side = noSides[turn]
			}
			holdsInt(t, "a secret out of range", impl.SecretOf(seed, index, bit, side), outOfRange)
		}
	}
}

func TestPublicNumbersThatAreKnown(t *testing.T) {
	holdsList(t, "PublicOf(0, 0)", impl.PublicOf(0, 0), impl.OK, []int64{25243, 25244, 25380, 25381, 25398, 25399, 25535, 25536, 25553, 25554, 25571, 25572, 25708, 25709, 25726, 25727, 25863, 25864, 25881, 25882, 26018, 26019, 26036, 26037, 26173, 26174, 26191, 26192, 26328, 26329, 26346, 26347})
	holdsList(t, "PublicOf(7, 2)", impl.PublicOf(7, 2), impl.OK, []int64{233, 234, 251, 252, 388, 389, 406, 407, 543, 544, 561, 562, 698, 699, 716, 717, 853, 854, 871, 872, 1008, 1009, 1026, 1027, 1163, 1164, 1181, 1182, 1199, 1200, 1336, 1337})
	holdsList(t, "PublicOf(999, 7)", impl.PublicOf(999, 7), impl.OK, []int64{29164, 29165, 29301, 29302, 29319, 29320, 29456, 29457, 29474, 29475, 29611, 29612, 29629, 29630, 29766, 29767, 29784, 29785, 29921, 29922, 29939, 29940, 29957, 29958, 30094, 30095, 30112, 30113, 30249, 30250, 30267, 30268})
}

func TestPublicNumbersAreThoseOfAllSecrets(t *testing.T) {
	for _, seed := range someSeeds {
		for index := range int64(8) {
			got := impl.PublicOf(seed, index)
			holdsList(t, "PublicOf", got, impl.OK, toldPublic(seed, index))
			for bit := range int64(16) {
				for side := range int64(2) {
					secret := impl.SecretOf(seed, index, bit, side).Value
					number := impl.LeafSum([]byte{byte(secret >> 8), byte(secret)}).Value
					if got.List[2*bit+side] != number {
						t.Fatalf("PublicOf(%d, %d) has %d of bit %d and side %d, not %d", seed, index, got.List[2*bit+side], bit, side, number)
					}
				}
			}
		}
	}
}

func TestPublicNumbersOutOfRange(t *testing.T) {
	for turn, seed := range noSeeds {
		holdsList(t, "PublicOf no seed", impl.PublicOf(seed, 2), impl.ErrRange, nil)
		holdsList(t, "PublicOf no seed", impl.PublicOf(seed, 0), impl.ErrRange, nil)
		holdsList(t, "PublicOf no seed and no index", impl.PublicOf(seed, noIndexes[turn]), impl.ErrRange, nil)
	}
	for _, index := range noIndexes {
		holdsList(t, "PublicOf no index", impl.PublicOf(7, index), impl.ErrRange, nil)
		holdsList(t, "PublicOf no index", impl.PublicOf(0, index), impl.ErrRange, nil)
	}
}

func TestKeySumsThatAreKnown(t *testing.T) {
	cases := []struct {
		public []int64
		want   int64
	}{
		{repeat(0, 32), 31978}, {repeat(65520, 32), 60205}, {rising(32), 46505}, {repeat(256, 32), 39224},
		{append([]int64{1}, repeat(256, 31)...), 54226}, {toldPublic(0, 0), 3654}, {toldPublic(7, 2), 39207}, {toldPublic(999, 7), 8932},
	}
	for _, c := range cases {
		if got := impl.KeySum(c.public); got != (impl.IntResult{Value: c.want}) {
			t.Errorf("KeySum(%v) is %+v, not %d", c.public, got, c.want)
		}
	}
}

func TestKeySumsAreTheSumsOfTheirBytes(t *testing.T) {
	for from := range 500 {
		public := strewn(32, from)
		holdsInt(t, "KeySum", impl.KeySum(public), impl.IntResult{Value: toldKeySum(public)})
	}
	for place := range 32 {
		for _, sum := range someSums {
			public := strewn(32, 5)
			public[place] = sum
			holdsInt(t, "KeySum", impl.KeySum(public), impl.IntResult{Value: toldKeySum(public)})
		}
	}
}

// Any 32 sums have one, though no key has all of them alike.
func TestKeySumsOfOneSum(t *testing.T) {
	for _, sum := range someSums {
		public := repeat(sum, 32)
		holdsInt(t, "KeySum of one sum", impl.KeySum(public), impl.IntResult{Value: toldKeySum(public)})
	}
}

func TestKeySumCodes(t *testing.T) {
	tooFew := impl.IntResult{Code: impl.ErrMany}
	for _, n := range []int{0, 1, 2, 15, 16, 17, 30, 31, 33, 34, 48, 64, 149, 150, 5000} {
		holdsInt(t, "KeySum of another count", impl.KeySum(strewn(n, 3)), tooFew)
		holdsInt(t, "KeySum of another count, all no sums", impl.KeySum(repeat(-1, n)), tooFew)
		if n > 0 {
			holdsInt(t, "KeySum of another count, the last no sum", impl.KeySum(append(strewn(n-1, 3), 65521)), tooFew)
		}
	}
	holdsInt(t, "KeySum of nil", impl.KeySum(nil), tooFew)
	holdsInt(t, "KeySum of none", impl.KeySum([]int64{}), tooFew)
	holdsInt(t, "KeySum of none, with room", impl.KeySum(make([]int64, 0, 32)), tooFew)
	for place := range 32 {
		for _, bad := range noSums {
			public := strewn(32, 5)
			public[place] = bad
			holdsInt(t, "KeySum of no sum", impl.KeySum(public), outOfRange)
		}
	}
	for _, bad := range noSums {
		holdsInt(t, "KeySum of no sums", impl.KeySum(repeat(bad, 32)), outOfRange)
	}
}

func TestKeysRootsThatAreKnown(t *testing.T) {
	roots := map[int64][]int64{
		0:   {3654, 57928, 32711, 39042, 1834, 51337, 60865, 261},
		7:   {21434, 13607, 49241, 42557, 35257, 51026, 42600, 43109},
		999: {11612, 58904, 41713, 43354, 61517, 46818, 30107, 30084},
	}
	for seed, list := range roots {
		for i, want := range list {
			if got := impl.KeysRoot(seed, int64(i)+1); got != (impl.IntResult{Value: want}) {
				t.Errorf("KeysRoot(%d, %d) is %+v, not %d", seed, i+1, got, want)
			}
		}
	}
}

func TestKeysRootsAreThoseOfTheirKeys(t *testing.T) {
	for _, seed := range someSeeds {
		for count := int64(1); count <= 8; count++ {
			holdsInt(t, "KeysRoot", impl.KeysRoot(seed, count), impl.IntResult{Value: toldRoot(toldKeys(seed, count))})
		}
	}
}

func TestKeysRootsOutOfRange(t *testing.T) {
	for turn, seed := range noSeeds {
		for _, count := range []int64{1, 4, 8, noCounts[turn]} {
			holdsInt(t, "KeysRoot of no seed", impl.KeysRoot(seed, count), outOfRange)
		}
	}
	for _, count := range noCounts {
		for _, seed := range []int64{0, 7, 999} {
			holdsInt(t, "KeysRoot of no count", impl.KeysRoot(seed, count), outOfRange)
		}
	}
}

func TestSignaturesThatAreKnown(t *testing.T) {
	cases := []struct {
		seed, index, sum int64
		shown, others    []int64
	}{
		{0, 0, 0,
			[]int64{49492, 49629, 49766, 49903, 50040, 50177, 50314, 50451, 50588, 50725, 50862, 50999, 51136, 51273, 51410, 51547},
			[]int64{25244, 25381, 25399, 25536, 25554, 25572, 25709, 25727, 25864, 25882, 26019, 26037, 26174, 26192, 26329, 26347}},
		{7, 2, 5,
			[]int64{2706, 2842, 2980, 3116, 3253, 3390, 3527, 3664, 3801, 3938, 4075, 4212, 4349, 4486, 4623, 4760},
			[]int64{233, 252, 388, 407, 544, 562, 699, 717, 854, 872, 1009, 1027, 1164, 1182, 1200, 1337}},
		{999, 7, 65520,
			[]int64{56864, 57001, 57138, 57275, 57413, 57550, 57687, 57824, 57961, 58098, 58235, 58372, 58509, 58646, 58783, 58920},
			[]int64{29165, 29302, 29320, 29457, 29474, 29611, 29629, 29766, 29784, 29921, 29939, 29957, 30094, 30112, 30249, 30267}},
		{256, 1, 32768,
			[]int64{37205, 37342, 37479, 37616, 37753, 37890, 38027, 38164, 38301, 38438, 38575, 38712, 38849, 38986, 39123, 39261},
			[]int64{18669, 18806, 18824, 18961, 18979, 18997, 19134, 19152, 19289, 19307, 19444, 19462, 19599, 19617, 19754, 19771}},
	}
	for _, c := range cases {
		holdsSign(t, "a signature that is known", impl.SignSum(c.seed, c.index, c.sum), impl.Sign{Index: c.index, Shown: c.shown, Others: c.others})
	}
}

func TestSignaturesShowTheSideOfEachBit(t *testing.T) {
	for _, seed := range someSeeds {
		for index := range int64(8) {
			for _, sum := range slices.Concat(bitSums(), someSums) {
				holdsSign(t, "a signature", impl.SignSum(seed, index, sum), toldSign(seed, index, sum))
			}
		}
	}
}

// Of each sum that there is: what is shown of a bit is the secret of the side that it tells; the secret of the other side stands nowhere.
func TestNoOtherSecretIsShown(t *testing.T) {
	const seed, index = 513, 5
	var secrets [16][2]int64
	for bit := range secrets {
		for side := range secrets[bit] {
			secrets[bit][side] = toldSecret(seed, index, int64(bit), int64(side))
		}
	}
	public := toldPublic(seed, index)
	for sum := range int64(leastPastSum) {
		got := impl.SignSum(seed, index, sum)
		if got.Code != impl.OK || got.Sign.Index != index || len(got.Sign.Shown) != 16 || len(got.Sign.Others) != 16 {
			t.Fatalf("SignSum of %d is %+v", sum, got)
		}
		for bit, side := range toldSides(sum) {
			if got.Sign.Shown[bit] != secrets[bit][side] || got.Sign.Others[bit] != public[2*bit+1-int(side)] {
				t.Fatalf("SignSum of %d shows %d and %d at bit %d", sum, got.Sign.Shown[bit], got.Sign.Others[bit], bit)
			}
			hidden := secrets[bit][1-side]
			if slices.Contains(got.Sign.Shown, hidden) || slices.Contains(got.Sign.Others, hidden) {
				t.Fatalf("SignSum of %d has the secret of the other side of bit %d", sum, bit)
			}
		}
	}
}

func TestSignaturesOutOfRange(t *testing.T) {
	for _, seed := range noSeeds {
		holdsNoSign(t, "no seed", impl.SignSum(seed, 2, 5), impl.ErrRange)
	}
	for _, index := range noIndexes {
		holdsNoSign(t, "no index", impl.SignSum(7, index, 5), impl.ErrRange)
	}
	for _, sum := range slices.Concat(noSums, []int64{65527, 65531, 65533, 65534}) {
		holdsNoSign(t, "no sum", impl.SignSum(7, 2, sum), impl.ErrRange)
		holdsNoSign(t, "no sum", impl.SignSum(0, 0, sum), impl.ErrRange)
	}
	for turn := range 16 {
		seed, index, sum := noSeeds[turn], noIndexes[turn], noSums[turn]
		holdsNoSign(t, "no seed and no index", impl.SignSum(seed, index, 5), impl.ErrRange)
		holdsNoSign(t, "no seed and no sum", impl.SignSum(seed, 2, sum), impl.ErrRange)
		holdsNoSign(t, "no index and no sum", impl.SignSum(7, index, sum), impl.ErrRange)
		holdsNoSign(t, "none of them", impl.SignSum(seed, index, sum), impl.ErrRange)
	}
}

// strewnSign is a signature of no key.
func strewnSign(index int64, from int) impl.Sign {
	return impl.Sign{Index: index, Shown: strewn(16, from), Others: strewn(16, from+100)}
}

// asksSignFirst asks all functions that have a signature: its code is told, whatever else is handed in.
func asksSignFirst(t *testing.T, name string, g impl.Sign, want int64) {
	t.Helper()
	if got := impl.SignFault(g); got != want {
		t.Errorf("%s: SignFault is %d, not %d", name, got, want)
	}
	if want == impl.OK {
		return
	}
	for _, sum := range []int64{math.MinInt64, -1, 0, 5, 65520, 65521, math.MaxInt64} {
		holdsInt(t, name+": OpenSign", impl.OpenSign(g, sum), impl.IntResult{Code: want})
		for _, count := range []int64{0, 1, 8, 9, 24, 25} {
			for n := range 4 {
				for _, root := range []int64{0, 7, want} {
					if impl.CheckSign(g, sum, count, strewn(n, 3), root) {
						t.Errorf("%s: it is taken", name)
					}
				}
			}
		}
	}
}

func TestSignaturesWithoutFault(t *testing.T) {
	for index := range int64(8) {
		asksSignFirst(t, "a signature of no key", strewnSign(index, 3), impl.OK)
		asksSignFirst(t, "a signature", toldSign(7, index, 5), impl.OK)
		for _, sum := range someSums {
			asksSignFirst(t, "one sum", impl.Sign{Index: index, Shown: repeat(sum, 16), Others: repeat(sum, 16)}, impl.OK)
		}
	}
}

func TestSignaturesOfNoIndex(t *testing.T) {
	for _, index := range noIndexes {
		asksSignFirst(t, "no index", strewnSign(index, 3), impl.ErrRange)
		asksSignFirst(t, "no index, and nothing else", impl.Sign{Index: index}, impl.ErrRange)
		asksSignFirst(t, "no index, and other counts", impl.Sign{Index: index, Shown: strewn(15, 3), Others: strewn(17, 3)}, impl.ErrRange)
		asksSignFirst(t, "no index, and no sums", impl.Sign{Index: index, Shown: repeat(-1, 16), Others: repeat(-1, 16)}, impl.ErrRange)
	}
}

func TestSignaturesOfOtherCounts(t *testing.T) {
	counts := []int{0, 1, 2, 8, 15, 16, 17, 18, 31, 32, 33, 5000}
	for _, shown := range counts {
		for _, others := range counts {
			if shown == 16 && others == 16 {
				continue
			}
			for _, index := range []int64{0, 7} {
				asksSignFirst(t, "other counts", impl.Sign{Index: index, Shown: strewn(shown, 3), Others: strewn(others, 5)}, impl.ErrMany)
				asksSignFirst(t, "other counts, and no sums", impl.Sign{Index: index, Shown: repeat(-1, shown), Others: repeat(65521, others)}, impl.ErrMany)
			}
		}
	}
	asksSignFirst(t, "the zero value", impl.Sign{}, impl.ErrMany)
	asksSignFirst(t, "empty lists", impl.Sign{Shown: []int64{}, Others: []int64{}}, impl.ErrMany)
	asksSignFirst(t, "no lists, with room", impl.Sign{Shown: make([]int64, 0, 16), Others: make([]int64, 0, 16)}, impl.ErrMany)
}

func TestSignaturesOfWhatIsNoSum(t *testing.T) {
	for place := range 16 {
		for _, bad := range noSums {
			g := strewnSign(2, 3)
			g.Shown[place] = bad
			asksSignFirst(t, "one that is shown is no sum", g, impl.ErrRange)
			g.Others[15-place] = bad
			asksSignFirst(t, "one of both is no sum", g, impl.ErrRange)
			g.Shown[place] = 7
			asksSignFirst(t, "one of the others is no sum", g, impl.ErrRange)
		}
	}
}

// Each of the things is right or wrong, in all ways together: the first code that is so is told.
func TestSignCodesStandInTheirOrder(t *testing.T) {
	for wrong := range 128 {
		g, sum, want := strewnSign(2, 3), int64(5), int64(impl.OK)
		if wrong&1 != 0 {
			sum, want = 65521, impl.ErrRange
		}
		signWant := int64(impl.OK)
		if wrong&2 != 0 {
			g.Others[0], signWant = -1, impl.ErrRange
		}
		if wrong&4 != 0 {
			g.Shown[0], signWant = 65521, impl.ErrRange
		}
		if wrong&8 != 0 {
			g.Others, signWant = append(g.Others, 1), impl.ErrMany
		}
		if wrong&16 != 0 {
			g.Shown, signWant = g.Shown[:15], impl.ErrMany
		}
		if wrong&32 != 0 {
			g.Shown, signWant = nil, impl.ErrMany
		}
		if wrong&64 != 0 {
			g.Index, signWant = 8, impl.ErrRange
		}
		if signWant != impl.OK {
			want = signWant
		}
		asksSignFirst(t, "some faults", g, signWant)
		got := impl.OpenSign(g, sum)
		if got.Code != want || want != impl.OK && got.Value != 0 || want == impl.OK && got.Value != toldOpen(g, sum) {
			t.Errorf("OpenSign(%+v, %d) is %+v, asked is the code %d", g, sum, got, want)
		}
	}
}

func TestOpenedSignaturesThatAreKnown(t *testing.T) {
	cases := []struct {
		shown, others []int64
		sum, want     int64
	}{
		{rising(16), []int64{101, 102, 103, 104, 105, 106, 107, 108, 109, 110, 111, 112, 113, 114, 115, 116}, 0, 4989},
		{rising(16), []int64{101, 102, 103, 104, 105, 106, 107, 108, 109, 110, 111, 112, 113, 114, 115, 116}, 65520, 16656},
		{rising(16), []int64{101, 102, 103, 104, 105, 106, 107, 108, 109, 110, 111, 112, 113, 114, 115, 116}, 5, 45447},
		{repeat(0, 16), repeat(0, 16), 0, 3603},
		{repeat(65520, 16), repeat(65520, 16), 65520, 14514},
		{repeat(0, 16), repeat(65520, 16), 32768, 46505},
	}
	for _, c := range cases {
		for index := range int64(8) {
			holdsInt(t, "OpenSign", impl.OpenSign(impl.Sign{Index: index, Shown: c.shown, Others: c.others}, c.sum), impl.IntResult{Value: c.want})
		}
	}
}

func TestAnySignatureIsOpenedBitByBit(t *testing.T) {
	for from := range 20 {
		for _, sum := range slices.Concat(bitSums(), someSums) {
			g := strewnSign(int64(from%8), from)
			holdsInt(t, "OpenSign", impl.OpenSign(g, sum), impl.IntResult{Value: toldOpen(g, sum)})
		}
	}
}

func TestWhatWasSignedOpensToItsKey(t *testing.T) {
	for _, seed := range someSeeds {
		for index := range int64(8) {
			key := impl.KeySum(impl.PublicOf(seed, index).List)
			holdsInt(t, "the key", key, impl.IntResult{Value: toldKeySum(toldPublic(seed, index))})
			for _, sum := range slices.Concat(bitSums(), someSums) {
				holdsInt(t, "OpenSign of SignSum", impl.OpenSign(impl.SignSum(seed, index, sum).Sign, sum), key)
			}
		}
	}
}

func TestNoSumIsOpened(t *testing.T) {
	for _, sum := range slices.Concat(noSums, []int64{65527, 65531, 65533, 65534}) {
		for index := range int64(8) {
			g := impl.SignSum(7, index, 5).Sign
			holdsInt(t, "OpenSign of no sum", impl.OpenSign(g, sum), outOfRange)
			for _, root := range []int64{0, 3, impl.KeysRoot(7, 8).Value} {
				if impl.CheckSign(g, sum, 8, impl.PathOf(toldKeys(7, 8), index).List, root) {
					t.Errorf("a signature is taken at %d", sum)
				}
			}
		}
	}
}

// signedPlaces goes through all indexes of all counts of keys.
func signedPlaces(yield func(count int64, index int64) bool) {
	for count := int64(1); count <= 8; count++ {
		for index := range count {
			if !yield(count, index) {
				return
			}
		}
	}
}

func TestWhatWasSignedIsTakenForItsPlace(t *testing.T) {
	for _, seed := range someSeeds {
		for count, index := range signedPlaces {
			path, root := impl.PathOf(toldKeys(seed, count), index).List, impl.KeysRoot(seed, count).Value
			for _, sum := range bitSums() {
				if !impl.CheckSign(impl.SignSum(seed, index, sum).Sign, sum, count, path, root) {
					t.Fatalf("what %d signed at %d of %d is not taken: %d", seed, index, count, sum)
				}
			}
		}
	}
}

// checksAsTold holds an answer against what is summed: that is taken, and nothing else.
func checksAsTold(t *testing.T, name string, g impl.Sign, sum int64, count int64, path []int64, root int64) (taken bool) {
	t.Helper()
	want := toldCheck(g, sum, count, path, root)
	if got := impl.CheckSign(g, sum, count, path, root); got != want {
		t.Fatalf("%s: CheckSign(%+v, %d, %d, %v, %d) is %v", name, g, sum, count, path, root, got)
	}
	return want
}

func TestWhatWasSignedIsTakenAtItsSumAlone(t *testing.T) {
	const seed = 7
	for count, index := range signedPlaces {
		keys := toldKeys(seed, count)
		path, root := toldPath(keys, index), toldRoot(keys)
		for _, sum := range someSums {
			g := toldSign(seed, index, sum)
			for bit := range 16 {
				// Each bit by itself is turned.
				if other := sum ^ 1<<bit; other < leastPastSum && checksAsTold(t, "one other bit", g, other, count, path, root) {
					t.Errorf("what was signed of %d is taken at %d", sum, other)
				}
			}
		}
	}
}

// At 15837, 31674 and 63348 what is summed is the same as at 0: no promise is made of these.
func TestSumsThatOpenToOneKey(t *testing.T) {
	g := impl.SignSum(0, 0, 0).Sign
	var taken []int64
	for sum := range int64(leastPastSum) {
		if impl.CheckSign(g, sum, 1, nil, 3654) {
			taken = append(taken, sum)
		}
	}
	if want := []int64{0, 15837, 31674, 63348}; !slices.Equal(taken, want) {
		t.Errorf("what was signed of 0 is taken at %v, not at %v", taken, want)
	}
}

func TestWhatWasSignedIsTakenAtItsIndexAlone(t *testing.T) {
	for _, seed := range []int64{0, 7, 999} {
		for count, index := range signedPlaces {
			keys := toldKeys(seed, count)
			for other := range int64(8) {
				g := toldSign(seed, index, 4660)
				g.Index = other
				for by := range count {
					taken := checksAsTold(t, "another index", g, 4660, count, toldPath(keys, by), toldRoot(keys))
					if taken != (other == index && by == index) {
						t.Errorf("what was signed at %d of %d is taken at %d by the path of %d: %v", index, count, other, by, taken)
					}
				}
			}
		}
	}
}

func TestWhatWasSignedIsTakenInItsCount(t *testing.T) {
	for _, seed := range []int64{0, 7, 999} {
		for count, index := range signedPlaces {
			g, keys := toldSign(seed, index, 4660), toldKeys(seed, count)
			for other := int64(-1); other <= 25; other++ {
				taken := checksAsTold(t, "another count", g, 4660, other, toldPath(keys, index), toldRoot(keys))
				if taken && (other <= index || toldSteps(index, other) != toldSteps(index, count)) {
					t.Errorf("what was signed at %d of %d is taken at one of %d", index, count, other)
				}
			}
			for _, other := range noCounts {
				if other < 1 || other > 24 {
					checksAsTold(t, "no count", g, 4660, other, toldPath(keys, index), toldRoot(keys))
				}
			}
		}
	}
}

// A count is asked by the way up alone: any tree that has a key at its place takes it.
func TestTheKeyOfAGreaterTree(t *testing.T) {
	for size := int64(9); size <= 24; size++ {
		for index := range int64(8) {
			leaves := strewn(int(size), 5)
			leaves[index] = toldKeySum(toldPublic(7, index))
			if !checksAsTold(t, "a greater tree", toldSign(7, index, 4660), 4660, size, toldPath(leaves, index), toldRoot(leaves)) {
				t.Errorf("a key at %d of %d is not taken", index, size)
			}
		}
	}
}

func TestAnIndexThatCountHasNot(t *testing.T) {
	for index := range int64(8) {
		key := toldKeySum(toldPublic(7, index))
		for count := range index + 1 {
			for n := range 4 {
				for _, root := range []int64{0, 3, key, toldRoot(toldKeys(7, max(count, 1)))} {
					if impl.CheckSign(toldSign(7, index, 5), 5, count, strewn(n, 3), root) {
						t.Errorf("the index %d is taken among %d", index, count)
					}
				}
			}
		}
	}
}

func TestWhatWasSignedIsTakenByItsPathAlone(t *testing.T) {
	const seed, sum = 7, 4660
	for count, index := range signedPlaces {
		keys := toldKeys(seed, count)
		g, path, root := toldSign(seed, index, sum), toldPath(keys, index), toldRoot(keys)
		for place := range path {
			for _, turn := range []int64{1, 256, 65520} {
				other := slices.Clone(path)
				other[place] = (other[place] + turn) % leastPastSum
				checksAsTold(t, "another path", g, sum, count, other, root)
			}
			for _, bad := range noSums {
				other := slices.Clone(path)
				other[place] = bad
				if impl.CheckSign(g, sum, count, other, root) || impl.CheckSign(g, sum, count, other, 0) {
					t.Errorf("a path with %d is taken", bad)
				}
			}
			checksAsTold(t, "a path that is too short", g, sum, count, path[:place], root)
			checksAsTold(t, "a path that begins late", g, sum, count, path[place+1:], root)
		}
		for n := 1; n <= 8; n++ {
			for _, more := range []int64{0, 11, root} {
				checksAsTold(t, "a path that is too long", g, sum, count, append(slices.Clone(path), repeat(more, n)...), root)
			}
		}
	}
}

func TestWhatWasSignedIsTakenByItsRootAlone(t *testing.T) {
	const seed, sum = 7, 4660
	for count, index := range signedPlaces {
		keys := toldKeys(seed, count)
		g, path, root := toldSign(seed, index, sum), toldPath(keys, index), toldRoot(keys)
		roots := slices.Concat(someSums, noSums, []int64{root - 1, root + 1, root ^ 1, root ^ 256, root - leastPastSum, root + leastPastSum, root + 65536, root + 1<<32})
		for _, other := range append(roots, keys...) {
			if taken := impl.CheckSign(g, sum, count, path, other); taken != (other == root) {
				t.Errorf("at the root %d instead of %d it is taken: %v", other, root, taken)
			}
		}
	}
}

// A signature of which one number is another one opens to another key: each number of it counts.
func TestEachNumberOfASignatureCounts(t *testing.T) {
	const seed = 7
	for _, sum := range []int64{0, 5, 4660, 65520} {
		for count, index := range signedPlaces {
			keys := toldKeys(seed, count)
			path, root := toldPath(keys, index), toldRoot(keys)
			for place := range 16 {
				g := toldSign(seed, index, sum)
				g.Shown[place] = (g.Shown[place] + 1) % leastPastSum
				if checksAsTold(t, "another shown", g, sum, count, path, root) {
					t.Errorf("another secret of bit %d is taken", place)
				}
				g = toldSign(seed, index, sum)
				g.Others[place] = (g.Others[place] + 65520) % leastPastSum
				if checksAsTold(t, "another of the others", g, sum, count, path, root) {
					t.Errorf("another number of bit %d is taken", place)
				}
			}
		}
	}
}

// signLike makes a signature of no key that opens to key: its last other number is looked for among all sums.
func signLike(index int64, sum int64, key int64, from int) (impl.Sign, bool) {
	g := strewnSign(index, from)
	for last := range int64(leastPastSum) {
		g.Others[15] = last
		if toldOpenFast(g, sum) == key {
			return g, true
		}
	}
	return g, false
}

// toldOpenFast is toldOpen by small numbers, for those that are asked often; it is held against the other one.
func toldOpenFast(g impl.Sign, sum int64) int64 {
	fast := func(piece ...int64) int64 {
		total := int64(11)
		for _, b := range piece {
			total = (total*137 + b + 1) % leastPastSum
		}
		return total
	}
	piece := []int64{4}
	for bit, side := range toldSides(sum) {
		shown := fast(0, g.Shown[bit]/256, g.Shown[bit]%256)
		numbers := [2]int64{shown, g.Others[bit]}
		if side == 1 {
			numbers = [2]int64{g.Others[bit], shown}
		}
		piece = append(piece, numbers[0]/256, numbers[0]%256, numbers[1]/256, numbers[1]%256)
	}
	return fast(piece...)
}

// Who has no key at all can still make what opens to it: that is the same sum, and no promise is made of it.
func TestASignatureOfNoKeyThatOpensToOne(t *testing.T) {
	keys := toldKeys(7, 4)
	found := 0
	for turn, sum := range []int64{0, 5, 4660, 32767, 32768, 65520} {
		index := int64(turn % 4)
		g, ok := signLike(index, sum, keys[index], 40+turn)
		if !ok {
			continue
		}
		found++
		if toldOpen(g, sum) != keys[index] {
			t.Fatal("what is worked out fast is another sum")
		}
		if !checksAsTold(t, "a signature of no key", g, sum, 4, toldPath(keys, index), toldRoot(keys)) {
			t.Errorf("what opens to the key is not taken")
		}
	}
	if found == 0 {
		t.Error("no signature was made")
	}
}

// wildSigns has signatures without a fault in it, and of each fault some.
func wildSigns() []impl.Sign {
	signs := []impl.Sign{{}, {Index: 8}, {Index: -1, Shown: strewn(16, 1), Others: strewn(16, 2)}, {Shown: strewn(15, 1), Others: strewn(17, 2)}, {Shown: strewn(17, 1), Others: strewn(15, 2)}, {Shown: strewn(16, 1)}, {Others: strewn(16, 1)}, {Shown: repeat(-1, 16), Others: strewn(16, 1)}, {Shown: strewn(16, 1), Others: repeat(65521, 16)}}
	for index := range int64(8) {
		signs = append(signs, strewnSign(index, 3), toldSign(7, index, 5), toldSign(999, index, 65520))
	}
	return signs
}

// handedSign lays both lists of a signature where others stand behind them.
func handedSign(given impl.Sign) (g impl.Sign, kept func() bool) {
	shown, shownKept := handed(given.Shown)
	others, othersKept := handed(given.Others)
	return impl.Sign{Index: given.Index, Shown: shown, Others: others}, func() bool { return shownKept() && othersKept() }
}

func TestKeysLeaveTheirArgumentsAsTheyAre(t *testing.T) {
	for _, list := range [][]int64{nil, strewn(31, 3), strewn(32, 3), toldPublic(7, 2), strewn(33, 3), repeat(-1, 32)} {
		public, kept := handed(list)
		changesNothing(t, kept, namedCall{"KeySum", func() { impl.KeySum(public) }})
	}
	for _, given := range wildSigns() {
		g, kept := handedSign(given)
		changesNothing(t, kept, namedCall{"SignFault", func() { impl.SignFault(g) }})
		for _, sum := range []int64{-1, 0, 5, 65520, 65521} {
			changesNothing(t, kept, namedCall{"OpenSign", func() { impl.OpenSign(g, sum) }})
			for _, steps := range [][]int64{nil, strewn(1, 3), toldPath(toldKeys(7, 4), 2), strewn(3, 3), strewn(7, 3), repeat(-1, 3)} {
				path, pathKept := handed(steps)
				for _, count := range []int64{0, 1, 4, 8, 9} {
					changesNothing(t, func() bool { return kept() && pathKept() }, namedCall{"CheckSign", func() { impl.CheckSign(g, sum, count, path, 42557) }})
				}
			}
		}
	}
}

func TestPublicNumbersAreMemoryOfTheirOwn(t *testing.T) {
	want := toldPublic(7, 2)
	first, second := impl.PublicOf(7, 2), impl.PublicOf(7, 2)
	spoil(first.List)
	if !slices.Equal(second.List, want) || !slices.Equal(impl.PublicOf(7, 2).List, want) {
		t.Error("PublicOf shares memory with another answer")
	}
}

func TestSignaturesAreMemoryOfTheirOwn(t *testing.T) {
	for _, sum := range []int64{0, 5, 65520} {
		want := toldSign(7, 2, sum)
		first, second, third := impl.SignSum(7, 2, sum), impl.SignSum(7, 2, sum), impl.SignSum(7, 2, sum)
		spoil(first.Sign.Shown)
		if !slices.Equal(first.Sign.Others, want.Others) {
			t.Error("both lists of a signature share memory")
		}
		spoil(third.Sign.Others)
		if !slices.Equal(third.Sign.Shown, want.Shown) {
			t.Error("both lists of a signature share memory")
		}
		holdsSign(t, "asked ahead of a change", second, want)
		holdsSign(t, "asked behind a change", impl.SignSum(7, 2, sum), want)
	}
}

// keyAnswers asks all functions of the chapter at arguments in bounds and out of them; what it tells is one row an answer.
func keyAnswers() []string {
	var rows []string
	tell := func(numbers ...int64) { rows = append(rows, rowOf(numbers...)) }
	ints := func(r impl.IntResult) { tell(r.Code, r.Value) }
	numbers := slices.Concat(wildNumbers, []int64{5, 7, 8, 9, 15, 16, 17, 24, 25, 999, 1000, 65520, 65521})
	for i, a := range numbers {
		for j, b := range numbers {
			c, d := numbers[(i+j)%len(numbers)], numbers[(i*j+1)%len(numbers)]
			ints(impl.SecretOf(a, b, c, d))
			ints(impl.KeysRoot(a, b))
			public, sign := impl.PublicOf(a, b), impl.SignSum(a, b, c)
			tell(append(public.List, public.Code)...)
			tell(append(slices.Concat(sign.Sign.Shown, sign.Sign.Others), sign.Code, sign.Sign.Index)...)
			ints(impl.KeySum(public.List))
			ints(impl.OpenSign(sign.Sign, c))
		}
	}
	for _, g := range wildSigns() {
		tell(impl.SignFault(g))
		for _, sum := range numbers {
			ints(impl.OpenSign(g, sum))
			for n := range 8 {
				if impl.CheckSign(g, sum, numbers[n+6], strewn(n, 3), impl.OpenSign(g, sum).Value) {
					tell(sum, int64(n))
				}
			}
		}
	}
	return rows
}

func TestKeysHangOnTheirArgumentsAlone(t *testing.T) { answeredAlike(t, keyAnswers) }

// An empty list and nil are one, and what a list could still grow to makes no difference.
func TestEmptyPathsOfKeysAndNilAreOne(t *testing.T) {
	g := impl.SignSum(7, 0, 5).Sign
	for _, empty := range [][]int64{nil, {}, make([]int64, 0, 40)} {
		if !impl.CheckSign(g, 5, 1, empty, 21434) || impl.CheckSign(g, 5, 2, empty, 13607) {
			t.Error("an empty path and nil are two")
		}
	}
	roomy := func(list []int64) []int64 { return append(make([]int64, 0, 400), list...) }
	g = impl.Sign{Index: 2, Shown: roomy(toldSign(7, 2, 5).Shown), Others: roomy(toldSign(7, 2, 5).Others)}
	if impl.SignFault(g) != impl.OK || !impl.CheckSign(g, 5, 4, roomy([]int64{61517, 13607}), 42557) || impl.KeySum(roomy(toldPublic(7, 2))) != (impl.IntResult{Value: 39207}) {
		t.Error("the room behind a list is told with it")
	}
}
