package tests

import (
	"math"
	"slices"
	"testing"

	"loop.example/g00565/impl"
)

// The signatures of chapter 1: another one does not compile.
var (
	_ func(int64) impl.Parts          = impl.PartsOf
	_ func(impl.Parts) impl.IntResult = impl.BitsOf
	_ func(impl.Parts) int64          = impl.PartsFault
	_ func(int64) int64               = impl.CanonOf
	_ func(int64, int64) bool         = impl.SameMeasures
	_ func(int64, int64) bool         = impl.IsAhead
	_ func([]int64) impl.IntResult    = impl.LeastOf
	_ func([]int64) impl.IntResult    = impl.MostOf
)

func TestCodesAndKinds(t *testing.T) {
	codes := []int64{impl.OK, impl.ErrForm, impl.ErrMany, impl.ErrRange, impl.ErrNone, impl.ErrText, impl.ErrTaken, impl.ErrVersion, impl.ErrProof, impl.ErrState, impl.ErrFull, impl.ErrKeys}
	for want, got := range codes {
		if got != int64(want) {
			t.Errorf("the code at place %d is %d", want, got)
		}
	}
	kinds := []int64{impl.FloatNumber, impl.FloatZero, impl.FloatInf, impl.FloatNaN}
	for want, got := range kinds {
		if got != int64(want) {
			t.Errorf("the kind at place %d is %d", want, got)
		}
	}
}

const (
	minus    = math.MinInt64 // the bit Minus alone: zero with Minus
	one      = int64(1023) << 52
	inf      = int64(2047) << 52
	canonNaN = inf + 1<<51
	greatest = inf - 1
	full     = int64(1)<<52 - 1 // F with all its bits
)

// bitsOf tells the bits of E and F, with Minus or not, by adding alone, so that no mask of the program is asked.
func bitsOf(withMinus bool, e int64, f int64) int64 {
	b := e<<52 + f
	if withMinus {
		b += minus
	}
	return b
}

var fractions = []int64{0, 1, 2, 3, 1<<51 - 1, 1 << 51, 1<<51 + 1, 0x5555555555555, 0xAAAAAAAAAAAAA, full - 1, full}

// sweep goes through all E, with Minus and without, and the fractions above.
func sweep(yield func(int64) bool) {
	for e := int64(0); e <= 2047; e++ {
		for _, f := range fractions {
			if !yield(bitsOf(false, e, f)) || !yield(bitsOf(true, e, f)) {
				return
			}
		}
	}
}

// someMeasures is short enough for all its pairs, and has each edge in it.
func someMeasures() []int64 {
	var list []int64
	for _, e := range []int64{0, 1, 2, 1022, 1023, 1024, 1075, 2045, 2046, 2047} {
		for _, f := range []int64{0, 1, 1 << 51, full - 1, full} {
			list = append(list, bitsOf(false, e, f), bitsOf(true, e, f))
		}
	}
	return append(list, math.MaxInt64, math.MinInt64, -1, 0, 1)
}

func isNaN(bits int64) bool { return math.IsNaN(math.Float64frombits(uint64(bits))) }

func TestPartsOfKnownBits(t *testing.T) {
	cases := []struct {
		name string
		bits int64
		want impl.Parts
	}{
		{"zero", 0, impl.Parts{Kind: 1}},
		{"zero with Minus", minus, impl.Parts{Kind: 1, Minus: true}},
		{"the least number above zero", 1, impl.Parts{Exponent: -1074, Mantissa: 1}},
		{"that with Minus", minus + 1, impl.Parts{Minus: true, Exponent: -1074, Mantissa: 1}},
		{"the last with E of 0", full, impl.Parts{Exponent: -1074, Mantissa: 1<<52 - 1}},
		{"the first with E of 1", 1 << 52, impl.Parts{Exponent: -1074, Mantissa: 1 << 52}},
		{"the last with E of 1", 1<<52 + full, impl.Parts{Exponent: -1074, Mantissa: 1<<53 - 1}},
		{"the first with E of 2", 2 << 52, impl.Parts{Exponent: -1073, Mantissa: 1 << 52}},
		{"one", one, impl.Parts{Exponent: -52, Mantissa: 1 << 52}},
		{"one with Minus", one + minus, impl.Parts{Minus: true, Exponent: -52, Mantissa: 1 << 52}},
		{"the first with E of 2046", 2046 << 52, impl.Parts{Exponent: 971, Mantissa: 1 << 52}},
		{"the greatest number", greatest, impl.Parts{Exponent: 971, Mantissa: 1<<53 - 1}},
		{"the least number of all", greatest + minus, impl.Parts{Minus: true, Exponent: 971, Mantissa: 1<<53 - 1}},
		{"infinity", inf, impl.Parts{Kind: 2}},
		{"infinity with Minus", inf + minus, impl.Parts{Kind: 2, Minus: true}},
		{"no number, F of 1", inf + 1, impl.Parts{Kind: 3}},
		{"no number, F of 1, with Minus", inf + minus + 1, impl.Parts{Kind: 3}},
		{"no number, the canon", canonNaN, impl.Parts{Kind: 3}},
		{"no number, all bits", -1, impl.Parts{Kind: 3}},
		{"no number, the greatest int64", math.MaxInt64, impl.Parts{Kind: 3}},
	}
	for _, c := range cases {
		if got := impl.PartsOf(c.bits); got != c.want {
			t.Errorf("%s: PartsOf(%#x) is %+v, not %+v", c.name, uint64(c.bits), got, c.want)
		}
		if isNaN(c.bits) {
			continue
		}
		if got := impl.BitsOf(c.want); got != (impl.IntResult{Value: c.bits}) {
			t.Errorf("%s: BitsOf(%+v) is %+v, not %d", c.name, c.want, got, c.bits)
		}
	}
}

// The library's own float64 tells what the bits are worth.
func TestPartsAreWorthTheMeasure(t *testing.T) {
	for bits := range sweep {
		x := math.Float64frombits(uint64(bits))
		p := impl.PartsOf(bits)
		var right bool
		switch p.Kind {
		case impl.FloatNaN:
			right = math.IsNaN(x) && p == impl.Parts{Kind: impl.FloatNaN}
		case impl.FloatInf:
			right = math.IsInf(x, 0) && p == impl.Parts{Kind: impl.FloatInf, Minus: x < 0}
		case impl.FloatZero:
			right = x == 0 && p == impl.Parts{Kind: impl.FloatZero, Minus: math.Signbit(x)}
		case impl.FloatNumber:
			worth := math.Ldexp(float64(p.Mantissa), int(p.Exponent))
			right = worth == math.Abs(x) && worth != 0 && !math.IsInf(worth, 0) && p.Minus == (x < 0)
		}
		if !right {
			t.Fatalf("PartsOf(%#x) is %+v, of the measure %v", uint64(bits), p, x)
		}
	}
}

func TestBitsAreThoseOfTheirParts(t *testing.T) {
	for bits := range sweep {
		want := bits
		if isNaN(bits) {
			want = canonNaN
		}
		p := impl.PartsOf(bits)
		if code := impl.PartsFault(p); code != impl.OK {
			t.Fatalf("PartsFault of PartsOf(%#x) is %d", uint64(bits), code)
		}
		if got := impl.BitsOf(p); got != (impl.IntResult{Value: want}) {
			t.Fatalf("BitsOf PartsOf(%#x) is %+v, not %#x", uint64(bits), got, uint64(want))
		}
		if got := impl.CanonOf(bits); got != want {
			t.Fatalf("CanonOf(%#x) is %#x, not %#x", uint64(bits), uint64(got), uint64(want))
		}
	}
}

func TestPartsComeBackFromTheirBits(t *testing.T) {
	list := []impl.Parts{{Kind: 1}, {Kind: 1, Minus: true}, {Kind: 2}, {Kind: 2, Minus: true}, {Kind: 3}}
	for _, f := range fractions {
		for e := int64(-1074); e <= 971; e++ {
			list = append(list, impl.Parts{Exponent: e, Mantissa: 1<<52 + f}, impl.Parts{Minus: true, Exponent: e, Mantissa: 1<<52 + f})
		}
		if f != 0 {
			list = append(list, impl.Parts{Exponent: -1074, Mantissa: f}, impl.Parts{Minus: true, Exponent: -1074, Mantissa: f})
		}
	}
	seen := map[int64]impl.Parts{}
	for _, p := range list {
		r := impl.BitsOf(p)
		if r.Code != impl.OK || impl.PartsOf(r.Value) != p {
			t.Fatalf("BitsOf(%+v) is %+v, whose parts are %+v", p, r, impl.PartsOf(r.Value))
		}
		if q, ok := seen[r.Value]; ok {
			t.Fatalf("%+v and %+v have the same bits", p, q)
		}
		seen[r.Value] = p
	}
}

func TestPartsFault(t *testing.T) {
	const far = int64(1) << 52
	cases := []struct {
		name string
		p    impl.Parts
		want int64
	}{
		{"the least number", impl.Parts{Exponent: -1074, Mantissa: 1}, impl.OK},
		{"the least number, with Minus", impl.Parts{Minus: true, Exponent: -1074, Mantissa: 1}, impl.OK},
		{"less than 2^52 with the least Exponent", impl.Parts{Exponent: -1074, Mantissa: far - 1}, impl.OK},
		{"2^52 with the least Exponent", impl.Parts{Exponent: -1074, Mantissa: far}, impl.OK},
		{"2^52 above the least Exponent", impl.Parts{Exponent: -1073, Mantissa: far}, impl.OK},
		{"the greatest number", impl.Parts{Exponent: 971, Mantissa: 2*far - 1}, impl.OK},
		{"zero", impl.Parts{Kind: 1}, impl.OK},
		{"zero with Minus", impl.Parts{Kind: 1, Minus: true}, impl.OK},
		{"infinity", impl.Parts{Kind: 2}, impl.OK},
		{"infinity with Minus", impl.Parts{Kind: 2, Minus: true}, impl.OK},
		{"no number", impl.Parts{Kind: 3}, impl.OK},

		{"Kind of -1", impl.Parts{Kind: -1}, impl.ErrForm},
		{"Kind of 4", impl.Parts{Kind: 4}, impl.ErrForm},
		{"the least Kind", impl.Parts{Kind: math.MinInt64}, impl.ErrForm},
		{"the greatest Kind", impl.Parts{Kind: math.MaxInt64}, impl.ErrForm},
		{"a Kind that is 0 in 32 bits", impl.Parts{Kind: 1 << 32, Mantissa: far}, impl.ErrForm},
		{"a Kind that is none, else a number", impl.Parts{Kind: 4, Exponent: -52, Mantissa: far}, impl.ErrForm},
		{"no number with Minus", impl.Parts{Kind: 3, Minus: true}, impl.ErrForm},
		{"no number with Exponent", impl.Parts{Kind: 3, Exponent: 1}, impl.ErrForm},
		{"no number with Mantissa", impl.Parts{Kind: 3, Mantissa: 1}, impl.ErrForm},
		{"infinity with Exponent", impl.Parts{Kind: 2, Exponent: -1}, impl.ErrForm},
		{"infinity with Mantissa", impl.Parts{Kind: 2, Mantissa: far}, impl.ErrForm},
		{"infinity, Minus, with Mantissa", impl.Parts{Kind: 2, Minus: true, Mantissa: 1}, impl.ErrForm},
		{"zero with Exponent", impl.Parts{Kind: 1, Exponent: -1074}, impl.ErrForm},
		{"zero with Mantissa", impl.Parts{Kind: 1, Mantissa: 1}, impl.ErrForm},
		{"zero, Minus, with Exponent", impl.Parts{Kind: 1, Minus: true, Exponent: 1}, impl.ErrForm},

		{"ErrForm ahead of ErrRange: Kind", impl.Parts{Kind: 4, Exponent: 972, Mantissa: -1}, impl.ErrForm},
		{"ErrForm ahead of ErrRange: zero", impl.Parts{Kind: 1, Exponent: 972, Mantissa: 2 * far}, impl.ErrForm},
		{"ErrForm ahead of ErrRange: infinity", impl.Parts{Kind: 2, Exponent: math.MaxInt64}, impl.ErrForm},
		{"ErrForm ahead of ErrRange: no number", impl.Parts{Kind: 3, Mantissa: math.MinInt64}, impl.ErrForm},

		{"a number of nothing", impl.Parts{}, impl.ErrRange},
		{"a number of nothing, with Minus", impl.Parts{Minus: true}, impl.ErrRange},
		{"Exponent of -1075", impl.Parts{Exponent: -1075, Mantissa: far}, impl.ErrRange},
		{"Exponent of -1075, small", impl.Parts{Exponent: -1075, Mantissa: 1}, impl.ErrRange},
		{"Exponent of 972", impl.Parts{Exponent: 972, Mantissa: far}, impl.ErrRange},
		{"the least Exponent there is", impl.Parts{Exponent: math.MinInt64, Mantissa: far}, impl.ErrRange},
		{"the greatest Exponent there is", impl.Parts{Exponent: math.MaxInt64, Mantissa: far}, impl.ErrRange},
		{"Mantissa of 0", impl.Parts{Exponent: -1074}, impl.ErrRange},
		{"Mantissa of -1", impl.Parts{Exponent: -1074, Mantissa: -1}, impl.ErrRange},
		{"Mantissa of 2^53", impl.Parts{Exponent: -52, Mantissa: 2 * far}, impl.ErrRange},
		{"Mantissa of 2^53, the least Exponent", impl.Parts{Exponent: -1074, Mantissa: 2 * far}, impl.ErrRange},
		{"the least Mantissa there is", impl.Parts{Exponent: -52, Mantissa: math.MinInt64}, impl.ErrRange},
		{"the greatest Mantissa there is", impl.Parts{Exponent: -52, Mantissa: math.MaxInt64}, impl.ErrRange},
		{"less than 2^52 with Exponent -1073", impl.Parts{Exponent: -1073, Mantissa: far - 1}, impl.ErrRange},
		{"less than 2^52 with Exponent 971", impl.Parts{Exponent: 971, Mantissa: 1}, impl.ErrRange},
		{"with Minus no less", impl.Parts{Minus: true, Exponent: 0, Mantissa: 1}, impl.ErrRange},
	}
	for _, c := range cases {
		if got := impl.PartsFault(c.p); got != c.want {
			t.Errorf("%s: PartsFault is %d, not %d", c.name, got, c.want)
		}
		got := impl.BitsOf(c.p)
		if got.Code != c.want || c.want != impl.OK && got.Value != 0 {
			t.Errorf("%s: BitsOf is %+v, asked is the code %d", c.name, got, c.want)
		}
	}
}

func TestNoNumbersAreOne(t *testing.T) {
	var list []int64
	for _, f := range fractions[1:] {
		list = append(list, bitsOf(false, 2047, f), bitsOf(true, 2047, f))
	}
	for _, a := range list {
		if impl.CanonOf(a) != canonNaN {
			t.Errorf("CanonOf(%#x) is %#x", uint64(a), uint64(impl.CanonOf(a)))
		}
		for _, b := range list {
			if !impl.SameMeasures(a, b) || impl.IsAhead(a, b) {
				t.Errorf("%#x and %#x are not one", uint64(a), uint64(b))
			}
		}
	}
	if got := impl.BitsOf(impl.Parts{Kind: impl.FloatNaN}); got != (impl.IntResult{Value: canonNaN}) {
		t.Errorf("BitsOf FloatNaN is %+v", got)
	}
}

func TestSameMeasuresAreOfOneCanon(t *testing.T) {
	if impl.SameMeasures(0, minus) || impl.SameMeasures(inf, inf+minus) || impl.SameMeasures(one, one+minus) {
		t.Error("with Minus and without are the same")
	}
	for _, a := range someMeasures() {
		for _, b := range someMeasures() {
			want := a == b || isNaN(a) && isNaN(b)
			if impl.SameMeasures(a, b) != want || (impl.CanonOf(a) == impl.CanonOf(b)) != want {
				t.Errorf("SameMeasures(%#x, %#x) is not %v", uint64(a), uint64(b), want)
			}
		}
	}
}

func TestOrderAsItIsTold(t *testing.T) {
	order := []int64{
		inf + minus,
		greatest + minus,
		greatest + minus - 1,
		one + 1 + minus,
		one + minus,
		1<<52 + minus,
		full + minus,
		2 + minus,
		1 + minus,
		minus,
		0,
		1,
		2,
		full,
		1 << 52,
		one,
		one + 1,
		greatest - 1,
		greatest,
		inf,
		canonNaN,
	}
	for i, a := range order {
		for j, b := range order {
			if impl.IsAhead(a, b) != (i < j) {
				t.Errorf("IsAhead(%#x, %#x) is not %v", uint64(a), uint64(b), i < j)
			}
		}
	}
	for _, x := range []int64{inf + 1, inf + minus + 1, -1, math.MaxInt64} {
		if !impl.IsAhead(inf, x) || impl.IsAhead(x, inf) || impl.IsAhead(x, inf+minus) || impl.IsAhead(x, 0) {
			t.Errorf("%#x is no number, and not the last of all", uint64(x))
		}
	}
}

func TestOrderIsOne(t *testing.T) {
	list := someMeasures()
	for _, a := range list {
		for _, b := range list {
			ahead, behind, same := impl.IsAhead(a, b), impl.IsAhead(b, a), impl.SameMeasures(a, b)
			if same && (ahead || behind) || !same && ahead == behind {
				t.Fatalf("%#x and %#x: ahead %v, behind %v, same %v", uint64(a), uint64(b), ahead, behind, same)
			}
			x, y := math.Float64frombits(uint64(a)), math.Float64frombits(uint64(b))
			if x < y && !ahead || x > y && ahead {
				t.Fatalf("numbers do not stand as they are: %v, %v", x, y)
			}
		}
	}
	for _, a := range list {
		for _, b := range list {
			for _, c := range list {
				if impl.IsAhead(a, b) && impl.IsAhead(b, c) && !impl.IsAhead(a, c) {
					t.Fatalf("%#x, %#x, %#x stand in no one order", uint64(a), uint64(b), uint64(c))
				}
			}
		}
	}
}

func repeat(bits int64, n int) []int64 { return slices.Repeat([]int64{bits}, n) }

func TestLeastAndMost(t *testing.T) {
	none := impl.IntResult{Code: impl.ErrNone}
	many := impl.IntResult{Code: impl.ErrMany}
	is := func(bits int64) impl.IntResult { return impl.IntResult{Value: bits} }
	cases := []struct {
		name        string
		list        []int64
		least, most impl.IntResult
	}{
		{"nil", nil, none, none},
		{"none", []int64{}, none, none},
		{"one that is no number", []int64{canonNaN}, none, none},
		{"several that are no number", []int64{inf + 1, -1, canonNaN, inf + minus + 7}, none, none},
		{"40 that are no number", repeat(-1, 40), none, none},
		{"41 that are no number: ErrMany ahead of ErrNone", repeat(-1, 41), many, many},
		{"41", repeat(one, 41), many, many},
		{"400", repeat(0, 400), many, many},
		{"40", append(repeat(one, 39), one+1), is(one), is(one + 1)},
		{"the last of 40 the least", append(repeat(one, 39), one-1), is(one - 1), is(one)},
		{"40, one of them a number", append(repeat(canonNaN, 39), 0), is(0), is(0)},
		{"zero alone", []int64{0}, is(0), is(0)},
		{"zero with Minus alone", []int64{minus}, is(minus), is(minus)},
		{"both zeros", []int64{0, minus}, is(minus), is(0)},
		{"both zeros, turned", []int64{minus, 0}, is(minus), is(0)},
		{"both infinities", []int64{inf, inf + minus}, is(inf + minus), is(inf)},
		{"infinity and the greatest number", []int64{greatest, inf, greatest + minus}, is(greatest + minus), is(inf)},
		{"no number ahead", []int64{inf + minus + 1, one, one + minus}, is(one + minus), is(one)},
		{"no number behind", []int64{one, one + minus, -1, canonNaN}, is(one + minus), is(one)},
		{"infinity beside what is no number", []int64{canonNaN, inf, canonNaN}, is(inf), is(inf)},
		{"infinity with Minus beside what is no number", []int64{-1, inf + minus}, is(inf + minus), is(inf + minus)},
		{"the least number of all", []int64{1, 0, 2, minus + 1, minus}, is(minus + 1), is(2)},
		{"several that are as good", []int64{one, 1, one, 1, one}, is(1), is(one)},
	}
	for _, c := range cases {
		if got := impl.LeastOf(c.list); got != c.least {
			t.Errorf("%s: LeastOf is %+v, not %+v", c.name, got, c.least)
		}
		if got := impl.MostOf(c.list); got != c.most {
			t.Errorf("%s: MostOf is %+v, not %+v", c.name, got, c.most)
		}
	}
}

// slidingLists cuts lists of 1 to 40 out of all edges, forth and back.
func slidingLists() [][]int64 {
	all := someMeasures()
	back := slices.Clone(all)
	slices.Reverse(back)
	var lists [][]int64
	for _, from := range [][]int64{all, back} {
		for n := 1; n <= 40; n++ {
			for at := 0; at+n <= len(from); at += 3 {
				lists = append(lists, from[at:at+n])
			}
		}
	}
	return lists
}

func TestLeastIsOneOfThemAndNoneIsAhead(t *testing.T) {
	for _, list := range slidingLists() {
		numbers := slices.DeleteFunc(slices.Clone(list), isNaN)
		least, most := impl.LeastOf(list), impl.MostOf(list)
		if len(numbers) == 0 {
			if least.Code != impl.ErrNone || most.Code != impl.ErrNone {
				t.Fatalf("%#x: %+v, %+v", list, least, most)
			}
			continue
		}
		if least.Code != impl.OK || most.Code != impl.OK || !slices.Contains(numbers, least.Value) || !slices.Contains(numbers, most.Value) {
			t.Fatalf("%#x: %+v, %+v are none of them", list, least, most)
		}
		for _, bits := range numbers {
			if impl.IsAhead(bits, least.Value) || impl.IsAhead(most.Value, bits) {
				t.Fatalf("%#x: %#x is ahead of the least, or behind the most", list, uint64(bits))
			}
		}
	}
}

// wildNumbers are what an argument may be, in bounds and out of them.
var wildNumbers = []int64{math.MinInt64, math.MinInt64 + 1, -(1 << 53), -1075, -1074, -1, 0, 1, 2, 3, 4, 971, 972, 1<<52 - 1, 1 << 52, 1<<53 - 1, 1 << 53, inf - 1, inf, inf + 1, canonNaN, math.MaxInt64 - 1, math.MaxInt64}

func wildParts() []impl.Parts {
	var list []impl.Parts
	for _, kind := range wildNumbers {
		for _, exponent := range wildNumbers {
			for _, mantissa := range wildNumbers {
				list = append(list, impl.Parts{Kind: kind, Exponent: exponent, Mantissa: mantissa}, impl.Parts{Kind: kind, Minus: true, Exponent: exponent, Mantissa: mantissa})
			}
		}
	}
	return list
}

// answersOf asks all functions at all wild arguments; what it tells is one row an answer.
func answersOf() [][4]int64 {
	var rows [][4]int64
	truth := map[bool]int64{true: 1}
	for _, p := range wildParts() {
		r := impl.BitsOf(p)
		rows = append(rows, [4]int64{impl.PartsFault(p), r.Code, r.Value})
	}
	for _, a := range wildNumbers {
		p := impl.PartsOf(a)
		rows = append(rows, [4]int64{p.Kind, truth[p.Minus], p.Exponent, p.Mantissa}, [4]int64{impl.CanonOf(a)})
		for _, b := range wildNumbers {
			rows = append(rows, [4]int64{truth[impl.SameMeasures(a, b)], truth[impl.IsAhead(a, b)]})
		}
	}
	for n := range 45 {
		for _, a := range wildNumbers {
			least, most := impl.LeastOf(repeat(a, n)), impl.MostOf(repeat(a, n))
			rows = append(rows, [4]int64{least.Code, least.Value, most.Code, most.Value})
		}
	}
	return rows
}

func TestAnswersAtEveryArgumentAndHangsOnItAlone(t *testing.T) {
	first := answersOf()
	if !slices.Equal(first, answersOf()) {
		t.Error("the same arguments were answered in two ways")
	}
	told := make(chan [][4]int64)
	for range 4 {
		go func() { told <- answersOf() }()
	}
	for range 4 {
		if !slices.Equal(first, <-told) {
			t.Error("beside others the same arguments were answered in another way")
		}
	}
}

func TestWithACodeAllElseIsZero(t *testing.T) {
	codes := map[int64]int{}
	for _, p := range wildParts() {
		r := impl.BitsOf(p)
		codes[r.Code]++
		if r.Code != impl.PartsFault(p) || r.Code != impl.OK && r.Value != 0 {
			t.Fatalf("BitsOf(%+v) is %+v", p, r)
		}
	}
	if len(codes) != 3 || codes[impl.OK] == 0 || codes[impl.ErrForm] == 0 || codes[impl.ErrRange] == 0 {
		t.Errorf("codes of parts: %v", codes)
	}
}

func TestListsStayAsTheyAre(t *testing.T) {
	lists := append(slidingLists(), nil, []int64{}, repeat(-1, 40), repeat(one, 41))
	for _, list := range lists {
		// What lies behind the list, in the same memory, is not for the function to write to either.
		room := append(slices.Clone(list), 7, 7, 7)
		kept := slices.Clone(room)
		handed := room[:len(list)]
		// Looked at behind each call: two calls could undo each other's change.
		least := impl.LeastOf(handed)
		if !slices.Equal(room, kept) {
			t.Fatalf("LeastOf: %#x became %#x", kept, room)
		}
		most := impl.MostOf(handed)
		if !slices.Equal(room, kept) {
			t.Fatalf("MostOf: %#x became %#x", kept, room)
		}
		if impl.LeastOf(handed) != least || impl.MostOf(handed) != most || impl.LeastOf(slices.Clip(slices.Clone(list))) != least {
			t.Fatalf("%#x: the same list was answered in two ways", list)
		}
	}
}

func TestEmptyAndNilAreOne(t *testing.T) {
	if impl.LeastOf(nil) != impl.LeastOf([]int64{}) || impl.MostOf(nil) != impl.MostOf(make([]int64, 0, 9)) {
		t.Error("an empty list and nil are two")
	}
}
