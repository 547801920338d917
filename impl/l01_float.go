package impl

const OK = 0
const ErrForm = 1
const ErrMany = 2
const ErrRange = 3
const ErrNone = 4
const ErrText = 5
const ErrTaken = 6
const ErrVersion = 7
const ErrProof = 8
const ErrState = 9
const ErrFull = 10
const ErrKeys = 11

const (
	FloatNumber = iota
	FloatZero
	FloatInf
	FloatNaN
)

type IntResult struct {
	Code  int64
	Value int64
}
type IntsResult struct {
	Code int64
	List []int64
}
type BytesResult struct {
	Code  int64
	Bytes []byte
}
type TextResult struct {
	Code int64
	Text string
}
type Parts struct {
	Kind     int64
	Minus    bool
	Exponent int64
	Mantissa int64
}

// Bits are worked on unsigned: a shift then brings no sign along, and Minus is a bit like any other.
const (
	minusBit      = uint64(1) << 63
	fractionWidth = 52
	leadingOne    = uint64(1) << fractionWidth
	fractionMask  = leadingOne - 1
	topE          = uint64(2047)
	nanFraction   = uint64(1) << 51
)

const (
	exponentShift = 1075
	leastExponent = -1074
	mostExponent  = 971
	leastLeading  = int64(leadingOne)
	mostMantissa  = 2*leastLeading - 1
)

const maxMeasures = 40

func PartsOf(bits int64) Parts {
	u := uint64(bits)
	minus := u&minusBit != 0
	e := u >> fractionWidth & topE
	f := u & fractionMask
	switch {
	case e == topE && f != 0:
		return Parts{Kind: FloatNaN}
	case e == topE:
		return Parts{Kind: FloatInf, Minus: minus}
	case e == 0 && f == 0:
		return Parts{Kind: FloatZero, Minus: minus}
	case e == 0:
		return Parts{Kind: FloatNumber, Minus: minus, Exponent: leastExponent, Mantissa: int64(f)}
	}
	return Parts{Kind: FloatNumber, Minus: minus, Exponent: int64(e) - exponentShift, Mantissa: int64(leadingOne | f)}
}

func BitsOf(p Parts) IntResult {
	if code := PartsFault(p); code != OK {
		return IntResult{Code: code}
	}
	u := bitsWithoutMinus(p)
	if p.Minus {
		u |= minusBit
	}
	return IntResult{Value: int64(u)}
}

func bitsWithoutMinus(p Parts) uint64 {
	switch p.Kind {
	case FloatNaN:
		return topE<<fractionWidth | nanFraction
	case FloatInf:
		return topE << fractionWidth
	case FloatZero:
		return 0
	}
	if p.Mantissa < leastLeading {
		return uint64(p.Mantissa)
	}
	e := uint64(p.Exponent + exponentShift)
	return e<<fractionWidth | uint64(p.Mantissa)&fractionMask
}

func PartsFault(p Parts) int64 {
	if !hasOnlyItsKind(p) {
		return ErrForm
	}
	if p.Kind == FloatNumber && !isNumberInRange(p) {
		return ErrRange
	}
	return OK
}

func hasOnlyItsKind(p Parts) bool {
	switch p.Kind {
	case FloatNumber:
		return true
	case FloatZero, FloatInf:
		return p == Parts{Kind: p.Kind, Minus: p.Minus}
	}
	return p == Parts{Kind: FloatNaN}
}

func isNumberInRange(p Parts) bool {
	if p.Exponent < leastExponent || p.Exponent > mostExponent {
		return false
	}
	if p.Mantissa < 1 || p.Mantissa > mostMantissa {
		return false
	}
	// Above the least Exponent a smaller Mantissa would be a second way to tell a number.
	return p.Mantissa >= leastLeading || p.Exponent == leastExponent
}

func CanonOf(bits int64) int64 {
	return BitsOf(PartsOf(bits)).Value
}

func SameMeasures(a int64, b int64) bool {
	return PartsOf(a) == PartsOf(b)
}

func IsAhead(a int64, b int64) bool {
	return orderPlace(a) < orderPlace(b)
}

func isBehind(a int64, b int64) bool {
	return IsAhead(b, a)
}

// With Minus the bits rise as the measure falls, so these are turned round, and all others are laid above them.
// What is no number needs no case of its own: its canon has an F that infinity has not, and no Minus.
func orderPlace(bits int64) uint64 {
	u := uint64(CanonOf(bits))
	if u&minusBit != 0 {
		return ^u
	}
	return u | minusBit
}

func LeastOf(list []int64) IntResult {
	return firstBest(list, IsAhead)
}

func MostOf(list []int64) IntResult {
	return firstBest(list, isBehind)
}

func firstBest(list []int64, isBetter func(a int64, b int64) bool) IntResult {
	if len(list) > maxMeasures {
		return IntResult{Code: ErrMany}
	}
	best := IntResult{Code: ErrNone}
	for _, bits := range list {
		if PartsOf(bits).Kind == FloatNaN {
			continue
		}
		if best.Code == ErrNone || isBetter(bits, best.Value) {
			best = IntResult{Value: bits}
		}
	}
	return best
}
