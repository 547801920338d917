package tests

import (
	"bytes"
	"math"
	"math/big"
	"slices"
	"testing"

	"loop.example/g00565/impl"
)

// The signatures and shapes of chapter 3: other ones do not compile.
var (
	_ func(impl.Event) int64             = impl.EventFault
	_ func(impl.Event) impl.BytesResult  = impl.PackEvent
	_ func([]byte) impl.EventResult      = impl.ReadEvent
	_ func(impl.Event, impl.Event) bool  = impl.SameEvents
	_ func(impl.Event) impl.IntResult    = impl.EventSum
	_ func(int64) impl.BytesResult       = impl.PutInt
	_ func([]byte, int64) impl.IntResult = impl.GetInt

	_ = impl.EventResult{Code: int64(0), Event: impl.Event{Stream: int64(0), Version: int64(0), Kind: int64(0), Value: int64(0), Note: []byte(nil)}, Used: int64(0)}
)

func TestMaxNoteAndMaxStream(t *testing.T) {
	if impl.MaxNote != 12 || impl.MaxStream != 63 {
		t.Errorf("MaxNote is %d, MaxStream %d", impl.MaxNote, impl.MaxStream)
	}
}

// noCanons are bits of a measure that is no number, all but its canon.
var noCanons = []int64{inf + 1, inf + 1<<51 - 1, inf + 1<<51 + 1, inf + minus + 1, canonNaN + minus, inf + full, math.MaxInt64, -1}

var (
	someStreams  = []int64{0, 1, 62, 63}
	someVersions = []int64{0, 1, 255, 256, 257, 511, 512, 998, 999}
	someKinds    = []int64{0, 1, 8, 9}
	someValues   = []int64{0, minus, 1, minus + 1, 0x0102030405060708, one, one + minus, greatest, greatest + minus, inf, inf + minus, canonNaN}
	someNotes    = [][]byte{nil, {}, {0}, {255}, []byte("ab"), mixed(11, 3), bytesOf(12, 0), bytesOf(12, 255), mixed(12, 5)}
)

var (
	noStreams  = []int64{math.MinInt64, -256, -64, -1, 64, 65, 255, 256, 259, 1 << 32, math.MaxInt64}
	noVersions = []int64{math.MinInt64, -65536, -999, -1, 1000, 1001, 1023, 65535, 65536, 65538, 1 << 32, math.MaxInt64}
	noKinds    = []int64{math.MinInt64, -256, -9, -1, 10, 11, 255, 256, 257, 1 << 32, math.MaxInt64}
	noNotes    = [][]byte{bytesOf(13, 0), mixed(13, 1), bytesOf(14, 7), bytesOf(255, 1), bytesOf(256, 1), bytesOf(268, 1), bytesOf(5000, 9)}
)

var plainEvent = impl.Event{Stream: 3, Version: 258, Kind: 1, Value: one, Note: []byte("ab")}

// someEvents has no fault in it, and no two events that are the same.
func someEvents() []impl.Event {
	var list []impl.Event
	for _, stream := range someStreams {
		for _, version := range someVersions {
			for _, kind := range someKinds {
				for _, value := range someValues {
					for _, note := range someNotes[1:] {
						list = append(list, impl.Event{Stream: stream, Version: version, Kind: kind, Value: value, Note: note})
					}
				}
			}
		}
	}
	return list
}

// eventBytes writes an event as the document tells it, with no help of the program.
func eventBytes(e impl.Event) []byte {
	list := []byte{byte(e.Stream), byte(e.Version / 256), byte(e.Version % 256), byte(e.Kind)}
	list = append(list, highestFirst(e.Value)...)
	return append(append(list, byte(len(e.Note))), e.Note...)
}

// highestFirst works n out as one great number, with 2^64 more where it is below 0.
func highestFirst(n int64) []byte {
	whole := big.NewInt(n)
	if n < 0 {
		whole.Add(whole, new(big.Int).Lsh(big.NewInt(1), 64))
	}
	return whole.FillBytes(make([]byte, 8))
}

// usedBytes tells how many bytes of an event stand at the beginning of data, as the document tells it; 0: there is none.
func usedBytes(data []byte) int {
	if len(data) < 13 || data[0] > 63 || int(data[1])*256+int(data[2]) > 999 || data[3] > 9 || data[12] > 12 || len(data) < 13+int(data[12]) {
		return 0
	}
	bits := new(big.Int).SetBytes(data[4:12]).Uint64()
	if math.IsNaN(math.Float64frombits(bits)) && bits != uint64(canonNaN) {
		return 0
	}
	return 13 + int(data[12])
}

func isNoEvent(r impl.EventResult) bool {
	return r.Code == impl.ErrText && r.Used == 0 && r.Event.Stream == 0 && r.Event.Version == 0 && r.Event.Kind == 0 && r.Event.Value == 0 && len(r.Event.Note) == 0
}

// holds asks field by field, so that SameEvents is not asked about itself.
func holds(got impl.Event, want impl.Event) bool {
	return got.Stream == want.Stream && got.Version == want.Version && got.Kind == want.Kind && got.Value == want.Value && string(got.Note) == string(want.Note)
}

func numbersOfAllSizes() []int64 {
	list := slices.Concat(wildNumbers, someValues, noCanons, []int64{258, -258, 0x0102030405060708, -0x0102030405060708})
	for shift := range 64 {
		list = append(list, int64(1)<<shift, -(int64(1) << shift), int64(1)<<shift-1)
	}
	return list
}

func TestPutIntThatIsKnown(t *testing.T) {
	cases := []struct {
		n    int64
		want string
	}{
		{0, "\x00\x00\x00\x00\x00\x00\x00\x00"},
		{1, "\x00\x00\x00\x00\x00\x00\x00\x01"},
		{258, "\x00\x00\x00\x00\x00\x00\x01\x02"},
		{0x0102030405060708, "\x01\x02\x03\x04\x05\x06\x07\x08"},
		{-1, "\xff\xff\xff\xff\xff\xff\xff\xff"},
		{-2, "\xff\xff\xff\xff\xff\xff\xff\xfe"},
		{-256, "\xff\xff\xff\xff\xff\xff\xff\x00"},
		{math.MaxInt64, "\x7f\xff\xff\xff\xff\xff\xff\xff"},
		{math.MinInt64, "\x80\x00\x00\x00\x00\x00\x00\x00"},
	}
	for _, c := range cases {
		if got := impl.PutInt(c.n); got.Code != impl.OK || string(got.Bytes) != c.want {
			t.Errorf("PutInt(%d) is %+v, not %x", c.n, got, c.want)
		}
		if got := impl.GetInt([]byte(c.want), 0); got != (impl.IntResult{Value: c.n}) {
			t.Errorf("GetInt(%x) is %+v, not %d", c.want, got, c.n)
		}
	}
}

func TestNumbersComeBackFromTheirBytes(t *testing.T) {
	for _, n := range numbersOfAllSizes() {
		piece := impl.PutInt(n)
		if piece.Code != impl.OK || !bytes.Equal(piece.Bytes, highestFirst(n)) {
			t.Fatalf("PutInt(%d) is %+v, not %x", n, piece, highestFirst(n))
		}
		for ahead := range 4 {
			for behind := range 4 {
				data := slices.Concat(mixed(ahead, 3), highestFirst(n), mixed(behind, 9))
				if got := impl.GetInt(data, int64(ahead)); got != (impl.IntResult{Value: n}) {
					t.Fatalf("GetInt(%x, %d) is %+v, not %d", data, ahead, got, n)
				}
			}
		}
	}
}

func TestEachByteOfANumberCounts(t *testing.T) {
	for place := range 8 {
		for b := range 256 {
			data := mixed(8, 4)
			data[place] = byte(b)
			want := int64(new(big.Int).SetBytes(data).Uint64())
			if got := impl.GetInt(data, 0); got != (impl.IntResult{Value: want}) {
				t.Fatalf("GetInt(%x) is %+v, not %d", data, got, want)
			}
			if got := impl.PutInt(want); !bytes.Equal(got.Bytes, data) {
				t.Fatalf("PutInt(%d) is %x, not %x", want, got.Bytes, data)
			}
		}
	}
}

func TestGetIntWhereThereAreNoEightBytes(t *testing.T) {
	outOfRange := impl.IntResult{Code: impl.ErrRange}
	for n := range 20 {
		data := mixed(n, 1)
		// More lies behind in the same memory: it is no part of data.
		roomy := append(slices.Clone(data), mixed(20, 2)...)[:n]
		for at := int64(-20); at < 40; at++ {
			got := impl.GetInt(data, at)
			if at < 0 || at+8 > int64(n) {
				if got != outOfRange {
					t.Errorf("GetInt of %d bytes at %d is %+v", n, at, got)
				}
			} else if want := int64(new(big.Int).SetBytes(data[at : at+8]).Uint64()); got != (impl.IntResult{Value: want}) {
				t.Errorf("GetInt of %d bytes at %d is %+v, not %d", n, at, got, want)
			}
			if impl.GetInt(roomy, at) != got {
				t.Errorf("GetInt of %d bytes at %d reads behind them", n, at)
			}
		}
		for _, at := range []int64{math.MinInt64, math.MinInt64 + 8, -(1 << 32), 1 << 32, math.MaxInt64 - 8, math.MaxInt64 - 7, math.MaxInt64} {
			if got := impl.GetInt(data, at); got != outOfRange {
				t.Errorf("GetInt of %d bytes at %d is %+v", n, at, got)
			}
		}
	}
	for _, at := range []int64{-1, 0, 1, math.MaxInt64} {
		if impl.GetInt(nil, at) != outOfRange || impl.GetInt([]byte{}, at) != outOfRange {
			t.Errorf("GetInt of nothing at %d", at)
		}
	}
}

// tellsTheCode asks all three functions that begin with the EventFault; a code has nothing beside it.
func tellsTheCode(t *testing.T, name string, e impl.Event, want int64) {
	t.Helper()
	if got := impl.EventFault(e); got != want {
		t.Errorf("%s: EventFault is %d, not %d", name, got, want)
	}
	packed := impl.PackEvent(e)
	if packed.Code != want || (want == impl.OK) != (len(packed.Bytes) > 0) {
		t.Errorf("%s: PackEvent is %+v, asked is the code %d", name, packed, want)
	}
	sum := impl.EventSum(e)
	if sum.Code != want || want != impl.OK && sum.Value != 0 {
		t.Errorf("%s: EventSum is %+v, asked is the code %d", name, sum, want)
	}
}

func with(change func(e *impl.Event)) impl.Event {
	e := plainEvent
	change(&e)
	return e
}

func TestEventsWithoutFault(t *testing.T) {
	tellsTheCode(t, "the zero value", impl.Event{}, impl.OK)
	tellsTheCode(t, "a plain one", plainEvent, impl.OK)
	for stream := range int64(64) {
		tellsTheCode(t, "Stream", with(func(e *impl.Event) { e.Stream = stream }), impl.OK)
	}
	for version := range int64(1000) {
		tellsTheCode(t, "Version", with(func(e *impl.Event) { e.Version = version }), impl.OK)
	}
	for kind := range int64(10) {
		tellsTheCode(t, "Kind", with(func(e *impl.Event) { e.Kind = kind }), impl.OK)
	}
	for n := range 13 {
		tellsTheCode(t, "Note", with(func(e *impl.Event) { e.Note = mixed(n, 1) }), impl.OK)
	}
	for _, value := range someValues {
		tellsTheCode(t, "Value", with(func(e *impl.Event) { e.Value = value }), impl.OK)
	}
}

// A Value is right if it is its own canon: all bits are, but those of no number, of which one alone is.
func TestValueIsItsOwnCanon(t *testing.T) {
	for bits := range sweep {
		want := int64(impl.OK)
		if isNaN(bits) && bits != canonNaN {
			want = impl.ErrForm
		}
		if got := impl.EventFault(impl.Event{Value: bits}); got != want {
			t.Fatalf("EventFault of the Value %#x is %d, not %d", uint64(bits), got, want)
		}
	}
	for _, bits := range noCanons {
		tellsTheCode(t, "a Value that is not its canon", with(func(e *impl.Event) { e.Value = bits }), impl.ErrForm)
	}
}

func TestEventFaults(t *testing.T) {
	for _, stream := range noStreams {
		tellsTheCode(t, "Stream", with(func(e *impl.Event) { e.Stream = stream }), impl.ErrRange)
	}
	for _, version := range noVersions {
		tellsTheCode(t, "Version", with(func(e *impl.Event) { e.Version = version }), impl.ErrRange)
	}
	for _, kind := range noKinds {
		tellsTheCode(t, "Kind", with(func(e *impl.Event) { e.Kind = kind }), impl.ErrRange)
	}
	for _, note := range noNotes {
		tellsTheCode(t, "Note", with(func(e *impl.Event) { e.Note = note }), impl.ErrMany)
	}
}

// Each of the five things is right or wrong, in all ways together: the first code that is so is told.
func TestEventFaultsStandInTheirOrder(t *testing.T) {
	for wrong := range 32 {
		e := plainEvent
		want := int64(impl.OK)
		if wrong&1 != 0 {
			e.Note, want = bytesOf(13, 1), impl.ErrMany
		}
		if wrong&2 != 0 {
			e.Value, want = inf+1, impl.ErrForm
		}
		if wrong&4 != 0 {
			e.Kind, want = 10, impl.ErrRange
		}
		if wrong&8 != 0 {
			e.Version, want = -1, impl.ErrRange
		}
		if wrong&16 != 0 {
			e.Stream, want = 64, impl.ErrRange
		}
		tellsTheCode(t, "several faults", e, want)
	}
}

func TestEventsThatAreKnown(t *testing.T) {
	cases := []struct {
		name string
		e    impl.Event
		want string
		sum  int64
	}{
		{"the zero value", impl.Event{}, "\x00\x00\x00\x00\x00\x00\x00\x00\x00\x00\x00\x00\x00", 18465},
		{"a plain one", plainEvent, "\x03\x01\x02\x01\x3f\xf0\x00\x00\x00\x00\x00\x00\x02ab", 4823},
		{"the greatest of all", impl.Event{Stream: 63, Version: 999, Kind: 9, Value: canonNaN, Note: []byte("twelve bytes")}, "\x3f\x03\xe7\x09\x7f\xf8\x00\x00\x00\x00\x00\x00\x0ctwelve bytes", 57577},
		{"zero with Minus", impl.Event{Version: 256, Value: minus}, "\x00\x01\x00\x00\x80\x00\x00\x00\x00\x00\x00\x00\x00", 15893},
	}
	for _, c := range cases {
		if got := impl.PackEvent(c.e); got.Code != impl.OK || string(got.Bytes) != c.want {
			t.Errorf("%s: PackEvent is %+v, not %x", c.name, got, c.want)
		}
		if got := impl.EventSum(c.e); got != (impl.IntResult{Value: c.sum}) {
			t.Errorf("%s: EventSum is %+v, not %d", c.name, got, c.sum)
		}
		if got := impl.ReadEvent([]byte(c.want)); got.Code != impl.OK || !holds(got.Event, c.e) || got.Used != int64(len(c.want)) {
			t.Errorf("%s: ReadEvent is %+v", c.name, got)
		}
	}
}

func TestEventsAreReadBackFromTheirBytes(t *testing.T) {
	for i, e := range someEvents() {
		want := eventBytes(e)
		packed := impl.PackEvent(e)
		if packed.Code != impl.OK || !bytes.Equal(packed.Bytes, want) {
			t.Fatalf("PackEvent(%+v) is %+v, not %x", e, packed, want)
		}
		if got := impl.EventSum(e); got != (impl.IntResult{Value: closedSum(append([]byte{0}, want...))}) {
			t.Fatalf("EventSum(%+v) is %+v", e, got)
		}
		for _, behind := range [][]byte{nil, {0}, {255}, mixed(1+i%20, i), want} {
			got := impl.ReadEvent(slices.Concat(want, behind))
			if got.Code != impl.OK || !holds(got.Event, e) || got.Used != int64(len(want)) {
				t.Fatalf("ReadEvent of %x with %x behind it is %+v, not %+v", want, behind, got, e)
			}
		}
	}
}

func TestBytesThatAreCut(t *testing.T) {
	for _, note := range someNotes {
		for _, value := range someValues {
			whole := eventBytes(impl.Event{Stream: 3, Version: 258, Kind: 1, Value: value, Note: note})
			for n := range whole {
				if got := impl.ReadEvent(slices.Clone(whole[:n])); !isNoEvent(got) {
					t.Fatalf("ReadEvent of the first %d of %x is %+v", n, whole, got)
				}
				// Here the others lie behind in the same memory.
				if got := impl.ReadEvent(whole[:n]); !isNoEvent(got) {
					t.Fatalf("ReadEvent reads behind the first %d of %x: %+v", n, whole, got)
				}
			}
		}
	}
	if !isNoEvent(impl.ReadEvent(nil)) || !isNoEvent(impl.ReadEvent([]byte{})) {
		t.Error("an event is read from nothing")
	}
}

// None of these bytes is what PackEvent writes, though there are enough of them.
func TestBytesWhoseFieldsLeaveTheirBounds(t *testing.T) {
	behind := bytesOf(300, 0)
	check := func(name string, e impl.Event) {
		t.Helper()
		if got := impl.ReadEvent(append(eventBytes(e), behind...)); !isNoEvent(got) {
			t.Errorf("%s: ReadEvent is %+v", name, got)
		}
		if got := impl.ReadEvent(eventBytes(e)); !isNoEvent(got) {
			t.Errorf("%s, nothing behind: ReadEvent is %+v", name, got)
		}
	}
	for stream := int64(64); stream < 256; stream++ {
		check("Stream", with(func(e *impl.Event) { e.Stream = stream }))
	}
	for version := int64(1000); version < 65536; version += 1 + version/100 {
		check("Version", with(func(e *impl.Event) { e.Version = version }))
	}
	for kind := int64(10); kind < 256; kind++ {
		check("Kind", with(func(e *impl.Event) { e.Kind = kind }))
	}
	for n := 13; n < 256; n++ {
		check("Note", with(func(e *impl.Event) { e.Note = mixed(n, n) }))
	}
	for _, value := range noCanons {
		check("Value", with(func(e *impl.Event) { e.Value = value }))
		check("Value, all else 0", impl.Event{Value: value})
	}
}

// Each byte of some events is turned to each other one: what is read is always what is written of it, and no more.
func TestThereIsOneWayToWriteAnEvent(t *testing.T) {
	read, refused := 0, 0
	for _, value := range someValues {
		for _, note := range someNotes {
			whole := append(eventBytes(impl.Event{Stream: 63, Version: 770, Kind: 9, Value: value, Note: note}), mixed(3, 8)...)
			for place := range whole {
				for b := range 256 {
					data := slices.Clone(whole)
					data[place] = byte(b)
					want := usedBytes(data)
					got := impl.ReadEvent(data)
					if want == 0 {
						if !isNoEvent(got) {
							t.Fatalf("ReadEvent(%x) is %+v", data, got)
						}
						refused++
						continue
					}
					if got.Code != impl.OK || got.Used != int64(want) || !bytes.Equal(impl.PackEvent(got.Event).Bytes, data[:want]) {
						t.Fatalf("ReadEvent(%x) is %+v, which is written as %x", data, got, impl.PackEvent(got.Event).Bytes)
					}
					read++
				}
			}
		}
	}
	if read == 0 || refused == 0 {
		t.Errorf("%d were read, %d were not", read, refused)
	}
}

func TestNoTwoEventsAreWrittenAlike(t *testing.T) {
	seen := map[string]impl.Event{}
	for _, e := range someEvents() {
		text := string(impl.PackEvent(e).Bytes)
		if other, ok := seen[text]; ok {
			t.Fatalf("%+v and %+v are both written as %x", e, other, text)
		}
		seen[text] = e
	}
	// Nor do the bytes of one begin those of another: else two events would stand at one beginning.
	for text := range seen {
		for n := range len(text) {
			if other, ok := seen[text[:n]]; ok {
				t.Fatalf("%x begins with the bytes of %+v", text, other)
			}
		}
	}
}

func TestSameEvents(t *testing.T) {
	same := func(name string, a impl.Event, b impl.Event, want bool) {
		t.Helper()
		if impl.SameEvents(a, b) != want || impl.SameEvents(b, a) != want {
			t.Errorf("%s: SameEvents is not %v", name, want)
		}
	}
	same("zero values", impl.Event{}, impl.Event{}, true)
	same("nil and empty Notes", impl.Event{Note: nil}, impl.Event{Note: []byte{}}, true)
	same("an empty Note with room", impl.Event{Note: nil}, impl.Event{Note: make([]byte, 0, 9)}, true)
	same("the same bytes in other memory", plainEvent, with(func(e *impl.Event) { e.Note = []byte("ab") }), true)
	same("Streams", plainEvent, with(func(e *impl.Event) { e.Stream++ }), false)
	same("Versions", plainEvent, with(func(e *impl.Event) { e.Version++ }), false)
	same("Kinds", plainEvent, with(func(e *impl.Event) { e.Kind++ }), false)
	same("Values", plainEvent, with(func(e *impl.Event) { e.Value++ }), false)
	same("Notes, no bytes", plainEvent, with(func(e *impl.Event) { e.Note = nil }), false)
	same("Notes, a byte less", plainEvent, with(func(e *impl.Event) { e.Note = []byte("a") }), false)
	same("Notes, a byte more", plainEvent, with(func(e *impl.Event) { e.Note = []byte("ab\x00") }), false)
	same("Notes, the first byte", plainEvent, with(func(e *impl.Event) { e.Note = []byte("bb") }), false)
	same("Notes, the last byte", plainEvent, with(func(e *impl.Event) { e.Note = []byte("aa") }), false)
	same("Notes, nothing and a byte 0", impl.Event{}, impl.Event{Note: []byte{0}}, false)
	same("zero with Minus and without", impl.Event{Value: 0}, impl.Event{Value: minus}, false)
	same("Stream and Version turned round", impl.Event{Stream: 1, Version: 2}, impl.Event{Stream: 2, Version: 1}, false)
	same("Version and Kind turned round", impl.Event{Version: 1, Kind: 2}, impl.Event{Version: 2, Kind: 1}, false)
	same("Kind and Value turned round", impl.Event{Kind: 1, Value: 2}, impl.Event{Kind: 2, Value: 1}, false)
	same("Streams, one of them out of bounds", impl.Event{Stream: 3}, impl.Event{Stream: 259}, false)
	same("Versions, one of them out of bounds", impl.Event{Version: 2}, impl.Event{Version: 65538}, false)
	same("Values of one measure, of other bits", impl.Event{Value: canonNaN}, impl.Event{Value: inf + 1}, false)
	same("long Notes", impl.Event{Note: bytesOf(5000, 9)}, impl.Event{Note: bytesOf(5000, 9)}, true)
	same("long Notes, the last byte", impl.Event{Note: bytesOf(13, 9)}, impl.Event{Note: append(bytesOf(12, 9), 8)}, false)
	for _, e := range wildEvents() {
		same("one with itself", e, e, true)
	}
}

func TestSameEventsAreWrittenAlike(t *testing.T) {
	var list []impl.Event
	for i, e := range someEvents() {
		if i%37 == 0 {
			list = append(list, e)
		}
	}
	for i, a := range list {
		for j, b := range list {
			alike := bytes.Equal(impl.PackEvent(a).Bytes, impl.PackEvent(b).Bytes)
			if impl.SameEvents(a, b) != (i == j) || alike != (i == j) {
				t.Fatalf("%+v and %+v: the same %v, written alike %v", a, b, impl.SameEvents(a, b), alike)
			}
		}
	}
}

// wildEvents has each field in bounds and out of them.
func wildEvents() []impl.Event {
	list := []impl.Event{{}, plainEvent}
	for _, n := range numbersOfAllSizes() {
		list = append(list,
			with(func(e *impl.Event) { e.Stream = n }),
			with(func(e *impl.Event) { e.Version = n }),
			with(func(e *impl.Event) { e.Kind = n }),
			with(func(e *impl.Event) { e.Value = n }),
			impl.Event{Stream: n, Version: n, Kind: n, Value: n, Note: bytesOf(13, 1)})
	}
	for _, note := range slices.Concat(someNotes, noNotes) {
		list = append(list, with(func(e *impl.Event) { e.Note = note }))
	}
	return list
}

// wildData has bytes of events, whole and cut, and bytes of none.
func wildData() [][]byte {
	list := slices.Concat(somePieces(), longPieces)
	for i, e := range someEvents() {
		if i%97 == 0 {
			data := eventBytes(e)
			list = append(list, data, data[:len(data)-1], append(data, 1, 2, 3))
		}
	}
	return list
}

func TestEventsStayAsTheyAre(t *testing.T) {
	for _, e := range wildEvents() {
		note, kept := handed(e.Note)
		e.Note = note
		changesNothing(t, kept,
			namedCall{"EventFault", func() { impl.EventFault(e) }},
			namedCall{"PackEvent", func() { impl.PackEvent(e) }},
			namedCall{"EventSum", func() { impl.EventSum(e) }},
			namedCall{"SameEvents, a", func() { impl.SameEvents(e, plainEvent) }},
			namedCall{"SameEvents, b", func() { impl.SameEvents(plainEvent, e) }},
			namedCall{"SameEvents, both", func() { impl.SameEvents(e, e) }})
	}
}

func TestDataStaysAsItIs(t *testing.T) {
	for _, piece := range wildData() {
		data, kept := handed(piece)
		last := int64(len(data)) - 8
		changesNothing(t, kept, namedCall{"ReadEvent", func() { impl.ReadEvent(data) }})
		for _, at := range []int64{-1, 0, 1, last, last + 1, math.MaxInt64} {
			changesNothing(t, kept, namedCall{"GetInt", func() { impl.GetInt(data, at) }})
		}
	}
}

func TestPackedBytesAreMemoryOfTheirOwn(t *testing.T) {
	for n := range 13 {
		e := plainEvent
		note, kept := handed(mixed(n, 6))
		e.Note = note
		want := eventBytes(e)
		first, second := impl.PackEvent(e), impl.PackEvent(e)
		spoil(first.Bytes)
		if !kept() {
			t.Errorf("PackEvent shares memory with a Note of %d bytes", n)
		}
		if !bytes.Equal(second.Bytes, want) || !bytes.Equal(impl.PackEvent(e).Bytes, want) {
			t.Errorf("PackEvent shares memory with another answer, of %d bytes", n)
		}
		spoil(note[:n:n])
		if !bytes.Equal(second.Bytes, want) {
			t.Errorf("PackEvent changes with a Note of %d bytes", n)
		}
	}
}

func TestNotesAreMemoryOfTheirOwn(t *testing.T) {
	for n := range 13 {
		e := plainEvent
		e.Note = mixed(n, 6)
		whole := eventBytes(e)
		data, kept := handed(whole)
		first, second := impl.ReadEvent(data), impl.ReadEvent(data)
		spoil(first.Event.Note)
		if !kept() {
			t.Errorf("ReadEvent of a Note of %d bytes shares memory with its data", n)
		}
		if !holds(second.Event, e) || !holds(impl.ReadEvent(data).Event, e) {
			t.Errorf("ReadEvent of a Note of %d bytes shares memory with another answer", n)
		}
		spoil(data[:len(data):len(data)])
		if !holds(second.Event, e) {
			t.Errorf("ReadEvent of a Note of %d bytes changes with its data", n)
		}
	}
}

func TestBytesOfNumbersAreMemoryOfTheirOwn(t *testing.T) {
	for _, n := range numbersOfAllSizes() {
		first, second := impl.PutInt(n), impl.PutInt(n)
		spoil(first.Bytes)
		if !bytes.Equal(second.Bytes, highestFirst(n)) || !bytes.Equal(impl.PutInt(n).Bytes, highestFirst(n)) {
			t.Fatalf("PutInt(%d) shares memory with another answer", n)
		}
	}
}

// eventAnswers asks all functions of the chapter at arguments in bounds and out of them; what it tells is one row an answer.
func eventAnswers() []string {
	var rows []string
	tell := func(list []byte, numbers ...int64) {
		row := slices.Clone(list)
		for _, n := range numbers {
			row = append(row, binaryOf(n)...)
		}
		rows = append(rows, string(row))
	}
	events := wildEvents()
	for i, e := range events {
		packed, sum := impl.PackEvent(e), impl.EventSum(e)
		tell(packed.Bytes, packed.Code, sum.Code, sum.Value, impl.EventFault(e))
		if impl.SameEvents(e, events[len(events)-1-i]) {
			tell(nil, int64(i))
		}
	}
	for _, data := range wildData() {
		r := impl.ReadEvent(data)
		tell(r.Event.Note, r.Code, r.Used, r.Event.Stream, r.Event.Version, r.Event.Kind, r.Event.Value)
		for _, at := range slices.Concat(wildNumbers, []int64{int64(len(data)) - 8, int64(len(data)) - 7}) {
			n := impl.GetInt(data, at)
			tell(nil, n.Code, n.Value)
		}
	}
	for _, n := range numbersOfAllSizes() {
		put := impl.PutInt(n)
		tell(put.Bytes, put.Code)
	}
	return rows
}

func TestEventsHangOnTheirArgumentsAlone(t *testing.T) { answeredAlike(t, eventAnswers) }

// An empty Note and nil are one, and what a Note could still grow to makes no difference.
func TestEmptyNotesAndNilAreOne(t *testing.T) {
	want := eventBytes(impl.Event{Stream: 5})
	for _, empty := range [][]byte{nil, {}, make([]byte, 0, 40)} {
		e := impl.Event{Stream: 5, Note: empty}
		if impl.EventFault(e) != impl.OK || !bytes.Equal(impl.PackEvent(e).Bytes, want) || impl.EventSum(e) != impl.EventSum(impl.Event{Stream: 5}) || !impl.SameEvents(impl.ReadEvent(want).Event, e) {
			t.Error("an empty Note and nil are two")
		}
	}
	roomy := impl.Event{Note: append(make([]byte, 0, 4000), "ab"...)}
	if impl.EventFault(roomy) != impl.OK || !bytes.Equal(impl.PackEvent(roomy).Bytes, eventBytes(roomy)) {
		t.Error("the room behind a Note is told with it")
	}
}
