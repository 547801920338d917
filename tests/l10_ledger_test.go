package tests

import (
	"bytes"
	"math"
	"slices"
	"testing"

	"loop.example/g00565/impl"
)

// The signatures and the types of chapter 10: other ones do not compile.
var (
	_ func(impl.Ledger) int64                                = impl.LedgerFault
	_ func(impl.Ledger, int64) impl.IntResult                = impl.VersionOf
	_ func(impl.Ledger, int64, impl.Event) impl.LedgerResult = impl.AppendEvent
	_ func(impl.Ledger, []impl.Event) impl.LedgerResult      = impl.AppendAll
	_ func(impl.Ledger, int64) impl.EventsResult             = impl.StreamOf
	_ func(impl.Ledger, int64) impl.PiecesResult             = impl.PiecesOf
	_ func(impl.Ledger, int64) impl.SlotsResult              = impl.SlotsOf
	_ func(impl.Ledger, int64, int64) impl.HeadResult        = impl.HeadOf
	_ func(impl.Ledger, impl.Ledger) bool                    = impl.SameLedgers
	_ func([]impl.Event) impl.IntResult                      = impl.ChainSum
	_ struct{ Events []impl.Event }                          = impl.Ledger{}

	_ = impl.LedgerResult{Code: int64(0), Value: int64(0), Ledger: impl.Ledger{}}
	_ = impl.EventsResult{Code: int64(0), Events: []impl.Event(nil)}
	_ = impl.PiecesResult{Code: int64(0), Pieces: [][]byte(nil)}
)

// knownEvents are of three streams that are mixed; knownSums, knownRoots, knownMaps and knownSlots are worked out apart.
var knownEvents = []impl.Event{
	{Stream: 5, Version: 0, Kind: 1, Value: one, Note: []byte("ab")},
	{Stream: 0, Version: 0, Kind: 9},
	{Stream: 5, Version: 1, Kind: 0, Value: minus, Note: []byte{0}},
	{Stream: 63, Version: 0, Kind: 3, Value: 1, Note: []byte("twelve bytes")},
	{Stream: 0, Version: 1, Kind: 0, Note: []byte{}},
	{Stream: 5, Version: 2, Kind: 1, Value: one, Note: []byte("ab")},
}

var (
	knownSums  = []int64{65234, 32320, 58958, 39644, 40086, 184}
	knownRoots = []int64{11, 65234, 56842, 63081, 40028, 9661, 3519}
	knownMaps  = []int64{7489, 7269, 64707, 64495, 64717, 46022, 20380}
	knownSlots = [][]impl.Slot{
		nil,
		{{Key: 5, Value: 53960}},
		{{Key: 0, Value: 36278}, {Key: 5, Value: 53960}},
		{{Key: 0, Value: 36278}, {Key: 5, Value: 29691}},
		{{Key: 0, Value: 36278}, {Key: 5, Value: 29691}, {Key: 63, Value: 40270}},
		{{Key: 0, Value: 16899}, {Key: 5, Value: 29691}, {Key: 63, Value: 40270}},
		{{Key: 0, Value: 16899}, {Key: 5, Value: 21965}, {Key: 63, Value: 40270}},
	}
	knownPieces = []string{
		"\x05\x00\x00\x01\x3f\xf0\x00\x00\x00\x00\x00\x00\x02ab",
		"\x00\x00\x00\x09\x00\x00\x00\x00\x00\x00\x00\x00\x00",
		"\x05\x00\x01\x00\x80\x00\x00\x00\x00\x00\x00\x00\x01\x00",
		"\x3f\x00\x00\x03\x00\x00\x00\x00\x00\x00\x00\x01\x0ctwelve bytes",
		"\x00\x00\x01\x00\x00\x00\x00\x00\x00\x00\x00\x00\x00",
		"\x05\x00\x02\x01\x3f\xf0\x00\x00\x00\x00\x00\x00\x02ab",
	}
)

// newEvent is one as it is handed in, with no Version yet; what else is in it goes by n.
func newEvent(stream int64, n int) impl.Event {
	return impl.Event{Stream: stream, Kind: someKinds[n%len(someKinds)], Value: someValues[n%len(someValues)], Note: someNotes[n%len(someNotes)]}
}

func newEvents(streams ...int64) []impl.Event {
	var list []impl.Event
	for n, stream := range streams {
		list = append(list, newEvent(stream, n))
	}
	return list
}

// ledgerOf has an event of each of these streams, in that order.
func ledgerOf(streams ...int64) impl.Ledger {
	return impl.Ledger{Events: versioned(newEvents(streams...))}
}

// versioned tells each event as which one of its stream it is.
func versioned(list []impl.Event) []impl.Event {
	list = slices.Clone(list)
	for n := range list {
		list[n].Version = toldVersion(list[:n], list[n].Stream)
	}
	return list
}

// streamsBy has n streams, each one of choices, by the rule which.
func streamsBy(n int, choices []int64, which func(n int) int) []int64 {
	var streams []int64
	for i := range n {
		streams = append(streams, choices[which(i)%len(choices)])
	}
	return streams
}

// twelve streams, that do not rise, and a thirteenth one.
var (
	twelveStreams   = []int64{63, 0, 31, 32, 5, 62, 1, 40, 16, 8, 2, 50}
	thirteenStreams = append(slices.Clone(twelveStreams), 33)
)

// someStreamLists has each size up to 24 in it, and of each several; none of them has more than twelve streams.
func someStreamLists() [][]int64 {
	var lists [][]int64
	for n := range 25 {
		lists = append(lists,
			repeat(int64(n*2), n),
			streamsBy(n, twelveStreams, func(i int) int { return i }),
			streamsBy(n, twelveStreams, func(i int) int { return i / 2 }),
			streamsBy(n, twelveStreams, func(i int) int { return i*i*7 + i/3 }),
			streamsBy(n, []int64{0, 63}, func(i int) int { return i }),
			streamsBy(n, []int64{63, 0, 5}, func(i int) int { return i * i }))
	}
	return lists
}

// someLedgers has no fault in it.
func someLedgers() []impl.Ledger {
	ledgers := []impl.Ledger{{}, {Events: []impl.Event{}}, {Events: knownEvents}}
	for _, streams := range someStreamLists() {
		ledgers = append(ledgers, ledgerOf(streams...))
	}
	return ledgers
}

// What follows is worked out with no help of the program.

func toldVersion(ahead []impl.Event, stream int64) int64 {
	return int64(len(toldStream(ahead, stream)))
}

func toldStream(list []impl.Event, stream int64) []impl.Event {
	var events []impl.Event
	for _, e := range list {
		if e.Stream == stream {
			events = append(events, e)
		}
	}
	return events
}

func toldPieces(list []impl.Event) [][]byte {
	var pieces [][]byte
	for _, e := range list {
		pieces = append(pieces, eventBytes(e))
	}
	return pieces
}

func toldEventSum(e impl.Event) int64 { return closedSum(append([]byte{0}, eventBytes(e)...)) }

func toldChain(list []impl.Event) int64 {
	chain := int64(0)
	for _, e := range list {
		chain = nodeOf(chain, toldEventSum(e))
	}
	return chain
}

func toldSlots(list []impl.Event) []impl.Slot {
	var slots []impl.Slot
	for stream := range int64(64) {
		if events := toldStream(list, stream); len(events) > 0 {
			slots = append(slots, impl.Slot{Key: stream, Value: toldChain(events)})
		}
	}
	return slots
}

func toldHead(list []impl.Event, key int64) impl.Head {
	var leaves []int64
	for _, e := range list {
		leaves = append(leaves, toldEventSum(e))
	}
	return impl.Head{Size: int64(len(list)), Root: toldRoot(leaves), Map: treeOf(toldSlots(list)).root(), Key: key}
}

func toldEventFault(e impl.Event) int64 {
	if e.Stream < 0 || e.Stream > 63 || e.Version < 0 || e.Version > 999 || e.Kind < 0 || e.Kind > 9 {
		return impl.ErrRange
	}
	if math.IsNaN(math.Float64frombits(uint64(e.Value))) && e.Value != canonNaN {
		return impl.ErrForm
	}
	if len(e.Note) > 12 {
		return impl.ErrMany
	}
	return impl.OK
}

func toldLedgerFault(l impl.Ledger) int64 {
	if len(l.Events) > 24 {
		return impl.ErrMany
	}
	for n, e := range l.Events {
		if code := toldEventFault(e); code != impl.OK {
			return code
		}
		if e.Version != toldVersion(l.Events[:n], e.Stream) {
			return impl.ErrVersion
		}
	}
	if len(toldStreams(l.Events)) > 12 {
		return impl.ErrFull
	}
	return impl.OK
}

func toldStreams(list []impl.Event) []int64 {
	var streams []int64
	for _, e := range list {
		if !slices.Contains(streams, e.Stream) {
			streams = append(streams, e.Stream)
		}
	}
	return streams
}

// toldAppend tells all events, and the code, and the Version, of a ledger that has no fault.
func toldAppend(list []impl.Event, expected int64, e impl.Event) (events []impl.Event, code int64, version int64) {
	if e.Version != 0 {
		return nil, impl.ErrForm, 0
	}
	if code := toldEventFault(e); code != impl.OK {
		return nil, code, 0
	}
	version = toldVersion(list, e.Stream)
	if expected != -1 && expected != version {
		return nil, impl.ErrVersion, 0
	}
	e.Version = version
	events = append(slices.Clone(list), e)
	if len(events) > 24 || len(toldStreams(events)) > 12 {
		return nil, impl.ErrFull, 0
	}
	return events, impl.OK, version
}

func toldAppendAll(list []impl.Event, more []impl.Event) (events []impl.Event, code int64) {
	if len(more) > 24 {
		return nil, impl.ErrMany
	}
	events = slices.Clone(list)
	for _, e := range more {
		if events, code, _ = toldAppend(events, -1, e); code != impl.OK {
			return nil, code
		}
	}
	return events, impl.OK
}

func areTheSame(a []impl.Event, b []impl.Event) bool { return slices.EqualFunc(a, b, holds) }

func holdsEvents(t *testing.T, name string, got impl.EventsResult, code int64, want []impl.Event) {
	t.Helper()
	if got.Code != code || !areTheSame(got.Events, want) {
		t.Errorf("%s is %+v, asked are the code %d and %+v", name, got, code, want)
	}
}

func holdsLedger(t *testing.T, name string, got impl.LedgerResult, value int64, want []impl.Event) {
	t.Helper()
	if got.Code != impl.OK || got.Value != value || !areTheSame(got.Ledger.Events, want) {
		t.Errorf("%s is %+v, asked are %d and %+v", name, got, value, want)
	}
}

func holdsNoLedger(t *testing.T, name string, got impl.LedgerResult, code int64) {
	t.Helper()
	if got.Code != code || got.Value != 0 || len(got.Ledger.Events) != 0 {
		t.Errorf("%s is %+v, asked is the code %d", name, got, code)
	}
}

// holdsAppend asks what toldAppend tells, code or ledger.
func holdsAppend(t *testing.T, name string, l impl.Ledger, expected int64, e impl.Event) (taken bool) {
	t.Helper()
	got := impl.AppendEvent(l, expected, e)
	events, code, version := toldAppend(l.Events, expected, e)
	if code != impl.OK {
		holdsNoLedger(t, name, got, code)
		return false
	}
	holdsLedger(t, name, got, version, events)
	return true
}

func holdsPieces(t *testing.T, name string, got impl.PiecesResult, code int64, want [][]byte) {
	t.Helper()
	if got.Code != code || !slices.EqualFunc(got.Pieces, want, bytes.Equal) {
		t.Errorf("%s is %+v, asked are the code %d and %v", name, got, code, want)
	}
}

func holdsNoSlots(t *testing.T, name string, got impl.SlotsResult, code int64) {
	t.Helper()
	if got.Code != code || len(got.Slots) != 0 {
		t.Errorf("%s is %+v, asked is the code %d", name, got, code)
	}
}

// asksLedgerFirst asks all functions that begin with the LedgerFault: its code is told, whatever else is handed in.
func asksLedgerFirst(t *testing.T, name string, l impl.Ledger, want int64) {
	t.Helper()
	if got := impl.LedgerFault(l); got != want {
		t.Errorf("%s: LedgerFault(%+v) is %d, not %d", name, l, got, want)
	}
	if want == impl.OK {
		return
	}
	for _, n := range []int64{math.MinInt64, -2, -1, 0, 64} {
		holdsInt(t, name+": VersionOf", impl.VersionOf(l, n), impl.IntResult{Code: want})
		holdsEvents(t, name+": StreamOf", impl.StreamOf(l, n), want, nil)
		holdsPieces(t, name+": PiecesOf", impl.PiecesOf(l, n), want, nil)
		holdsNoSlots(t, name+": SlotsOf", impl.SlotsOf(l, n), want)
		for _, key := range []int64{-1, 0, 8} {
			holdsHead(t, name+": HeadOf", impl.HeadOf(l, n, key), impl.HeadResult{Code: want})
		}
		for _, e := range []impl.Event{{}, plainEvent, {Stream: 64}} {
			holdsNoLedger(t, name+": AppendEvent", impl.AppendEvent(l, n, e), want)
		}
	}
	for _, list := range [][]impl.Event{nil, {}, {{}}, {plainEvent}, {{Stream: 64}}, make([]impl.Event, 25)} {
		holdsNoLedger(t, name+": AppendAll", impl.AppendAll(l, list), want)
	}
}

func TestLedgersWithoutFault(t *testing.T) {
	for _, l := range someLedgers() {
		asksLedgerFirst(t, "a ledger", l, impl.OK)
	}
	for stream := range int64(64) {
		asksLedgerFirst(t, "one stream", ledgerOf(repeat(stream, 24)...), impl.OK)
		asksLedgerFirst(t, "one event", ledgerOf(stream), impl.OK)
	}
}

func TestLedgersOfTooManyEvents(t *testing.T) {
	for _, n := range []int{25, 26, 48, 256, 1000} {
		for _, choices := range [][]int64{{0}, {63, 0, 5}, twelveStreams, thirteenStreams} {
			l := ledgerOf(streamsBy(n, choices, func(i int) int { return i })...)
			asksLedgerFirst(t, "too many", l, impl.ErrMany)
		}
		asksLedgerFirst(t, "too many, all alike", impl.Ledger{Events: make([]impl.Event, n)}, impl.ErrMany)
		asksLedgerFirst(t, "too many, all wrong", impl.Ledger{Events: slices.Repeat([]impl.Event{{Stream: 64, Version: -1, Kind: 10, Value: -1, Note: bytesOf(13, 0)}}, n)}, impl.ErrMany)
	}
	for place := range 25 {
		l := ledgerOf(repeat(5, 25)...)
		l.Events[place].Stream = -1
		asksLedgerFirst(t, "too many, and a fault of one", l, impl.ErrMany)
		l = ledgerOf(repeat(5, 25)...)
		l.Events[place].Version++
		asksLedgerFirst(t, "too many, and another Version", l, impl.ErrMany)
	}
}

// A wrongEvent has one change that makes an event of a ledger a wrong one.
type wrongEvent struct {
	name   string
	change func(e *impl.Event)
	code   int64
}

func wrongEvents() []wrongEvent {
	var wrongs []wrongEvent
	for _, stream := range noStreams {
		wrongs = append(wrongs, wrongEvent{"no Stream", func(e *impl.Event) { e.Stream = stream }, impl.ErrRange})
	}
	for _, version := range noVersions {
		wrongs = append(wrongs, wrongEvent{"no Version", func(e *impl.Event) { e.Version = version }, impl.ErrRange})
	}
	for _, kind := range noKinds {
		wrongs = append(wrongs, wrongEvent{"no Kind", func(e *impl.Event) { e.Kind = kind }, impl.ErrRange})
	}
	for _, value := range noCanons {
		wrongs = append(wrongs, wrongEvent{"no Value", func(e *impl.Event) { e.Value = value }, impl.ErrForm})
	}
	for _, note := range noNotes {
		wrongs = append(wrongs, wrongEvent{"no Note", func(e *impl.Event) { e.Note = note }, impl.ErrMany})
	}
	return wrongs
}

// wronged has that event of a ledger changed.
func wronged(l impl.Ledger, place int, change func(e *impl.Event)) impl.Ledger {
	l = impl.Ledger{Events: slices.Clone(l.Events)}
	change(&l.Events[place])
	return l
}

func TestLedgersWithAFaultOfAnEvent(t *testing.T) {
	for _, l := range []impl.Ledger{ledgerOf(5), {Events: knownEvents}, ledgerOf(repeat(0, 24)...), ledgerOf(streamsBy(24, twelveStreams, func(i int) int { return i })...)} {
		for place := range l.Events {
			for _, w := range wrongEvents() {
				asksLedgerFirst(t, w.name, wronged(l, place, w.change), w.code)
			}
		}
	}
}

func TestLedgersWhoseEventsAreAtTheirBounds(t *testing.T) {
	l := ledgerOf(5, 9, 5, 9, 5)
	for place := range l.Events {
		for _, kind := range []int64{0, 9} {
			for _, value := range someValues {
				for _, note := range someNotes {
					asksLedgerFirst(t, "at its bounds", wronged(l, place, func(e *impl.Event) { e.Kind, e.Value, e.Note = kind, value, note }), impl.OK)
				}
			}
		}
	}
}

func TestLedgersOfOtherVersions(t *testing.T) {
	of := func(numbers ...int64) impl.Ledger {
		var l impl.Ledger
		for i := 0; i < len(numbers); i += 2 {
			l.Events = append(l.Events, impl.Event{Stream: numbers[i], Version: numbers[i+1]})
		}
		return l
	}
	cases := []struct {
		name string
		l    impl.Ledger
		want int64
	}{
		{"0, 1, 2", of(5, 0, 5, 1, 5, 2), impl.OK},
		{"mixed", of(5, 0, 9, 0, 5, 1, 63, 0, 9, 1, 0, 0, 5, 2), impl.OK},
		{"each one a stream of its own", of(5, 0, 4, 0, 3, 0), impl.OK},
		{"it begins with 1", of(5, 1), impl.ErrVersion},
		{"it begins with 1, and 0 comes", of(5, 1, 5, 0), impl.ErrVersion},
		{"it begins with 999", of(5, 999), impl.ErrVersion},
		{"one is left out", of(5, 0, 5, 2), impl.ErrVersion},
		{"one is left out, and comes", of(5, 0, 5, 2, 5, 1), impl.ErrVersion},
		{"one stands twice", of(5, 0, 5, 1, 5, 1), impl.ErrVersion},
		{"the first one stands twice", of(5, 0, 5, 0), impl.ErrVersion},
		{"the first one stands again", of(5, 0, 5, 1, 5, 0), impl.ErrVersion},
		{"it goes by the places", of(5, 0, 9, 1, 5, 2), impl.ErrVersion},
		{"it goes on from another stream", of(5, 0, 9, 1), impl.ErrVersion},
		{"another one begins with 1", of(5, 0, 5, 1, 9, 1), impl.ErrVersion},
		{"mixed, one left out", of(5, 0, 9, 0, 5, 1, 9, 2), impl.ErrVersion},
		{"mixed, one twice", of(5, 0, 9, 0, 5, 1, 9, 0), impl.ErrVersion},
	}
	for _, c := range cases {
		asksLedgerFirst(t, c.name, c.l, c.want)
	}
	for _, l := range someLedgers() {
		for place, e := range l.Events {
			for version := range int64(27) {
				want := int64(impl.OK)
				if version != e.Version {
					want = impl.ErrVersion
				}
				if got := impl.LedgerFault(wronged(l, place, func(e *impl.Event) { e.Version = version })); got != want {
					t.Fatalf("%+v with the Version %d at %d: %d, not %d", l, version, place, got, want)
				}
			}
		}
	}
}

func TestLedgersOfStreamsThatAreTooMany(t *testing.T) {
	for n := 13; n <= 24; n++ {
		streams := streamsBy(n, thirteenStreams, func(i int) int { return i })
		asksLedgerFirst(t, "thirteen streams", ledgerOf(streams...), impl.ErrFull)
		slices.Reverse(streams)
		asksLedgerFirst(t, "thirteen streams", ledgerOf(streams...), impl.ErrFull)
		var each []int64
		for stream := range int64(n) {
			each = append(each, stream)
		}
		asksLedgerFirst(t, "as many streams as events", ledgerOf(each...), impl.ErrFull)
	}
	for place := range 24 {
		streams := streamsBy(24, twelveStreams, func(i int) int { return i })
		streams[place] = 33
		asksLedgerFirst(t, "a thirteenth one", ledgerOf(streams...), impl.ErrFull)
		// Behind place 12 there is no room for all twelve others.
		streams = repeat(33, 24)
		copy(streams[place:], twelveStreams)
		want := int64(impl.ErrFull)
		if place > 12 {
			want = impl.OK
		}
		asksLedgerFirst(t, "twelve or thirteen", ledgerOf(streams...), want)
	}
}

// Each of these faults is there or not, in all ways together; the first one that is asked is told.
func TestFaultsOfLedgersInTheirOrder(t *testing.T) {
	for faults := range 1 << 6 {
		for place := range 10 {
			n := 22
			if faults&1 != 0 {
				n = 25
			}
			choices := twelveStreams
			if faults&32 != 0 {
				choices = thirteenStreams
			}
			l := ledgerOf(streamsBy(n, choices, func(i int) int { return i })...)
			want := int64(impl.OK)
			note := func(code int64) {
				if want == impl.OK {
					want = code
				}
			}
			if faults&1 != 0 {
				note(impl.ErrMany)
			}
			if faults&2 != 0 {
				l.Events[place].Value = noCanons[place%len(noCanons)]
				note(impl.ErrForm)
			}
			if faults&4 != 0 {
				l.Events[place].Version += 3
				note(impl.ErrVersion)
			}
			if faults&8 != 0 {
				l.Events[place+1].Note = bytesOf(13, 0)
				note(impl.ErrMany)
			}
			if faults&16 != 0 {
				l.Events[place+1].Version += 2
				note(impl.ErrVersion)
			}
			if faults&32 != 0 {
				note(impl.ErrFull)
			}
			asksLedgerFirst(t, "faults together", l, want)
		}
	}
}

// strewnNumbers tells numbers below n in no simple order, by a rule that goes on from from.
func strewnNumbers(from int) (next func(n int) int) {
	state := uint32(from)*2654435761 + 1
	return func(n int) int {
		state = state*1664525 + 1013904223
		return int(state>>8) % n
	}
}

// strewnLedger has no fault, or one, or several; which ones goes by from.
func strewnLedger(from int) impl.Ledger {
	next := strewnNumbers(from)
	choices := thirteenStreams[:1+next(13)]
	which := []func(i int) int{func(i int) int { return i }, func(int) int { return next(13) }}[next(2)]
	l := ledgerOf(streamsBy(next(27), choices, which)...)
	wrongs := wrongEvents()
	for range next(3) {
		if n := len(l.Events); n > 0 {
			wrongs[next(len(wrongs))].change(&l.Events[next(n)])
			l.Events[next(n)].Version += int64(next(3)) - 1
		}
	}
	return l
}

func TestStrewnLedgersAreAskedAsTold(t *testing.T) {
	seen := map[int64]int{}
	for from := range 20000 {
		l := strewnLedger(from)
		want := toldLedgerFault(l)
		if got := impl.LedgerFault(l); got != want {
			t.Fatalf("LedgerFault(%+v) is %d, not %d", l, got, want)
		}
		seen[want]++
	}
	for _, code := range []int64{impl.OK, impl.ErrMany, impl.ErrRange, impl.ErrForm, impl.ErrVersion, impl.ErrFull} {
		if seen[code] < 100 {
			t.Errorf("only %d of all had the code %d", seen[code], code)
		}
	}
}

func TestStreamsHaveJustTheirEvents(t *testing.T) {
	for _, l := range someLedgers() {
		together := 0
		for stream := range int64(64) {
			want := toldStream(l.Events, stream)
			holdsEvents(t, "StreamOf", impl.StreamOf(l, stream), impl.OK, want)
			holdsInt(t, "VersionOf", impl.VersionOf(l, stream), impl.IntResult{Value: int64(len(want))})
			for version, e := range impl.StreamOf(l, stream).Events {
				if e.Version != int64(version) {
					t.Errorf("the event at %d of stream %d has the Version %d", version, stream, e.Version)
				}
			}
			together += len(want)
		}
		if together != len(l.Events) {
			t.Errorf("all streams have %d events, the ledger %d", together, len(l.Events))
		}
	}
}

func TestStreamsThatAreNone(t *testing.T) {
	for _, l := range someLedgers() {
		for _, stream := range noStreams {
			holdsInt(t, "VersionOf", impl.VersionOf(l, stream), outOfRange)
			holdsEvents(t, "StreamOf", impl.StreamOf(l, stream), impl.ErrRange, nil)
		}
	}
}

// An event that was taken is the last one, and all ahead of it is as it was.
func TestEventsThatAreTaken(t *testing.T) {
	for _, l := range someLedgers() {
		for n, stream := range slices.Concat(thirteenStreams, []int64{3, 5, 61}) {
			e := newEvent(stream, n+len(l.Events))
			version := toldVersion(l.Events, stream)
			for _, expected := range []int64{-1, version} {
				if !holdsAppend(t, "AppendEvent", l, expected, e) {
					continue
				}
				got := impl.AppendEvent(l, expected, e)
				last := len(l.Events)
				e.Version = version
				if len(got.Ledger.Events) != last+1 || !holds(got.Ledger.Events[last], e) || got.Value != version || !areTheSame(got.Ledger.Events[:last], l.Events) {
					t.Errorf("what was taken by %+v is not the last one of %+v", l, got)
				}
				e.Version = 0
				asksLedgerFirst(t, "what was appended to", got.Ledger, impl.OK)
				holdsInt(t, "VersionOf behind it", impl.VersionOf(got.Ledger, stream), impl.IntResult{Value: version + 1})
			}
		}
	}
}

func TestWhoExpectsAnotherVersion(t *testing.T) {
	for _, l := range someLedgers() {
		for n, stream := range []int64{63, 0, 5, 50, 33} {
			e := newEvent(stream, n)
			version := toldVersion(l.Events, stream)
			for _, expected := range slices.Concat(wildNumbers, []int64{-2, -3, version - 1, version, version + 1, version + 2, version + 256, version + 1<<32, version - 1<<32, int64(len(l.Events))}) {
				holdsAppend(t, "AppendEvent", l, expected, e)
			}
			for expected := int64(-30); expected < 30; expected++ {
				if taken := holdsAppend(t, "AppendEvent", l, expected, e); taken && expected != -1 && expected != version {
					t.Errorf("there are %d, and who expects %d is taken", version, expected)
				}
			}
		}
	}
	l := ledgerOf(5, 9, 5)
	for _, expected := range []int64{math.MinInt64, -2, 0, 1, 3, 4, math.MaxInt64} {
		holdsNoLedger(t, "AppendEvent", impl.AppendEvent(l, expected, impl.Event{Stream: 5}), impl.ErrVersion)
	}
}

func TestEventsThatAreTakenAtTheirBounds(t *testing.T) {
	l := ledgerOf(5, 9, 5)
	for _, stream := range []int64{0, 5, 9, 63} {
		for _, kind := range someKinds {
			for _, value := range someValues {
				for _, note := range someNotes {
					if !holdsAppend(t, "AppendEvent", l, -1, impl.Event{Stream: stream, Kind: kind, Value: value, Note: note}) {
						t.Error("it is not taken")
					}
				}
			}
		}
	}
}

func TestEventsThatAreNotTaken(t *testing.T) {
	for _, l := range []impl.Ledger{{}, ledgerOf(5), {Events: knownEvents}, ledgerOf(repeat(5, 24)...), ledgerOf(twelveStreams...)} {
		for _, expected := range []int64{-2, -1, 0, 1, 2, 3} {
			for _, version := range []int64{math.MinInt64, -1, 1, 2, 3, toldVersion(l.Events, 5), 24, 999, 1000, math.MaxInt64} {
				e := newEvent(5, 4)
				e.Version = version
				if version != 0 {
					holdsNoLedger(t, "with a Version", impl.AppendEvent(l, expected, e), impl.ErrForm)
				}
			}
			for _, w := range wrongEvents() {
				e := newEvent(5, 4)
				if w.change(&e); e.Version == 0 {
					holdsNoLedger(t, w.name, impl.AppendEvent(l, expected, e), w.code)
				}
			}
		}
	}
}

func TestLedgersWithoutRoom(t *testing.T) {
	full := ledgerOf(repeat(5, 24)...)
	almost := ledgerOf(repeat(5, 23)...)
	twelve := ledgerOf(twelveStreams...)
	eleven := ledgerOf(twelveStreams[:11]...)
	for _, stream := range []int64{0, 5, 33, 63} {
		version := toldVersion(full.Events, stream)
		holdsNoLedger(t, "24 events", impl.AppendEvent(full, -1, impl.Event{Stream: stream}), impl.ErrFull)
		holdsNoLedger(t, "24 events", impl.AppendEvent(full, version, impl.Event{Stream: stream}), impl.ErrFull)
		holdsNoLedger(t, "24 events, another Version", impl.AppendEvent(full, version+1, impl.Event{Stream: stream}), impl.ErrVersion)
		holdsLedger(t, "23 events", impl.AppendEvent(almost, -1, impl.Event{Stream: stream}), toldVersion(almost.Events, stream), versioned(append(slices.Clone(almost.Events), impl.Event{Stream: stream})))
	}
	for stream := range int64(64) {
		e := impl.Event{Stream: stream, Kind: 3}
		if isThere := slices.Contains(twelveStreams, stream); isThere {
			holdsLedger(t, "one of twelve streams", impl.AppendEvent(twelve, 1, e), 1, versioned(append(slices.Clone(twelve.Events), e)))
			holdsNoLedger(t, "one of twelve streams, another Version", impl.AppendEvent(twelve, 0, e), impl.ErrVersion)
		} else {
			holdsNoLedger(t, "one stream too many", impl.AppendEvent(twelve, -1, e), impl.ErrFull)
			holdsNoLedger(t, "one stream too many", impl.AppendEvent(twelve, 0, e), impl.ErrFull)
			holdsNoLedger(t, "one stream too many, another Version", impl.AppendEvent(twelve, 1, e), impl.ErrVersion)
		}
		if !holdsAppend(t, "the twelfth stream", eleven, -1, e) {
			t.Errorf("stream %d is not taken as the twelfth", stream)
		}
	}
}

// Each of these faults is there or not, in all ways together; the first one that is asked is told.
func TestFaultsOfAppendEventInTheirOrder(t *testing.T) {
	for faults := range 1 << 6 {
		for _, stream := range []int64{33, 5, 63} {
			streams := streamsBy(12, twelveStreams, func(i int) int { return i })
			if faults&16 != 0 {
				streams = streamsBy(24, twelveStreams, func(i int) int { return i })
			} else if faults&32 == 0 {
				streams = streams[:11]
			}
			l := ledgerOf(streams...)
			e := newEvent(stream, 4)
			expected := toldVersion(l.Events, stream)
			_, want, _ := toldAppend(l.Events, expected, e)
			if faults&8 != 0 {
				expected, want = expected+1, impl.ErrVersion
			}
			if faults&4 != 0 {
				e.Note, want = bytesOf(13, 1), impl.ErrMany
			}
			if faults&2 != 0 {
				e.Version, want = 7, impl.ErrForm
			}
			if faults&1 != 0 {
				l.Events[3].Stream, want = 64, impl.ErrRange
			}
			got := impl.AppendEvent(l, expected, e)
			if want == impl.OK {
				holdsAppend(t, "no fault", l, expected, e)
				continue
			}
			holdsNoLedger(t, "faults together", got, want)
		}
	}
	l := ledgerOf(5)
	e := impl.Event{Stream: 64, Version: 1, Value: -1, Note: bytesOf(13, 0)}
	holdsNoLedger(t, "a Version ahead of all", impl.AppendEvent(l, 7, e), impl.ErrForm)
	e.Version = 0
	holdsNoLedger(t, "no Stream ahead of no Value", impl.AppendEvent(l, 7, e), impl.ErrRange)
	e.Stream = 5
	holdsNoLedger(t, "no Value ahead of no Note", impl.AppendEvent(l, 7, e), impl.ErrForm)
	e.Value = 0
	holdsNoLedger(t, "no Note ahead of another Version", impl.AppendEvent(l, 7, e), impl.ErrMany)
}

func TestStrewnEventsAreTakenAsTold(t *testing.T) {
	taken := 0
	for from := range 5000 {
		l := strewnLedger(from)
		e := newEvent(thirteenStreams[from%13], from)
		expected := int64(from%4) - 1
		if code := toldLedgerFault(l); code != impl.OK {
			holdsNoLedger(t, "AppendEvent", impl.AppendEvent(l, expected, e), code)
			holdsNoLedger(t, "AppendAll", impl.AppendAll(l, []impl.Event{e}), code)
			continue
		}
		if holdsAppend(t, "AppendEvent", l, expected, e) {
			taken++
		}
	}
	if taken < 100 {
		t.Errorf("only %d of all were taken", taken)
	}
}

// holdsAppendAll asks what comes of the events one after the other, told and appended.
func holdsAppendAll(t *testing.T, name string, l impl.Ledger, list []impl.Event) (taken bool) {
	t.Helper()
	got := impl.AppendAll(l, list)
	events, code := toldAppendAll(l.Events, list)
	if code != impl.OK {
		holdsNoLedger(t, name, got, code)
	} else {
		holdsLedger(t, name, got, int64(len(events)), events)
	}
	if len(list) > 24 {
		return false
	}
	step := impl.LedgerResult{Ledger: l}
	for _, e := range list {
		if step = impl.AppendEvent(step.Ledger, -1, e); step.Code != impl.OK {
			break
		}
	}
	if step.Code != got.Code || code == impl.OK && !areTheSame(step.Ledger.Events, got.Ledger.Events) {
		t.Errorf("%s: one after the other it is %+v, not %+v", name, step, got)
	}
	return code == impl.OK
}

func TestAListIsItsEventsOneAfterTheOther(t *testing.T) {
	for _, streams := range someStreamLists() {
		list := newEvents(streams...)
		for _, ahead := range [][]int64{nil, {5}, {63, 0, 63}, twelveStreams[:6], twelveStreams, repeat(5, 23), repeat(5, 24)} {
			holdsAppendAll(t, "AppendAll", ledgerOf(ahead...), list)
		}
		for cut := range len(list) + 1 {
			if !holdsAppendAll(t, "AppendAll of the others", ledgerOf(streams[:cut]...), newEvents(streams...)[cut:]) {
				t.Error("what a ledger has is not taken one by one")
			}
		}
		holdsLedger(t, "AppendAll", impl.AppendAll(impl.Ledger{}, list), int64(len(list)), versioned(list))
	}
	for _, l := range someLedgers() {
		for _, none := range [][]impl.Event{nil, {}, make([]impl.Event, 0, 9)} {
			holdsLedger(t, "AppendAll of none", impl.AppendAll(l, none), int64(len(l.Events)), l.Events)
		}
	}
}

func TestListsThatAreTooLong(t *testing.T) {
	for _, l := range []impl.Ledger{{}, ledgerOf(5), ledgerOf(repeat(5, 24)...), ledgerOf(twelveStreams...)} {
		for _, n := range []int{25, 26, 256, 1000} {
			for _, e := range []impl.Event{{}, {Stream: 5}, {Version: 1}, {Stream: 64}, {Note: bytesOf(13, 0)}, {Value: -1}} {
				holdsNoLedger(t, "too many", impl.AppendAll(l, slices.Repeat([]impl.Event{e}, n)), impl.ErrMany)
			}
		}
		for _, e := range []impl.Event{{}, {Stream: 5}, {Version: 1}, {Stream: 64}, {Value: -1}} {
			holdsAppendAll(t, "24", l, slices.Repeat([]impl.Event{e}, 24))
		}
	}
	if !holdsAppendAll(t, "24 of none", impl.Ledger{}, make([]impl.Event, 24)) {
		t.Error("24 events are not taken")
	}
}

// The code of a list is that of its first event that is not taken.
func TestListsWithAnEventThatIsNotTaken(t *testing.T) {
	wrongs := append(wrongEvents(), wrongEvent{"with a Version", func(e *impl.Event) { e.Version = 1 }, impl.ErrForm}, wrongEvent{"with a Version", func(e *impl.Event) { e.Version = 999 }, impl.ErrForm})
	for place := range 6 {
		for i, w := range wrongs {
			list := newEvents(5, 0, 5, 63, 0, 5)
			w.change(&list[place])
			_, want := toldAppendAll(nil, list)
			if want == impl.OK {
				t.Fatalf("%s is no fault", w.name)
			}
			holdsAppendAll(t, w.name, impl.Ledger{}, list)
			holdsAppendAll(t, w.name, ledgerOf(5, 9), list)
			holdsAppendAll(t, w.name+", without room behind it", ledgerOf(repeat(5, 24-place)...), list)
			if place < 5 {
				wrongs[(i*7+3)%len(wrongs)].change(&list[place+1])
				if got := impl.AppendAll(impl.Ledger{}, list); got.Code != want {
					t.Errorf("%s, and another fault behind it: %d, not %d", w.name, got.Code, want)
				}
			}
		}
		// No room for the one ahead of it: that is told, not its fault.
		list := newEvents(5, 5, 5, 5, 5, 5)
		list[5].Stream = 64
		l := ledgerOf(repeat(5, 24-place)...)
		want := int64(impl.ErrFull)
		if place == 5 {
			want = impl.ErrRange
		}
		holdsNoLedger(t, "without room", impl.AppendAll(l, list), want)
	}
	for n := range 12 {
		list := newEvents(thirteenStreams[n:]...)
		holdsNoLedger(t, "one stream too many", impl.AppendAll(ledgerOf(thirteenStreams[:n]...), list), impl.ErrFull)
		list[len(list)-1].Version = 1
		holdsNoLedger(t, "one stream too many, with a Version", impl.AppendAll(ledgerOf(thirteenStreams[:n]...), list), impl.ErrForm)
		if !holdsAppendAll(t, "twelve streams", ledgerOf(thirteenStreams[:n]...), list[:len(list)-1]) {
			t.Error("twelve streams are not taken")
		}
	}
}

func TestKnownLedger(t *testing.T) {
	l := impl.Ledger{Events: knownEvents}
	var list []impl.Event
	for _, e := range knownEvents {
		e.Version = 0
		list = append(list, e)
	}
	holdsLedger(t, "AppendAll", impl.AppendAll(impl.Ledger{}, list), 6, knownEvents)
	holdsLedger(t, "AppendEvent", impl.AppendEvent(impl.Ledger{Events: knownEvents[:5]}, 2, list[5]), 2, knownEvents)
	for size := range 7 {
		var pieces [][]byte
		for _, piece := range knownPieces[:size] {
			pieces = append(pieces, []byte(piece))
		}
		n := int64(size)
		holdsPieces(t, "PiecesOf", impl.PiecesOf(l, n), impl.OK, pieces)
		holdsSlots(t, "SlotsOf", impl.SlotsOf(l, n), knownSlots[size])
		for key := range int64(8) {
			holdsHead(t, "HeadOf", impl.HeadOf(l, n, key), impl.HeadResult{Head: impl.Head{Size: n, Root: knownRoots[size], Map: knownMaps[size], Key: key}})
		}
	}
	for n, sum := range knownSums {
		holdsInt(t, "EventSum", impl.EventSum(knownEvents[n]), impl.IntResult{Value: sum})
	}
	holdsInt(t, "ChainSum", impl.ChainSum(knownEvents), impl.IntResult{Value: 9119})
	zeros := ledgerOf(repeat(0, 24)...)
	of := func(choices []int64) impl.Ledger {
		for n := range zeros.Events {
			zeros.Events[n] = impl.Event{Stream: choices[n%len(choices)], Version: int64(n / len(choices))}
		}
		return impl.Ledger{Events: slices.Clone(zeros.Events)}
	}
	holdsHead(t, "24 of one stream", impl.HeadOf(of([]int64{0}), 24, 7), impl.HeadResult{Head: impl.Head{Size: 24, Root: 38136, Map: 36128, Key: 7}})
	holdsHead(t, "24 of twelve", impl.HeadOf(of([]int64{0, 1, 2, 3, 4, 5, 6, 7, 8, 9, 10, 11}), 24, 0), impl.HeadResult{Head: impl.Head{Size: 24, Root: 40051, Map: 21491}})
}

func TestWhatALedgerComesTo(t *testing.T) {
	for _, l := range someLedgers() {
		for size := range len(l.Events) + 1 {
			first, n := l.Events[:size], int64(size)
			key := (n + 3) % 8
			holdsPieces(t, "PiecesOf", impl.PiecesOf(l, n), impl.OK, toldPieces(first))
			holdsSlots(t, "SlotsOf", impl.SlotsOf(l, n), toldSlots(first))
			holdsHead(t, "HeadOf", impl.HeadOf(l, n, key), impl.HeadResult{Head: toldHead(first, key)})
		}
	}
}

// What is told of the first events is told of a ledger that has no others.
func TestWhatFollowsCountsForNothing(t *testing.T) {
	for _, l := range someLedgers() {
		for size := range len(l.Events) + 1 {
			n := int64(size)
			first := impl.Ledger{Events: slices.Clone(l.Events[:size])}
			if impl.HeadOf(l, n, 5) != impl.HeadOf(first, n, 5) {
				t.Errorf("the head of the first %d of %+v is another one", size, l)
			}
			holdsSlots(t, "SlotsOf", impl.SlotsOf(l, n), impl.SlotsOf(first, n).Slots)
			holdsPieces(t, "PiecesOf", impl.PiecesOf(l, n), impl.OK, impl.PiecesOf(first, n).Pieces)
		}
	}
}

// A head tells both roots, and a map has of each stream what it comes to, and of no other one anything.
func TestHeadsTellBothRoots(t *testing.T) {
	for _, l := range someLedgers() {
		n := int64(len(l.Events))
		pieces, slots := impl.PiecesOf(l, n).Pieces, impl.SlotsOf(l, n).Slots
		want := impl.Head{Size: n, Root: impl.RootOf(impl.PieceSums(pieces).List).Value, Map: impl.MapRoot(slots).Value, Key: 6}
		holdsHead(t, "HeadOf", impl.HeadOf(l, n, 6), impl.HeadResult{Head: want})
		if impl.SlotsFault(slots) != impl.OK || impl.PiecesFault(pieces) != impl.OK || impl.HeadFault(want) != impl.OK {
			t.Errorf("what comes of %+v has a fault", l)
		}
		for stream := range int64(64) {
			found := impl.FindSlot(slots, stream)
			events := impl.StreamOf(l, stream).Events
			if len(events) == 0 {
				holdsInt(t, "a stream of none", found, impl.IntResult{Code: impl.ErrNone})
			} else {
				holdsInt(t, "a stream", found, impl.ChainSum(events))
			}
		}
	}
}

func TestSizesThatALedgerHasNot(t *testing.T) {
	for _, l := range someLedgers() {
		n := int64(len(l.Events))
		for _, size := range []int64{math.MinInt64, math.MinInt64 + n, -(1 << 32), -256, -n - 1, -2, -1, n + 1, n + 2, n + 256, n + 1<<32, math.MaxInt64 - 1, math.MaxInt64} {
			holdsPieces(t, "PiecesOf", impl.PiecesOf(l, size), impl.ErrRange, nil)
			holdsNoSlots(t, "SlotsOf", impl.SlotsOf(l, size), impl.ErrRange)
			for _, key := range []int64{-1, 0, 7, 8, math.MinInt64, math.MaxInt64} {
				holdsHead(t, "HeadOf", impl.HeadOf(l, size, key), impl.HeadResult{Code: impl.ErrRange})
			}
		}
	}
	// More lies behind in the same memory: it is no part of the ledger.
	roomy := impl.Ledger{Events: ledgerOf(5, 9, 5, 9).Events[:2]}
	holdsPieces(t, "PiecesOf", impl.PiecesOf(roomy, 3), impl.ErrRange, nil)
	holdsNoSlots(t, "SlotsOf", impl.SlotsOf(roomy, 3), impl.ErrRange)
	holdsHead(t, "HeadOf", impl.HeadOf(roomy, 3, 0), impl.HeadResult{Code: impl.ErrRange})
}

func TestKeysThatAHeadCannotHave(t *testing.T) {
	for _, l := range someLedgers() {
		for size := range int64(len(l.Events)) + 1 {
			for _, key := range []int64{math.MinInt64, -1, 8, math.MaxInt64} {
				holdsHead(t, "HeadOf", impl.HeadOf(l, size, key), impl.HeadResult{Code: impl.ErrRange})
			}
		}
	}
	for _, key := range noIndexes {
		holdsHead(t, "HeadOf", impl.HeadOf(impl.Ledger{Events: knownEvents}, 3, key), impl.HeadResult{Code: impl.ErrRange})
	}
}

func TestChainsThatAreKnown(t *testing.T) {
	same := make([]impl.Event, 24)
	cases := []struct {
		name string
		list []impl.Event
		want int64
	}{
		{"none", nil, 0},
		{"none, empty", []impl.Event{}, 0},
		{"one", same[:1], 28849},
		{"the same one 24 times", same, 15938},
		{"24 of one stream", func() []impl.Event {
			list := slices.Clone(same)
			for n := range list {
				list[n].Version = int64(n)
			}
			return list
		}(), 5047},
		{"a stream", []impl.Event{knownEvents[0], knownEvents[2], knownEvents[5]}, 21965},
		{"all of several streams", knownEvents, 9119},
	}
	for _, c := range cases {
		holdsInt(t, c.name, impl.ChainSum(c.list), impl.IntResult{Value: c.want})
	}
}

// A chain asks for no ledger: whatever events they are, in whatever order, they have one.
func TestChainsOfEvents(t *testing.T) {
	events := someEvents()
	for n := range 25 {
		for from := range 200 {
			var list []impl.Event
			for i := range n {
				list = append(list, events[(from*977+i*i*31+i)%len(events)])
			}
			holdsInt(t, "ChainSum", impl.ChainSum(list), impl.IntResult{Value: toldChain(list)})
		}
	}
	for _, l := range someLedgers() {
		holdsInt(t, "ChainSum", impl.ChainSum(l.Events), impl.IntResult{Value: toldChain(l.Events)})
		backwards := slices.Clone(l.Events)
		slices.Reverse(backwards)
		holdsInt(t, "ChainSum", impl.ChainSum(backwards), impl.IntResult{Value: toldChain(backwards)})
	}
	var each []int64
	for stream := range int64(24) {
		each = append(each, stream)
	}
	for _, streams := range [][]int64{thirteenStreams, each} {
		list := ledgerOf(streams...).Events
		holdsInt(t, "more than twelve streams", impl.ChainSum(list), impl.IntResult{Value: toldChain(list)})
	}
}

func TestChainsWithAFault(t *testing.T) {
	for _, n := range []int{25, 26, 256, 1000} {
		for _, e := range []impl.Event{{}, plainEvent, {Stream: 64}, {Value: -1}} {
			holdsInt(t, "too many", impl.ChainSum(slices.Repeat([]impl.Event{e}, n)), impl.IntResult{Code: impl.ErrMany})
		}
	}
	wrongs := wrongEvents()
	for place := range 24 {
		for i, w := range wrongs {
			l := wronged(ledgerOf(repeat(5, 24)...), place, w.change)
			holdsInt(t, w.name, impl.ChainSum(l.Events), impl.IntResult{Code: w.code})
			holdsInt(t, w.name+", the last one", impl.ChainSum(l.Events[:place+1]), impl.IntResult{Code: w.code})
			if place < 23 {
				l = wronged(l, place+1, wrongs[(i*7+3)%len(wrongs)].change)
				holdsInt(t, w.name+", and another fault behind it", impl.ChainSum(l.Events), impl.IntResult{Code: w.code})
			}
			l.Events = append(l.Events, impl.Event{})
			holdsInt(t, w.name+", of too many", impl.ChainSum(l.Events), impl.IntResult{Code: impl.ErrMany})
		}
	}
}

// holdsAlikeLedgers asks SameLedgers both ways.
func holdsAlikeLedgers(t *testing.T, name string, a impl.Ledger, b impl.Ledger, want bool) {
	t.Helper()
	if impl.SameLedgers(a, b) != want || impl.SameLedgers(b, a) != want {
		t.Errorf("%s: asked is %v of %+v and %+v", name, want, a, b)
	}
}

// cloneLedger has no memory of l in it; roomyLedger has room behind each list.
func cloneLedger(l impl.Ledger) impl.Ledger {
	events := slices.Clone(l.Events)
	for n := range events {
		events[n].Note = bytes.Clone(events[n].Note)
	}
	return impl.Ledger{Events: events}
}

func roomyLedger(l impl.Ledger) impl.Ledger {
	events := append(make([]impl.Event, 0, 99), l.Events...)
	for n := range events {
		events[n].Note = append(make([]byte, 0, 99), events[n].Note...)
	}
	return impl.Ledger{Events: events}
}

// wildLedgers has ledgers without a fault in it, and of each fault some.
func wildLedgers() []impl.Ledger {
	ledgers := []impl.Ledger{{}, {Events: []impl.Event{}}, {Events: knownEvents}, ledgerOf(repeat(5, 24)...), ledgerOf(repeat(5, 25)...), ledgerOf(twelveStreams...), ledgerOf(thirteenStreams...), ledgerOf(streamsBy(24, twelveStreams, func(i int) int { return i * i })...), {Events: make([]impl.Event, 3)}}
	for i, w := range wrongEvents() {
		ledgers = append(ledgers, wronged(ledgerOf(5, 9, 5, 0), i%4, w.change))
	}
	return ledgers
}

func TestLedgersThatAreTheSame(t *testing.T) {
	for _, l := range slices.Concat(someLedgers(), wildLedgers()) {
		holdsAlikeLedgers(t, "itself", l, l, true)
		holdsAlikeLedgers(t, "a copy", l, cloneLedger(l), true)
		holdsAlikeLedgers(t, "a copy with room", l, roomyLedger(l), true)
	}
	holdsAlikeLedgers(t, "none, nil and empty", impl.Ledger{}, impl.Ledger{Events: []impl.Event{}}, true)
	for place := range knownEvents {
		l := impl.Ledger{Events: knownEvents}
		gone := wronged(l, place, func(e *impl.Event) { e.Note = nil })
		none := wronged(l, place, func(e *impl.Event) { e.Note = []byte{} })
		holdsAlikeLedgers(t, "a note, nil and empty", gone, none, true)
		holdsAlikeLedgers(t, "a note of one byte and none", none, wronged(l, place, func(e *impl.Event) { e.Note = []byte{0} }), false)
	}
}

func TestLedgersThatDifferInOneThing(t *testing.T) {
	for _, l := range slices.Concat(someLedgers(), wildLedgers()) {
		for place := range l.Events {
			for _, turn := range []int64{1, -1, 256, 1 << 32, math.MinInt64} {
				for _, change := range []func(e *impl.Event){
					func(e *impl.Event) { e.Stream += turn },
					func(e *impl.Event) { e.Version += turn },
					func(e *impl.Event) { e.Kind += turn },
					func(e *impl.Event) { e.Value += turn },
				} {
					holdsAlikeLedgers(t, "one other number", l, wronged(l, place, change), false)
				}
			}
			for at := range l.Events[place].Note {
				other := wronged(cloneLedger(l), place, func(e *impl.Event) { e.Note[at] ^= 1 })
				holdsAlikeLedgers(t, "one other byte", l, other, false)
			}
			longer := wronged(l, place, func(e *impl.Event) { e.Note = append(bytes.Clone(e.Note), 0) })
			holdsAlikeLedgers(t, "one byte more", l, longer, false)
		}
		n := len(l.Events)
		for _, e := range []impl.Event{{}, {Stream: 5, Version: int64(n)}, {Stream: 64}} {
			holdsAlikeLedgers(t, "one event more", l, impl.Ledger{Events: append(slices.Clone(l.Events), e)}, false)
			holdsAlikeLedgers(t, "one event more, in front", l, impl.Ledger{Events: append([]impl.Event{e}, l.Events...)}, false)
		}
		if n > 0 {
			holdsAlikeLedgers(t, "one event less", l, impl.Ledger{Events: l.Events[:n-1]}, false)
			holdsAlikeLedgers(t, "without the first one", l, impl.Ledger{Events: l.Events[1:]}, false)
			holdsAlikeLedgers(t, "none", l, impl.Ledger{}, false)
		}
	}
}

func TestLedgersInAnotherOrder(t *testing.T) {
	a, b := impl.Event{Stream: 5}, impl.Event{Stream: 9}
	holdsAlikeLedgers(t, "the other way round", impl.Ledger{Events: []impl.Event{a, b}}, impl.Ledger{Events: []impl.Event{b, a}}, false)
	ab, ba := impl.HeadOf(impl.Ledger{Events: []impl.Event{a, b}}, 2, 0).Head, impl.HeadOf(impl.Ledger{Events: []impl.Event{b, a}}, 2, 0).Head
	if ab.Root == ba.Root || ab.Map != ba.Map {
		t.Errorf("the order of streams is told by %+v and %+v", ab, ba)
	}
}

// handedEvents lays events where others stand behind them, and behind each note other bytes; all of it is looked at by kept.
func handedEvents(given []impl.Event) (list []impl.Event, kept func() bool) {
	var looks []func() bool
	room := append(slices.Clone(given), plainEvent, impl.Event{Stream: 77})
	for n := range room {
		note, look := handed(room[n].Note)
		room[n].Note, looks = note, append(looks, look)
	}
	was := slices.Clone(room)
	return room[:len(given)], func() bool {
		for n, e := range room {
			// Other memory of the same bytes would be a change, too.
			if !looks[n]() || !holds(e, was[n]) || len(e.Note) > 0 && &e.Note[0] != &was[n].Note[0] {
				return false
			}
		}
		return true
	}
}

func TestLedgersLeaveTheirArgumentsAsTheyAre(t *testing.T) {
	wild := wildLedgers()
	for i, given := range wild {
		events, kept := handedEvents(given.Events)
		others, othersKept := handedEvents(wild[len(wild)-1-i].Events)
		note, noteKept := handed([]byte("a note"))
		allKept := func() bool { return kept() && othersKept() && noteKept() }
		l, other := impl.Ledger{Events: events}, impl.Ledger{Events: others}
		changesNothing(t, allKept,
			namedCall{"LedgerFault", func() { impl.LedgerFault(l) }},
			namedCall{"ChainSum", func() { impl.ChainSum(events) }},
			namedCall{"SameLedgers", func() { impl.SameLedgers(l, other) }},
			namedCall{"SameLedgers of one", func() { impl.SameLedgers(l, l) }},
			namedCall{"AppendAll", func() { impl.AppendAll(l, others) }},
			namedCall{"AppendAll of its own", func() { impl.AppendAll(l, events) }})
		for _, n := range []int64{-1, 0, 1, 3, 5, int64(len(events)), 63, 64} {
			changesNothing(t, allKept,
				namedCall{"VersionOf", func() { impl.VersionOf(l, n) }},
				namedCall{"StreamOf", func() { impl.StreamOf(l, n) }},
				namedCall{"PiecesOf", func() { impl.PiecesOf(l, n) }},
				namedCall{"SlotsOf", func() { impl.SlotsOf(l, n) }},
				namedCall{"HeadOf", func() { impl.HeadOf(l, n, 3) }},
				namedCall{"AppendEvent", func() { impl.AppendEvent(l, -1, impl.Event{Stream: n, Note: note}) }},
				namedCall{"AppendEvent, expected", func() { impl.AppendEvent(l, n, impl.Event{Stream: 5, Note: note}) }})
		}
	}
	// A list that is taken whole: each of its events gets a Version, though not where it was handed in.
	list, kept := handedEvents(newEvents(5, 9, 5, 5))
	changesNothing(t, kept, namedCall{"AppendAll", func() { impl.AppendAll(ledgerOf(5, 5), list) }})
}

// spoilEvents writes over all memory that events can reach.
func spoilEvents(list []impl.Event) {
	for _, e := range list {
		spoil(e.Note)
	}
	list = list[:cap(list)]
	for n := range list {
		list[n] = impl.Event{Stream: 77, Version: 78, Kind: 79, Value: 80}
	}
}

// ownEvents asks for events out of others: what comes shares no memory with them, nor with another answer, nor one note with another.
func ownEvents(t *testing.T, name string, given []impl.Event, want []impl.Event, ask func(given []impl.Event) []impl.Event) {
	t.Helper()
	list, kept := handedEvents(given)
	first, second := ask(list), ask(list)
	if !areTheSame(first, want) {
		t.Fatalf("%s is %+v, not %+v", name, first, want)
	}
	for n := range first {
		one := ask(list)
		spoil(one[n].Note)
		for other := range one {
			if other != n && !holds(one[other], want[other]) {
				t.Fatalf("two notes of %s share memory", name)
			}
		}
	}
	spoilEvents(first)
	if !kept() {
		t.Fatalf("%s shares memory with what was handed in", name)
	}
	if !areTheSame(second, want) || !areTheSame(ask(list), want) {
		t.Fatalf("%s shares memory with another answer", name)
	}
	for n := range list {
		spoil(list[n].Note[:len(list[n].Note):len(list[n].Note)])
	}
	clear(list)
	if !areTheSame(second, want) {
		t.Fatalf("%s changes with what was handed in", name)
	}
}

func TestEventsOfLedgersAreMemoryOfTheirOwn(t *testing.T) {
	for _, l := range someLedgers() {
		n := len(l.Events)
		for _, stream := range []int64{0, 5, 63} {
			ownEvents(t, "StreamOf", l.Events, toldStream(l.Events, stream), func(given []impl.Event) []impl.Event {
				return impl.StreamOf(impl.Ledger{Events: given}, stream).Events
			})
		}
		ownEvents(t, "AppendAll of none", l.Events, l.Events, func(given []impl.Event) []impl.Event {
			return impl.AppendAll(impl.Ledger{Events: given}, nil).Ledger.Events
		})
		if n == 24 || len(toldStreams(l.Events)) == 12 {
			continue
		}
		more := newEvent(33, 4)
		ownEvents(t, "AppendEvent", l.Events, append(slices.Clone(l.Events), more), func(given []impl.Event) []impl.Event {
			return impl.AppendEvent(impl.Ledger{Events: given}, -1, more).Ledger.Events
		})
		ownEvents(t, "AppendEvent of what was handed in", []impl.Event{more}, append(slices.Clone(l.Events), more), func(given []impl.Event) []impl.Event {
			return impl.AppendEvent(l, -1, given[0]).Ledger.Events
		})
	}
	for _, streams := range someStreamLists() {
		list := newEvents(streams...)
		ownEvents(t, "AppendAll", list, versioned(list), func(given []impl.Event) []impl.Event {
			return impl.AppendAll(impl.Ledger{}, given).Ledger.Events
		})
	}
	// One note that is handed in twice comes back as two.
	twice := impl.Event{Stream: 5, Note: []byte("ab")}
	ownEvents(t, "AppendAll of one event twice", []impl.Event{twice}, versioned([]impl.Event{twice, twice, twice}), func(given []impl.Event) []impl.Event {
		return impl.AppendAll(impl.Ledger{Events: given}, []impl.Event{given[0], given[0]}).Ledger.Events
	})
}

func TestPiecesOfLedgersAreMemoryOfTheirOwn(t *testing.T) {
	for _, l := range someLedgers() {
		n := int64(len(l.Events))
		want := toldPieces(l.Events)
		events, kept := handedEvents(l.Events)
		given := impl.Ledger{Events: events}
		first, second := impl.PiecesOf(given, n).Pieces, impl.PiecesOf(given, n)
		for i, piece := range first {
			spoil(piece)
			for j, other := range first {
				if j > i && !bytes.Equal(other, want[j]) {
					t.Fatal("two pieces of a ledger share memory")
				}
			}
		}
		clear(first[:cap(first)])
		if !kept() {
			t.Fatal("the pieces of a ledger share memory with it")
		}
		holdsPieces(t, "another answer", second, impl.OK, want)
		spoilEvents(events[:n:n])
		holdsPieces(t, "an answer whose ledger was changed", second, impl.OK, want)
	}
}

func TestSlotsOfLedgersAreMemoryOfTheirOwn(t *testing.T) {
	for _, l := range someLedgers() {
		n := int64(len(l.Events))
		want := toldSlots(l.Events)
		events, kept := handedEvents(l.Events)
		given := impl.Ledger{Events: events}
		first, second := impl.SlotsOf(given, n), impl.SlotsOf(given, n)
		spoilSlots(first.Slots)
		if !kept() {
			t.Fatal("the slots of a ledger share memory with it")
		}
		holdsSlots(t, "another answer", second, want)
		holdsSlots(t, "asked again", impl.SlotsOf(given, n), want)
	}
}

// ledgerAnswers asks all functions of the chapter at arguments in bounds and out of them; what it tells is one row an answer.
func ledgerAnswers() []string {
	var rows []string
	tell := func(numbers ...int64) { rows = append(rows, rowOf(numbers...)) }
	ints := func(r impl.IntResult) { tell(r.Code, r.Value) }
	events := func(code int64, value int64, list []impl.Event) {
		row := rowOf(code, value)
		for _, e := range list {
			row += rowOf(e.Stream, e.Version, e.Kind, e.Value) + string(e.Note)
		}
		rows = append(rows, row)
	}
	ledgers := func(r impl.LedgerResult) { events(r.Code, r.Value, r.Ledger.Events) }
	numbers := slices.Concat(wildNumbers, []int64{5, 7, 8, 9, 23, 24, 25, 62, 63, 64})
	wild := wildLedgers()
	for i, l := range wild {
		tell(impl.LedgerFault(l))
		ints(impl.ChainSum(l.Events))
		ledgers(impl.AppendAll(l, wild[i*3%len(wild)].Events))
		ledgers(impl.AppendAll(l, newEvents(twelveStreams[i%12:]...)))
		if impl.SameLedgers(l, wild[i*5%len(wild)]) {
			tell(int64(i))
		}
		for j, n := range numbers {
			ints(impl.VersionOf(l, n))
			stream := impl.StreamOf(l, n)
			events(stream.Code, 0, stream.Events)
			pieces := impl.PiecesOf(l, n)
			rows = append(rows, rowOf(pieces.Code)+string(bytes.Join(pieces.Pieces, []byte{'|'})))
			slots := impl.SlotsOf(l, n)
			tell(slots.Code)
			for _, s := range slots.Slots {
				tell(s.Key, s.Value)
			}
			h := impl.HeadOf(l, n, numbers[(i+j)%len(numbers)])
			tell(h.Code, h.Head.Size, h.Head.Root, h.Head.Map, h.Head.Key)
			ledgers(impl.AppendEvent(l, n, newEvent(5, j)))
			ledgers(impl.AppendEvent(l, -1, newEvent(n, j)))
		}
	}
	return rows
}

func TestLedgersHangOnTheirArgumentsAlone(t *testing.T) { answeredAlike(t, ledgerAnswers) }

// An empty list and nil are one, and what a list could still grow to makes no difference.
func TestEmptyLedgersAndNilAreOne(t *testing.T) {
	for _, empty := range [][]impl.Event{nil, {}, make([]impl.Event, 0, 40), knownEvents[:0]} {
		l := impl.Ledger{Events: empty}
		asksLedgerFirst(t, "none", l, impl.OK)
		holdsInt(t, "VersionOf", impl.VersionOf(l, 5), impl.IntResult{})
		holdsEvents(t, "StreamOf", impl.StreamOf(l, 5), impl.OK, nil)
		holdsPieces(t, "PiecesOf", impl.PiecesOf(l, 0), impl.OK, nil)
		holdsSlots(t, "SlotsOf", impl.SlotsOf(l, 0), nil)
		holdsHead(t, "HeadOf", impl.HeadOf(l, 0, 7), impl.HeadResult{Head: impl.Head{Root: 11, Map: 7489, Key: 7}})
		holdsInt(t, "ChainSum", impl.ChainSum(empty), impl.IntResult{})
		holdsLedger(t, "AppendAll", impl.AppendAll(l, empty), 0, nil)
		holdsLedger(t, "AppendEvent", impl.AppendEvent(l, 0, impl.Event{Stream: 5}), 0, []impl.Event{{Stream: 5}})
		holdsNoLedger(t, "AppendEvent", impl.AppendEvent(l, 1, impl.Event{Stream: 5}), impl.ErrVersion)
	}
	roomy := roomyLedger(impl.Ledger{Events: knownEvents})
	holdsHead(t, "HeadOf", impl.HeadOf(roomy, 6, 0), impl.HeadResult{Head: impl.Head{Size: 6, Root: 3519, Map: 20380}})
	holdsLedger(t, "AppendAll", impl.AppendAll(roomy, nil), 6, knownEvents)
	holdsLedger(t, "AppendAll of a part", impl.AppendAll(impl.Ledger{Events: roomy.Events[:2]}, nil), 2, knownEvents[:2])
}
