package wire_test

import (
	"testing"

	"arbour/api"
	"arbour/codec"
	"arbour/dnf"
	"arbour/wire"
)

// P8.2: filters and events that stand in a row, among other things, are taken one by one.
func TestTakeInARow(t *testing.T) {
	filters, events := someFilters(), someEvents()
	var row string
	for i, c := range filters {
		if dnf.Right(c.f) {
			row += wire.PutFilter(c.f) + codec.Uint(uint64(i)) + wire.PutEvent(events[i*29].e)
		}
	}
	reader := codec.Read(row)
	for i, c := range filters {
		if !dnf.Right(c.f) {
			continue
		}
		left := reader.Left()
		if f := wire.TakeFilter(reader); !equal(f, c.f) || reader.Left() != left-len(c.bytes) {
			t.Fatalf("filter %d: %v, and %d bytes of %d left", i, f, reader.Left(), left)
		}
		if n := reader.Uint(); n != uint64(i) {
			t.Fatalf("behind filter %d: %d", i, n)
		}
		left = reader.Left()
		if e := wire.TakeEvent(reader); e != events[i*29].e || reader.Left() != left-len(events[i*29].bytes) {
			t.Fatalf("event %d: %v, and %d bytes of %d left", i, e, reader.Left(), left)
		}
	}
	if reader.Left() != 0 || reader.Err() != api.OK {
		t.Errorf("at the end: %d bytes left, %d", reader.Left(), reader.Err())
	}
}

// P8.2: whatever follows, what comes next is taken.
func TestTakeAheadOfAnything(t *testing.T) {
	f, e := apart(3), api.Event{number(-5), str("x"), {}, number(1 << 40)}
	for b := range 256 {
		behind := string([]byte{byte(b), 0x80})
		reader := codec.Read(filterBytes(f) + behind)
		if got := wire.TakeFilter(reader); !equal(got, f) || reader.Err() != api.OK || reader.Left() != 2 || reader.Byte() != byte(b) {
			t.Fatalf("TakeFilter ahead of %q: %v, %d", behind, got, reader.Err())
		}
		reader = codec.Read(eventBytes(e) + behind)
		if got := wire.TakeEvent(reader); got != e || reader.Err() != api.OK || reader.Left() != 2 || reader.Byte() != byte(b) {
			t.Fatalf("TakeEvent ahead of %q: %v, %d", behind, got, reader.Err())
		}
	}
}

// P8.2: a reader that has stopped has nothing more, and keeps its error; so does one that stops here.
func TestTakeOfStoppedReaders(t *testing.T) {
	bytes := filterBytes(apart(2)) + eventBytes(api.Event{number(1)})
	for _, want := range []api.Errno{api.ErrArg, api.ErrForm, api.ErrTorn, api.ErrTree, api.ErrEmpty, 77, -1} {
		reader := codec.Read(bytes)
		reader.Fail(want)
		if f, e := wire.TakeFilter(reader), wire.TakeEvent(reader); f != nil || e != (api.Event{}) || reader.Err() != want {
			t.Errorf("stopped by %d: %v, %v, %d", want, f, e, reader.Err())
		}
	}
	for start, want := range map[string]api.Errno{"": api.ErrTorn, "\x05": api.ErrForm, "\x01": api.ErrTorn, filterOf(2, "\x00\x00\x01\x09123456789"): api.ErrLong, filterOf(1, "\x00\x00\x00"): api.ErrForm} {
		reader := codec.Read(start)
		for range 3 {
			if f, e := wire.TakeFilter(reader), wire.TakeEvent(reader); f != nil || e != (api.Event{}) || reader.Err() != want {
				t.Errorf("%q: %v, %v, %d", start, f, e, reader.Err())
			}
		}
	}
}

// P8.2, rule 6: a nil reader has nothing, and a zero one is torn.
func TestTakeOfNoReader(t *testing.T) {
	var none *codec.Reader
	if f, e := wire.TakeFilter(none), wire.TakeEvent(none); f != nil || e != (api.Event{}) || none.Err() != api.ErrNil {
		t.Errorf("a nil reader: %v, %v", f, e)
	}
	reader := new(codec.Reader)
	if f := wire.TakeFilter(reader); f != nil || reader.Err() != api.ErrTorn {
		t.Errorf("a zero reader: %v, %d", f, reader.Err())
	}
	reader = new(codec.Reader)
	if e := wire.TakeEvent(reader); e != (api.Event{}) || reader.Err() != api.ErrTorn {
		t.Errorf("a zero reader: %v, %d", e, reader.Err())
	}
}
