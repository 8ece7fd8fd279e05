package shelf_test

import (
	"bytes"
	"math"
	"slices"
	"testing"

	"glebe/api"
	"glebe/point"
	"glebe/shelf"
	"glebe/wire"
)

const noRows = "\x00\x00\x00\x00\x00\x00\x00\x00"

// putAs: its bytes, written out, and the same shelf is taken from them, with anything behind.
func putAs(t *testing.T, m *plain, want string) {
	t.Helper()
	x := shelved(t, m)
	if b := x.Put(); string(b) != want {
		t.Errorf("of %v and %v: Put() = %q, want %q", m.recs, m.told, b, want)
	}
	for _, behind := range []string{"", "\x00", "\xff", "\x01\x00\x00\x00\x00", want} {
		r := wire.Open([]byte(want + behind))
		y := shelf.Take(r, m.k, pathOf(m.zone))
		if !x.Same(y) || r.Err() != api.OK || r.Left() != len(behind) {
			t.Errorf("Take of %q, with %q behind: %v, Err %d, Left %d", want, behind, y, r.Err(), r.Left())
		}
		tells(t, y, m)
	}
}

// P1004: Put and Take of an empty shelf, with records alone, with answers alone, with both; records stand row by row, whichever came first.
func TestPutAndTake(t *testing.T) {
	recs := []point.Rec{{At: cell(0, 3), Key: "b", Value: "v", Ver: 300}, {At: cell(0, 3), Key: "a", Ver: 1}, {At: cell(1, 2), Key: "kk", Value: "w", Ver: 2}}
	answers := []note{{7, 5, told("ab", 3)}, {0, 1, point.Ans{E: api.ErrFull}}, {0, 300, point.Ans{}}}
	const (
		recBytes = "\x03" + "\x01\x02\x02kk\x01w\x02" + "\x00\x03\x01a\x00\x01" + "\x00\x03\x01b\x01v\xac\x02"
		answered = "\xac\x02\x00\x00\x00\x00" + "\x00\x00\x00\x00\x00\x00" + "\x05\x00\x01\x02ab\x03"
	)
	for _, zone := range []string{"", "0", "01"} {
		putAs(t, &plain{k: 2, zone: zone}, noRows+"\x00")
		putAs(t, &plain{k: 2, zone: zone, recs: recs}, noRows+recBytes)
		putAs(t, &plain{k: 2, zone: zone, told: answers}, answered+"\x00")
		putAs(t, &plain{k: 2, zone: zone, recs: recs, told: answers}, answered+recBytes)
	}
}

// P1004: the bytes of what calls brought, where nothing was taken.
func TestPutOfApplied(t *testing.T) {
	x, m := made(t, 1, "")
	if b := x.Put(); string(b) != noRows+"\x00" {
		t.Errorf("of nothing: %q", b)
	}
	applied(t, x, m, by(1, 2, put(cell(0, 1), "k", "v")), point.Ans{}, api.OK)
	applied(t, x, m, by(0, 9, put(cell(1, 0), "l", "w")), point.Ans{}, api.OK)
	applied(t, x, m, by(1, 3, put(cell(0, 1), "k", "x")), told("v", 2), api.OK)
	want := "\x09\x00\x00\x00\x00" + "\x03\x00\x01\x01v\x02" + "\x00\x00\x00\x00\x00\x00" + "\x02" + "\x01\x00\x01l\x01w\x01" + "\x00\x01\x01k\x01x\x02"
	if b := x.Put(); string(b) != want {
		t.Errorf("%q, want %q", b, want)
	}
}

// takes: Take of these bytes, and where it leaves the reader, are as the chapter says.
func takes(t *testing.T, b []byte, k int, zone string) api.Errno {
	t.Helper()
	m, left, e := read(b, k, zone)
	r := wire.Open(b)
	x := shelf.Take(r, k, pathOf(zone))
	if r.Err() != e || r.Left() != left || (x == nil) != (e != api.OK) {
		t.Fatalf("K %d, zone %q: Take of %v: %v, Err %d, Left %d, want %d, %d", k, zone, b, x, r.Err(), r.Left(), e, left)
	}
	if e != api.OK {
		return e
	}
	tells(t, x, m)
	if back := x.Put(); !bytes.Equal(back, b[:len(b)-left]) {
		t.Fatalf("what was taken from %v is put as %v", b, back)
	}
	return api.OK
}

// refuses: no shelf, and the reader has the error.
func refuses(t *testing.T, b []byte, k int, zone string, want api.Errno) {
	t.Helper()
	r := wire.Open(b)
	if x := shelf.Take(r, k, pathOf(zone)); x != nil || r.Err() != want || r.Left() != 0 || r.Done() != want {
		t.Errorf("K %d, zone %q: Take of %v: %v, Err %d, Left %d, want %d", k, zone, b, x, r.Err(), r.Left(), want)
	}
	if e := takes(t, b, k, zone); e != want {
		t.Errorf("K %d, zone %q: of %v the words tell %d, want %d", k, zone, b, e, want)
	}
}

// P1004: each beginning of a shelf's bytes is ErrEnd.
func TestTakeOfBeginnings(t *testing.T) {
	empty, some := full(2, "1", 3), full(2, "1", 70)
	empty.recs = nil
	some.recs[9].Ver = lastSeq
	for _, m := range []*plain{{k: 2, zone: "1"}, empty, full(2, "1", 3), some, {k: 2, zone: "1", recs: some.recs[:5]}} {
		b := m.bytes()
		if e := takes(t, b, m.k, m.zone); e != api.OK {
			t.Fatalf("Take of all: %d", e)
		}
		for i := range b {
			refuses(t, b[:i], m.k, m.zone, api.ErrEnd)
		}
	}
}

// P1004: a k that may not be, a zone that may not be, and both: ErrForm, whatever the bytes are.
func TestTakeOfWrongKOrZone(t *testing.T) {
	right := full(1, "", 3).bytes()
	wrong := func(k int, zone api.Path) {
		t.Helper()
		for _, b := range [][]byte{right, nil, right[:4], {255, 255}} {
			r := wire.Open(b)
			if x := shelf.Take(r, k, zone); x != nil || r.Err() != api.ErrForm {
				t.Errorf("Take of %v, k %d, zone %v: %v, Err %d", b, k, zone, x, r.Err())
			}
		}
	}
	for _, k := range wrongKs() {
		wrong(k, api.Path{})
		wrong(k, api.Path{Depth: 1, Bits: 1})
		for _, zone := range wrongPaths(api.MaxK) {
			wrong(k, zone)
		}
	}
	for k := 1; k <= api.MaxK; k++ {
		for _, zone := range wrongPaths(k) {
			wrong(k, zone)
		}
	}
}

// P1004: a reader that has an error already keeps it, whatever k and the zone are.
func TestTakeOfReadersWithAnError(t *testing.T) {
	right := full(2, "", 3).bytes()
	asked := map[int]api.Path{2: {}, 1: {Depth: 1}, 0: {}, 3: {Depth: -1}, math.MinInt: {Depth: math.MaxInt, Bits: math.MinInt}}
	for k, zone := range asked {
		for _, r := range []*wire.Reader{nil, new(wire.Reader), {}} {
			if x := shelf.Take(r, k, zone); x != nil || r.Err() != api.ErrArg || r.Left() != 0 {
				t.Errorf("of no reader, k %d: %v, Err %d", k, x, r.Err())
			}
		}
		for _, e := range []api.Errno{api.ErrArg, api.ErrEnd, api.ErrForm, api.ErrSum, api.ErrHop, -1} {
			for _, b := range [][]byte{nil, right, right[:5], {0x80, 0}} {
				r := wire.Open(b)
				r.Fail(e)
				if x := shelf.Take(r, k, zone); x != nil || r.Err() != e || r.Left() != 0 {
					t.Errorf("with error %d, k %d, of %v: %v, Err %d", e, k, b, x, r.Err())
				}
			}
		}
	}
}

// withRecs: bytes of no answers, a count, and these.
func withRecs(count int, l ...point.Rec) []byte {
	b := slices.Concat([]byte(noRows), num(count))
	for _, r := range l {
		b = append(b, recBytes(r)...)
	}
	return b
}

// P1004: a record that is not in the zone is ErrForm, as the first, as a later one and as the last one.
func TestTakeOfRecordsOutside(t *testing.T) {
	for _, k := range []int{1, 2, api.MaxK} {
		for _, zone := range someZones(k) {
			l := full(k, zone, 6).in(area(k, zone))
			for _, at := range (&plain{k: k, zone: zone}).outside() {
				for i := range l {
					wrong := slices.Clone(l)
					wrong[i].At = at
					if !point.RightRec(wrong[i]) {
						continue
					}
					refuses(t, withRecs(6, wrong...), k, zone, api.ErrForm)
					refuses(t, withRecs(6, wrong[:i+1]...), k, zone, api.ErrForm)
				}
			}
		}
	}
	there := withRecs(1, point.Rec{At: cell(1, 0), Key: "k", Ver: 1})
	refuses(t, there, 1, "0", api.ErrForm)
	refuses(t, there, 1, "11", api.ErrForm)
	if e := takes(t, there, 1, "10"); e != api.OK {
		t.Errorf("of the zone that has it: %d", e)
	}
}

// P1004: records that do not stand by Compare, or that stand twice, are ErrForm, wherever they stand.
func TestTakeOfRecordsOutOfOrder(t *testing.T) {
	l := full(2, "1", 7).in(area(2, "1"))
	for i := range l {
		twice := slices.Insert(slices.Clone(l), i, l[i])
		refuses(t, withRecs(8, twice...), 2, "1", api.ErrForm)
		refuses(t, withRecs(8, twice[:i+2]...), 2, "1", api.ErrForm)
		twice[i].Value, twice[i].Ver = "another", 9
		refuses(t, withRecs(8, twice...), 2, "1", api.ErrForm)
		for j := range i {
			turned := slices.Clone(l)
			turned[i], turned[j] = turned[j], turned[i]
			refuses(t, withRecs(7, turned...), 2, "1", api.ErrForm)
		}
	}
	at := func(x, y int, key string) point.Rec { return point.Rec{At: cell(x, y), Key: key, Ver: 1} }
	for _, pair := range [][2]point.Rec{{at(0, 0, "a"), at(1, 0, "a")}, {at(1, 0, "b"), at(0, 1, "a")}, {at(1, 1, "a"), at(1, 1, "aa")}, {at(1, 1, "Z"), at(1, 1, "a")}} {
		if e := takes(t, withRecs(2, pair[0], pair[1]), 1, ""); e != api.OK {
			t.Errorf("%v: %d", pair, e)
		}
		refuses(t, withRecs(2, pair[1], pair[0]), 1, "", api.ErrForm)
	}
}

// P1004: of MaxRecords times MaxNodes records all are taken; a count above that is ErrForm at the number, whatever stands behind it.
func TestTakeOfManyRecords(t *testing.T) {
	for n := mostTaken - 1; n <= mostTaken; n++ {
		if e := takes(t, full(4, "1", n).bytes(), 4, "1"); e != api.OK {
			t.Errorf("%d records: %d", n, e)
		}
	}
	m := full(4, "1", mostTaken+1)
	refuses(t, m.bytes(), 4, "1", api.ErrForm)
	refuses(t, append(m.bytes(), "anything"...), 4, "1", api.ErrForm)
	for _, count := range []int{mostTaken + 1, mostTaken + 127, 1 << 20, 1 << 53} {
		b := withRecs(count)
		refuses(t, b, 4, "1", api.ErrForm)
		refuses(t, append(b, 0x80, 0), 4, "1", api.ErrForm)
		refuses(t, b[:len(b)-1], 4, "1", api.ErrEnd)
	}
	refuses(t, withRecs(mostTaken), 4, "1", api.ErrEnd)
	refuses(t, append([]byte(noRows), 0x81, 0), 4, "1", api.ErrForm)
}

// P1004: what comes first in the bytes is the error.
func TestTakeTellsTheFirstFault(t *testing.T) {
	at := func(x, y int, key string) point.Rec { return point.Rec{At: cell(x, y), Key: key, Ver: 1} }
	right, outside, later := at(0, 1, "k"), at(1, 0, "k"), at(0, 2, "k")
	longKey := []byte("\x00\x03\x11kkkkkkkkkkkkkkkkk\x00\x01")
	noVer := []byte("\x00\x03\x01k\x00\x00")
	for _, fault := range [][]byte{recBytes(outside), recBytes(right), longKey, noVer, {0x80, 0}, {0, 3, 33}} {
		for _, behind := range []string{"", "\x00\x02", "\x80", string(recBytes(later))} {
			refuses(t, slices.Concat(withRecs(3, right), fault, []byte(behind)), 2, "0", api.ErrForm)
		}
	}
	refuses(t, withRecs(3, right, later), 2, "0", api.ErrEnd)
	refuses(t, slices.Concat(withRecs(3, right), longKey[:6]), 2, "0", api.ErrEnd)
	refuses(t, slices.Concat(withRecs(3, right), recBytes(outside)[:4]), 2, "0", api.ErrEnd)
	refuses(t, slices.Concat([]byte("\x05\x00\x02\x00\x00"), withRecs(9999)), 2, "0", api.ErrForm)
	refuses(t, []byte("\x05\x00\x00"), 2, "0", api.ErrEnd)
	refuses(t, append(num(lastSeq+1), noRows...), 2, "0", api.ErrForm)
}

// P1004: where Take leaves the reader: behind the shelf, of which there may be more, of another zone, and other things.
func TestOneBehindTheOther(t *testing.T) {
	m, n := full(2, "1", 5), full(3, "010", 70)
	r := wire.Open(slices.Concat([]byte{42}, m.bytes(), n.bytes(), m.bytes(), []byte{43, 200}))
	if r.Num() != 42 {
		t.Errorf("ahead of the shelves")
	}
	tells(t, shelf.Take(r, 2, pathOf("1")), m)
	tells(t, shelf.Take(r, 3, pathOf("010")), n)
	tells(t, shelf.Take(r, 2, pathOf("1")), m)
	if n := r.Num(); n != 43 || r.Left() != 1 || r.Err() != api.OK {
		t.Errorf("behind the shelves: %d, Left %d, Err %d", n, r.Left(), r.Err())
	}
	if x := shelf.Take(r, 2, pathOf("1")); x != nil || r.Err() != api.ErrEnd {
		t.Errorf("at the end: %v, Err %d", x, r.Err())
	}
}
