package record_test

import (
	"bytes"
	"encoding/hex"
	"reflect"
	"slices"
	"testing"

	"beadle/api"
	"beadle/record"
)

// with is a record of a code and verdicts.
func with(code api.Errno, l ...api.Verdict) record.Record {
	return record.Record{Code: code, Verdicts: l}
}

func TestCheck(t *testing.T) {
	ok := api.Verdict{Id: 1, Kind: 1}
	for _, c := range []struct {
		name string
		r    record.Record
		want api.Errno
	}{
		{"nothing", record.Record{}, api.OK},
		{"the greatest", with(255, api.Verdict{Id: 63, Kind: 5, Code: 255}), api.OK},
		{"the least", with(0, api.Verdict{Id: 0, Kind: 1, Code: 0}), api.OK},
		{"255 verdicts", with(0, slices.Repeat([]api.Verdict{ok}, 255)...), api.OK},
		{"256 verdicts", with(0, slices.Repeat([]api.Verdict{ok}, 256)...), api.ErrCount},
		{"range ahead of count", with(0, make([]api.Verdict, 256)...), api.ErrRange},
		{"code 256", with(256), api.ErrRange},
		{"code -1", with(-1), api.ErrRange},
		{"id 64", with(0, ok, api.Verdict{Id: 64, Kind: 1}), api.ErrRange},
		{"id -1", with(0, api.Verdict{Id: -1, Kind: 1}), api.ErrRange},
		{"kind 0", with(0, ok, api.Verdict{Id: 1}), api.ErrRange},
		{"kind 6", with(0, api.Verdict{Id: 1, Kind: 6}), api.ErrRange},
		{"a verdict's code 256", with(0, api.Verdict{Id: 1, Kind: 1, Code: 256}), api.ErrRange},
		{"a verdict's code -1", with(0, api.Verdict{Id: 1, Kind: 1, Code: -1}), api.ErrRange},
	} {
		if got := record.Check(c.r); got != c.want {
			t.Errorf("P24.1: Check of %s: %d, not %d", c.name, got, c.want)
		}
		b, err := record.Put(c.r)
		if err != c.want || err != api.OK && len(b) != 0 {
			t.Errorf("P24.1: Put of %s: %x %d", c.name, b, err)
		}
		if back, errRead := record.Read(b); err == api.OK && (errRead != api.OK || back.Code != c.r.Code || !slices.Equal(back.Verdicts, c.r.Verdicts)) {
			t.Errorf("P24.2: %s: %v %d", c.name, back, errRead)
		}
	}
}

func TestPut(t *testing.T) {
	for want, r := range map[string]record.Record{
		"0000":                  {},
		"1000":                  {Code: api.ErrSyntax},
		"00020301000704" + "22": {Verdicts: []api.Verdict{{Id: 3, Kind: 1}, {Id: 7, Kind: 4, Code: api.ErrDenied}}},
	} {
		if b, err := record.Put(r); err != api.OK || hex.EncodeToString(b) != want {
			t.Errorf("P24.1: Put(%v): %x %d, not %s", r, b, err, want)
		}
	}
}

func TestRead(t *testing.T) {
	for _, s := range []string{"", "00", "0001", "00010001", "000000", "0000000000", "0001000000", "0001000600", "0001400100", "000100010000", "00020001000001", "01ff"} {
		b, _ := hex.DecodeString(s)
		if r, err := record.Read(b); err != api.ErrSyntax || !reflect.DeepEqual(r, record.Record{}) {
			t.Errorf("P24.1: Read(%s): %v %d", s, r, err)
		}
	}
	for n := range 1 << 16 {
		b := []byte{byte(n), 1, byte(n >> 8), byte(n%7) + 0, byte(n >> 4)}
		was := bytes.Clone(b)
		r, err := record.Read(b)
		if (err == api.OK) != (b[2] < 64 && b[3] >= 1 && b[3] <= 5) {
			t.Fatalf("P24.1: Read(%x): %d", b, err)
		}
		if !bytes.Equal(b, was) {
			t.Fatal("P2: Read changed its octets")
		}
		if err == api.OK {
			if again, err := record.Put(r); err != api.OK || !bytes.Equal(again, b) {
				t.Fatalf("P24.2: %x put as %x %d", b, again, err)
			}
		}
	}
}

func TestOf(t *testing.T) {
	l := []api.Verdict{{Id: 1, Kind: 1}, {Id: 2, Kind: 2, Code: 5}, {Id: 1, Kind: 4, Code: 9}, {Id: 99, Kind: 77}}
	r := with(7, slices.Clone(l)...)
	for id, want := range map[int][]api.Verdict{1: {l[0], l[2]}, 2: {l[1]}, 3: nil, 99: {l[3]}, -1: nil} {
		got := record.Of(r, id)
		if !slices.Equal(got, want) {
			t.Errorf("P24.1: Of(%d): %v", id, got)
		}
		clear(got)
		if !slices.Equal(r.Verdicts, l) {
			t.Fatal("P2: Of changed or shares the record's list")
		}
	}
	if len(record.Of(record.Record{}, 0)) != 0 {
		t.Error("P24.1: Of nothing")
	}
}
