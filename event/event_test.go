package event_test

import (
	"bytes"
	"encoding/hex"
	"reflect"
	"strings"
	"testing"

	"beadle/api"
	"beadle/event"
	"beadle/value"
)

const most = 1<<63 - 1

// each are events that may be, of each kind.
func each() []api.Event {
	long := strings.Repeat("n", 16)
	return []api.Event{
		{At: 0, Kind: 1, Id: 0, Subject: "a", Object: "b", Name: "r"},
		{At: most, Kind: 1, Id: 63, Subject: long, Object: long, Name: long},
		{At: 5, Kind: 2, Id: 1, Name: "read"},
		{At: 5, Kind: 3, Id: 63},
		{At: 5, Kind: 4, Subject: "a", Name: "n", Value: value.Int(-1 << 63)},
		{At: 5, Kind: 4, Subject: "a", Name: "b", Value: value.Bool(true)},
		{At: 5, Kind: 4, Subject: "a", Name: "t", Value: value.Text("\x00\n\"")},
		{At: 5, Kind: 4, Subject: "a", Name: "l", Value: value.Set("a", "b", "c", "d", "e", "f", "g", strings.Repeat("z", 32))},
		{At: 5, Kind: 5},
		{At: 0, Kind: 5},
	}
}

// like tells whether two events are alike.
func like(a, b api.Event) bool {
	same := value.Same(a.Value, b.Value)
	a.Value, b.Value = api.Value{}, api.Value{}
	return same && reflect.DeepEqual(a, b)
}

func TestMayBe(t *testing.T) {
	for _, e := range each() {
		if got := event.Check(e); got != api.OK {
			t.Errorf("P23.1: Check(%v): %d", e, got)
		}
	}
	if event.Check(api.Event{Kind: 5, Value: api.Value{L: []string{}}}) != api.OK {
		t.Error("P5: nil and empty lists are one")
	}
}

// TestOneFieldOther: an event that may be, with one field other, tells the error of that.
func TestOneFieldOther(t *testing.T) {
	bad := value.Set("a")
	bad.L = []string{"b", "a"}
	for _, e := range each() {
		has := map[string]bool{
			"Id": e.Kind <= 3, "Subject": e.Kind == 1 || e.Kind == 4, "Object": e.Kind == 1,
			"Name": e.Kind == 1 || e.Kind == 2 || e.Kind == 4, "Value": e.Kind == 4,
		}
		for _, c := range []struct {
			name string
			want api.Errno
			turn func(*api.Event)
		}{
			{"kind 0", api.ErrKind, func(e *api.Event) { e.Kind = 0 }},
			{"kind 6", api.ErrKind, func(e *api.Event) { e.Kind = 6; e.At = -1 }},
			{"kind -1", api.ErrKind, func(e *api.Event) { e.Kind = -1; e.Id = 64 }},
			{"at -1", api.ErrRange, func(e *api.Event) { e.At = -1; e.Name = "?" }},
			{"id -1", api.ErrRange, func(e *api.Event) { e.Id = -1; e.Name = "?" }},
			{"id 64", api.ErrRange, func(e *api.Event) { e.Id = 64; e.Name = "?" }},
			{"no name", api.ErrSyntax, func(e *api.Event) { e.Name = "1" }},
			{"no subject", api.ErrSyntax, func(e *api.Event) { e.Subject = "a b" }},
			{"no object", api.ErrSyntax, func(e *api.Event) { e.Object = "o." }},
			{"long name", api.ErrSyntax, func(e *api.Event) { e.Name = strings.Repeat("n", 17) }},
			{"a value that may not be", api.ErrSyntax, func(e *api.Event) { e.Value = bad }},
			{"a value of no kind", api.ErrSyntax, func(e *api.Event) { e.Value = api.Value{N: 1} }},
			{"an id", errIf(!has["Id"], api.ErrSyntax), func(e *api.Event) { e.Id = 7 }},
			{"the least id", errIf(!has["Id"], api.ErrSyntax), func(e *api.Event) { e.Id = 1 }},
			{"the greatest id", errIf(!has["Id"], api.ErrSyntax), func(e *api.Event) { e.Id = 63 }},
			{"an id, at -1", api.ErrRange, func(e *api.Event) { e.Id, e.At = 1, -1 }},
			{"a subject", errIf(!has["Subject"], api.ErrSyntax), func(e *api.Event) { e.Subject = "q" }},
			{"an object", errIf(!has["Object"], api.ErrSyntax), func(e *api.Event) { e.Object = "q" }},
			{"a name", errIf(!has["Name"], api.ErrSyntax), func(e *api.Event) { e.Name = "q" }},
			{"a value", errIf(!has["Value"], api.ErrSyntax), func(e *api.Event) { e.Value = value.Int(0) }},
			{"empty subject", errIf(has["Subject"], api.ErrSyntax), func(e *api.Event) { e.Subject = "" }},
			{"empty object", errIf(has["Object"], api.ErrSyntax), func(e *api.Event) { e.Object = "" }},
			{"empty name", errIf(has["Name"], api.ErrSyntax), func(e *api.Event) { e.Name = "" }},
			{"zero value", errIf(has["Value"], api.ErrSyntax), func(e *api.Event) { e.Value = api.Value{} }},
		} {
			other := e
			c.turn(&other)
			if got := event.Check(other); got != c.want {
				t.Errorf("P23.1: Check(%v): %s: %d, not %d", other, c.name, got, c.want)
			}
			if b, err := event.Put(other); err != c.want || (err != api.OK) != (len(b) == 0) {
				t.Errorf("P23.1: Put(%v): %s: %x %d, not %d", other, c.name, b, err, c.want)
			}
		}
	}
}

// errIf is an error, if is, else none.
func errIf(is bool, err api.Errno) api.Errno {
	if is {
		return err
	}
	return api.OK
}

func TestPut(t *testing.T) {
	for want, e := range map[string]api.Event{
		"0000000000000005" + "05" + "00" + "000000":                                        {At: 5, Kind: 5},
		"0000000000000100" + "01" + "3f" + "0161" + "026262" + "0172":                      {At: 256, Kind: 1, Id: 63, Subject: "a", Object: "bb", Name: "r"},
		"0000000000000005" + "02" + "01" + "00" + "00" + "0172":                            {At: 5, Kind: 2, Id: 1, Name: "r"},
		"0000000000000005" + "03" + "02" + "000000":                                        {At: 5, Kind: 3, Id: 2},
		"0000000000000005" + "04" + "00" + "0161" + "00" + "016e" + "01ffffffffffffffff":   {At: 5, Kind: 4, Subject: "a", Name: "n", Value: value.Int(-1)},
		"0000000000000005" + "04" + "00" + "0161" + "00" + "016c" + "0402" + "0178" + "00": {},
	} {
		if e.Kind == 0 {
			b, _ := hex.DecodeString(want)
			if got, err := event.Read(b); err != api.ErrSyntax || !like(got, api.Event{}) {
				t.Errorf("P23.1: Read(%s): %v %d", want, got, err)
			}
			continue
		}
		b, err := event.Put(e)
		if err != api.OK || hex.EncodeToString(b) != want {
			t.Errorf("P23.1: Put(%v): %x %d, not %s", e, b, err, want)
		}
	}
	if b, _ := event.Put(api.Event{Kind: 5}); len(b) != 13 {
		t.Errorf("P23.1: a tick: %d octets", len(b))
	}
}

func TestThereAndBack(t *testing.T) {
	for _, e := range each() {
		b, err := event.Put(e)
		got, errRead := event.Read(b)
		if err != api.OK || errRead != api.OK || !like(got, e) {
			t.Errorf("P23.2: %v: %v %d %d", e, got, err, errRead)
		}
		for i := range b {
			if got, err := event.Read(b[:i]); err != api.ErrSyntax || !like(got, api.Event{}) {
				t.Errorf("P23.1: Read of %d octets of %d: %v %d", i, len(b), got, err)
			}
			for c := range 256 {
				other := bytes.Clone(b)
				other[i] = byte(c)
				was := bytes.Clone(other)
				got, err := event.Read(other)
				if !bytes.Equal(other, was) {
					t.Fatal("P2: Read changed its octets")
				}
				if err != api.OK {
					if err != api.ErrSyntax || !like(got, api.Event{}) {
						t.Errorf("P23.1: Read(%x): %v %d", other, got, err)
					}
					continue
				}
				if again, err := event.Put(got); err != api.OK || !bytes.Equal(again, other) {
					t.Errorf("P23.2: %x put as %x %d", other, again, err)
				}
			}
		}
		if got, err := event.Read(append(b, 0)); err != api.ErrSyntax || !like(got, api.Event{}) {
			t.Errorf("P23.1: Read of an octet more: %d", err)
		}
	}
}

func TestLong(t *testing.T) {
	if _, err := event.Read(make([]byte, 513)); err != api.ErrLong {
		t.Errorf("P23.1: Read of 513 octets: %d", err)
	}
	if _, err := event.Read(make([]byte, 512)); err != api.ErrSyntax {
		t.Errorf("P23.1: Read of 512 octets: %d", err)
	}
	if _, err := event.Read(nil); err != api.ErrSyntax {
		t.Errorf("P23.1: Read of none: %d", err)
	}
}

// TestApart: a value that is read shares nothing with the octets.
func TestApart(t *testing.T) {
	e := each()[7]
	b, _ := event.Put(e)
	got, _ := event.Read(b)
	clear(b)
	if !like(got, e) {
		t.Error("P2: Read keeps its octets")
	}
	clear(got.Value.L)
	if e.Value.L[0] != "a" {
		t.Error("P2: an event shares memory")
	}
}
