package replay_test

import (
	"bytes"
	"math/rand"
	"reflect"
	"slices"
	"testing"

	"beadle/api"
	"beadle/engine"
	"beadle/event"
	"beadle/policy"
	"beadle/record"
	"beadle/replay"
	"beadle/value"
)

// made is the policy of a text.
func made(t *testing.T, s string) api.Policy {
	t.Helper()
	p, err := policy.Parse(s)
	if err != nil {
		t.Fatal(s, err)
	}
	return p
}

// frame is an event's.
func frame(t *testing.T, e api.Event) []byte {
	t.Helper()
	b, err := event.Put(e)
	if err != api.OK {
		t.Fatal(e, err)
	}
	return b
}

const text = "attr n int; right r { on s.n < 3 and times(x, 4) <= 2; during s.n := s.n + 1; duty pay act y within 5 keep; }"

// chance are frames by chance, some of which are refused, or none.
func chance(t *testing.T, r *rand.Rand) ([][]byte, []api.Event) {
	var l [][]byte
	var events []api.Event
	now := int64(0)
	for range 80 {
		now += int64(r.Intn(3)) - 1
		e := api.Event{At: max(now, 0), Kind: 1 + r.Intn(5)}
		switch e.Kind {
		case 1:
			e.Id, e.Subject, e.Object, e.Name = r.Intn(9), []string{"a", "b"}[r.Intn(2)], "o", "r"
		case 2:
			e.Id, e.Name = r.Intn(9), []string{"x", "y"}[r.Intn(2)]
		case 3:
			e.Id = r.Intn(9)
		case 4:
			e.Subject, e.Name, e.Value = []string{"a", "b"}[r.Intn(2)], "n", value.Int(int64(r.Intn(4)))
		}
		b := frame(t, e)
		if r.Intn(15) == 0 {
			b = b[:r.Intn(len(b))]
		}
		l, events = append(l, b), append(events, e)
	}
	return l, events
}

// copied are frames in memory of their own.
func copied(l [][]byte) [][]byte {
	var own [][]byte
	for _, b := range l {
		own = append(own, bytes.Clone(b))
	}
	return own
}

func TestByChance(t *testing.T) {
	p := made(t, text)
	r := rand.New(rand.NewSource(11))
	for range 60 {
		l, events := chance(t, r)
		was := copied(l)
		records, err := replay.Run(p, l)
		if err != api.OK || len(records) != len(l) {
			t.Fatalf("P27.1: Run: %d records, %d", len(records), err)
		}
		g, _ := engine.New(p)
		var taken []api.Event
		var left, leftRecords [][]byte
		verdicts := map[int][]api.Verdict{}
		for i, b := range l {
			if !bytes.Equal(records[i], g.Frame(b)) {
				t.Fatalf("P27.1: record %d: %x", i, records[i])
			}
			rec, _ := record.Read(records[i])
			for _, v := range rec.Verdicts {
				verdicts[v.Id] = append(verdicts[v.Id], v)
			}
			if rec.Code == api.OK {
				taken, left, leftRecords = append(taken, events[i]), append(left, b), append(leftRecords, records[i])
			}
		}
		if got, err := replay.Taken(p, l); err != api.OK || !reflect.DeepEqual(got, taken) {
			t.Fatalf("P27.1: Taken: %v, not %v", got, taken)
		}
		for id := range 10 {
			if got, err := replay.Of(p, l, id); err != api.OK || !slices.Equal(got, verdicts[id]) {
				t.Fatalf("P27.1: Of(%d): %v, not %v", id, got, verdicts[id])
			}
		}
		if again, err := replay.Run(p, left); err != api.OK || !reflect.DeepEqual(again, leftRecords) {
			t.Fatal("P27.2: frames that are refused can't be left out")
		}
		if !reflect.DeepEqual(l, was) {
			t.Fatal("P2: frames were changed")
		}
	}
}

func TestErrors(t *testing.T) {
	bad := api.Policy{Rights: make([]api.Right, 9)}
	l := [][]byte{frame(t, api.Event{Kind: 5})}
	if got, err := replay.Run(bad, l); got != nil || err != api.ErrCount {
		t.Errorf("P27.1: Run: %v %d", got, err)
	}
	if got, err := replay.Taken(bad, l); got != nil || err != api.ErrCount {
		t.Errorf("P27.1: Taken: %v %d", got, err)
	}
	if got, err := replay.Of(bad, l, 0); got != nil || err != api.ErrCount {
		t.Errorf("P27.1: Of: %v %d", got, err)
	}
}

func TestNone(t *testing.T) {
	p := made(t, text)
	records, err := replay.Run(p, nil)
	taken, errTaken := replay.Taken(p, nil)
	told, errOf := replay.Of(p, nil, 0)
	if len(records)+len(taken)+len(told)+len(replay.Without(nil, 0)) != 0 || err != api.OK || errTaken != api.OK || errOf != api.OK {
		t.Error("P27.1: of no frames")
	}
	if records, _ := replay.Run(p, [][]byte{nil, {7}}); !reflect.DeepEqual(records, [][]byte{{16, 0}, {16, 0}}) {
		t.Errorf("P27.1: of what is no event: %v", records)
	}
}

func TestWithout(t *testing.T) {
	events := []api.Event{
		{Kind: 1, Id: 0, Subject: "a", Object: "o", Name: "r"}, {Kind: 1, Id: 1, Subject: "a", Object: "o", Name: "r"},
		{Kind: 2, Id: 0, Name: "x"}, {Kind: 2, Id: 1, Name: "x"}, {Kind: 3, Id: 0}, {Kind: 3, Id: 1},
		{Kind: 4, Subject: "a", Name: "n", Value: value.Int(1)}, {Kind: 5},
	}
	var l [][]byte
	for _, e := range events {
		l = append(l, frame(t, e))
	}
	l = append(l, nil, []byte{1}, l[0][:12])
	was := copied(l)
	for id, want := range map[int][]int{0: {1, 3, 5, 6, 7, 8, 9, 10}, 1: {0, 2, 4, 6, 7, 8, 9, 10}, 2: {0, 1, 2, 3, 4, 5, 6, 7, 8, 9, 10}, -1: {0, 1, 2, 3, 4, 5, 6, 7, 8, 9, 10}} {
		got := replay.Without(l, id)
		if len(got) != len(want) {
			t.Errorf("P27.1: Without(%d): %d frames", id, len(got))
			continue
		}
		for i, k := range want {
			if !bytes.Equal(got[i], l[k]) {
				t.Errorf("P27.1: Without(%d): frame %d", id, i)
			}
			clear(got[i])
		}
		clear(got)
		if !slices.EqualFunc(l, was, bytes.Equal) {
			t.Fatal("P2: Without shares memory")
		}
	}
}

// TestApart: who does nothing to what others look at can be left out.
func TestApart(t *testing.T) {
	p := made(t, "right r { on times(x, 4) <= 2; duty pay act y within 5 keep; }")
	r := rand.New(rand.NewSource(12))
	for range 60 {
		var l [][]byte
		now := int64(0)
		for range 60 {
			now += int64(r.Intn(2))
			e := api.Event{At: now, Kind: 1 + r.Intn(3), Id: r.Intn(5)}
			if e.Kind == 1 {
				e.Subject, e.Object, e.Name = "a", "o", "r"
			} else if e.Kind == 2 {
				e.Name = []string{"x", "y"}[r.Intn(2)]
			}
			l = append(l, frame(t, e))
		}
		l = append(l, frame(t, api.Event{At: now + 9, Kind: 5}))
		for id := range 5 {
			want, _ := replay.Of(p, l, id)
			got, _ := replay.Of(p, replay.Without(l, (id+1)%5), id)
			if !slices.Equal(got, want) {
				t.Fatalf("G5: %v, not %v", got, want)
			}
		}
	}
}
