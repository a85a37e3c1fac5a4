package fault_test

import (
	"errors"
	"fmt"
	"strconv"
	"strings"
	"testing"

	"beadle/api"
	"beadle/fault"
)

// none is a fault that is not there.
var none *fault.Fault

func TestNew(t *testing.T) {
	err := fault.New(api.ErrSyntax, 7)
	f, ok := err.(*fault.Fault)
	if !ok || f.Code != api.ErrSyntax || f.At != 7 || f.Err != nil {
		t.Errorf("P3.1: New: %#v", err)
	}
	if fault.New(api.ErrSyntax, 7) == err {
		t.Error("P2: New answers one fault twice")
	}
	if f, ok := fault.New(api.OK, -1).(*fault.Fault); !ok || f.At != -1 || f.Code != api.OK {
		t.Error("P3.1: New of OK")
	}
}

func TestWrap(t *testing.T) {
	in := errors.New("x")
	f, ok := fault.Wrap(api.ErrRange, 1, in).(*fault.Fault)
	if !ok || f.Code != api.ErrRange || f.At != 1 || f.Err != in || f.Unwrap() != in {
		t.Errorf("P3.1: Wrap: %#v", f)
	}
	if err := fault.Wrap(api.ErrRange, 1, nil); err != nil {
		t.Errorf("P3.1: Wrap of no error: %v", err)
	}
}

func TestIsAndAs(t *testing.T) {
	other := errors.New("x")
	err := fault.Wrap(4, 1, fault.Wrap(16, 2, other))
	for _, target := range []error{api.ErrRange, api.ErrSyntax, other} {
		if !errors.Is(err, target) {
			t.Errorf("P3.1: is not taken for %v", target)
		}
	}
	for _, target := range []error{api.OK, api.ErrLong, errors.New("x"), fault.New(4, 1)} {
		if errors.Is(err, target) {
			t.Errorf("P3.1: is taken for %v", target)
		}
	}
	var f *fault.Fault
	if !errors.As(err, &f) || f.At != 1 {
		t.Errorf("P3.1: As finds %v", f)
	}
	var code api.Errno
	if !errors.As(err, &code) || code != 4 {
		t.Errorf("P3.1: As finds the code %d", code)
	}
	var foreign *strconv.NumError
	if errors.As(err, &foreign) || foreign != nil {
		t.Error("P3.1: As finds what is not there")
	}
	if code = 0; !errors.As(fmt.Errorf("more: %w", err), &code) || code != 4 {
		t.Errorf("P3.1: As finds behind another error the code %d", code)
	}
}

func TestError(t *testing.T) {
	for _, c := range []struct {
		err  error
		want string
	}{
		{fault.New(16, 0), "at 0: error 16"},
		{fault.New(4, 12), "at 12: error 04"},
		{fault.New(4, -12), "at -12: error 04"},
		{fault.Wrap(4, 1, fault.New(16, 2)), "at 1: error 04; at 2: error 16"},
		{fault.Wrap(4, 1, fault.Wrap(5, 2, fault.New(16, 3))), "at 1: error 04; at 2: error 05; at 3: error 16"},
		{fault.Wrap(4, 1, api.ErrLate), "at 1: error 04; error 35"},
		{fault.Wrap(3, 2, fault.Wrap(4, 1, api.ErrLate)), "at 2: error 03; at 1: error 04; error 35"},
		{fault.Wrap(4, 1, errors.New("secret")), "at 1: error 04"},
		{fault.Wrap(4, 1, fmt.Errorf("more: %w", fault.New(16, 2))), "at 1: error 04"},
		{none, ""},
	} {
		if got := c.err.Error(); got != c.want {
			t.Errorf("P3.1: Error: %q, not %q", got, c.want)
		}
	}
}

func TestAsked(t *testing.T) {
	deep := fault.Wrap(4, 1, fault.New(16, 2))
	for _, c := range []struct {
		name  string
		err   error
		code  api.Errno
		place int
		depth int
		has   []api.Errno
	}{
		{"none", nil, api.OK, -1, 0, nil},
		{"a nil fault", none, api.OK, -1, 0, nil},
		{"a fault", fault.New(16, 2), 16, 2, 1, []api.Errno{16}},
		{"a fault in a fault", deep, 4, 1, 2, []api.Errno{4, 16}},
		{"a code", api.ErrLate, api.ErrLate, -1, 0, []api.Errno{api.ErrLate}},
		{"a code in a fault", fault.Wrap(4, 1, api.ErrLate), 4, 1, 1, []api.Errno{4, api.ErrLate}},
		{"another error", errors.New("x"), api.OK, -1, 0, nil},
		{"another error in a fault", fault.Wrap(4, 1, errors.New("x")), 4, 1, 1, []api.Errno{4}},
		{"a fault in another error", fmt.Errorf("more: %w", deep), 4, 1, 2, []api.Errno{4, 16}},
		{"a code in another error", fmt.Errorf("more: %w", api.ErrLate), api.ErrLate, -1, 0, []api.Errno{api.ErrLate}},
		{"another error between two faults", fault.Wrap(3, 9, fmt.Errorf("more: %w", deep)), 3, 9, 3, []api.Errno{3, 4, 16}},
		{"a nil fault in a fault", fault.Wrap(3, 9, none), 3, 9, 1, []api.Errno{3}},
		{"a fault of place 0", fault.New(5, 0), 5, 0, 1, []api.Errno{5}},
	} {
		if got := fault.Code(c.err); got != c.code {
			t.Errorf("P3.1: Code of %s: %d, not %d", c.name, got, c.code)
		}
		if got := fault.Place(c.err); got != c.place {
			t.Errorf("P3.1: Place of %s: %d, not %d", c.name, got, c.place)
		}
		if got := fault.Depth(c.err); got != c.depth {
			t.Errorf("P3.1: Depth of %s: %d, not %d", c.name, got, c.depth)
		}
		for code := range api.Errno(40) {
			want := false
			for _, h := range c.has {
				want = want || h == code
			}
			if fault.Has(c.err, code) != want {
				t.Errorf("P3.1: Has of %s, %d: %v", c.name, code, !want)
			}
		}
	}
}

// TestNil: a nil fault answers, and is none.
func TestNil(t *testing.T) {
	if none.Error() != "" || none.Unwrap() != nil || errors.Is(none, api.OK) {
		t.Error("P1: of a nil fault")
	}
}

// TestDeep: many faults in one another are told without waiting.
func TestDeep(t *testing.T) {
	const n = 1 << 15
	err := fault.New(16, 0)
	for range n - 1 {
		err = fault.Wrap(4, 1, err)
	}
	if fault.Depth(err) != n || fault.Code(err) != 4 || !fault.Has(err, 16) || fault.Has(err, 5) {
		t.Error("P3.1: of many faults in one another")
	}
	if s := err.Error(); strings.Count(s, "; ") != n-1 || !strings.HasSuffix(s, "; at 0: error 16") {
		t.Error("P3.1: Error of many faults in one another")
	}
}
