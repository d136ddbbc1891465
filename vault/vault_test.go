package vault_test

import (
	"bytes"
	"slices"
	"testing"

	"novation/api"
	"novation/drive"
	"novation/frame"
	"novation/vault"
)

func disk(t *testing.T, n int) *drive.Drive {
	t.Helper()
	d, e := drive.New(n)
	if e != api.OK {
		t.Fatal(e)
	}
	return d
}

func open(t *testing.T, d *drive.Drive, each int) *vault.Vault {
	t.Helper()
	v, e := vault.Open(d, each)
	if e != api.OK || v == nil {
		t.Fatal("Open", e)
	}
	return v
}

func texts(l [][]byte) []string {
	var out []string
	for _, b := range l {
		out = append(out, string(b))
	}
	return out
}

// has tells whether a vault is of this era and state, with these records.
func has(t *testing.T, v *vault.Vault, era int, state string, want ...string) {
	t.Helper()
	b, ok := v.State()
	if v.Era() != era || string(b) != state || ok != (era > 0) || !slices.Equal(texts(v.Records()), want) {
		t.Errorf("era %d, state %q %v, records %q; not %d %q %q", v.Era(), b, ok, texts(v.Records()), era, state, want)
	}
}

func lay(t *testing.T, d *drive.Drive, at, life, era int) {
	t.Helper()
	l, e := frame.Cut(life, era, 1, []byte("x"))
	if e != api.OK || d.Write(at, l...) != api.OK {
		t.Fatal("lay", e)
	}
}

func TestP10_1(t *testing.T) {
	d := disk(t, 6)
	for _, each := range []int{-1, 0, 3, 4, 1 << 62, 1<<63 - 1} {
		if v, e := vault.Open(d, each); v != nil || e != api.ErrArg {
			t.Error("Open", each, e)
		}
	}
	for _, d := range []*drive.Drive{nil, {}} {
		if v, e := vault.Open(d, 0); v != nil || e != api.ErrNil {
			t.Error("Open of nil", e)
		}
	}
	if v, e := vault.Open(d, 1); e != api.OK || v.Left() != 4 {
		t.Error("places of one sector", e)
	}
	v := open(t, d, 2)
	has(t, v, 0, "")
	if v.Left() != 2 {
		t.Error("Left", v.Left())
	}
	lay(t, d, 4, 3, 0)
	has(t, open(t, d, 2), 0, "", "x")
	lay(t, d, 5, 1<<24-3, 9)
	v = open(t, d, 2)
	has(t, v, 0, "", "x")
	if e := v.Append([]byte("y")); e != api.OK { // of the life 2^24 - 2
		t.Error(e)
	}
	if v, e := vault.Open(d, 2); v != nil || e != api.ErrFull {
		t.Error("Open", e)
	}
	if v.Compact(nil) != api.ErrFull {
		t.Error("Compact in the last life")
	}
	if v, e := vault.Open(d, 3); v != nil || e != api.ErrArg {
		t.Error("Open", e)
	}
}

func TestP10_2_P10_3(t *testing.T) {
	d := disk(t, 8)
	v := open(t, d, 2)
	b := []byte("a")
	if v.Append(b) != api.OK || v.Left() != 3 {
		t.Error("Append")
	}
	s := []byte("s")
	if v.Compact(s) != api.OK || v.Left() != 4 {
		t.Error("Compact")
	}
	b[0], s[0] = 'z', 'z'
	v.Append([]byte("b"))
	has(t, v, 1, "s", "b")
	has(t, open(t, d, 2), 1, "s", "b")
	x, _ := v.State()
	x[0] = 'z'
	v.Records()[0][0] = 'z'
	has(t, v, 1, "s", "b")
	if v.Compact(nil) != api.OK {
		t.Error("nothing is a state")
	}
	has(t, v, 2, "")
	has(t, open(t, d, 2), 2, "")
	if v.Append(make([]byte, 321)) != api.ErrFull || v.Append(make([]byte, 80*255+1)) != api.ErrBig || v.Compact(make([]byte, 161)) != api.ErrFull || v.Compact(make([]byte, 80*255+1)) != api.ErrBig {
		t.Error("no room")
	}
	if v.Append(make([]byte, 320)) != api.OK || v.Left() != 0 {
		t.Error("just room")
	}
	for _, v := range []*vault.Vault{nil, {}} {
		b, ok := v.State()
		if len(b) > 0 || ok || v.Era() != 0 || len(v.Records()) > 0 || v.Left() != 0 || v.Append(nil) != api.ErrNil || v.Compact(nil) != api.ErrNil {
			t.Error("nil, zero")
		}
	}
}

func TestP10_3_Dead(t *testing.T) {
	d := disk(t, 8)
	v := open(t, d, 2)
	d.Fuse(0)
	d.Write(7, make([]byte, api.Cell))
	if v.Append(nil) != api.ErrDead || v.Compact(make([]byte, 99999)) != api.ErrDead {
		t.Error("no power")
	}
	d.Start()
	if v.Append([]byte("a")) != api.OK || v.Compact([]byte("s")) != api.OK {
		t.Error("it did not go off in a call")
	}
	d.Fuse(0)
	if v.Append([]byte("b")) != api.ErrDead || d.Start() != api.OK || v.Compact(nil) != api.ErrDead || v.Append(nil) != api.ErrDead {
		t.Error("it went off in Append")
	}
	v = open(t, d, 2)
	d.Fuse(0, 0)
	if v.Compact([]byte("t")) != api.ErrDead || d.Start() != api.OK || v.Compact(nil) != api.ErrDead {
		t.Error("it went off in Compact")
	}
	has(t, v, 1, "s")
	var want []string
	if v.Append([]byte("kept")) == api.OK { // what was answered may not be lost
		want = []string{"kept"}
	}
	has(t, open(t, d, 2), 2, "t", want...)
}

// step does one thing of a life, and what is there then.
type step struct {
	name string
	do   func(v *vault.Vault) api.Errno
	era  int
	text string
	recs []string
}

func life() []step {
	long := string(bytes.Repeat([]byte{'l'}, 200))
	app := func(s string) func(v *vault.Vault) api.Errno {
		return func(v *vault.Vault) api.Errno { return v.Append([]byte(s)) }
	}
	com := func(s string) func(v *vault.Vault) api.Errno {
		return func(v *vault.Vault) api.Errno { return v.Compact([]byte(s)) }
	}
	return []step{
		{"a", app("a"), 0, "", []string{"a"}},
		{"long", app(long), 0, "", []string{"a", long}},
		{"s", com("s" + long), 1, "s" + long, nil},
		{"b", app("b"), 1, "s" + long, []string{"b"}},
		{"t", com("t" + long), 2, "t" + long, nil},
		{"u", com("u" + long), 3, "u" + long, nil},
		{"c", app(long), 3, "u" + long, []string{long}},
	}
}

func TestP10_4(t *testing.T) {
	for at := range life() {
		for mask := range 8 {
			d := disk(t, 12)
			v := open(t, d, 3)
			var last step
			for i, s := range life() {
				if i == at {
					crash(t, d, v, last, s, mask)
					break
				}
				if e := s.do(v); e != api.OK {
					t.Fatal(s.name, e)
				}
				last = s
				has(t, v, s.era, s.text, s.recs...)
				v = open(t, d, 3)
				has(t, v, s.era, s.text, s.recs...)
			}
		}
	}
}

func crash(t *testing.T, d *drive.Drive, v *vault.Vault, last, s step, mask int) {
	var keep []int
	for i := range 3 {
		if mask>>i&1 == 1 {
			keep = append(keep, i)
		}
	}
	d.Fuse(0, keep...)
	if e := s.do(v); e != api.ErrDead {
		t.Error(s.name, e)
	}
	d.Start()
	v = open(t, d, 3)
	if v.Era() == s.era && len(v.Records()) == len(s.recs) {
		last = s
	}
	has(t, v, last.era, last.text, last.recs...)
	has(t, open(t, d, 3), last.era, last.text, last.recs...)
	if e := v.Append([]byte("on")); e != api.OK {
		t.Error("goes on", e)
	}
	has(t, open(t, d, 3), last.era, last.text, append(slices.Clone(last.recs), "on")...)
}

func TestP10_Lives(t *testing.T) {
	d := disk(t, 3)
	life := func(at int) int {
		b, _ := d.Read(at)
		f, e := frame.Decode(b)
		if e != api.OK {
			t.Fatal("no frame", at)
		}
		return f.Life
	}
	v := open(t, d, 1)
	if v.Append(nil) != api.OK || life(2) != 1 {
		t.Error("the first life", life(2))
	}
	v = open(t, d, 1)
	if v.Compact(nil) != api.OK || life(1) != 2 || v.Append(nil) != api.OK || life(2) != 3 {
		t.Error("a life more", life(1), life(2))
	}
	lay(t, d, 0, 9, 0)
	v = open(t, d, 1)
	if v.Compact([]byte("s")) != api.OK || life(0) != 10 || v.Compact([]byte("t")) != api.OK || life(1) != 11 {
		t.Error("above all that there are", life(0), life(1))
	}
}
