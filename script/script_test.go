package script_test

import (
	"bytes"
	"fmt"
	"slices"
	"testing"

	"novation/api"
	"novation/cmd"
	"novation/ledger"
	"novation/pack"
	"novation/rules"
	"novation/script"
)

// same tells whether two things are alike: none and nothing are one.
func same(a, b any) bool { return fmt.Sprintf("%d", a) == fmt.Sprintf("%d", b) }

func code(t *testing.T, c api.Command) api.Entry {
	t.Helper()
	b, e := cmd.Encode(c)
	if e != api.OK {
		t.Fatal("Encode", c)
	}
	return api.Entry{Kind: api.EntryCommand, Bytes: b}
}

func encode(t *testing.T, l ...api.Entry) []byte {
	t.Helper()
	b, e := script.Encode(l)
	if e != api.OK {
		t.Fatal("Encode", e)
	}
	return b
}

var (
	member  = api.Command{Op: api.OpMember, Member: 1, Qty: 9}
	day     = api.Command{Op: api.OpDay}
	ask     = api.Command{Op: api.OpPhase, Member: 1}
	power   = api.Entry{Kind: api.EntryPower}
	compact = api.Entry{Kind: api.EntryCompact}
)

func fuse(n int, keep ...int) api.Entry { return api.Entry{Kind: api.EntryFuse, N: n, Keep: keep} }

func like(a, b []api.Entry) bool {
	return slices.EqualFunc(a, b, func(x, y api.Entry) bool {
		return x.Kind == y.Kind && bytes.Equal(x.Bytes, y.Bytes) && x.N == y.N && slices.Equal(x.Keep, y.Keep)
	})
}

func TestP38_1(t *testing.T) {
	wide := fuse(1<<20, make([]int, 255)...)
	wide.Keep[254] = 254
	l := []api.Entry{{Kind: 1, Bytes: []byte("ab")}, {Kind: 1}, fuse(5, 0, 254, 3), fuse(0), wide, power, compact, {Kind: 1, Bytes: make([]byte, 400)}}
	b := encode(t, l...)
	w := pack.New().Int(8, 1).Text("ab").Int(1, 0, 2, 5, 3, 0, 254, 3, 2, 0, 0, 2, 1<<20, 255)
	for _, k := range wide.Keep {
		w.Int(int64(k))
	}
	if !bytes.Equal(b, w.Int(3, 4, 1).Text(string(make([]byte, 400))).Done()) {
		t.Errorf("%x", b)
	}
	if x, e := script.Decode(b); e != api.OK || !like(x, l) {
		t.Error("Decode", x, e)
	}
	if !bytes.Equal(encode(t), []byte{0}) {
		t.Error("of nothing")
	}
	for i, x := range []api.Entry{
		{}, {Kind: 5}, {Kind: -1}, {Kind: 1, Bytes: make([]byte, 401)}, {Kind: 1, N: 1}, {Kind: 1, Keep: []int{1}}, {Kind: 2, Bytes: []byte{1}}, {Kind: 2, N: -1}, {Kind: 2, N: 1<<20 + 1},
		{Kind: 2, Keep: make([]int, 256)}, {Kind: 2, Keep: []int{255}}, {Kind: 2, Keep: []int{0, -1}}, {Kind: 3, N: 1}, {Kind: 3, Bytes: []byte{1}}, {Kind: 4, Keep: []int{1}}, {Kind: 4, N: 1},
	} {
		if b, e := script.Encode([]api.Entry{power, x}); len(b) > 0 || e != api.ErrForm {
			t.Error("Encode", i, b, e)
		}
	}
	if b, e := script.Encode(slices.Repeat([]api.Entry{power}, 401)); len(b) > 0 || e != api.ErrForm {
		t.Error("401", e)
	}
	if x, e := script.Decode(encode(t, slices.Repeat([]api.Entry{power}, 400)...)); len(x) != 400 || e != api.OK {
		t.Error("400", e)
	}
	bad := [][]byte{nil, {0, 0}, append(bytes.Clone(b), 0), {0x80, 0}, {2, 0}, {2, 10}, {2, 1}, {4, 6}, pack.New().Int(1, 1, 401).Done(), pack.New().Int(1, 2, 0, 1, 255).Done(), pack.New().Int(1, 2, 0, 1, -1).Done(),
		pack.New().Int(1, 2, 1<<20+1, 0).Done(), pack.New().Int(1, 2, -1, 0).Done(), pack.New().Int(1, 2, 0, 256).Int(make([]int64, 256)...).Done(), pack.New().Int(401).Int(slices.Repeat([]int64{3}, 401)...).Done()}
	for i := range b {
		bad = append(bad, b[:i])
	}
	for _, b := range bad {
		if x, e := script.Decode(b); len(x) > 0 || e != api.ErrForm {
			t.Error("Decode", b, e)
		}
	}
}

// says tells whether a script is answered these errors, one behind the other.
func says(t *testing.T, b []byte, cells, each int, want ...api.Errno) {
	t.Helper()
	l, e := script.Run(b, cells, each)
	if e != api.OK || len(l) != len(want) {
		t.Fatal("Run", len(l), e)
	}
	for i, b := range l {
		if r, e := cmd.DecodeReply(b); e != api.OK || r.Err != want[i] {
			t.Error("entry", i, r, e)
		}
	}
}

func TestP38_2(t *testing.T) {
	says(t, encode(t, code(t, member), fuse(0), code(t, day), power), 16, 4, api.OK, api.OK, api.ErrDead, api.OK)
	says(t, encode(t, code(t, member), fuse(1, 0), code(t, day), code(t, day), fuse(0), compact, power, code(t, ask), code(t, member), api.Entry{Kind: 1, Bytes: []byte{7}}, compact), 16, 4,
		api.OK, api.OK, api.OK, api.ErrDead, api.ErrDead, api.ErrDead, api.OK, api.OK, api.ErrThere, api.ErrForm, api.OK)
	says(t, encode(t), 16, 4)
	l, e := script.Run(encode(t, code(t, day), code(t, ask), code(t, day)), 16, 4)
	if want, _ := rules.Apply(api.State{}, day); e != api.OK || !bytes.Equal(l[2], cmd.EncodeReply(api.Reply{Numbers: []int64{int64(want.Day) + 1}})) {
		t.Error("Run", l, e)
	}
	for _, c := range []struct {
		b           []byte
		cells, each int
		e           api.Errno
	}{
		{nil, 0, 0, api.ErrForm}, {[]byte{0, 0}, 16, 4, api.ErrForm}, {[]byte{0}, 0, 0, api.ErrArg}, {[]byte{0}, 2049, 4, api.ErrArg}, {[]byte{0}, 8, 4, api.ErrArg}, {[]byte{0}, 8, 0, api.ErrArg},
	} {
		l, e := script.Run(c.b, c.cells, c.each)
		s, f := script.States(c.b, c.cells, c.each)
		if len(l) > 0 || len(s) > 0 || e != c.e || f != c.e {
			t.Error("Run, States", c, e, f)
		}
	}
}

func TestP38_2_States(t *testing.T) {
	b := encode(t, code(t, day), code(t, ask), fuse(0, 0), code(t, day), power, compact, code(t, day), fuse(0), compact, code(t, day), power)
	s, e := script.States(b, 16, 4)
	if e != api.OK || len(s) != 11 {
		t.Fatal("States", e)
	}
	for i, want := range []int{1, 1, 1, 1, 2, 2, 3, 3, 3, 3, 3} {
		if !ledger.Same(s[i], api.State{Day: want}) {
			t.Error("behind entry", i, s[i])
		}
	}
	t.Run("memory of its own", func(t *testing.T) {
		s, _ := script.States(encode(t, code(t, member), power), 16, 4)
		s[0].Members[0].Cap = 1
		if s[1].Members[0].Cap != 9 {
			t.Error("shared")
		}
	})
}

func TestP38_3(t *testing.T) {
	l := []api.Entry{code(t, member), code(t, ask), fuse(1), code(t, day), code(t, day), code(t, ask), power, code(t, day), compact, code(t, member), fuse(0, 0), code(t, day), power, code(t, ask)}
	all, _ := script.Run(encode(t, l...), 12, 3)
	states, _ := script.States(encode(t, l...), 12, 3)
	for n := range l {
		x, e := script.Run(encode(t, l[:n]...), 12, 3)
		s, f := script.States(encode(t, l[:n]...), 12, 3)
		if e != api.OK || f != api.OK || len(x) != n || len(s) != n || n > 0 && (!same(x, all[:n]) || !ledger.Same(s[n-1], states[n-1])) {
			t.Error("the beginning", n, e, f)
		}
	}
	var state api.State
	for i, c := range []api.Command{member, day, ask, member, day, {Op: api.OpInst, Inst: 1, Qty: 1, Price: 5}, {Op: api.OpMark, Inst: 1, Price: 9}, day} {
		l = append(l[:i], code(t, c))
		next, r := rules.Apply(state, c)
		out, e := script.Run(encode(t, l...), 64, 4)
		if e != api.OK || !bytes.Equal(out[i], cmd.EncodeReply(r)) {
			t.Error("not what the rules answer", c, r)
		}
		state = next
	}
}
