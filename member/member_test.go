package member_test

import (
	"slices"
	"testing"

	"novation/api"
	"novation/member"
)

const most = 1<<63 - 1

var bad = []api.Member{{Id: 0}, {Id: 9}, {Id: -1}, {Id: 1, Cap: -1}, {Id: 1, Cap: 1<<62 + 1}, {Id: 1, Phase: -1}, {Id: 1, Phase: 4}, {Id: 1, Until: -1}, {Id: 1, Until: 1<<21 + 1}}

func TestP14_1(t *testing.T) {
	if member.Active != 0 || member.Window != 1 || member.Selling != 2 || member.Closed != 3 {
		t.Error("phases")
	}
	for _, m := range []api.Member{{Id: 1}, {Id: 8, Cap: 1 << 62, Phase: 3, Until: 1 << 21}} {
		if member.Check(m) != api.OK {
			t.Error("is one", m)
		}
	}
	for _, m := range bad {
		if member.Check(m) != api.ErrArg {
			t.Error("is none", m)
		}
		if l, e := member.Put([]api.Member{{Id: 1}}, m); len(l) > 0 || e != api.ErrArg {
			t.Error("Put", m, l, e)
		}
		if l, e := member.Set(nil, m); len(l) > 0 || e != api.ErrArg {
			t.Error("Set", m, l, e)
		}
	}
	var l []api.Member
	for _, id := range []int{3, 8, 1} {
		m, e := member.Put(l, api.Member{Id: id, Cap: int64(id)})
		if e != api.OK {
			t.Error("Put", id, e)
		}
		l = m
	}
	if !slices.Equal(l, []api.Member{{Id: 1, Cap: 1}, {Id: 3, Cap: 3}, {Id: 8, Cap: 8}}) {
		t.Error("by Ids", l)
	}
	if m, e := member.Put(l, api.Member{Id: 3}); len(m) > 0 || e != api.ErrThere {
		t.Error("there", m, e)
	}
	if m, ok := member.Find(l, 8); !ok || m.Cap != 8 {
		t.Error("Find", m, ok)
	}
	if m, ok := member.Find(l, 2); ok || m != (api.Member{}) {
		t.Error("Find of none", m, ok)
	}
	m, e := member.Set(l, api.Member{Id: 3, Phase: 2})
	if e != api.OK || !slices.Equal(m, []api.Member{{Id: 1, Cap: 1}, {Id: 3, Phase: 2}, {Id: 8, Cap: 8}}) || l[1].Cap != 3 {
		t.Error("Set", m, e)
	}
	if m, e := member.Set(l, api.Member{Id: 2}); len(m) > 0 || e != api.ErrNone {
		t.Error("Set of none", m, e)
	}
}

func TestP14_2(t *testing.T) {
	for phase, want := range []api.Errno{api.OK, api.ErrFrozen, api.ErrFrozen, api.ErrFrozen} {
		if e := member.May(api.Member{Id: 1, Phase: phase}); e != want {
			t.Error("May", phase, e)
		}
	}
	for _, c := range []struct {
		cap, used, more int64
		e               api.Errno
	}{
		{10, 7, 3, api.OK}, {10, 7, 4, api.ErrCap}, {10, 11, 0, api.ErrCap}, {0, 0, 0, api.OK}, {10, -1, 3, api.ErrArg}, {10, 99, -1, api.ErrArg},
		{1 << 62, most, most, api.ErrCap}, {1 << 62, 1 << 61, 1 << 61, api.OK}, {1 << 62, 1 << 62, 1, api.ErrCap},
	} {
		if e := member.Room(api.Member{Id: 1, Cap: c.cap}, c.used, c.more); e != c.e {
			t.Error("Room", c, e)
		}
	}
}

func TestP14_3(t *testing.T) {
	m := api.Member{Id: 1, Cap: 20}
	for used := range int64(22) {
		for a := range int64(22) {
			for b := range int64(22) {
				apart := member.Room(m, used, a) == api.OK && member.Room(m, used+a, b) == api.OK
				if apart != (member.Room(m, used, a+b) == api.OK) {
					t.Error(used, a, b)
				}
			}
		}
	}
}

func TestP14_1_First(t *testing.T) {
	l := []api.Member{{Id: 1, Cap: 5}, {Id: 2, Cap: 6}}
	if m, ok := member.Find(l, 1); !ok || m.Cap != 5 {
		t.Error("Find the first", m, ok)
	}
	if x, e := member.Set(l, api.Member{Id: 1, Cap: 7}); e != api.OK || x[0].Cap != 7 || l[0].Cap != 5 {
		t.Error("Set the first", x, e)
	}
	if x, e := member.Put(l, api.Member{Id: 1}); len(x) > 0 || e != api.ErrThere {
		t.Error("the first is there", x, e)
	}
}
