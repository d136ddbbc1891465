package block_test

import (
	"slices"
	"testing"

	"novation/api"
	"novation/block"
)

const least, most, high = -1 << 63, 1<<63 - 1, 1<<31 - 1

type fills = []api.Fill

func many(n int, qty int64) fills { return slices.Repeat(fills{{Qty: qty, Price: 3}}, n) }

func TestP22_1(t *testing.T) {
	for _, c := range []struct {
		l       fills
		q, a, r int64
		e       api.Errno
		rest    int64
	}{
		{fills{{Qty: 3, Price: 10}, {Qty: 4, Price: 11}}, 7, 10, 4, api.OK, 40},
		{fills{{Qty: -3, Price: 10}, {Qty: -4, Price: 11}}, -7, 10, 4, api.OK, -40},
		{fills{{Qty: 5}}, 5, 0, 0, api.OK, 0},
		{many(16, 2), 32, 3, 0, api.OK, 0},
		{fills{{Qty: api.MaxQty, Price: high}}, api.MaxQty, high, 0, api.OK, 0},
		{fills{{Qty: 1 - api.MaxQty, Price: high}, {Qty: -1, Price: 0}}, -api.MaxQty, high - 1, api.MaxQty - high, api.OK, 10 * (high - api.MaxQty)},
		{nil, 0, 0, 0, api.ErrArg, 0},
		{many(17, 1), 0, 0, 0, api.ErrArg, 0},
		{fills{{Qty: 1, Price: -1}}, 0, 0, 0, api.ErrArg, 0},
		{fills{{Qty: 1, Price: 1 << 31}}, 0, 0, 0, api.ErrArg, 0},
		{fills{{Qty: 1}, {Qty: 0}}, 0, 0, 0, api.ErrArg, 0},
		{fills{{Qty: api.MaxQty + 1}}, 0, 0, 0, api.ErrArg, 0},
		{fills{{Qty: -api.MaxQty - 1}}, 0, 0, 0, api.ErrArg, 0},
		{fills{{Qty: least}}, 0, 0, 0, api.ErrArg, 0},
		{fills{{Qty: 1}, {Qty: -1}}, 0, 0, 0, api.ErrArg, 0},
		{fills{{Qty: api.MaxQty}, {Qty: 1}}, 0, 0, 0, api.ErrLimit, 0},
		{fills{{Qty: -api.MaxQty}, {Qty: -1}}, 0, 0, 0, api.ErrLimit, 0},
		{fills{{Qty: api.MaxQty}, {Qty: 1}, {Qty: 1, Price: -1}}, 0, 0, 0, api.ErrArg, 0},
	} {
		if q, a, r, e := block.Average(c.l); q != c.q || a != c.a || r != c.r || e != c.e {
			t.Error("Average", c.l, q, a, r, e)
		}
		if n, e := block.Rest(10, c.l); n != c.rest || e != c.e {
			t.Error("Rest", c.l, n, e)
		}
		for _, mult := range []int64{0, -1, 1<<16 + 1} {
			want := c.e
			if want == api.OK {
				want = api.ErrArg
			}
			if n, e := block.Rest(mult, c.l); n != 0 || e != want {
				t.Error("Rest", mult, c.l, n, e)
			}
		}
	}
	if n, e := block.Rest(1, fills{{Qty: -3, Price: 10}, {Qty: -4, Price: 11}}); n != -4 || e != api.OK {
		t.Error("Rest", n, e)
	}
	if n, e := block.Rest(1<<16, fills{{Qty: 3, Price: 10}, {Qty: 4, Price: 11}}); n != 4<<16 || e != api.OK {
		t.Error("Rest", n, e)
	}
}

func TestP22_2(t *testing.T) {
	var l []api.Group
	for i := range api.MaxGroups {
		m, id, e := block.Open(l, api.Group{Id: 99, Inst: 3, Left: int64(i + 1), Price: 7, Unit: api.Unit{Account: 2}})
		if id != i+1 || e != api.OK || len(m) != i+1 || m[i] != (api.Group{Id: i + 1, Inst: 3, Left: int64(i + 1), Price: 7, Unit: api.Unit{Account: 2}}) {
			t.Error("Open", i, id, e)
		}
		l = m
	}
	if m, id, e := block.Open(l, api.Group{Left: 1}); len(m) > 0 || id != 0 || e != api.ErrLimit {
		t.Error("64 are there", id, e)
	}
	for _, left := range []int64{0, api.MaxQty + 1, -api.MaxQty - 1, least, most} {
		if m, id, e := block.Open(l, api.Group{Left: left}); len(m) > 0 || id != 0 || e != api.ErrArg {
			t.Error("Open", left, id, e)
		}
	}
	for _, left := range []int64{api.MaxQty, -api.MaxQty} {
		if m, id, e := block.Open(nil, api.Group{Left: left}); len(m) != 1 || id != 1 || e != api.OK {
			t.Error("Open", left, id, e)
		}
	}
	a, _, _ := block.Open(l[:3], api.Group{Left: 1})
	if b, _, _ := block.Open(l[:3], api.Group{Left: 2}); a[3].Left != 1 || b[3].Left != 2 || l[3].Left != 4 {
		t.Error("shared")
	}
	if g, ok := block.Find(l, 5); !ok || g != l[4] {
		t.Error("Find", g, ok)
	}
	if g, ok := block.Find(l, 0); ok || g != (api.Group{}) {
		t.Error("Find of none", g, ok)
	}
}

func TestP22_3(t *testing.T) {
	l := []api.Group{{Id: 1, Left: 7}, {Id: 2, Left: -7}, {Id: 3}}
	for _, c := range []struct {
		id   int
		qty  int64
		left int64
		e    api.Errno
	}{
		{1, 7, 0, api.OK}, {1, 3, 4, api.OK}, {2, -7, 0, api.OK}, {2, -3, -4, api.OK}, {4, 0, 0, api.ErrNone}, {1, 0, 0, api.ErrArg}, {1, -1, 0, api.ErrArg}, {1, least, 0, api.ErrArg},
		{2, 1, 0, api.ErrArg}, {1, 8, 0, api.ErrHeld}, {2, -8, 0, api.ErrHeld}, {2, least, 0, api.ErrHeld}, {3, 0, 0, api.ErrArg},
	} {
		m, e := block.Alloc(l, c.id, c.qty)
		if g, _ := block.Find(m, c.id); g.Left != c.left || e != c.e || (len(m) == 0) != (e != api.OK) {
			t.Error("Alloc", c, m, e)
		}
	}
	for _, qty := range []int64{1, -1} { // nothing is left: on either side it is refused
		if m, e := block.Alloc(l, 3, qty); len(m) > 0 || e == api.OK {
			t.Error("Alloc of nothing", m, e)
		}
	}
	for _, c := range []struct {
		id   int
		qty  int64
		left int64
		e    api.Errno
	}{
		{1, 3, 10, api.OK}, {1, -9, -2, api.OK}, {2, -3, -10, api.OK}, {1, 0, 7, api.OK}, {1, api.MaxQty - 7, api.MaxQty, api.OK}, {2, 7 - api.MaxQty, -api.MaxQty, api.OK},
		{1, api.MaxQty - 6, 0, api.ErrRange}, {2, 6 - api.MaxQty, 0, api.ErrRange}, {1, most, 0, api.ErrRange}, {2, least, 0, api.ErrRange}, {4, 1, 0, api.ErrNone},
	} {
		m, e := block.Back(l, c.id, c.qty)
		if g, _ := block.Find(m, c.id); g.Left != c.left || e != c.e || (len(m) == 0) != (e != api.OK) {
			t.Error("Back", c, m, e)
		}
	}
	if l[0].Left != 7 || l[1].Left != -7 {
		t.Error("changed", l)
	}
}

func TestP22_4(t *testing.T) {
	for n := int64(1); n < 6; n++ {
		for p := range int64(20) {
			for side := int64(-1); side < 2; side += 2 {
				l := fills{{Qty: side * n, Price: p}, {Qty: side * (7 - n), Price: 31 - p}, {Qty: side, Price: 2}}
				q, a, r, e := block.Average(l)
				cost := n*p + (7-n)*(31-p) + 2
				if e != api.OK || q != side*8 || a*8+r != cost || r < 0 || r >= 8 {
					t.Error(l, q, a, r, e)
				}
			}
		}
	}
	l := []api.Group{{Id: 1, Left: 7}}
	for qty := int64(1); qty < 8; qty++ {
		m, _ := block.Alloc(l, 1, qty)
		if back, e := block.Back(m, 1, qty); e != api.OK || !slices.Equal(back, l) {
			t.Error("there and back", back, e)
		}
	}
}
