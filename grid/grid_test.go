package grid_test

import (
	"testing"

	"novation/api"
	"novation/grid"
	"novation/vec"
	"novation/wide"
)

const least, most, high = -1 << 63, 1<<63 - 1, 1<<31 - 1

func legs(l ...int64) []api.Leg {
	var out []api.Leg
	for i := 0; i < len(l); i += 2 {
		out = append(out, api.Leg{Inst: int(l[i]), Qty: l[i+1]})
	}
	return out
}

func insts() []api.Inst {
	return []api.Inst{
		{Id: 1, Mult: 10, Moves: []int64{2, -3}}, {Id: 2, Mult: 1, Moves: []int64{5, 1, -1, 0, 0, 0, 0, -6}}, {Id: 3, Mult: 1},
		{Id: 4, Mult: 1 << 16, Moves: []int64{high}}, {Id: 5, Mult: 1, Moves: []int64{0, -4, 4, -4}},
	}
}

func TestP24_1(t *testing.T) {
	for _, c := range []struct {
		legs  []api.Leg
		loss  []int64
		want  int64
		worst int
	}{
		{legs(1, 4), []int64{-80, 120, 0, 0, 0, 0, 0, 0}, 120, 1},
		{legs(1, -4), []int64{80, -120, 0, 0, 0, 0, 0, 0}, 80, 0},
		{legs(1, -4, 2, 30), []int64{-70, -150, 30, 0, 0, 0, 0, 180}, 180, 7},
		{legs(3, most), make([]int64, 8), 0, -1},
		{nil, make([]int64, 8), 0, -1},
		{legs(5, 1), []int64{0, 4, -4, 4, 0, 0, 0, 0}, 4, 1},
		{legs(2, -1), []int64{5, 1, -1, 0, 0, 0, 0, -6}, 5, 0},
	} {
		for scen, want := range c.loss {
			if w, e := grid.Loss(insts(), c.legs, scen); w != wide.Of(want) || e != api.OK {
				t.Error("Loss", c.legs, scen, wide.Text(w), e)
			}
		}
		for _, scen := range []int{-1, 8, least, most} {
			if w, e := grid.Loss(insts(), c.legs, scen); w != wide.Of(0) || e != api.OK {
				t.Error("Loss", c.legs, scen, wide.Text(w), e)
			}
		}
		if n, e := grid.Margin(insts(), c.legs); n != c.want || e != api.OK {
			t.Error("Margin", c.legs, n, e)
		}
		if n, e := grid.Worst(insts(), c.legs); n != c.worst || e != api.OK {
			t.Error("Worst", c.legs, n, e)
		}
	}
	if n, e := grid.Margin(insts(), legs(4, -most)); n != 0 || e != api.ErrRange {
		t.Error("Margin that is too much", n, e)
	}
	if n, e := grid.Worst(insts(), legs(4, -most)); n != 0 || e != api.OK {
		t.Error("Worst of that", n, e)
	}
	for _, c := range []struct {
		legs []api.Leg
		e    api.Errno
	}{{legs(6, 1), api.ErrNone}, {legs(9, 1), api.ErrForm}, {legs(6, 1, 1, 0), api.ErrForm}, {legs(1, 1, 6, 1), api.ErrNone}} {
		w, e := grid.Loss(insts(), c.legs, 0)
		n, f := grid.Margin(insts(), c.legs)
		x, g := grid.Worst(insts(), c.legs)
		if w != (wide.Wide{}) || e != c.e || n != 0 || f != c.e || x != -1 || g != c.e {
			t.Error(c, w, e, n, f, x, g)
		}
	}
}

func TestP24_2(t *testing.T) {
	for a := int64(-6); a < 7; a++ {
		for b := int64(-6); b < 7; b++ {
			x, _ := vec.With(legs(5, a*a+1), api.Leg{Inst: 1, Qty: a})
			y, _ := vec.With(legs(1, b*b+1), api.Leg{Inst: 2, Qty: b})
			both, _ := vec.Add(x, y)
			twice, _ := vec.Add(x, x)
			m, _ := grid.Margin(insts(), x)
			n, _ := grid.Margin(insts(), y)
			one, _ := grid.Margin(insts(), both)
			two, _ := grid.Margin(insts(), twice)
			if m < 0 || one > m+n || two != 2*m {
				t.Error(x, y, m, n, one, two)
			}
		}
	}
}
