package drive_test

import (
	"bytes"
	"testing"

	"novation/api"
	"novation/drive"
)

func cell(x byte) []byte { return bytes.Repeat([]byte{x}, api.Cell) }

// holds tells whether sectors from 0 on are of these bytes.
func holds(t *testing.T, d *drive.Drive, want ...byte) {
	t.Helper()
	for i, x := range want {
		if b, e := d.Read(i); e != api.OK || !bytes.Equal(b, cell(x)) {
			t.Error("sector", i, b, e)
		}
	}
}

func made(t *testing.T, n int) *drive.Drive {
	t.Helper()
	d, e := drive.New(n)
	if d == nil || e != api.OK {
		t.Fatal("New", n, e)
	}
	return d
}

func TestP6_1(t *testing.T) {
	for _, n := range []int{-1, 0, api.MaxCells + 1} {
		if d, e := drive.New(n); d != nil || e != api.ErrArg {
			t.Error("New", n, d, e)
		}
	}
	for _, n := range []int{1, 3, api.MaxCells} {
		d := made(t, n)
		if d.Size() != n || !d.Live() || d.Writes() != 0 {
			t.Error("Size", d.Size())
		}
		if b, e := d.Read(n - 1); e != api.OK || !bytes.Equal(b, cell(0)) {
			t.Error("not noughts", b, e)
		}
		for _, at := range []int{-1, n} {
			if b, e := d.Read(at); len(b) > 0 || e != api.ErrArg {
				t.Error("Read", at, b, e)
			}
		}
	}
	d := made(t, 2)
	b, _ := d.Read(0)
	b[0] = 1
	holds(t, d, 0, 0)
}

func TestP6_2_Write(t *testing.T) {
	d := made(t, 4)
	b := cell(1)
	if e := d.Write(1, b, cell(2)); e != api.OK {
		t.Error(e)
	}
	b[0] = 9
	holds(t, d, 0, 1, 2, 0)
	for _, x := range []struct {
		at    int
		cells [][]byte
	}{{-1, nil}, {5, nil}, {4, [][]byte{b}}, {-1, [][]byte{b}}, {3, [][]byte{b, b}}, {0, [][]byte{b, b[1:]}}, {0, [][]byte{nil}}, {0, [][]byte{append(cell(1), 1)}}, {1<<63 - 1, [][]byte{b, b}}} {
		if e := d.Write(x.at, x.cells...); e != api.ErrArg {
			t.Error("Write", x.at, len(x.cells), e)
		}
	}
	if d.Write(0) != api.OK || d.Write(4) != api.OK || d.Writes() != 1 {
		t.Error("nothing is no write", d.Writes())
	}
	holds(t, d, 0, 1, 2, 0)
}

func TestP6_2_Fuse(t *testing.T) {
	d := made(t, 5)
	keep := []int{1, -4, 77}
	if d.Fuse(0, keep...) != api.OK {
		t.Error("Fuse")
	}
	keep[0] = 0
	if e := d.Write(3, cell(1), cell(2)); e != api.ErrDead || d.Live() || d.Writes() != 1 {
		t.Error("the write that dies", e)
	}
	holds(t, d, 0, 0, 0, 0, 2)
	if d.Write(0, cell(1)) != api.ErrDead || d.Write(9) != api.ErrDead || d.Fuse(1) != api.ErrDead || d.Fuse(-1) != api.ErrDead {
		t.Error("without power")
	}
	if _, e := d.Read(9); e != api.ErrArg || d.Writes() != 1 {
		t.Error("Read without power", e)
	}
	if d.Start() != api.OK || !d.Live() {
		t.Error("Start")
	}
	if d.Fuse(2) != api.OK || d.Write(0, cell(3)) != api.OK || d.Write(7) != api.ErrArg || d.Write(1) != api.OK || d.Write(1, cell(4)) != api.OK || d.Write(2, cell(5)) != api.ErrDead {
		t.Error("two whole ones first")
	}
	holds(t, d, 3, 4, 0, 0, 2)
	d.Start()
	if d.Fuse(0) != api.OK || d.Fuse(-1) != api.OK || d.Write(0, cell(6)) != api.OK {
		t.Error("no fuse any more")
	}
	if d.Fuse(0) != api.OK || d.Fuse(1, 0) != api.OK || d.Write(0, cell(7)) != api.OK || d.Write(0, cell(8)) != api.ErrDead {
		t.Error("another fuse")
	}
	holds(t, d, 8)
}

func TestP6_3(t *testing.T) {
	d := made(t, 1)
	if d.Fuse(0) != api.OK || d.Start() != api.OK || d.Write(0, cell(1)) != api.OK || d.Writes() != 1 {
		t.Error("Start takes the fuse out")
	}
	d.Fuse(0)
	d.Write(0, cell(2))
	if d.Write(0, cell(2)); d.Writes() != 2 {
		t.Error("Writes", d.Writes())
	}
	for _, d := range []*drive.Drive{nil, {}} {
		b, e := d.Read(0)
		if d.Size() != 0 || d.Live() || len(b) > 0 || e != api.ErrNil || d.Write(0) != api.ErrNil || d.Fuse(0) != api.ErrNil || d.Start() != api.ErrNil || d.Writes() != 0 {
			t.Error("nil, zero")
		}
	}
}

func TestP6_4(t *testing.T) {
	for mask := range 8 {
		d := made(t, 4)
		d.Write(0, cell(1), cell(2), cell(3), cell(4))
		var keep []int
		want := []byte{1, 2, 3, 4}
		for i := range 3 {
			if mask>>i&1 == 1 {
				keep = append(keep, i)
				want[i+1] = byte(10 + i)
			}
		}
		d.Fuse(0, keep...)
		if e := d.Write(1, cell(10), cell(11), cell(12)); e != api.ErrDead {
			t.Error(e)
		}
		holds(t, d, want...)
	}
}
