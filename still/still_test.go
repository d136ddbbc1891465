package still_test

import (
	"bytes"
	"testing"

	"novation/api"
	"novation/drive"
	"novation/frame"
	"novation/still"
)

func disk(t *testing.T, n int) *drive.Drive {
	t.Helper()
	d, e := drive.New(n)
	if e != api.OK {
		t.Fatal(e)
	}
	return d
}

func loads(t *testing.T, d *drive.Drive, at, each, era int, want []byte) {
	t.Helper()
	n, b, e := still.Load(d, at, each)
	f := api.OK
	if era == 0 {
		f = api.ErrNone
	}
	if n != era || !bytes.Equal(b, want) || e != f {
		t.Errorf("%d %q %d, not %d %q", n, b, e, era, want)
	}
}

func lay(t *testing.T, d *drive.Drive, at, life, era, seq int, b []byte) {
	t.Helper()
	l, e := frame.Cut(life, era, seq, b)
	if e != api.OK || d.Write(at, l...) != api.OK {
		t.Fatal("lay", e)
	}
}

func long(n int) []byte { return bytes.Repeat([]byte{'l'}, n) }

func TestP9_1(t *testing.T) {
	d := disk(t, 9)
	for _, x := range [][2]int{{0, 0}, {0, -1}, {-1, 2}, {0, 5}, {2, 4}, {9, 1}, {8, 1}, {1 << 62, 1}, {0, 1 << 62}, {0, 1<<63 - 1}} {
		if n, b, e := still.Load(d, x[0], x[1]); n != 0 || len(b) > 0 || e != api.ErrArg {
			t.Error(x, n, b, e)
		}
	}
	for _, d := range []*drive.Drive{nil, {}} {
		if n, b, e := still.Load(d, -1, 0); n != 0 || len(b) > 0 || e != api.ErrNil {
			t.Error(n, b, e)
		}
	}
	loads(t, d, 1, 4, 0, nil)
	lay(t, d, 1, 7, 1, 1, []byte("odd"))
	loads(t, d, 1, 4, 0, nil)
	lay(t, d, 1, 7, 0, 1, []byte("nought"))
	loads(t, d, 1, 4, 0, nil)
	lay(t, d, 5, 7, 2, 1, []byte("even"))
	loads(t, d, 1, 4, 0, nil)
	lay(t, d, 5, 7, 3, 2, []byte("second"))
	loads(t, d, 1, 4, 0, nil)
	lay(t, d, 5, 7, 3, 1, []byte("three"))
	loads(t, d, 1, 4, 3, []byte("three"))
	lay(t, d, 1, 7, 2, 1, nil)
	loads(t, d, 1, 4, 3, []byte("three"))
	lay(t, d, 1, 7, 8, 1, long(320))
	loads(t, d, 1, 4, 8, long(320))
	lay(t, d, 1, 7, 8, 1, long(321))
	loads(t, d, 1, 4, 0, nil)
	loads(t, d, 0, 4, 0, nil)
	if e := still.Save(d, 7, 1, 9, 1, nil); e != api.OK {
		t.Error("places of one sector", e)
	}
	loads(t, d, 7, 1, 1, nil)
}

func TestP9_2(t *testing.T) {
	d := disk(t, 8)
	for _, c := range []struct {
		at, each, life, era, n int
		e                      api.Errno
	}{
		{0, 5, 1, 1, 1, api.ErrArg}, {0, 4, 1, 0, 1, api.ErrArg}, {0, 4, 1, -1, 1, api.ErrArg}, {0, 4, 0, 1, 1, api.ErrArg},
		{0, 4, 1, 1 << 24, 1, api.ErrArg}, {0, 4, 0, 1, 80*255 + 1, api.ErrBig}, {0, 4, 1, 1, 321, api.ErrFull},
		{0, 4, 1, 1, 320, api.OK}, {0, 4, 1, 1, 1, api.ErrArg}, {0, 4, 1, 2, 5, api.OK}, {0, 4, 1, 1, 5, api.ErrArg},
		{0, 4, 1, 2, 5, api.ErrArg}, {0, 4, 1, 4, 6, api.OK}, {0, 4, 1, 5, 0, api.OK},
	} {
		if e := still.Save(d, c.at, c.each, c.life, c.era, long(c.n)); e != c.e {
			t.Error(c, e)
		}
		if c.e == api.OK {
			loads(t, d, c.at, c.each, c.era, long(c.n))
		}
	}
	if d.Writes() != 4 {
		t.Error("not one write each", d.Writes())
	}
	for i, want := range []byte{4, 5} { // the even era in the first place
		if b, _ := d.Read(4 * i); b[5] != want {
			t.Error("place", i, b)
		}
	}
	for _, d := range []*drive.Drive{nil, {}} {
		if still.Save(d, 0, 0, 0, 0, nil) != api.ErrNil {
			t.Error("nil")
		}
	}
	d.Fuse(0)
	d.Write(0, make([]byte, api.Cell))
	if still.Save(d, 0, 4, 1, 9, nil) != api.ErrDead || still.Save(d, 0, 4, 1, 9, long(999)) != api.ErrFull {
		t.Error("without power")
	}
}

func TestP9_3(t *testing.T) {
	for mask := range 8 {
		d := disk(t, 6)
		for era := 1; era < 5; era++ {
			if still.Save(d, 0, 3, era, era, long(era)) != api.OK {
				t.Error("Save")
			}
		}
		var keep []int
		for i := range 3 {
			if mask>>i&1 == 1 {
				keep = append(keep, i)
			}
		}
		d.Fuse(0, keep...)
		if still.Save(d, 0, 3, 5, 5, long(200)) != api.ErrDead {
			t.Error("alive")
		}
		d.Start()
		if mask == 7 {
			loads(t, d, 0, 3, 5, long(200))
		} else {
			loads(t, d, 0, 3, 4, long(4))
		}
	}
}
