package scroll_test

import (
	"bytes"
	"strings"
	"testing"

	"novation/api"
	"novation/drive"
	"novation/frame"
	"novation/scroll"
)

func disk(t *testing.T, n int) *drive.Drive {
	t.Helper()
	d, e := drive.New(n)
	if e != api.OK {
		t.Fatal(e)
	}
	return d
}

func open(t *testing.T, d *drive.Drive, from, to, life, era int) *scroll.Scroll {
	t.Helper()
	s, e := scroll.Open(d, from, to, life, era)
	if e != api.OK || s == nil {
		t.Fatal("Open", from, to, life, era, e)
	}
	return s
}

// has tells whether a scroll's records are these, each by its first letter and length.
func has(t *testing.T, s *scroll.Scroll, used int, want ...string) {
	t.Helper()
	l := s.Records()
	if len(l) != len(want) || s.Used() != used {
		t.Errorf("%d records, %d sectors, not %d, %d", len(l), s.Used(), len(want), used)
		return
	}
	for i := range l {
		if string(l[i]) != want[i] {
			t.Errorf("record %d: %q", i, l[i])
		}
	}
}

func lay(t *testing.T, d *drive.Drive, at, life, era, seq int, s string) {
	t.Helper()
	l, e := frame.Cut(life, era, seq, []byte(s))
	if e != api.OK || d.Write(at, l...) != api.OK {
		t.Fatal("lay", e)
	}
}

var long = strings.Repeat("l", 200) // three sectors

func TestP8_1(t *testing.T) {
	d := disk(t, 12)
	if scroll.Newest(d, 0, 12) != 0 {
		t.Error("nothing stands there")
	}
	lay(t, d, 2, 4, 7, 1, "a")
	lay(t, d, 3, 4, 7, 2, long)
	lay(t, d, 6, 9, 7, 3, "c")
	has(t, open(t, d, 2, 12, 10, 7), 5, "a", long, "c")
	has(t, open(t, d, 2, 5, 10, 7), 1, "a")
	has(t, open(t, d, 1, 12, 10, 7), 0)
	has(t, open(t, d, 2, 12, 10, 6), 0)
	has(t, open(t, d, 3, 12, 10, 7), 0)
	lay(t, d, 7, 8, 7, 4, "an elder life")
	has(t, open(t, d, 2, 12, 10, 7), 5, "a", long, "c")
	lay(t, d, 7, 9, 8, 4, "another era")
	has(t, open(t, d, 2, 12, 10, 7), 5, "a", long, "c")
	lay(t, d, 7, 9, 7, 5, "a later one")
	has(t, open(t, d, 2, 12, 10, 7), 5, "a", long, "c")
	lay(t, d, 11, 13, 0, 1, "far behind")
	for _, x := range [][3]int{{0, 12, 13}, {0, 11, 9}, {2, 3, 4}, {2, 2, 0}, {-1, 12, 0}, {0, 13, 0}, {5, 4, 0}, {11, 12, 13}} {
		if n := scroll.Newest(d, x[0], x[1]); n != x[2] {
			t.Error("Newest", x, n)
		}
	}
	if scroll.Newest(nil, 0, 0) != 0 || scroll.Newest(new(drive.Drive), 0, 0) != 0 {
		t.Error("Newest of nil")
	}
}

func TestP8_2(t *testing.T) {
	d := disk(t, 6)
	lay(t, d, 3, 5, 0, 1, "x")
	for _, x := range [][4]int{{-1, 3, 9, 0}, {4, 3, 9, 0}, {0, 7, 9, 0}, {7, 7, 9, 0}, {0, 3, 0, 0}, {0, 3, -1, 0}, {0, 3, 1 << 24, 0}, {0, 6, 5, 0}, {3, 4, 4, 0}, {0, 3, 1, -1}, {0, 3, 1, 1 << 24}} {
		if s, e := scroll.Open(d, x[0], x[1], x[2], x[3]); s != nil || e != api.ErrArg {
			t.Error("Open", x, s, e)
		}
	}
	has(t, open(t, d, 0, 3, 1, 0), 0)
	has(t, open(t, d, 6, 6, 1<<24-1, 1<<24-1), 0)
	has(t, open(t, d, 3, 6, 6, 0), 1, "x")
	for _, d := range []*drive.Drive{nil, {}} {
		if s, e := scroll.Open(d, -1, 0, 0, 0); s != nil || e != api.ErrNil {
			t.Error("nil drive", e)
		}
	}
	d.Fuse(0)
	d.Write(0, make([]byte, api.Cell))
	has(t, open(t, d, 3, 6, 6, 0), 1, "x")
}

func TestP8_3(t *testing.T) {
	d := disk(t, 8)
	s := open(t, d, 1, 7, 3, 2)
	b := []byte("a")
	if s.Append(b) != api.OK || s.Append(nil) != api.OK || s.Append([]byte(long)) != api.OK {
		t.Error("Append")
	}
	b[0] = 'z'
	has(t, s, 5, "a", "", long)
	s.Records()[0][0] = 'z'
	has(t, s, 5, "a", "", long)
	if d.Writes() != 3 {
		t.Error("not one write each", d.Writes())
	}
	if e := s.Append(bytes.Repeat(b, 81)); e != api.ErrFull {
		t.Error("no room", e)
	}
	if e := s.Append(bytes.Repeat(b, 80*255+1)); e != api.ErrBig {
		t.Error("too big", e)
	}
	if s.Append(bytes.Repeat(b, 80)) != api.OK || s.Append(nil) != api.ErrFull {
		t.Error("just room")
	}
	has(t, open(t, d, 1, 7, 4, 2), 6, "a", "", long, strings.Repeat("z", 80))
	for _, s := range []*scroll.Scroll{nil, {}} {
		if s.Append(nil) != api.ErrNil || len(s.Records()) > 0 && len(s.Records()) > 0 || s.Used() != 0 {
			t.Error("nil, zero")
		}
	}
}

func TestP8_3_Dead(t *testing.T) {
	d := disk(t, 8)
	s := open(t, d, 0, 8, 1, 0)
	d.Fuse(0)
	d.Write(7, make([]byte, api.Cell))
	if s.Append(bytes.Repeat([]byte{1}, 80*256)) != api.ErrDead {
		t.Error("no power")
	}
	d.Start()
	if s.Append([]byte("a")) != api.OK {
		t.Error("the power did not go off in an Append")
	}
	d.Fuse(0, 0)
	if s.Append([]byte("b")) != api.ErrDead {
		t.Error("it goes off in this one")
	}
	has(t, s, 1, "a")
	d.Start()
	if s.Append([]byte("c")) != api.ErrDead || s.Append(make([]byte, 1<<16)) != api.ErrDead {
		t.Error("it went off in an Append")
	}
	has(t, open(t, d, 0, 8, 2, 0), 2, "a", "b")
}

func TestP8_4(t *testing.T) {
	for mask := range 8 {
		d := disk(t, 9)
		s := open(t, d, 0, 9, 1, 5)
		s.Append([]byte("a"))
		s.Append([]byte("b"))
		var keep []int
		for i := range 3 {
			if mask>>i&1 == 1 {
				keep = append(keep, i)
			}
		}
		d.Fuse(0, keep...)
		if s.Append([]byte(long)) != api.ErrDead {
			t.Error("alive")
		}
		d.Start()
		s = open(t, d, 0, 9, 2, 5)
		want, used := []string{"a", "b"}, 2
		if mask == 7 {
			want, used = append(want, long), 5
		}
		has(t, s, used, want...)
		if s.Append([]byte("d")) != api.OK {
			t.Error("goes on")
		}
		want = append(want, "d")
		has(t, open(t, d, 0, 9, 3, 5), used+1, want...)
	}
}
