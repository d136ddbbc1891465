package pack_test

import (
	"bytes"
	"strings"
	"testing"

	"novation/api"
	"novation/pack"
)

const least, most = -1 << 63, 1<<63 - 1

func TestP4_1(t *testing.T) {
	for _, c := range []struct {
		n    int64
		want string
	}{
		{0, "\x00"}, {-1, "\x01"}, {1, "\x02"}, {63, "\x7e"}, {-64, "\x7f"}, {64, "\x80\x01"}, {-65, "\x81\x01"},
		{most, "\xfe\xff\xff\xff\xff\xff\xff\xff\xff\x01"}, {least, "\xff\xff\xff\xff\xff\xff\xff\xff\xff\x01"},
	} {
		if b := pack.New().Int(c.n).Done(); string(b) != c.want {
			t.Errorf("%d: %x", c.n, b)
		}
	}
	if b := pack.New().Text("ab").Text("").Done(); string(b) != "\x04ab\x00" {
		t.Errorf("%x", b)
	}
}

func TestP4_2(t *testing.T) {
	w := pack.New()
	if w.Int(1, -1) != w || w.Text("x") != w || w.Int() != w {
		t.Error("not the writer")
	}
	b := w.Done()
	if string(b) != "\x02\x01\x02x" {
		t.Errorf("%x", b)
	}
	b[0] = 9
	if w.Int(0); string(w.Done()) != "\x02\x01\x02x\x00" {
		t.Errorf("%x", w.Done())
	}
	if len(pack.New().Done()) > 0 {
		t.Error("bytes of nothing")
	}
	var none *pack.Writer
	if none.Int(1) != nil || none.Text("a") != nil || len(none.Done()) > 0 {
		t.Error("nil")
	}
	var zero pack.Writer
	if zero.Int(1) != &zero || zero.Text("a") != &zero || len(zero.Done()) > 0 {
		t.Error("zero")
	}
}

func TestP4_3_Int(t *testing.T) {
	for _, c := range []struct {
		b      string
		lo, hi int64
		n      int64
		e      api.Errno
	}{
		{"\x80\x01", least, most, 64, api.OK},
		{"\x80\x01", 64, 64, 64, api.OK},
		{"\x80\x01", 0, 63, 0, api.ErrRange},
		{"\x80\x01", 65, 99, 0, api.ErrRange},
		{"", least, most, 0, api.ErrShort},
		{"\x80", least, most, 0, api.ErrShort},
		{"\x80\x00", least, most, 0, api.ErrForm},
		{"\x82\x80\x00", least, most, 0, api.ErrForm},
		{"\x00", least, most, 0, api.OK},
		{strings.Repeat("\xff", 9), least, most, 0, api.ErrShort},
		{strings.Repeat("\xff", 9) + "\x01", least, most, least, api.OK},
		{strings.Repeat("\xff", 9) + "\x00", least, most, 0, api.ErrForm},
		{strings.Repeat("\xff", 9) + "\x02", least, most, 0, api.ErrForm},
		{strings.Repeat("\xff", 9) + "\x81", least, most, 0, api.ErrForm},
		{strings.Repeat("\xff", 10), 0, 1, 0, api.ErrForm},
		{"\x02", 5, 1, 0, api.ErrRange},
	} {
		r := pack.Open([]byte(c.b))
		n := r.Int(c.lo, c.hi)
		if n != c.n || r.Err() != c.e || r.End() != c.e || r.Left() != 0 {
			t.Errorf("%x: %d %d %d", c.b, n, r.Err(), r.Left())
		}
	}
}

func TestP4_3_Text(t *testing.T) {
	for _, c := range []struct {
		b    string
		most int
		s    string
		e    api.Errno
		end  api.Errno
	}{
		{"\x04ab", 2, "ab", api.OK, api.OK},
		{"\x04abc", 9, "ab", api.OK, api.ErrRest},
		{"\x04ab", 1, "", api.ErrRange, api.ErrRange},
		{"\x04a", 2, "", api.ErrShort, api.ErrShort},
		{"\x01a", 2, "", api.ErrRange, api.ErrRange},
		{"\x84\x00ab", 2, "", api.ErrForm, api.ErrForm},
		{"", 2, "", api.ErrShort, api.ErrShort},
		{"\x00", -1, "", api.ErrRange, api.ErrRange},
		{"\x00", 0, "", api.OK, api.OK},
	} {
		r := pack.Open([]byte(c.b))
		if s := r.Text(c.most); s != c.s || r.Err() != c.e || r.End() != c.end {
			t.Errorf("%x: %q %d %d", c.b, s, r.Err(), r.End())
		}
	}
}

func TestP4_3_Ends(t *testing.T) {
	b := []byte("\x02\x09\x04")
	r := pack.Open(b)
	b[0] = 0
	if r.Left() != 3 || r.Int(1, 1) != 1 || r.End() != api.ErrRest || r.Err() != api.OK {
		t.Error("a reader in its midst")
	}
	if r.Int(0, 9) != 0 || r.Err() != api.ErrRange || r.Left() != 0 {
		t.Error("an error leaves nothing")
	}
	if r.Int(least, most) != 0 || r.Text(9) != "" || r.End() != api.ErrRange {
		t.Error("behind an error")
	}
	for _, r := range []*pack.Reader{nil, {}} {
		if r.Int(0, 1) != 0 || r.Text(1) != "" || r.Left() != 0 || r.Err() != api.ErrNil || r.End() != api.ErrNil {
			t.Error("nil, zero")
		}
	}
}

func TestP4_4(t *testing.T) {
	l := []int64{0, 1, -1, 63, 64, -64, -65, 8191, 8192, 1 << 40, least, most, -1 << 55}
	w := pack.New()
	for _, n := range l {
		w.Int(n).Text(strings.Repeat("z", int(uint64(n)%200)))
	}
	b := w.Done()
	r, again := pack.Open(b), pack.New()
	for _, n := range l {
		m, s := r.Int(least, most), r.Text(200)
		if m != n || len(s) != int(uint64(n)%200) {
			t.Error("there and back", n, m, s)
		}
		again.Int(m).Text(s)
	}
	if r.End() != api.OK || !bytes.Equal(again.Done(), b) {
		t.Error("the end", r.End())
	}
	for x := range 1 << 16 { // whatever is read with no error is what would be written
		b := []byte{byte(x >> 8), byte(x)}
		r := pack.Open(b)
		if n := r.Int(least, most); r.End() == api.OK && !bytes.Equal(pack.New().Int(n).Done(), b) {
			t.Errorf("%x", b)
		}
	}
}
