package frame_test

import (
	"bytes"
	"testing"

	"novation/api"
	"novation/crc"
	"novation/frame"
)

func data(n int) []byte {
	b := make([]byte, n)
	for i := range b {
		b[i] = byte(i*7 + 1)
	}
	return b
}

// record answers what all parts of one record have alike.
func record(f frame.Frame) [4]int { return [4]int{f.Life, f.Era, f.Seq, f.Parts} }

func like(a, b frame.Frame) bool {
	return record(a) == record(b) && a.Part == b.Part && bytes.Equal(a.Data, b.Data)
}

func TestP7_1_Encode(t *testing.T) {
	b, e := frame.Encode(frame.Frame{0x010203, 0x040506, 0x0708090a, 0x0b, 0x0c, []byte("xyz")})
	want := append([]byte{1, 2, 3, 4, 5, 6, 7, 8, 9, 10, 11, 12, 3, 'x', 'y', 'z'}, make([]byte, 77)...)
	if e != api.OK || !bytes.Equal(b, crc.Seal(want)) || len(b) != api.Cell {
		t.Errorf("%x %d", b, e)
	}
	wide := frame.Frame{Life: 0x010203, Era: 0x040506, Seq: 0x0708090a, Part: 0x0b, Parts: 0x0c, Data: []byte("xyz")}
	if f, e := frame.Decode(b); e != api.OK || !like(f, wide) {
		t.Error("there and back", f, e)
	}
	fine := []frame.Frame{{1, 0, 1, 0, 1, nil}, {1<<24 - 1, 1<<24 - 1, 1<<32 - 1, 254, 255, data(80)}}
	for _, f := range fine {
		b, e := frame.Encode(f)
		if x, g := frame.Decode(b); e != api.OK || g != api.OK || len(b) != api.Cell || !like(x, f) {
			t.Error(f, e, g)
		}
	}
	for _, f := range []frame.Frame{
		{0, 0, 1, 0, 1, nil}, {-1, 0, 1, 0, 1, nil}, {1 << 24, 0, 1, 0, 1, nil}, {1, -1, 1, 0, 1, nil}, {1, 1 << 24, 1, 0, 1, nil},
		{1, 0, 0, 0, 1, nil}, {1, 0, 1 << 32, 0, 1, nil}, {1, 0, 1, 0, 0, nil}, {1, 0, 1, 0, 256, nil}, {1, 0, 1, -1, 1, nil},
		{1, 0, 1, 1, 1, nil}, {1, 0, 1, 0, 1, data(81)}, {},
	} {
		if b, e := frame.Encode(f); e != api.ErrArg || len(b) > 0 {
			t.Error(f, b, e)
		}
	}
}

func TestP7_1_Decode(t *testing.T) {
	good, _ := frame.Encode(frame.Frame{5, 0, 7, 1, 2, data(9)})
	if f, e := frame.Decode(good); e != api.OK || !like(f, frame.Frame{5, 0, 7, 1, 2, data(9)}) {
		t.Error(f, e)
	}
	seal := func(change func(b []byte)) []byte {
		b := bytes.Clone(good[:93])
		change(b)
		return crc.Seal(b)
	}
	for i, b := range [][]byte{
		nil, good[:95], append(bytes.Clone(good), 0), make([]byte, api.Cell),
		seal(func(b []byte) { b[2] = 0 }), seal(func(b []byte) { b[9] = 0 }), seal(func(b []byte) { b[10] = 2 }),
		seal(func(b []byte) { b[11] = 0 }), seal(func(b []byte) { b[12] = 81 }), seal(func(b []byte) { b[12] = 255 }),
		seal(func(b []byte) { b[92] = 1 }), seal(func(b []byte) { b[12] = 8 }),
	} {
		if f, e := frame.Decode(b); e != api.ErrForm || !like(f, frame.Frame{}) {
			t.Error(i, f, e)
		}
	}
	for i := range good {
		b := bytes.Clone(good)
		b[i] ^= 4
		if f, e := frame.Decode(b); e != api.ErrForm || !like(f, frame.Frame{}) {
			t.Error("changed at", i, f, e)
		}
	}
}

func frames(t *testing.T, l [][]byte) []frame.Frame {
	t.Helper()
	var out []frame.Frame
	for _, b := range l {
		f, e := frame.Decode(b)
		if e != api.OK {
			t.Fatal(e)
		}
		out = append(out, f)
	}
	return out
}

func TestP7_2_P7_3(t *testing.T) {
	for _, n := range []int{0, 1, 79, 80, 81, 100, 160, 161, 255 * 80} {
		l, e := frame.Cut(3, 4, 5, data(n))
		if want := max(1, (n+79)/80); e != api.OK || len(l) != want {
			t.Error("Cut", n, len(l), e)
		}
		fs := frames(t, l)
		if b, ok := frame.Join(fs); !ok || !bytes.Equal(b, data(n)) {
			t.Error("Join", n, ok)
		}
		for i, f := range fs {
			if record(f) != [4]int{3, 4, 5, len(l)} || f.Part != i || len(f.Data) != min(80, n-80*i) {
				t.Error("frame", i, f)
			}
			if b, e := frame.Encode(f); e != api.OK || !bytes.Equal(b, l[i]) {
				t.Error("there and back", i)
			}
		}
	}
	for _, c := range []struct {
		life, era, seq, n int
		e                 api.Errno
	}{{1, 0, 1, 255*80 + 1, api.ErrBig}, {0, 0, 0, 255*80 + 1, api.ErrBig}, {0, 0, 1, 3, api.ErrArg}, {1, -1, 1, 3, api.ErrArg}, {1, 0, 0, 3, api.ErrArg}} {
		if l, e := frame.Cut(c.life, c.era, c.seq, data(c.n)); e != c.e || len(l) > 0 {
			t.Error("Cut", c, e)
		}
	}
}

func TestP7_2_Join(t *testing.T) {
	whole := func() []frame.Frame {
		l, _ := frame.Cut(3, 4, 5, data(170))
		return frames(t, l)
	}
	for i, change := range []func(l []frame.Frame) []frame.Frame{
		func(l []frame.Frame) []frame.Frame { return nil },
		func(l []frame.Frame) []frame.Frame { return l[:2] },
		func(l []frame.Frame) []frame.Frame { return l[1:] },
		func(l []frame.Frame) []frame.Frame { return append(l, l[2]) },
		func(l []frame.Frame) []frame.Frame { l[0], l[1] = l[1], l[0]; return l },
		func(l []frame.Frame) []frame.Frame { l[1].Life++; return l },
		func(l []frame.Frame) []frame.Frame { l[1].Era++; return l },
		func(l []frame.Frame) []frame.Frame { l[1].Seq++; return l },
		func(l []frame.Frame) []frame.Frame { l[1].Parts++; return l },
		func(l []frame.Frame) []frame.Frame { l[1].Data = l[1].Data[:79]; return l },
		func(l []frame.Frame) []frame.Frame { l[2].Data = data(81); return l },
		func(l []frame.Frame) []frame.Frame { l[0].Life, l[1].Life, l[2].Life = 0, 0, 0; return l },
	} {
		if b, ok := frame.Join(change(whole())); ok || len(b) > 0 {
			t.Error(i, b, ok)
		}
	}
	if b, ok := frame.Join([]frame.Frame{{1, 0, 1, 0, 2, data(80)}, {1, 0, 1, 1, 2, nil}}); !ok || len(b) != 80 {
		t.Error("the last one may be empty")
	}
}
