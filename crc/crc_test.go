package crc_test

import (
	"bytes"
	"testing"

	"novation/crc"
)

func TestP5_1(t *testing.T) {
	for _, c := range []struct {
		s    string
		want uint32
	}{{"123456789", 0x21cf02}, {"", 0xb704ce}} {
		if crc.Of([]byte(c.s)) != c.want {
			t.Errorf("%q: %x", c.s, crc.Of([]byte(c.s)))
		}
	}
	if crc.More(0xff000001, nil) != 1 || crc.More(0xff000001, []byte("a")) != crc.More(1, []byte("a")) {
		t.Error("more than 24 bits")
	}
	if crc.More(0, []byte{1}) != 0x864cfb {
		t.Errorf("%x", crc.More(0, []byte{1}))
	}
}

func TestP5_2(t *testing.T) {
	b := []byte("123456789")
	s := crc.Seal(b)
	if string(s) != "123456789\x21\xcf\x02" || string(b) != "123456789" {
		t.Errorf("%x", s)
	}
	if o, ok := crc.Open(s); !ok || !bytes.Equal(o, b) {
		t.Error(o, ok)
	}
	s[0]++
	if o, ok := crc.Open(s); ok || string(o) != "223456789" {
		t.Error(o, ok)
	}
	for _, s := range []string{"", "a", "ab"} {
		if o, ok := crc.Open([]byte(s)); ok || len(o) > 0 {
			t.Error(s, o, ok)
		}
	}
	if o, ok := crc.Open(crc.Seal(nil)); !ok || len(o) != 0 {
		t.Error("nothing, sealed")
	}
	if o, ok := crc.Open([]byte("abc")); ok || len(o) != 0 {
		t.Error("nothing, not sealed", o)
	}
}

func TestP5_3(t *testing.T) {
	b := []byte("who has it, and who had it")
	for i := range b {
		if crc.More(crc.Of(b[:i]), b[i:]) != crc.Of(b) {
			t.Error("More does not go on", i)
		}
	}
	for i := range len(b) - 2 {
		for x := 1; x < 1<<24; x += 65521 {
			s := crc.Seal(b)
			s[i] ^= byte(x)
			s[i+1] ^= byte(x >> 8)
			s[i+2] ^= byte(x >> 16)
			if _, ok := crc.Open(s); ok {
				t.Error("changed, and opened", i, x)
			}
		}
	}
}
