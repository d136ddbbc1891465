// Package row reads the frames of one record, which stand in a row on a drive.
package row

import (
	"novation/api"
	"novation/drive"
	"novation/frame"
)

// Frame answers the frame that a sector is, and whether it is one.
func Frame(d *drive.Drive, at int) (frame.Frame, bool) {
	b, e := d.Read(at)
	if e != api.OK {
		return frame.Frame{}, false
	}
	f, e := frame.Decode(b)
	return f, e == api.OK
}

// Read answers what the frames from a sector on are as one, the first of them, and whether they are one that ends by to.
func Read(d *drive.Drive, at, to int) ([]byte, frame.Frame, bool) {
	if at >= to {
		return nil, frame.Frame{}, false
	}
	first, ok := Frame(d, at)
	if !ok || first.Parts > to-at {
		return nil, frame.Frame{}, false
	}
	l := []frame.Frame{first}
	for i := 1; i < first.Parts; i++ {
		f, ok := Frame(d, at+i)
		if !ok {
			return nil, frame.Frame{}, false
		}
		l = append(l, f)
	}
	b, ok := frame.Join(l)
	if !ok {
		return nil, frame.Frame{}, false
	}
	return b, first, true
}
