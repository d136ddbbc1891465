// Package field tells of which numbers a command's fields consist, each of which is a letter (layer 34).
package field

import "novation/api"

// Numbers is the field that is a list.
const Numbers = 'N'

// Singles are all other fields.
const Singles = "MUOIATDQP"

const (
	mostId   = 1 << 20
	mostPart = 16 // of a unit's Account and Client
)

// Slot is a number of a command: a small one, from 0 to the most it may be, or a long one, which may be any.
type Slot struct {
	small *int
	most  int
	long  *int64
}

// Fits tells whether it is one that may be.
func (s Slot) Fits() bool { return s.small == nil || *s.small >= 0 && *s.small <= s.most }

// Value answers the number.
func (s Slot) Value() int64 {
	if s.small == nil {
		return *s.long
	}
	return int64(*s.small)
}

// Put has the command have another number there.
func (s Slot) Put(n int64) {
	if s.small == nil {
		*s.long = n
	} else {
		*s.small = int(n)
	}
}

func unit(u *api.Unit) []Slot {
	return []Slot{{small: &u.Account, most: mostPart}, {small: &u.Client, most: mostPart}}
}

// Slots answers the numbers that a field of a command is; none of a list.
func Slots(c *api.Command, field rune) []Slot {
	switch field {
	case 'M':
		return []Slot{{small: &c.Member, most: api.MaxMembers}}
	case 'U':
		return unit(&c.Unit)
	case 'O':
		return unit(&c.Other)
	case 'I':
		return []Slot{{small: &c.Inst, most: api.MaxInsts}}
	case 'A':
		return []Slot{{small: &c.Asset, most: api.MaxAssets}}
	case 'T':
		return []Slot{{small: &c.Tag, most: api.MaxTag}}
	case 'D':
		return []Slot{{small: &c.Id, most: mostId}}
	case 'Q':
		return []Slot{{long: &c.Qty}}
	case 'P':
		return []Slot{{long: &c.Price}}
	}
	return nil
}
