// Package dup answers things again, in memory of their own.
package dup

import (
	"slices"

	"novation/api"
)

// each answers a list of things, each of which has memory of its own.
func each[T any](l []T, one func(T) T) []T {
	out := make([]T, 0, len(l))
	for _, x := range l {
		out = append(out, one(x))
	}
	return out
}

// Inst answers an instrument again.
func Inst(i api.Inst) api.Inst {
	i.Moves = slices.Clone(i.Moves)
	return i
}

// Account answers an account again.
func Account(a api.Account) api.Account {
	a.Clients = slices.Clone(a.Clients)
	return a
}

// Pos answers a position again.
func Pos(p api.Pos) api.Pos {
	p.Legs = slices.Clone(p.Legs)
	return p
}

// Hold answers a hold again.
func Hold(h api.Hold) api.Hold {
	h.Lots = slices.Clone(h.Lots)
	return h
}

// Insts answers instruments again.
func Insts(l []api.Inst) []api.Inst { return each(l, Inst) }

// Accounts answers accounts again.
func Accounts(l []api.Account) []api.Account { return each(l, Account) }

// Book answers positions again.
func Book(l []api.Pos) []api.Pos { return each(l, Pos) }

// Holds answers holds again.
func Holds(l []api.Hold) []api.Hold { return each(l, Hold) }

// State answers a state again.
func State(s api.State) api.State {
	s.Members = slices.Clone(s.Members)
	s.Insts = Insts(s.Insts)
	s.Assets = slices.Clone(s.Assets)
	s.Accounts = Accounts(s.Accounts)
	s.Choices = slices.Clone(s.Choices)
	s.Groups = slices.Clone(s.Groups)
	s.Gives = slices.Clone(s.Gives)
	s.Book = Book(s.Book)
	s.Sale = Book(s.Sale)
	s.Purse = slices.Clone(s.Purse)
	s.Holds = Holds(s.Holds)
	return s
}
