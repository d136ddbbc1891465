// Package units tells units and accounts of one another, which several layers ask.
package units

import (
	"novation/acct"
	"novation/api"
	"novation/table"
)

// Of answers all units of a member's accounts, in order of accounts and units.
func Of(l []api.Account, member int) []api.Unit { return All(acct.Of(l, member)) }

// All answers all units of accounts, in order.
func All(l []api.Account) []api.Unit {
	var out []api.Unit
	for _, a := range l {
		out = append(out, acct.Units(a)...)
	}
	return out
}

// Account answers the account that has a unit, and whether there is one.
func Account(l []api.Account, u api.Unit) (api.Account, bool) {
	return table.Find(l, func(a api.Account) bool { return acct.Has(a, u) })
}
