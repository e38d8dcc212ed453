// Package conf is layer 1: see shared/doc/01-conf.md.
package conf

import "socage/api"

// slots stand by classes.
var slots = [api.Classes]int{1, 2, 4}

// Slots is how many a cell of a class has.
func Slots(class int) int {
	if !within(class, 0, api.Classes-1) {
		return 0
	}
	return slots[class]
}

// Size is how many words it has.
func Size(class int) int {
	if !within(class, 0, api.Classes-1) {
		return 0
	}
	return 1 + slots[class]
}

// Right tells whether it may be a configuration.
func Right(l []api.Share) bool {
	if !within(len(l), 1, api.MaxTenants) {
		return false
	}
	for _, s := range l {
		if !mayBe(s) {
			return false
		}
	}
	return true
}

// Count is how many cells a share has.
func Count(s api.Share) int {
	if !mayBe(s) {
		return 0
	}
	n := 0
	for class := range api.Classes {
		n += s.Cells[class]
	}
	return n
}

// Class is that of a cell.
func Class(s api.Share, cell int) int {
	class, _ := find(s, cell)
	return class
}

// At is the place of a cell's header.
func At(s api.Share, cell int) int {
	_, at := find(s, cell)
	return at
}

// Words is how many a share has.
func Words(s api.Share) int {
	if !mayBe(s) {
		return 0
	}
	n := 0
	for class := range api.Classes {
		n += s.Cells[class] * Size(class)
	}
	return n
}

// Base is the place of a tenant's first word.
func Base(l []api.Share, tenant int) int {
	if !Right(l) || !within(tenant, 1, len(l)) {
		return -1
	}
	base := 0
	for i := range tenant - 1 {
		base += Words(l[i])
	}
	return base
}

func within(n, least, greatest int) bool {
	return least <= n && n <= greatest
}

func mayBe(s api.Share) bool {
	for class := range api.Classes {
		if !within(s.Cells[class], 0, api.MaxCells) {
			return false
		}
	}
	return within(s.Quota, 0, api.MaxQuota) && within(s.Start, 1, api.MaxGen-1)
}

// find is a cell's class, and the place of its header: one walk tells both, so that they can't fall apart. Both are -1 if there is no such cell.
func find(s api.Share, cell int) (int, int) {
	if !mayBe(s) || cell < 0 {
		return -1, -1
	}
	first := 0
	for class := range api.Classes {
		if cell < s.Cells[class] {
			return class, first + cell*Size(class)
		}
		cell -= s.Cells[class]
		first += s.Cells[class] * Size(class)
	}
	return -1, -1
}
