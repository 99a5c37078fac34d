package rules

import (
	"slices"

	"quaestor/api"
	"quaestor/ops"
	"quaestor/store"
	"quaestor/trace"
)

// part is what one of the roles has done in a validation: on a World, which is not changed any more.
type part struct {
	*store.World
	user    api.UserOp
	role    uint8
	staked  [4]bool
	loose   []int // indices of events
	starved []int
	making  int // the index of the creation that may make the sender; -1: there is none
	belongs func(a api.Address, slot api.Word) bool
}

// broken are the rules that the role's events violate.
func (p *part) broken(l []api.Event) []api.Broken {
	p.loose, p.starved = trace.Loose(l), trace.Starved(l)
	p.making, p.belongs = p.maker(l), owner(l)
	var found []api.Broken
	for i, e := range l {
		for _, rule := range (step{e, p, i}).violates() {
			found = append(found, api.Broken{Rule: rule, Role: p.role, At: i})
		}
	}
	return found
}

// maker is the index of the creation that may make the sender. Only a factory may do that, and only with a salt: a nonce could be another one by then.
func (p *part) maker(l []api.Event) int {
	if p.role != api.RoleFactory {
		return -1
	}
	return slices.IndexFunc(l, func(e api.Event) bool { return e.Op == ops.Create2 && e.Fault == api.OK })
}

// owner makes what says whether a slot is associated with an address. It looks at hashes alone, as other events are many and tell nothing of that.
func owner(l []api.Event) func(a api.Address, slot api.Word) bool {
	var hashes []api.Event
	for _, e := range l {
		if e.Op == ops.Keccak256 {
			hashes = append(hashes, e)
		}
	}
	return func(a api.Address, slot api.Word) bool { return trace.Belongs(hashes, a, slot) }
}

// isStaked says whether the role is.
func (p *part) isStaked() bool { return p.staked[p.role] }
