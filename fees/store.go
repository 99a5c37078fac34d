package fees

import "quaestor/api"

const (
	reachCost  = 100   // of any storing
	coldCost   = 2100  // on top, for a slot that the transaction has not reached before
	fillCost   = 20000 // of the first change of a slot that had nothing
	changeCost = 2900  // of the first change of any other slot
	clearing   = 4800  // given back for a slot that has nothing any more
)

// Store is what it costs to store a word, and what is given back of it; below 0: what is taken back of that.
func Store(original, current, next api.Word, cold bool) (uint64, int64) {
	cost := int64(reachCost)
	if next != current && current == original {
		cost = firstCost(original)
	}
	if cold {
		cost += coldCost
	}
	return uint64(cost), refund(original, current, next)
}

// firstCost is what the first change of a slot in a transaction costs.
func firstCost(original api.Word) int64 {
	if original == (api.Word{}) {
		return fillCost
	}
	return changeCost
}

func refund(original, current, next api.Word) int64 {
	if next == current {
		return 0
	}
	var sum int64
	if original != (api.Word{}) {
		sum += cleared(next) - cleared(current)
	}
	if next == original {
		sum += firstCost(original) - reachCost // it comes out as if nothing had been changed
	}
	return sum
}

// cleared is what a slot's value gives back, if there was another one at first.
func cleared(value api.Word) int64 {
	if value == (api.Word{}) {
		return clearing
	}
	return 0
}
