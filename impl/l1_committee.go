package impl

// MaxMembers is the largest number of members of a committee.
const MaxMembers = 7

// MaxWeight is the largest weight of a member.
const MaxWeight = 9

// committee is a list of the weights of members. Only valid and hasMembers may be asked of an invalid one.
type committee []int

func (c committee) valid() bool {
	if len(c) < 1 || len(c) > MaxMembers {
		return false
	}
	for _, weight := range c {
		if weight < 1 || weight > MaxWeight {
			return false
		}
	}
	return true
}

func (c committee) total() int {
	sum := 0
	for _, weight := range c {
		sum += weight
	}
	return sum
}

// faults subtracts one before it divides, because exactly a third is not less than a third.
func (c committee) faults() int {
	return (c.total() - 1) / 3
}

// quorum adds one after it divides, because exactly two thirds are not more than two thirds.
func (c committee) quorum() int {
	return 2*c.total()/3 + 1
}

// support is not always faults plus one: if the total is divisible by 3, a third itself lies between them.
func (c committee) support() int {
	return c.total()/3 + 1
}

// hasMembers needs no limit on the number of members: ascending ones of a committee cannot be too many.
func (c committee) hasMembers(members []int) bool {
	previous := -1
	for _, member := range members {
		if member <= previous || member >= len(c) {
			return false
		}
		previous = member
	}
	return true
}

func (c committee) weight(members []int) int {
	sum := 0
	for _, member := range members {
		sum += c[member]
	}
	return sum
}

// isQuorum asks first whether members are a set, because only a set has a weight.
func (c committee) isQuorum(members []int) bool {
	return c.hasMembers(members) && c.weight(members) >= c.quorum()
}

// CommitteeValid reports whether c is a valid committee, a list of weights.
func CommitteeValid(c []int) bool {
	return committee(c).valid()
}

// CommitteeTotal returns the total weight, or -1 if c is invalid.
func CommitteeTotal(c []int) int {
	if !CommitteeValid(c) {
		return -1
	}
	return committee(c).total()
}

// CommitteeFaults returns the largest weight that is less than a third of the total, or -1 if c is invalid.
func CommitteeFaults(c []int) int {
	if !CommitteeValid(c) {
		return -1
	}
	return committee(c).faults()
}

// CommitteeQuorum returns the smallest weight that is more than two thirds of the total, or -1 if c is invalid.
func CommitteeQuorum(c []int) int {
	if !CommitteeValid(c) {
		return -1
	}
	return committee(c).quorum()
}

// CommitteeSupport returns the smallest weight that is more than a third of the total, or -1 if c is invalid.
func CommitteeSupport(c []int) int {
	if !CommitteeValid(c) {
		return -1
	}
	return committee(c).support()
}

// MembersValid reports whether c is valid and members is a set of its members.
func MembersValid(c []int, members []int) bool {
	return committee(c).valid() && committee(c).hasMembers(members)
}

// MembersWeight returns the weight of a set of members, or -1 if MembersValid fails.
func MembersWeight(c []int, members []int) int {
	if !MembersValid(c, members) {
		return -1
	}
	return committee(c).weight(members)
}
