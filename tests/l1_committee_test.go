package tests

import (
	"math"
	"slices"
	"testing"

	"loop.example/dagconsensus/impl"
)

// addCommittees appends all committees that continue start up to a number of members; with rising, only those whose weights never decrease.
func addCommittees(list [][]int, start []int, most int, rising bool) [][]int {
	if len(start) > 0 {
		list = append(list, slices.Clone(start))
	}
	if len(start) == most {
		return list
	}
	least := 1
	if rising && len(start) > 0 {
		least = start[len(start)-1]
	}
	for weight := least; weight <= impl.MaxWeight; weight++ {
		list = addCommittees(list, append(slices.Clone(start), weight), most, rising)
	}
	return list
}

// manyCommittees has all committees of up to 4 members and, of up to MaxMembers, one for each choice of weights.
func manyCommittees() [][]int {
	return addCommittees(addCommittees(nil, nil, 4, false), nil, impl.MaxMembers, true)
}

// fewCommittees has equal, unequal, smallest and largest committees, with totals of each remainder modulo 3.
func fewCommittees() [][]int {
	return [][]int{
		{1}, {2}, {3}, {9}, {1, 1}, {1, 9}, {9, 9}, {1, 1, 1}, {2, 3, 1}, {1, 1, 9}, {3, 3, 3},
		{1, 1, 1, 1}, {2, 1, 1, 1}, {9, 1, 1, 1}, {9, 5, 3, 1}, {1, 1, 1, 1, 1}, {1, 2, 3, 4, 5}, {5, 5, 5, 5, 1},
		{1, 1, 1, 1, 1, 1}, {6, 1, 5, 2, 4, 3}, {1, 1, 1, 1, 1, 1, 1}, {9, 9, 9, 9, 9, 9, 9},
		{1, 2, 3, 4, 5, 6, 7}, {9, 8, 7, 6, 5, 4, 3}, {1, 1, 1, 1, 1, 1, 9}, {9, 9, 9, 9, 9, 9, 8}, {2, 2, 2, 2, 2, 2, 2},
	}
}

// invalidCommittees has lists without members, with too many, and with a weight out of range at each position.
func invalidCommittees() [][]int {
	list := [][]int{nil, {}, {1, 1, 1, 1, 1, 1, 1, 1}, {9, 9, 9, 9, 9, 9, 9, 9}, make([]int, 1000), {-3, 9}, {10, 10, 10}}
	for size := 1; size <= impl.MaxMembers; size++ {
		for i := range size {
			for _, weight := range []int{0, -1, -9, impl.MaxWeight + 1, 100, math.MaxInt, math.MinInt} {
				c := slices.Repeat([]int{1}, size)
				c[i] = weight
				list = append(list, c)
			}
		}
	}
	return list
}

// subset returns the members, below a number, whose bits are set in a mask.
func subset(size int, mask int) []int {
	members := []int{}
	for member := range size {
		if mask>>member&1 == 1 {
			members = append(members, member)
		}
	}
	return members
}

// subsetWeights returns, for each mask, what MembersWeight returns.
func subsetWeights(c []int) []int {
	weights := []int{}
	for mask := range 1 << len(c) {
		weights = append(weights, impl.MembersWeight(c, subset(len(c), mask)))
	}
	return weights
}

// sumOf adds weights up without the program.
func sumOf(c []int) int {
	sum := 0
	for _, weight := range c {
		sum += weight
	}
	return sum
}

func TestCommitteeValid(t *testing.T) {
	for _, c := range manyCommittees() {
		if !impl.CommitteeValid(c) {
			t.Fatalf("%v is invalid", c)
		}
	}
	for _, c := range fewCommittees() {
		if !impl.CommitteeValid(c) {
			t.Errorf("%v is invalid", c)
		}
	}
	for _, c := range invalidCommittees() {
		if impl.CommitteeValid(c) {
			t.Errorf("%v is valid", c)
		}
	}
}

func TestInvalidCommitteeHasNoWeights(t *testing.T) {
	for _, c := range invalidCommittees() {
		if n := impl.CommitteeTotal(c); n != -1 {
			t.Errorf("the total of %v is %d", c, n)
		}
		if n := impl.CommitteeFaults(c); n != -1 {
			t.Errorf("the faults of %v are %d", c, n)
		}
		if n := impl.CommitteeQuorum(c); n != -1 {
			t.Errorf("the quorum of %v is %d", c, n)
		}
		if n := impl.CommitteeSupport(c); n != -1 {
			t.Errorf("the support of %v is %d", c, n)
		}
		for _, members := range [][]int{nil, {}, {0}, {0, 1}, {-1}} {
			if impl.MembersValid(c, members) {
				t.Errorf("%v is a set of members of %v", members, c)
			}
			if n := impl.MembersWeight(c, members); n != -1 {
				t.Errorf("the weight of %v in %v is %d", members, c, n)
			}
		}
	}
}

// The expected weights are worked out by hand from the fractions.
func TestRoundingOfThirds(t *testing.T) {
	for _, x := range []struct {
		c                              []int
		total, faults, quorum, support int
	}{
		{[]int{1}, 1, 0, 1, 1},
		{[]int{2}, 2, 0, 2, 1},
		{[]int{3}, 3, 0, 3, 2},
		{[]int{1, 1, 1}, 3, 0, 3, 2},
		{[]int{1, 1, 1, 1}, 4, 1, 3, 2},
		{[]int{2, 1, 1, 1}, 5, 1, 4, 2},
		{[]int{1, 1, 1, 1, 1, 1}, 6, 1, 5, 3},
		{[]int{1, 1, 1, 1, 1, 1, 1}, 7, 2, 5, 3},
		{[]int{4, 4}, 8, 2, 6, 3},
		{[]int{9}, 9, 2, 7, 4},
		{[]int{9, 1}, 10, 3, 7, 4},
		{[]int{9, 9, 9, 9, 9, 9, 7}, 61, 20, 41, 21},
		{[]int{9, 9, 9, 9, 9, 9, 8}, 62, 20, 42, 21},
		{[]int{9, 9, 9, 9, 9, 9, 9}, 63, 20, 43, 22},
	} {
		if n := impl.CommitteeTotal(x.c); n != x.total {
			t.Errorf("the total of %v is %d, not %d", x.c, n, x.total)
		}
		if n := impl.CommitteeFaults(x.c); n != x.faults {
			t.Errorf("the faults of %v are %d, not %d", x.c, n, x.faults)
		}
		if n := impl.CommitteeQuorum(x.c); n != x.quorum {
			t.Errorf("the quorum of %v is %d, not %d", x.c, n, x.quorum)
		}
		if n := impl.CommitteeSupport(x.c); n != x.support {
			t.Errorf("the support of %v is %d, not %d", x.c, n, x.support)
		}
	}
}

func TestPromise1TotalIsTheWeightOfAllMembers(t *testing.T) {
	for _, c := range manyCommittees() {
		all := subset(len(c), 1<<len(c)-1)
		total := impl.CommitteeTotal(c)
		if total != sumOf(c) || total != impl.MembersWeight(c, all) {
			t.Fatalf("the total of %v is %d", c, total)
		}
	}
}

func TestPromise2FaultsAreLessThanAThird(t *testing.T) {
	for _, c := range manyCommittees() {
		total, faults := sumOf(c), impl.CommitteeFaults(c)
		if 3*faults >= total || 3*(faults+1) < total {
			t.Fatalf("the faults of %v are %d", c, faults)
		}
	}
}

func TestPromise3QuorumIsMoreThanTwoThirds(t *testing.T) {
	for _, c := range manyCommittees() {
		total, quorum := sumOf(c), impl.CommitteeQuorum(c)
		if 3*quorum <= 2*total || 3*(quorum-1) > 2*total || quorum != total-impl.CommitteeFaults(c) {
			t.Fatalf("the quorum of %v is %d", c, quorum)
		}
	}
}

func TestPromise4SupportIsMoreThanAThird(t *testing.T) {
	for _, c := range manyCommittees() {
		total, support := sumOf(c), impl.CommitteeSupport(c)
		if 3*support <= total || 3*(support-1) > total || support <= impl.CommitteeFaults(c) {
			t.Fatalf("the support of %v is %d", c, support)
		}
	}
}

func TestPromise5QuorumsShareACorrectMember(t *testing.T) {
	for _, c := range fewCommittees() {
		weights, quorum, faults := subsetWeights(c), impl.CommitteeQuorum(c), impl.CommitteeFaults(c)
		if weights[len(weights)-1] < quorum {
			t.Errorf("all members of %v are no quorum", c)
		}
		for a := range weights {
			for b := range weights {
				if weights[a] >= quorum && weights[b] >= quorum && weights[a&b] <= faults {
					t.Errorf("in %v, %v and %v share too little", c, subset(len(c), a), subset(len(c), b))
				}
			}
		}
	}
}

func TestPromise6QuorumMeetsSupport(t *testing.T) {
	for _, c := range fewCommittees() {
		weights, quorum, support := subsetWeights(c), impl.CommitteeQuorum(c), impl.CommitteeSupport(c)
		if weights[len(weights)-1] < support {
			t.Errorf("all members of %v are no support", c)
		}
		for a := range weights {
			for b := range weights {
				if weights[a] >= quorum && weights[b] >= support && a&b == 0 {
					t.Errorf("in %v, %v and %v share nobody", c, subset(len(c), a), subset(len(c), b))
				}
			}
		}
	}
}

func TestPromise7WeightsAddUp(t *testing.T) {
	for _, c := range fewCommittees() {
		weights := subsetWeights(c)
		for a := range weights {
			for b := range weights {
				if weights[a]+weights[b] != weights[a|b]+weights[a&b] {
					t.Errorf("in %v, the weights of %v and %v do not add up", c, subset(len(c), a), subset(len(c), b))
				}
			}
		}
	}
}

func TestMembersWeight(t *testing.T) {
	for _, x := range []struct {
		c, members []int
		weight     int
	}{
		{[]int{1}, nil, 0},
		{[]int{1}, []int{}, 0},
		{[]int{1}, []int{0}, 1},
		{[]int{9}, []int{0}, 9},
		{[]int{2, 3, 1}, []int{}, 0},
		{[]int{2, 3, 1}, []int{0}, 2},
		{[]int{2, 3, 1}, []int{1}, 3},
		{[]int{2, 3, 1}, []int{2}, 1},
		{[]int{2, 3, 1}, []int{0, 2}, 3},
		{[]int{2, 3, 1}, []int{1, 2}, 4},
		{[]int{2, 3, 1}, []int{0, 1, 2}, 6},
		{[]int{1, 2, 3, 4, 5, 6, 7}, []int{0, 6}, 8},
		{[]int{1, 2, 3, 4, 5, 6, 7}, []int{1, 3, 5}, 12},
		{[]int{9, 9, 9, 9, 9, 9, 9}, []int{0, 1, 2, 3, 4, 5, 6}, 63},
	} {
		if !impl.MembersValid(x.c, x.members) {
			t.Errorf("%v is no set of members of %v", x.members, x.c)
		}
		if n := impl.MembersWeight(x.c, x.members); n != x.weight {
			t.Errorf("the weight of %v in %v is %d, not %d", x.members, x.c, n, x.weight)
		}
	}
}

func TestInvalidMembers(t *testing.T) {
	for _, x := range []struct{ c, members []int }{
		{[]int{1}, []int{1}},
		{[]int{1}, []int{0, 0}},
		{[]int{1}, []int{0, 1}},
		{[]int{1, 1, 1, 1}, []int{-1}},
		{[]int{1, 1, 1, 1}, []int{-1, 0}},
		{[]int{1, 1, 1, 1}, []int{-2, -1}},
		{[]int{1, 1, 1, 1}, []int{4}},
		{[]int{1, 1, 1, 1}, []int{0, 4}},
		{[]int{1, 1, 1, 1}, []int{0, 1, 2, 3, 4}},
		{[]int{1, 1, 1, 1}, []int{1, 1}},
		{[]int{1, 1, 1, 1}, []int{1, 0}},
		{[]int{1, 1, 1, 1}, []int{0, 2, 1}},
		{[]int{1, 1, 1, 1}, []int{3, 2, 1, 0}},
		{[]int{1, 1, 1, 1}, []int{0, 1, 2, 3, 3}},
		{[]int{1, 1, 1, 1}, []int{0, 1, 0}},
		{[]int{1, 1, 1, 1}, []int{math.MinInt}},
		{[]int{1, 1, 1, 1}, []int{math.MaxInt}},
		{[]int{1, 1, 1, 1}, []int{math.MinInt, math.MaxInt}},
		{[]int{1, 1, 1, 1, 1, 1, 1}, []int{7}},
		{[]int{1, 1, 1, 1, 1, 1, 1}, []int{0, 1, 2, 3, 4, 5, 6, 7}},
		{[]int{9, 9, 9, 9, 9, 9, 9}, make([]int, 1000)},
	} {
		if impl.MembersValid(x.c, x.members) {
			t.Errorf("%v is a set of members of %v", x.members, x.c)
		}
		if n := impl.MembersWeight(x.c, x.members); n != -1 {
			t.Errorf("the weight of %v in %v is %d", x.members, x.c, n)
		}
	}
}

func TestPromise8SetWithoutAndWithRepeatedMember(t *testing.T) {
	for _, c := range fewCommittees() {
		for mask := range 1 << len(c) {
			members := subset(len(c), mask)
			if !impl.MembersValid(c, members) {
				t.Errorf("%v is no set of members of %v", members, c)
			}
			for i, member := range members {
				without := slices.Delete(slices.Clone(members), i, i+1)
				if !impl.MembersValid(c, without) || impl.MembersWeight(c, without) != impl.MembersWeight(c, members)-c[member] {
					t.Errorf("%v is no set of members of %v, or has another weight", without, c)
				}
				beside := slices.Insert(slices.Clone(members), i, member)
				last := append(slices.Clone(members), member)
				if impl.MembersValid(c, beside) || impl.MembersValid(c, last) {
					t.Errorf("%v or %v is a set of members of %v", beside, last, c)
				}
			}
		}
	}
}

func TestPromise9CommitteeWithoutAMemberAndWithoutAWeight(t *testing.T) {
	for _, c := range manyCommittees() {
		for i := range c {
			without := slices.Delete(slices.Clone(c), i, i+1)
			if impl.CommitteeValid(without) != (len(c) > 1) {
				t.Fatalf("%v, without a member, is %v", c, without)
			}
			zero := slices.Clone(c)
			zero[i] = 0
			if impl.CommitteeValid(zero) || impl.CommitteeTotal(zero) != -1 {
				t.Fatalf("%v is valid", zero)
			}
		}
	}
}

func TestCommitteeArgumentsAreUnchanged(t *testing.T) {
	c, members := []int{9, 5, 3, 1}, []int{1, 3}
	impl.CommitteeValid(c)
	impl.CommitteeTotal(c)
	impl.CommitteeFaults(c)
	impl.CommitteeQuorum(c)
	impl.CommitteeSupport(c)
	impl.MembersValid(c, members)
	impl.MembersWeight(c, members)
	if !slices.Equal(c, []int{9, 5, 3, 1}) || !slices.Equal(members, []int{1, 3}) {
		t.Errorf("the arguments are now %v and %v", c, members)
	}
}
