package tests

import (
	"math"
	"slices"
	"testing"

	"loop.example/dagconsensus/impl"
)

func partOfCoin(member int, value int) impl.CoinPart {
	return impl.CoinPart{Member: member, Value: value}
}

// partsOf gives the members, from 0, a part each.
func partsOf(values ...int) []impl.CoinPart {
	parts := []impl.CoinPart{}
	for member, value := range values {
		parts = append(parts, partOfCoin(member, value))
	}
	return parts
}

// partsAt returns the parts with these indexes.
func partsAt(parts []impl.CoinPart, indexes []int) []impl.CoinPart {
	list := []impl.CoinPart{}
	for _, i := range indexes {
		list = append(list, parts[i])
	}
	return list
}

func replacedPart(parts []impl.CoinPart, i int, x impl.CoinPart) []impl.CoinPart {
	list := slices.Clone(parts)
	list[i] = x
	return list
}

func withoutPart(parts []impl.CoinPart, i int) []impl.CoinPart {
	return slices.Delete(slices.Clone(parts), i, i+1)
}

func notWaves() []int {
	return append(notUpTo(impl.MaxWave), impl.Field, impl.Field+impl.MaxWave, impl.MaxWave-impl.Field)
}

// manyPolynomials has, for each number of coefficients, some that are all equal, zero but for the first one, the last one or one between, zero at the end, at both ends of the range, and scattered.
func manyPolynomials() [][]int {
	list := [][]int{}
	for size := 1; size <= impl.MaxMembers; size++ {
		zeros, all := make([]int, size), slices.Repeat([]int{250}, size)
		list = append(list, zeros, all, replaced(zeros, 0, 250), replaced(zeros, size-1, 1), replaced(zeros, size/2, 77), replaced(all, 0, 0), replaced(all, size-1, 0))
		list = append(list, scatter(size, 1), scatter(size, 2))
		for most := 1; most < size; most++ {
			list = append(list, append(scatter(most, 3), zeros[most:]...))
		}
	}
	return list
}

// fewPolynomials has scattered coefficients of each number.
func fewPolynomials() [][]int {
	list := [][]int{}
	for size := 1; size <= impl.MaxMembers; size++ {
		list = append(list, scatter(size, 4))
	}
	return list
}

// invalidPolynomials has no coefficient, too many, and each number that is no symbol at each position.
func invalidPolynomials() [][]int {
	list := [][]int{nil, {}, make([]int, impl.MaxMembers+1), scatter(impl.MaxMembers+1, 1), make([]int, 12), make([]int, 1000)}
	for size := 1; size <= impl.MaxMembers; size++ {
		for i := range size {
			for _, n := range notSymbols() {
				list = append(list, replaced(slices.Repeat([]int{5}, size), i, n))
			}
		}
	}
	return list
}

// dealtBy deals without the program.
func dealtBy(coefficients []int, many int) []int {
	shares := []int{}
	for member := range many {
		shares = append(shares, valuesOf(coefficients, len(coefficients), member+1)[0])
	}
	return shares
}

// madeBy adds up, without the program, instead of multiplying.
func madeBy(share int, wave int) int {
	part := share
	for range 7 * wave {
		part = (part + share) % impl.Field
	}
	return part
}

// partsBy returns the parts of all members without the program.
func partsBy(coefficients []int, wave int) []impl.CoinPart {
	values := []int{}
	for _, share := range dealtBy(coefficients, impl.MaxMembers) {
		values = append(values, madeBy(share, wave))
	}
	return partsOf(values...)
}

// joinedBy joins valid parts, enough of them, without the program.
func joinedBy(need int, parts []impl.CoinPart) (int, bool) {
	numbers, values := []int{}, []int{}
	for _, x := range parts[:need] {
		numbers, values = append(numbers, x.Member+1), append(values, x.Value)
	}
	coefficients := columnOf(numbers, values)
	for _, x := range parts {
		if valuesOf(coefficients, need, x.Member+1)[0] != x.Value {
			return 0, false
		}
	}
	return coefficients[0], true
}

func expectCoin(t *testing.T, need int, parts []impl.CoinPart, want int) {
	t.Helper()
	if n, ok := impl.CoinJoin(need, parts); !ok || n != want {
		t.Errorf("CoinJoin of %v, %d of which suffice, is %d, %t, not %d", parts, need, n, ok, want)
	}
}

func expectNoCoin(t *testing.T, need int, parts []impl.CoinPart) {
	t.Helper()
	if n, ok := impl.CoinJoin(need, parts); ok || n != 0 {
		t.Errorf("CoinJoin of %v, %d of which suffice, is %d, %t", parts, need, n, ok)
	}
}

func expectJoined(t *testing.T, need int, parts []impl.CoinPart) bool {
	t.Helper()
	want, joined := joinedBy(need, parts)
	if joined {
		expectCoin(t, need, parts, want)
	} else {
		expectNoCoin(t, need, parts)
	}
	return joined
}

func expectNoShares(t *testing.T, coefficients []int, many int) {
	t.Helper()
	if shares := impl.CoinDeal(coefficients, many); len(shares) != 0 {
		t.Errorf("CoinDeal of %v to %d members is %v", coefficients, many, shares)
	}
}

func TestConstantsOfTheCoin(t *testing.T) {
	if impl.MaxWave != 15 || impl.MaxMembers != 7 || impl.Field != 251 {
		t.Errorf("%d waves, %d members and %d symbols", impl.MaxWave, impl.MaxMembers, impl.Field)
	}
}

// The expected shares are worked out with another program.
func TestCoinDealValues(t *testing.T) {
	for _, x := range []struct {
		coefficients []int
		shares       []int
	}{
		{[]int{0}, []int{0}},
		{[]int{250}, []int{250, 250, 250, 250, 250, 250, 250}},
		{[]int{5, 2}, []int{7, 9}},
		{[]int{5, 2}, []int{7, 9, 11}},
		{[]int{250, 250}, []int{249, 248, 247, 246, 245, 244, 243}},
		{[]int{0, 1}, []int{1, 2, 3, 4}},
		{[]int{1, 0, 0}, []int{1, 1, 1, 1, 1}},
		{[]int{100, 200, 50}, []int{99, 198, 146, 194}},
		{[]int{0, 0, 0, 0, 0, 0, 1}, []int{1, 64, 227, 80, 63, 221, 181}},
		{[]int{9, 0, 0, 0, 0, 0, 0}, []int{9, 9, 9, 9, 9, 9, 9}},
		{[]int{1, 2, 3, 4, 5, 6, 7}, []int{28, 16, 80, 14, 61, 197, 188}},
		{slices.Repeat([]int{250}, 7), []int{244, 124, 162, 61, 47, 237, 40}},
	} {
		if shares := impl.CoinDeal(x.coefficients, len(x.shares)); !slices.Equal(shares, x.shares) {
			t.Errorf("CoinDeal of %v to %d members is %v, not %v", x.coefficients, len(x.shares), shares, x.shares)
		}
	}
}

func TestCoinDealForEachNumberOfMembers(t *testing.T) {
	for _, coefficients := range append(manyPolynomials(), fewPolynomials()...) {
		for many := -1; many <= impl.MaxMembers+2; many++ {
			if many < len(coefficients) || many > impl.MaxMembers {
				expectNoShares(t, coefficients, many)
				continue
			}
			want := dealtBy(coefficients, many)
			if shares := impl.CoinDeal(coefficients, many); !slices.Equal(shares, want) {
				t.Errorf("CoinDeal of %v to %d members is %v, not %v", coefficients, many, shares, want)
			}
		}
		for _, many := range append(notUpTo(impl.MaxMembers), len(coefficients)-1, 1000) {
			expectNoShares(t, coefficients, many)
		}
	}
}

func TestCoinDealOfInvalidCoefficients(t *testing.T) {
	for _, coefficients := range invalidPolynomials() {
		for many := -1; many <= impl.MaxMembers+2; many++ {
			expectNoShares(t, coefficients, many)
		}
		for _, many := range []int{len(coefficients), 12, 1000, math.MaxInt, math.MinInt} {
			expectNoShares(t, coefficients, many)
		}
	}
}

// The expected parts are worked out with another program.
func TestCoinMakeValues(t *testing.T) {
	for _, x := range []struct{ share, wave, part int }{
		{0, 1, 0}, {1, 1, 8}, {5, 1, 40}, {7, 1, 56}, {31, 1, 248}, {32, 1, 5}, {250, 1, 243},
		{100, 2, 245}, {250, 7, 201}, {17, 9, 84}, {3, 12, 4}, {0, 15, 0}, {1, 15, 106}, {250, 15, 145},
	} {
		if part := impl.CoinMake(x.share, x.wave); part != x.part {
			t.Errorf("CoinMake of %d for wave %d is %d, not %d", x.share, x.wave, part, x.part)
		}
		if value := impl.CoinValue(x.share, x.wave); value != x.part {
			t.Errorf("CoinValue of %d for wave %d is %d, not %d", x.share, x.wave, value, x.part)
		}
	}
}

func TestCoinMakeOfEachShare(t *testing.T) {
	for wave := 1; wave <= impl.MaxWave; wave++ {
		for share := range impl.Field {
			want := madeBy(share, wave)
			if part, value := impl.CoinMake(share, wave), impl.CoinValue(share, wave); part != want || value != want {
				t.Errorf("CoinMake and CoinValue of %d for wave %d are %d and %d, not %d", share, wave, part, value, want)
			}
		}
	}
}

func TestInvalidSharesAndWaves(t *testing.T) {
	expectNone := func(share int, wave int) {
		t.Helper()
		if part, value := impl.CoinMake(share, wave), impl.CoinValue(share, wave); part != -1 || value != -1 {
			t.Errorf("CoinMake and CoinValue of %d for wave %d are %d and %d", share, wave, part, value)
		}
	}
	for _, share := range notSymbols() {
		for wave := -1; wave <= impl.MaxWave+2; wave++ {
			expectNone(share, wave)
		}
		expectNone(share, math.MaxInt)
	}
	for _, wave := range notWaves() {
		for share := -1; share <= impl.Field; share++ {
			expectNone(share, wave)
		}
	}
}

func TestPromise66AnyMembersThatSuffice(t *testing.T) {
	for _, coefficients := range append(manyPolynomials(), fewPolynomials()...) {
		need, secret := len(coefficients), coefficients[0]
		for many := need; many <= impl.MaxMembers; many++ {
			shares := impl.CoinDeal(coefficients, many)
			for wave := 1 + many%2; wave <= impl.MaxWave; wave += 2 {
				parts := []impl.CoinPart{}
				for member, share := range shares {
					parts = append(parts, partOfCoin(member, impl.CoinMake(share, wave)))
				}
				for mask := range 1 << many {
					if members := subset(many, mask); len(members) == need {
						expectCoin(t, need, partsAt(parts, members), impl.CoinValue(secret, wave))
						expectCoin(t, need, partsAt(parts, members), madeBy(secret, wave))
					}
				}
			}
		}
	}
}

func TestPromise66EachSecretAndWave(t *testing.T) {
	for secret := range impl.Field {
		for wave := 1; wave <= impl.MaxWave; wave++ {
			for _, size := range []int{1, 3, 7} {
				coefficients := replaced(scatter(size, wave), 0, secret)
				parts := []impl.CoinPart{}
				for member, share := range impl.CoinDeal(coefficients, impl.MaxMembers) {
					parts = append(parts, partOfCoin(member, impl.CoinMake(share, wave)))
				}
				expectCoin(t, size, parts[impl.MaxMembers-size:], impl.CoinValue(secret, wave))
			}
		}
	}
}

func TestPromise67AllMembersAndAnyThatSuffice(t *testing.T) {
	for _, coefficients := range manyPolynomials() {
		need := len(coefficients)
		for _, wave := range []int{1, 8, impl.MaxWave} {
			want := madeBy(coefficients[0], wave)
			parts := partsBy(coefficients, wave)
			expectCoin(t, need, parts, want)
			for mask := range 1 << impl.MaxMembers {
				if members := subset(impl.MaxMembers, mask); len(members) >= need {
					expectCoin(t, need, partsAt(parts, members), want)
				}
			}
		}
	}
}

// Fewer parts fail also if fewer coefficients than parts are not 0.
func TestPromise68TooFewParts(t *testing.T) {
	for _, coefficients := range manyPolynomials() {
		need := len(coefficients)
		for _, wave := range []int{1, impl.MaxWave} {
			parts := partsBy(coefficients, wave)
			expectNoCoin(t, need, nil)
			for mask := range 1 << impl.MaxMembers {
				if members := subset(impl.MaxMembers, mask); len(members) < need {
					expectNoCoin(t, need, partsAt(parts, members))
				}
			}
		}
	}
}

func TestPromise69OneWrongPart(t *testing.T) {
	for _, coefficients := range manyPolynomials() {
		need := len(coefficients)
		parts := partsBy(coefficients, 1+need)
		for mask := range 1 << impl.MaxMembers {
			members := subset(impl.MaxMembers, mask)
			if len(members) <= need {
				continue
			}
			right := partsAt(parts, members)
			for i, x := range right {
				for _, change := range []int{1, 2, 100, 250} {
					expectNoCoin(t, need, replacedPart(right, i, partOfCoin(x.Member, (x.Value+change)%impl.Field)))
				}
				for _, value := range []int{-1, impl.Field, x.Value + impl.Field, x.Value - impl.Field} {
					expectNoCoin(t, need, replacedPart(right, i, partOfCoin(x.Member, value)))
				}
			}
		}
	}
}

func TestPromise69EachOtherValue(t *testing.T) {
	for _, coefficients := range fewPolynomials()[:6] {
		need := len(coefficients)
		right := partsBy(coefficients, 3)[:need+1]
		for i, x := range right {
			for value := range impl.Field {
				wrong := replacedPart(right, i, partOfCoin(x.Member, value))
				if value == x.Value {
					expectCoin(t, need, wrong, madeBy(coefficients[0], 3))
				} else {
					expectNoCoin(t, need, wrong)
				}
			}
		}
	}
}

// With as many right parts as suffice, no others can make up for a wrong one: not even a second one that is wrong.
func TestPartsThatContradictEachOther(t *testing.T) {
	for _, coefficients := range manyPolynomials() {
		need := len(coefficients)
		right := partsBy(coefficients, 2)
		for i := range right {
			for j := range i {
				for _, change := range []int{1, 125, 250} {
					wrong := replacedPart(right, i, partOfCoin(i, (right[i].Value+change)%impl.Field))
					wrong = replacedPart(wrong, j, partOfCoin(j, (right[j].Value+3*change)%impl.Field))
					if need+2 <= len(wrong) {
						expectNoCoin(t, need, wrong)
					} else {
						expectJoined(t, need, wrong)
					}
				}
			}
		}
	}
	for value := range impl.Field {
		for other := range impl.Field {
			parts := []impl.CoinPart{partOfCoin(1, value), partOfCoin(4, other)}
			if value == other {
				expectCoin(t, 1, parts, value)
			} else {
				expectNoCoin(t, 1, parts)
			}
		}
	}
}

// Of three parts two of which suffice, each value but one contradicts the others: that of the line through them.
func TestThreePartsOnALine(t *testing.T) {
	for secret := 0; secret < impl.Field; secret += 25 {
		for slope := 0; slope < impl.Field; slope += 10 {
			for value := range impl.Field {
				parts := []impl.CoinPart{partOfCoin(0, (secret+slope)%impl.Field), partOfCoin(2, (secret+3*slope)%impl.Field), partOfCoin(6, value)}
				if value == (secret+7*slope)%impl.Field {
					expectCoin(t, 2, parts, secret)
				} else {
					expectNoCoin(t, 2, parts)
				}
			}
		}
	}
}

func TestPromise70OneValueWithoutAnyPart(t *testing.T) {
	for _, coefficients := range manyPolynomials() {
		parts := partsBy(coefficients, impl.MaxWave)
		for need := 1; need <= impl.MaxMembers; need++ {
			for mask := range 1 << impl.MaxMembers {
				chosen := partsAt(parts, subset(impl.MaxMembers, mask))
				n, ok := impl.CoinJoin(need, chosen)
				if !ok {
					continue
				}
				if n < 0 || n >= impl.Field {
					t.Errorf("CoinJoin of %v, %d of which suffice, is %d", chosen, need, n)
				}
				for i := range chosen {
					if len(chosen) > need {
						expectCoin(t, need, withoutPart(chosen, i), n)
					}
				}
			}
		}
	}
}

// The values are no parts of shares that anybody has dealt, but exactly as many as suffice never contradict each other.
func TestPromise70AnyValues(t *testing.T) {
	for seed := range 40 {
		all := partsOf(scatter(impl.MaxMembers, seed)...)
		for mask := 1; mask < 1<<impl.MaxMembers; mask++ {
			parts := partsAt(all, subset(impl.MaxMembers, mask))
			for need := 1; need <= len(parts); need++ {
				if joined := expectJoined(t, need, parts); !joined && need == len(parts) {
					t.Errorf("%v contradict each other", parts)
				}
			}
		}
	}
}

// More parts than there are coefficients may be asked for, and fewer: a polynomial with fewer has the parts only if the last coefficients are 0.
func TestCoinJoinWithAnotherThreshold(t *testing.T) {
	for _, coefficients := range manyPolynomials() {
		used := len(coefficients)
		for used > 1 && coefficients[used-1] == 0 {
			used--
		}
		for _, wave := range []int{1, 14} {
			parts := partsBy(coefficients, wave)
			for need := 1; need <= impl.MaxMembers; need++ {
				if need >= used {
					expectCoin(t, need, parts, madeBy(coefficients[0], wave))
				} else {
					expectNoCoin(t, need, parts)
				}
				for many := need; many <= impl.MaxMembers; many++ {
					expectJoined(t, need, parts[:many])
					expectJoined(t, need, parts[impl.MaxMembers-many:])
				}
			}
		}
	}
}

// The expected values are worked out by hand.
func TestCoinJoin(t *testing.T) {
	expectCoin(t, 1, partsOf(0), 0)
	expectCoin(t, 1, partsOf(250), 250)
	expectCoin(t, 1, []impl.CoinPart{partOfCoin(6, 250)}, 250)
	expectCoin(t, 1, partsOf(9, 9, 9, 9, 9, 9, 9), 9)
	expectNoCoin(t, 1, partsOf(9, 9, 9, 9, 9, 9, 8))
	expectCoin(t, 2, partsOf(56, 72), 40)
	expectCoin(t, 2, []impl.CoinPart{partOfCoin(1, 72), partOfCoin(2, 88)}, 40)
	expectCoin(t, 2, partsOf(56, 72, 88), 40)
	expectCoin(t, 3, partsOf(56, 72, 88), 40)
	expectNoCoin(t, 1, partsOf(56, 72))
	expectNoCoin(t, 2, partsOf(56, 72, 89))
	expectCoin(t, 3, partsOf(56, 72, 89), 41)
	expectCoin(t, 2, partsOf(0, 250), 1)
	expectCoin(t, 2, partsOf(250, 0), 249)
	expectCoin(t, 2, []impl.CoinPart{partOfCoin(0, 1), partOfCoin(6, 7)}, 0)
	expectCoin(t, 3, partsOf(1, 4, 9, 16, 25, 36, 49), 0)
	expectNoCoin(t, 3, partsOf(1, 4, 9, 16, 25, 36, 48))
	expectNoCoin(t, 2, partsOf(1, 4, 9))
	for need := 1; need <= impl.MaxMembers; need++ {
		for many := need; many <= impl.MaxMembers; many++ {
			expectCoin(t, need, partsOf(make([]int, many)...), 0)
			expectCoin(t, need, partsOf(slices.Repeat([]int{250}, many)...), 250)
		}
		for many := range need {
			expectNoCoin(t, need, partsOf(make([]int, many)...))
		}
	}
}

func TestCoinJoinWithAnInvalidThreshold(t *testing.T) {
	for _, need := range append(notUpTo(impl.MaxMembers), 12) {
		for many := range impl.MaxMembers + 1 {
			expectNoCoin(t, need, partsOf(make([]int, many)...))
			expectNoCoin(t, need, partsOf(scatter(many, 1)...))
		}
		expectNoCoin(t, need, partsOf(make([]int, 8)...))
		expectNoCoin(t, need, partsOf(make([]int, 12)...))
	}
}

// All parts are of one polynomial, so that only their members or values are wrong.
func TestInvalidParts(t *testing.T) {
	for _, coefficients := range [][]int{{0}, {7}, {0, 0, 0}, {5, 2}, scatter(4, 1), scatter(7, 1), make([]int, 7)} {
		need, right := len(coefficients), partsBy(coefficients, 5)
		for _, parts := range [][]impl.CoinPart{right, right[:need], right[impl.MaxMembers-need:]} {
			for i, x := range parts {
				for _, member := range notMembers(make([]int, impl.MaxMembers)) {
					expectNoCoin(t, need, replacedPart(parts, i, partOfCoin(member, x.Value)))
				}
				for _, value := range append(notSymbols(), x.Value+impl.Field, x.Value-impl.Field) {
					expectNoCoin(t, need, replacedPart(parts, i, partOfCoin(x.Member, value)))
				}
				expectNoCoin(t, need, slices.Insert(slices.Clone(parts), i, x))
				if i > 0 {
					expectNoCoin(t, need, replacedPart(parts, i, parts[i-1]))
					expectNoCoin(t, need, replacedPart(replacedPart(parts, i, parts[i-1]), i-1, x))
					expectNoCoin(t, need, append(slices.Clone(parts), parts[0]))
				}
			}
			if len(parts) > 1 {
				backwards := slices.Clone(parts)
				slices.Reverse(backwards)
				expectNoCoin(t, need, backwards)
			}
		}
		outside := partOfCoin(7, madeBy(valuesOf(coefficients, need, 8)[0], 5))
		expectNoCoin(t, need, append(slices.Clone(right), outside))
		expectNoCoin(t, need, append(slices.Clone(right[7-need+1:]), outside))
		before := partOfCoin(-1, madeBy(coefficients[0], 5))
		expectNoCoin(t, need, slices.Insert(slices.Clone(right), 0, before))
		expectNoCoin(t, need, slices.Insert(slices.Clone(right[:need-1]), 0, before))
		expectNoCoin(t, need, make([]impl.CoinPart, 1000))
	}
}

func TestPromise71DifferentSharesHaveDifferentParts(t *testing.T) {
	for wave := 1; wave <= impl.MaxWave; wave++ {
		seen := map[int]int{}
		for share := range impl.Field {
			part := impl.CoinMake(share, wave)
			if other, ok := seen[part]; ok || part < 0 || part >= impl.Field {
				t.Errorf("for wave %d, the part of %d is %d, and that of %d, too", wave, share, part, other)
			}
			seen[part] = share
		}
	}
}

// drawnBy has each member as often as its weight, in order.
func drawnBy(c []int) []int {
	list := []int{}
	for member, weight := range c {
		list = append(list, slices.Repeat([]int{member}, weight)...)
	}
	return list
}

func TestPromise72MembersAreDrawnByWeight(t *testing.T) {
	for _, c := range append(manyCommittees(), fewCommittees()...) {
		drawn := make([]int, len(c))
		for value := range sumOf(c) {
			member := impl.CoinLeader(c, value)
			if member < 0 || member >= len(c) {
				t.Fatalf("in %v, %d draws %d", c, value, member)
			}
			drawn[member]++
		}
		if !slices.Equal(drawn, c) {
			t.Fatalf("%v draws its members %v times", c, drawn)
		}
	}
}

func TestPromise72TheTotalDoesNotMatter(t *testing.T) {
	for _, c := range append(manyCommittees(), fewCommittees()...) {
		members := drawnBy(c)
		for value := range impl.Field {
			member := impl.CoinLeader(c, value)
			if member != members[value%len(members)] {
				t.Fatalf("in %v, %d draws %d", c, value, member)
			}
			if value+len(members) < impl.Field && impl.CoinLeader(c, value+len(members)) != member {
				t.Fatalf("in %v, %d draws %d, but not with the total added", c, value, member)
			}
		}
	}
}

// The expected members are worked out by hand.
func TestCoinLeader(t *testing.T) {
	for _, x := range []struct {
		c             []int
		value, member int
	}{
		{[]int{1}, 0, 0}, {[]int{1}, 250, 0}, {[]int{9}, 8, 0}, {[]int{9}, 9, 0}, {[]int{9}, 250, 0},
		{[]int{2, 1}, 0, 0}, {[]int{2, 1}, 1, 0}, {[]int{2, 1}, 2, 1}, {[]int{2, 1}, 3, 0}, {[]int{2, 1}, 4, 0}, {[]int{2, 1}, 250, 0},
		{[]int{1, 2}, 0, 0}, {[]int{1, 2}, 1, 1}, {[]int{1, 2}, 2, 1}, {[]int{1, 2}, 3, 0}, {[]int{1, 2}, 250, 1},
		{[]int{3, 4, 2}, 2, 0}, {[]int{3, 4, 2}, 3, 1}, {[]int{3, 4, 2}, 6, 1}, {[]int{3, 4, 2}, 7, 2}, {[]int{3, 4, 2}, 8, 2}, {[]int{3, 4, 2}, 9, 0}, {[]int{3, 4, 2}, 250, 2},
		{[]int{1, 2, 3, 4, 5, 6, 7}, 0, 0}, {[]int{1, 2, 3, 4, 5, 6, 7}, 5, 2}, {[]int{1, 2, 3, 4, 5, 6, 7}, 6, 3}, {[]int{1, 2, 3, 4, 5, 6, 7}, 20, 5}, {[]int{1, 2, 3, 4, 5, 6, 7}, 21, 6}, {[]int{1, 2, 3, 4, 5, 6, 7}, 27, 6}, {[]int{1, 2, 3, 4, 5, 6, 7}, 28, 0}, {[]int{1, 2, 3, 4, 5, 6, 7}, 250, 6},
		{[]int{9, 9, 9, 9, 9, 9, 9}, 62, 6}, {[]int{9, 9, 9, 9, 9, 9, 9}, 63, 0}, {[]int{9, 9, 9, 9, 9, 9, 9}, 53, 5}, {[]int{9, 9, 9, 9, 9, 9, 9}, 54, 6}, {[]int{9, 9, 9, 9, 9, 9, 9}, 250, 6},
	} {
		if member := impl.CoinLeader(x.c, x.value); member != x.member {
			t.Errorf("in %v, %d draws %d, not %d", x.c, x.value, member, x.member)
		}
	}
}

func TestCoinLeaderOfInvalidArguments(t *testing.T) {
	for _, c := range invalidCommittees() {
		for value := -1; value <= impl.Field; value++ {
			if member := impl.CoinLeader(c, value); member != -1 {
				t.Errorf("in %v, %d draws %d", c, value, member)
			}
		}
	}
	for _, c := range fewCommittees() {
		for _, value := range append(notSymbols(), impl.Field+sumOf(c), -sumOf(c)) {
			if member := impl.CoinLeader(c, value); member != -1 {
				t.Errorf("in %v, %d draws %d", c, value, member)
			}
		}
	}
}

// roomyList has hidden numbers after its own, which nobody may change.
func roomyList(list []int) []int {
	return append(slices.Clone(list), -7, -7)[:len(list)]
}

func isUntouchedList(roomy []int, list []int) bool {
	return slices.Equal(roomy[:len(list)+2], append(slices.Clone(list), -7, -7))
}

func TestSharesAreApart(t *testing.T) {
	for _, coefficients := range append(append(manyPolynomials(), fewPolynomials()...), invalidPolynomials()...) {
		list := roomyList(coefficients)
		for many := range impl.MaxMembers + 2 {
			one, two := impl.CoinDeal(list, many), impl.CoinDeal(list, many)
			kept := slices.Clone(two)
			if !slices.Equal(one, two) {
				t.Errorf("two results for %v are %v and %v", coefficients, one, two)
			}
			spoil(one)
			if !slices.Equal(two, kept) || !isUntouchedList(list, coefficients) {
				t.Errorf("%v are changed, or share their memory with the shares of %d members, or two results do", coefficients, many)
			}
		}
	}
}

func TestPartsAndCommitteesAreUntouched(t *testing.T) {
	hidden := partOfCoin(-7, -7)
	for _, coefficients := range manyPolynomials() {
		all := partsBy(coefficients, 1)
		for _, parts := range [][]impl.CoinPart{all, replacedPart(all, 3, partOfCoin(3, 1)), replacedPart(all, 3, partOfCoin(9, 1)), all[2:5], nil} {
			list := append(slices.Clone(parts), hidden, hidden)
			for need := range impl.MaxMembers + 2 {
				n, ok := impl.CoinJoin(need, list[:len(parts)])
				m, fine := impl.CoinJoin(need, list[:len(parts)])
				if n != m || ok != fine || !slices.Equal(list, append(slices.Clone(parts), hidden, hidden)) {
					t.Errorf("%v, %d of which suffice, are %v, %d and %d afterwards", parts, need, list, n, m)
				}
			}
		}
	}
	for _, c := range append(fewCommittees(), invalidCommittees()...) {
		list := roomyList(c)
		for value := range impl.Field {
			impl.CoinLeader(list, value)
		}
		if !isUntouchedList(list, c) {
			t.Errorf("%v is changed to %v", c, list)
		}
	}
}
