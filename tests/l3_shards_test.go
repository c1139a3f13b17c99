package tests

import (
	"math"
	"slices"
	"testing"

	"loop.example/dagconsensus/impl"
)

// notSymbols has numbers just out of range and far away, and some that are congruent to symbols.
func notSymbols() []int {
	return []int{-1, -2, -impl.Field, impl.Field, impl.Field + 1, 2 * impl.Field, 100000, math.MaxInt, math.MinInt}
}

// notUpTo has numbers that are not in the range 1 to most, some of them congruent to numbers that are.
func notUpTo(most int) []int {
	return []int{0, -1, -2, -most, most + 1, most + 2, 2 * most, impl.Field + 1, 1 - impl.Field, math.MaxInt, math.MinInt}
}

// scatter returns as many symbols as asked for, others for each seed.
func scatter(size int, seed int) []int {
	list := []int{}
	for i := range size {
		list = append(list, (i*i*89+i*127+seed*53+seed*seed*7+size*11)%impl.Field)
	}
	return list
}

// manyData has, for each size, symbols that are equal, ascending, at both ends of the range, zero but for the last one or the first one, and scattered.
func manyData() [][]int {
	list := [][]int{}
	for size := 1; size <= impl.MaxSymbols; size++ {
		ascending, ends := []int{}, []int{}
		for i := range size {
			ascending = append(ascending, i+1)
			ends = append(ends, i%2*(impl.Field-1))
		}
		zeros := make([]int, size)
		list = append(list, zeros, slices.Repeat([]int{impl.Field - 1}, size), ascending, ends,
			replaced(zeros, size-1, 1), replaced(zeros, 0, 250), scatter(size, 1), scatter(size, 2))
	}
	return list
}

// fewData has scattered symbols of each size.
func fewData() [][]int {
	list := [][]int{}
	for size := 1; size <= impl.MaxSymbols; size++ {
		list = append(list, scatter(size, 3))
	}
	return list
}

// invalidData has no symbol, too many symbols, and each number that is no symbol at each position.
func invalidData() [][]int {
	list := [][]int{nil, {}, make([]int, impl.MaxSymbols+1), make([]int, 2*impl.MaxSymbols), make([]int, 1000)}
	for size := 1; size <= impl.MaxSymbols; size++ {
		for i := range size {
			for _, n := range notSymbols() {
				list = append(list, replaced(slices.Repeat([]int{5}, size), i, n))
			}
		}
	}
	return list
}

// powerOf is never asked for more than 251 to the power of 7, which an int holds.
func powerOf(n int, exponent int) int {
	product := 1
	for range exponent {
		product *= n
	}
	return product
}

// valuesOf encodes without the program, symbol by symbol.
func valuesOf(data []int, need int, number int) []int {
	values := make([]int, (len(data)+need-1)/need)
	for i, symbol := range data {
		values[i/need] = (values[i/need] + symbol*powerOf(number, i%need)) % impl.Field
	}
	return values
}

// shardsOf encodes without the program.
func shardsOf(data []int, need int, numbers ...int) []impl.Shard {
	list := []impl.Shard{}
	for _, number := range numbers {
		list = append(list, impl.Shard{Number: number, Values: valuesOf(data, need, number)})
	}
	return list
}

// quotientOf searches for the symbol that, times b, gives a.
func quotientOf(a int, b int) int {
	for n := range impl.Field {
		if (n*b-a)%impl.Field == 0 {
			return n
		}
	}
	return -1
}

// columnOf returns the column with these values at these numbers, as a sum of columns that are 0 at all numbers but one.
func columnOf(numbers []int, values []int) []int {
	sum := make([]int, len(numbers))
	for i, number := range numbers {
		column, divisor := []int{1}, 1
		for _, other := range numbers {
			if other == number {
				continue
			}
			longer := make([]int, len(column)+1)
			for k, n := range column {
				longer[k] = (longer[k] + n*(impl.Field-other)) % impl.Field
				longer[k+1] = (longer[k+1] + n) % impl.Field
			}
			column, divisor = longer, divisor*(impl.Field+number-other)%impl.Field
		}
		factor := quotientOf(values[i], divisor)
		for k, n := range column {
			sum[k] = (sum[k] + n*factor) % impl.Field
		}
	}
	return sum
}

// joinOf decodes valid shards without the program.
func joinOf(size int, need int, list []impl.Shard) ([]int, bool) {
	data := []int{}
	for j := range list[0].Values {
		numbers, values := []int{}, []int{}
		for _, s := range list[:need] {
			numbers, values = append(numbers, s.Number), append(values, s.Values[j])
		}
		data = append(data, columnOf(numbers, values)...)
	}
	for _, symbol := range data[size:] {
		if symbol != 0 {
			return nil, false
		}
	}
	for _, s := range list {
		if !slices.Equal(valuesOf(data[:size], need, s.Number), s.Values) {
			return nil, false
		}
	}
	return data[:size], true
}

func sameShard(a impl.Shard, b impl.Shard) bool {
	return a.Number == b.Number && slices.Equal(a.Values, b.Values)
}

// cloneShards returns a copy that shares no memory.
func cloneShards(list []impl.Shard) []impl.Shard {
	copied := []impl.Shard{}
	for _, s := range list {
		copied = append(copied, impl.Shard{Number: s.Number, Values: slices.Clone(s.Values)})
	}
	return copied
}

// withValue returns a copy of a list in which a shard has another value.
func withValue(list []impl.Shard, i int, j int, value int) []impl.Shard {
	list = cloneShards(list)
	list[i].Values[j] = value
	return list
}

// withNumber returns a copy of a list in which a shard has another number.
func withNumber(list []impl.Shard, i int, number int) []impl.Shard {
	list = cloneShards(list)
	list[i].Number = number
	return list
}

// withValues returns a copy of a list in which a shard has other values.
func withValues(list []impl.Shard, i int, values []int) []impl.Shard {
	list = cloneShards(list)
	list[i].Values = values
	return list
}

// choices returns the lists of some shards, ascending by number.
func choices(list []impl.Shard, some int) [][]impl.Shard {
	all := [][]impl.Shard{}
	for mask := range 1 << len(list) {
		chosen := []impl.Shard{}
		for _, i := range subset(len(list), mask) {
			chosen = append(chosen, list[i])
		}
		if len(chosen) == some {
			all = append(all, chosen)
		}
	}
	return all
}

// reversed returns a list in reverse order.
func reversed[T any](list []T) []T {
	list = slices.Clone(list)
	slices.Reverse(list)
	return list
}

// orders returns a list in all orders.
func orders[T any](list []T) [][]T {
	if len(list) == 0 {
		return [][]T{{}}
	}
	all := [][]T{}
	for i := range list {
		for _, rest := range orders(slices.Delete(slices.Clone(list), i, i+1)) {
			all = append(all, append(rest, list[i]))
		}
	}
	return all
}

// expectData checks what ShardJoin returns.
func expectData(t *testing.T, need int, list []impl.Shard, data []int) {
	t.Helper()
	if got, ok := impl.ShardJoin(len(data), need, list); !ok || !slices.Equal(got, data) {
		t.Fatalf("ShardJoin of %v, with %d that suffice, is %v, %t, not %v", list, need, got, ok, data)
	}
}

// expectNoData checks that neither ShardJoin nor ShardRepair has a result.
func expectNoData(t *testing.T, size int, need int, list []impl.Shard) {
	t.Helper()
	if data, ok := impl.ShardJoin(size, need, list); ok || len(data) != 0 {
		t.Fatalf("ShardJoin of %v to %d symbols, with %d that suffice, is %v, %t", list, size, need, data, ok)
	}
	for _, number := range []int{1, impl.MaxShards} {
		if s, ok := impl.ShardRepair(size, need, list, number); ok || s.Number != 0 || len(s.Values) != 0 {
			t.Fatalf("ShardRepair of %v to %d symbols, with %d that suffice, is %v, %t", list, size, need, s, ok)
		}
	}
}

// The expected values are worked out with another program.
func TestShardMakeValues(t *testing.T) {
	for _, x := range []struct {
		data       []int
		need, many int
		values     [][]int
	}{
		{[]int{0}, 1, 1, [][]int{{0}}},
		{[]int{250}, 1, 2, [][]int{{250}, {250}}},
		{[]int{7}, 8, 8, [][]int{{7}, {7}, {7}, {7}, {7}, {7}, {7}, {7}}},
		{[]int{1, 2}, 1, 2, [][]int{{1, 2}, {1, 2}}},
		{[]int{100, 200}, 2, 4, [][]int{{49}, {249}, {198}, {147}}},
		{[]int{250, 250}, 2, 8, [][]int{{249}, {248}, {247}, {246}, {245}, {244}, {243}, {242}}},
		{[]int{10, 20, 30}, 2, 3, [][]int{{30, 30}, {50, 30}, {70, 30}}},
		{[]int{5, 6, 7}, 8, 8, [][]int{{18}, {45}, {86}, {141}, {210}, {42}, {139}, {250}}},
		{[]int{5, 6, 7, 250}, 3, 5, [][]int{{18, 250}, {45, 250}, {86, 250}, {141, 250}, {210, 250}}},
		{[]int{0, 0, 0, 1}, 4, 8, [][]int{{1}, {8}, {27}, {64}, {125}, {216}, {92}, {10}}},
		{[]int{1, 2, 3, 4, 5}, 3, 3, [][]int{{6, 9}, {17, 14}, {34, 19}}},
		{[]int{0, 0, 0, 0, 0, 0, 0, 1}, 8, 8, [][]int{{1}, {128}, {179}, {69}, {64}, {71}, {12}, {47}}},
		{[]int{1, 2, 3, 4, 5, 6, 7, 8, 9, 10, 11, 12}, 1, 1, [][]int{{1, 2, 3, 4, 5, 6, 7, 8, 9, 10, 11, 12}}},
		{[]int{1, 2, 3, 4, 5, 6, 7, 8, 9, 10, 11, 12}, 5, 6, [][]int{{15, 40, 23}, {129, 33, 35}, {45, 148, 47}, {87, 35, 59}, {197, 86, 71}, {186, 180, 83}}},
		{[]int{1, 2, 3, 4, 5, 6, 7, 8, 9, 10, 11, 12}, 6, 6, [][]int{{21, 57}, {70, 197}, {248, 173}, {207, 114}, {122, 215}, {156, 169}}},
		{[]int{1, 2, 3, 4, 5, 6, 7, 8, 9, 10, 11, 12}, 7, 8, [][]int{{28, 50}, {16, 95}, {80, 139}, {14, 215}, {61, 142}, {197, 27}, {188, 14}, {169, 33}}},
		{[]int{1, 2, 3, 4, 5, 6, 7, 8, 9, 10, 11, 12}, 8, 8, [][]int{{36, 42}, {36, 169}, {6, 211}, {64, 240}, {71, 77}, {12, 45}, {33, 216}, {43, 160}}},
		{slices.Repeat([]int{250}, 12), 8, 8, [][]int{{243, 247}, {247, 236}, {234, 211}, {243, 166}, {234, 95}, {166, 243}, {28, 102}, {54, 168}}},
		{make([]int, 12), 3, 4, [][]int{{0, 0, 0, 0}, {0, 0, 0, 0}, {0, 0, 0, 0}, {0, 0, 0, 0}}},
	} {
		list := impl.ShardMake(x.data, x.need, x.many)
		if len(list) != len(x.values) {
			t.Errorf("ShardMake of %v, %d, %d is %v", x.data, x.need, x.many, list)
			continue
		}
		for i, s := range list {
			if !sameShard(s, impl.Shard{Number: i + 1, Values: x.values[i]}) {
				t.Errorf("shard %d of %v, with %d that suffice, is %v, not %v", i+1, x.data, x.need, s, x.values[i])
			}
		}
		expectData(t, x.need, list[len(list)-x.need:], x.data)
	}
}

func TestPromise23NumbersAndValuesOfShards(t *testing.T) {
	for _, data := range manyData() {
		for need := 1; need <= impl.MaxShards; need++ {
			columns := (len(data) + need - 1) / need
			for many := need; many <= impl.MaxShards; many++ {
				list := impl.ShardMake(data, need, many)
				if len(list) != many {
					t.Fatalf("ShardMake of %v, %d, %d is %v", data, need, many, list)
				}
				for i, s := range list {
					if s.Number != i+1 || len(s.Values) != columns || !slices.Equal(s.Values, valuesOf(data, need, i+1)) {
						t.Errorf("shard %d of %v, with %d that suffice, is %v", i+1, data, need, s)
					}
				}
			}
		}
	}
}

func TestShardMakeOfInvalidData(t *testing.T) {
	expectNone := func(data []int, need int, many int) {
		t.Helper()
		if list := impl.ShardMake(data, need, many); len(list) != 0 {
			t.Errorf("ShardMake of %v, %d, %d is %v", data, need, many, list)
		}
	}
	for _, data := range invalidData() {
		expectNone(data, 1, 1)
		expectNone(data, 2, 4)
		expectNone(data, impl.MaxShards, impl.MaxShards)
	}
	for _, data := range fewData() {
		for _, need := range notUpTo(impl.MaxShards) {
			for _, many := range []int{1, need, impl.MaxShards, need + 1, math.MaxInt} {
				expectNone(data, need, many)
			}
		}
		for need := 1; need <= impl.MaxShards; need++ {
			for _, many := range append(notUpTo(impl.MaxShards), need-1) {
				expectNone(data, need, many)
			}
			for many := range need {
				expectNone(data, need, many)
			}
		}
	}
}

func TestPromise19AnyShardsThatSuffice(t *testing.T) {
	for _, data := range manyData() {
		for need := 1; need <= impl.MaxShards; need++ {
			for many := need; many <= impl.MaxShards; many++ {
				list := impl.ShardMake(data, need, many)
				expectData(t, need, list[:need], data)
				expectData(t, need, list[many-need:], data)
			}
			for _, chosen := range choices(impl.ShardMake(data, need, impl.MaxShards), need) {
				expectData(t, need, chosen, data)
				expectData(t, need, reversed(chosen), data)
			}
		}
	}
}

func TestShardJoinInEveryOrder(t *testing.T) {
	for _, data := range fewData() {
		for need := 1; need <= 4; need++ {
			for _, chosen := range choices(impl.ShardMake(data, need, 6), need) {
				for _, list := range orders(chosen) {
					expectData(t, need, list, data)
				}
			}
		}
	}
	data := scatter(11, 4)
	for _, list := range orders(impl.ShardMake(data, 7, 7)) {
		expectData(t, 7, list, data)
	}
}

func TestShardJoinOfEachSymbol(t *testing.T) {
	for symbol := range impl.Field {
		for need := 1; need <= impl.MaxShards; need++ {
			for i := range need {
				data := replaced(scatter(need, 5), i, symbol)
				expectData(t, need, reversed(impl.ShardMake(data, need, need)), data)
				expectData(t, need, impl.ShardMake(data[:i+1], need, need), data[:i+1])
			}
		}
	}
}

func TestPromise20AllShardsInReverseOrder(t *testing.T) {
	for _, data := range manyData() {
		for need := 1; need <= impl.MaxShards; need++ {
			for many := need; many <= impl.MaxShards; many++ {
				list := impl.ShardMake(data, need, many)
				expectData(t, need, list, data)
				expectData(t, need, reversed(list), data)
			}
		}
	}
}

// Fewer shards fail also if the padding leaves fewer unknown symbols than shards.
func TestPromise21TooFewShards(t *testing.T) {
	for _, data := range manyData() {
		for need := 1; need <= impl.MaxShards; need++ {
			list := impl.ShardMake(data, need, impl.MaxShards)
			expectNoData(t, len(data), need, nil)
			for fewer := range need {
				expectNoData(t, len(data), need, list[:fewer])
				expectNoData(t, len(data), need, list[impl.MaxShards-fewer:])
			}
		}
	}
	for need := 1; need <= impl.MaxShards; need++ {
		list := impl.ShardMake(scatter(impl.MaxSymbols, 6), need, impl.MaxShards)
		for fewer := range need {
			for _, chosen := range choices(list, fewer) {
				expectNoData(t, impl.MaxSymbols, need, chosen)
			}
		}
	}
}

func TestTooManyShards(t *testing.T) {
	for _, data := range fewData() {
		for need := 1; need <= impl.MaxShards; need++ {
			list := shardsOf(data, need, 1, 2, 3, 4, 5, 6, 7, 8)
			expectData(t, need, list, data)
			for _, further := range []int{0, 1, 8, 9, impl.Field + 1} {
				expectNoData(t, len(data), need, append(shardsOf(data, need, further), list...))
				expectNoData(t, len(data), need, append(slices.Clone(list), shardsOf(data, need, further)...))
			}
			expectNoData(t, len(data), need, slices.Repeat(list, 100))
		}
	}
}

func TestPromise22OneChangedValue(t *testing.T) {
	for _, data := range fewData() {
		for need := 1; need < impl.MaxShards; need++ {
			for k, list := range choices(impl.ShardMake(data, need, impl.MaxShards), need+1) {
				for i := range list {
					for j, value := range list[i].Values {
						step := 1 + (k+i+j)%(impl.Field-1)
						expectNoData(t, len(data), need, withValue(list, i, j, (value+step)%impl.Field))
					}
				}
			}
		}
	}
}

func TestPromise22EachOtherValue(t *testing.T) {
	for _, data := range [][]int{{0}, {250}, scatter(5, 7)} {
		for need := 1; need < impl.MaxShards; need++ {
			list := impl.ShardMake(data, need, need+1)
			for i := range list {
				for j, value := range list[i].Values {
					for other := range impl.Field {
						if other == value {
							expectData(t, need, withValue(list, i, j, other), data)
						} else {
							expectNoData(t, len(data), need, withValue(list, i, j, other))
						}
					}
				}
			}
		}
	}
}

// All further shards count, also if only one of them does not agree, wherever it stands.
func TestOneShardOfOtherData(t *testing.T) {
	for _, data := range fewData() {
		other := scatter(len(data), 8)
		for need := 1; need < impl.MaxShards; need++ {
			for many := need + 1; many <= impl.MaxShards; many++ {
				list := impl.ShardMake(data, need, many)
				for i := range list {
					wrong := valuesOf(other, need, i+1)
					if slices.Equal(wrong, list[i].Values) {
						continue
					}
					expectNoData(t, len(data), need, withValues(list, i, wrong))
					expectNoData(t, len(data), need, reversed(withValues(list, i, wrong)))
				}
			}
		}
	}
}

// Shards that suffice without a further one are those of some data, unless that needs a padding that is not zero.
func TestAnyValuesOfFullColumns(t *testing.T) {
	for need := 1; need <= impl.MaxShards; need++ {
		for columns := 1; columns*need <= impl.MaxSymbols; columns++ {
			for k, list := range choices(shardsOf(make([]int, columns*need), need, 1, 2, 3, 4, 5, 6, 7, 8), need) {
				list = cloneShards(list)
				for i := range list {
					list[i].Values = scatter(columns, k*need+i)
				}
				data, ok := joinOf(columns*need, need, list)
				if !ok {
					t.Fatalf("the test finds no data for %v", list)
				}
				expectData(t, need, list, data)
				expectData(t, need, reversed(list), data)
			}
		}
	}
}

// The data of one symbol is its value in each shard.
func TestPaddingOfOneSymbol(t *testing.T) {
	for a := range impl.Field {
		for b := range impl.Field {
			for _, numbers := range [][2]int{{1, 2}, {8, 1}, {5, 7}} {
				list := []impl.Shard{{Number: numbers[0], Values: []int{a}}, {Number: numbers[1], Values: []int{b}}}
				if a == b {
					expectData(t, 2, list, []int{a})
				} else {
					expectNoData(t, 1, 2, list)
				}
			}
		}
	}
}

// Joined as data of more symbols, as many as fill the last column, shards give the data with what would be its padding.
func TestPaddingThatWouldNotBeZero(t *testing.T) {
	for need := 2; need <= impl.MaxShards; need++ {
		for size := need; size <= impl.MaxSymbols; size += need {
			for padding := 1; padding < need; padding++ {
				for i := range padding {
					data := append(scatter(size-padding, 9), make([]int, padding)...)
					for _, list := range choices(shardsOf(data, need, 1, 2, 3, 4, 5, 6, 7, 8), need) {
						expectData(t, need, list, data)
						expectData(t, need, list, data[:size-padding])
					}
					for _, symbol := range []int{1, 2, impl.Field - 1} {
						full := replaced(data, size-1-i, symbol)
						for many := need; many <= impl.MaxShards; many++ {
							list := impl.ShardMake(full, need, many)
							expectData(t, need, list, full)
							expectNoData(t, size-padding, need, list)
							expectNoData(t, size-padding, need, reversed(list))
						}
					}
				}
			}
		}
	}
}

// Values that are right but for the last column, whose padding is not zero, are no data; neither are those with a first column of another degree.
func TestPaddingOfSeveralColumns(t *testing.T) {
	for _, x := range []struct {
		size, need int
		list       []impl.Shard
		data       []int
	}{
		{3, 2, []impl.Shard{{Number: 1, Values: []int{30, 30}}, {Number: 2, Values: []int{50, 30}}}, []int{10, 20, 30}},
		{3, 2, []impl.Shard{{Number: 1, Values: []int{30, 30}}, {Number: 2, Values: []int{50, 31}}}, nil},
		{4, 2, []impl.Shard{{Number: 1, Values: []int{30, 30}}, {Number: 2, Values: []int{50, 31}}}, []int{10, 20, 29, 1}},
		{3, 2, []impl.Shard{{Number: 1, Values: []int{30, 30}}, {Number: 2, Values: []int{51, 30}}}, []int{9, 21, 30}},
		{3, 2, []impl.Shard{{Number: 3, Values: []int{70, 30}}, {Number: 1, Values: []int{30, 30}}, {Number: 2, Values: []int{50, 30}}}, []int{10, 20, 30}},
		{3, 2, []impl.Shard{{Number: 3, Values: []int{70, 30}}, {Number: 1, Values: []int{30, 30}}, {Number: 2, Values: []int{51, 30}}}, nil},
		{5, 3, []impl.Shard{{Number: 1, Values: []int{6, 9}}, {Number: 2, Values: []int{17, 14}}, {Number: 3, Values: []int{34, 19}}}, []int{1, 2, 3, 4, 5}},
		{5, 3, []impl.Shard{{Number: 1, Values: []int{6, 9}}, {Number: 2, Values: []int{17, 14}}, {Number: 3, Values: []int{34, 20}}}, nil},
		{4, 3, []impl.Shard{{Number: 1, Values: []int{6, 9}}, {Number: 2, Values: []int{17, 14}}, {Number: 3, Values: []int{34, 19}}}, nil},
		{2, 8, shardsOf([]int{3, 4}, 8, 8, 7, 6, 5, 4, 3, 2, 1), []int{3, 4}},
		{1, 8, shardsOf([]int{3, 4}, 8, 8, 7, 6, 5, 4, 3, 2, 1), nil},
		{1, 8, shardsOf([]int{3}, 8, 8, 7, 6, 5, 4, 3, 2, 1), []int{3}},
	} {
		if x.data == nil {
			expectNoData(t, x.size, x.need, x.list)
		} else {
			expectData(t, x.need, x.list, x.data)
		}
	}
}

// With fewer symbols in as many columns, what is left out must be zero; with more, it is.
func TestOtherSizes(t *testing.T) {
	for _, data := range manyData() {
		for need := 1; need <= impl.MaxShards; need++ {
			list, columns := impl.ShardMake(data, need, impl.MaxShards), (len(data)+need-1)/need
			for size := 1; size <= impl.MaxSymbols; size++ {
				longer := append(slices.Clone(data), make([]int, impl.MaxSymbols)...)
				if (size+need-1)/need == columns && !slices.ContainsFunc(longer[size:], func(n int) bool { return n != 0 }) {
					expectData(t, need, list, longer[:size])
				} else {
					expectNoData(t, size, need, list)
				}
			}
		}
	}
}

func TestShardJoinOfInvalidSizes(t *testing.T) {
	for _, data := range fewData() {
		for need := 1; need <= impl.MaxShards; need++ {
			list := shardsOf(data, need, 1, 2, 3, 4, 5, 6, 7, 8)
			for _, size := range notUpTo(impl.MaxSymbols) {
				expectNoData(t, size, need, list)
				expectNoData(t, size, need, nil)
			}
			for _, other := range notUpTo(impl.MaxShards) {
				expectNoData(t, len(data), other, list)
				expectNoData(t, len(data), other, list[:1])
				expectNoData(t, len(data), other, nil)
			}
		}
	}
	// The values would be right if there could be so many symbols, or so many shards that suffice.
	for size := impl.MaxSymbols + 1; size <= 4*impl.MaxSymbols; size++ {
		for need := 1; need <= impl.MaxShards; need++ {
			expectNoData(t, size, need, shardsOf(make([]int, size), need, 1, 2, 3, 4, 5, 6, 7, 8))
		}
	}
	expectNoData(t, 9, 9, shardsOf(make([]int, 9), 9, 1, 2, 3, 4, 5, 6, 7, 8))
	expectNoData(t, 9, 9, shardsOf(make([]int, 9), 9, 1, 2, 3, 4, 5, 6, 7, 8, 9))
	// There are no columns, so that there are as many values.
	for _, size := range []int{0, -1, -8} {
		expectNoData(t, size, 2, []impl.Shard{{Number: 1}, {Number: 2}})
	}
}

func TestNumbersOfShards(t *testing.T) {
	for _, data := range fewData() {
		for need := 1; need <= impl.MaxShards; need++ {
			for _, many := range []int{need, impl.MaxShards} {
				list := impl.ShardMake(data, need, many)
				for i := range list {
					for _, number := range append(notUpTo(impl.MaxShards), list[i].Number+impl.Field, list[i].Number-impl.Field) {
						expectNoData(t, len(data), need, withNumber(list, i, number))
					}
					for _, number := range []int{0, impl.MaxShards + 1} {
						wrong := withNumber(list, i, number)
						wrong[i].Values = valuesOf(data, need, number)
						expectNoData(t, len(data), need, wrong)
					}
				}
			}
		}
	}
}

// Also a shard that is repeated as it is counts as two with the same number.
func TestShardsWithTheSameNumber(t *testing.T) {
	for _, data := range fewData() {
		for need := 1; need <= impl.MaxShards; need++ {
			for many := 2; many <= impl.MaxShards; many++ {
				list := shardsOf(data, need, 1, 2, 3, 4, 5, 6, 7, 8)[:many]
				for i := range list {
					for j := range list {
						if i == j {
							continue
						}
						expectNoData(t, len(data), need, withNumber(list, i, list[j].Number))
						repeated := cloneShards(list)
						repeated[i] = repeated[j]
						expectNoData(t, len(data), need, repeated)
					}
				}
			}
		}
	}
}

func TestValuesOfShards(t *testing.T) {
	for _, data := range fewData() {
		for need := 1; need <= impl.MaxShards; need++ {
			for _, many := range []int{need, impl.MaxShards} {
				list := impl.ShardMake(data, need, many)
				for i := range list {
					values := list[i].Values
					for _, other := range [][]int{nil, values[1:], values[:len(values)-1], append([]int{0}, values...), append(slices.Clone(values), 0), make([]int, 1000)} {
						expectNoData(t, len(data), need, withValues(list, i, other))
					}
					for j, value := range values {
						for _, n := range append(notSymbols(), value+impl.Field, value-impl.Field) {
							expectNoData(t, len(data), need, withValue(list, i, j, n))
						}
					}
				}
				// All shards have the same number of values, but not that of the columns.
				for _, size := range []int{0, 1, 13, 1000} {
					wrong := cloneShards(list)
					for i := range wrong {
						wrong[i].Values = make([]int, size)
					}
					if size != (len(data)+need-1)/need {
						expectNoData(t, len(data), need, wrong)
					}
				}
			}
		}
	}
}

// scatteredLists has shards with any values, with those of some data, and with those of two data, in scattered orders.
func scatteredLists(size int, need int) [][]impl.Shard {
	lists := [][]impl.Shard{}
	for seed := range 30 {
		list, other := shardsOf(scatter(size, seed), need, 1, 2, 3, 4, 5, 6, 7, 8), shardsOf(scatter(size, seed+40), need, 1, 2, 3, 4, 5, 6, 7, 8)
		first, many := seed%impl.MaxShards, need+seed%(impl.MaxShards+1-need)
		list = append(list[first:], list[:first]...)[:many]
		for i := range list {
			if seed%3 == 1 && i > seed%7 {
				list[i] = other[list[i].Number-1]
			}
			if seed%3 == 2 {
				list[i].Values = scatter(len(list[i].Values), i+seed)
			}
		}
		lists = append(lists, list)
	}
	return lists
}

func TestPromise24JoinedDataMatches(t *testing.T) {
	joined, failed := 0, 0
	for size := 1; size <= impl.MaxSymbols; size++ {
		for need := 1; need <= impl.MaxShards; need++ {
			for _, list := range scatteredLists(size, need) {
				data, ok := impl.ShardJoin(size, need, list)
				if want, found := joinOf(size, need, list); ok != found || !slices.Equal(data, want) {
					t.Fatalf("ShardJoin of %v to %d symbols, with %d that suffice, is %v, %t, not %v, %t", list, size, need, data, ok, want, found)
				}
				if !ok {
					failed++
					continue
				}
				joined++
				for _, s := range list {
					if len(data) != size || !impl.ShardMatches(data, need, s) {
						t.Errorf("%v, joined of %v with %d that suffice, does not match %v", data, list, need, s)
					}
				}
			}
		}
	}
	if joined < 1000 || failed < 500 {
		t.Errorf("only %d lists are joined, and %d are not", joined, failed)
	}
}

func TestPromise25RepairedShardMatches(t *testing.T) {
	for size := 1; size <= impl.MaxSymbols; size++ {
		for need := 1; need <= impl.MaxShards; need++ {
			for _, list := range scatteredLists(size, need) {
				data, joined := impl.ShardJoin(size, need, list)
				for number := 1; number <= impl.MaxShards; number++ {
					s, ok := impl.ShardRepair(size, need, list, number)
					if ok != joined {
						t.Fatalf("ShardRepair of %v, with %d that suffice, is %v, %t", list, need, s, ok)
					}
					if ok && (s.Number != number || !impl.ShardMatches(data, need, s) || !slices.Equal(s.Values, valuesOf(data, need, number))) {
						t.Errorf("shard %d of %v, with %d that suffice, is %v", number, list, need, s)
					}
					if !ok && (s.Number != 0 || len(s.Values) != 0) {
						t.Errorf("without data, shard %d is %v", number, s)
					}
				}
			}
		}
	}
}

func TestPromise26ShardsOfTheListAreRepaired(t *testing.T) {
	for _, data := range fewData() {
		for need := 1; need <= impl.MaxShards; need++ {
			all := impl.ShardMake(data, need, impl.MaxShards)
			for some := need; some <= impl.MaxShards; some++ {
				for _, list := range choices(all, some) {
					for i := range all {
						s, ok := impl.ShardRepair(len(data), need, reversed(list), i+1)
						if !ok || !sameShard(s, all[i]) {
							t.Fatalf("shard %d of %v, with %d that suffice, is %v, %t", i+1, list, need, s, ok)
						}
					}
				}
			}
		}
	}
}

func TestShardRepairOfOtherNumbers(t *testing.T) {
	for _, data := range fewData() {
		for need := 1; need <= impl.MaxShards; need++ {
			list := impl.ShardMake(data, need, impl.MaxShards)
			for _, number := range append(notUpTo(impl.MaxShards), impl.Field+impl.MaxShards) {
				if s, ok := impl.ShardRepair(len(data), need, list, number); ok || s.Number != 0 || len(s.Values) != 0 {
					t.Errorf("shard %d of %v, with %d that suffice, is %v, %t", number, list, need, s, ok)
				}
			}
		}
	}
}

func TestPromise27SumsOfData(t *testing.T) {
	for _, a := range manyData() {
		for _, b := range manyData() {
			if len(a) != len(b) {
				continue
			}
			sum := []int{}
			for i := range a {
				sum = append(sum, (a[i]+b[i])%impl.Field)
			}
			for need := 1; need <= impl.MaxShards; need++ {
				x, y, z := impl.ShardMake(a, need, impl.MaxShards), impl.ShardMake(b, need, impl.MaxShards), impl.ShardMake(sum, need, impl.MaxShards)
				if len(x) != impl.MaxShards || len(y) != len(x) || len(z) != len(x) {
					t.Fatalf("ShardMake of %v, %v or %v, with %d that suffice, lacks shards", a, b, sum, need)
				}
				for i := range z {
					for j := range z[i].Values {
						if z[i].Values[j] != (x[i].Values[j]+y[i].Values[j])%impl.Field {
							t.Fatalf("%v and %v do not add up to %v", x[i], y[i], z[i])
						}
					}
				}
			}
		}
	}
}

func TestShardMatches(t *testing.T) {
	for _, data := range manyData() {
		for need := 1; need <= impl.MaxShards; need++ {
			for number := 1; number <= impl.MaxShards; number++ {
				values := valuesOf(data, need, number)
				if !impl.ShardMatches(data, need, impl.Shard{Number: number, Values: values}) {
					t.Fatalf("shard %d of %v, with %d that suffice, does not match %v", number, data, need, values)
				}
				others := [][]int{nil, values[1:], values[:len(values)-1], append([]int{0}, values...), append(slices.Clone(values), 0)}
				for j, value := range values {
					for _, n := range append(notSymbols(), value+1, value-1, (value+1)%impl.Field, (value+100)%impl.Field, value+impl.Field, value-impl.Field) {
						others = append(others, replaced(values, j, n))
					}
				}
				for _, other := range others {
					if impl.ShardMatches(data, need, impl.Shard{Number: number, Values: other}) {
						t.Fatalf("shard %d of %v, with %d that suffice, matches %v", number, data, need, other)
					}
				}
			}
		}
	}
}

func TestShardMatchesOfOtherShards(t *testing.T) {
	for _, x := range []struct {
		data    []int
		need    int
		shard   impl.Shard
		matches bool
	}{
		{[]int{10, 20, 30}, 2, impl.Shard{Number: 2, Values: []int{50, 30}}, true},
		{[]int{10, 20, 30}, 2, impl.Shard{Number: 3, Values: []int{50, 30}}, false},
		{[]int{10, 20, 30}, 2, impl.Shard{Number: 1, Values: []int{50, 30}}, false},
		{[]int{10, 20, 30}, 3, impl.Shard{Number: 2, Values: []int{50, 30}}, false},
		{[]int{10, 20, 30}, 1, impl.Shard{Number: 2, Values: []int{50, 30}}, false},
		{[]int{10, 20, 31}, 2, impl.Shard{Number: 2, Values: []int{50, 30}}, false},
		{[]int{10, 20}, 2, impl.Shard{Number: 2, Values: []int{50, 30}}, false},
		{[]int{10, 20, 30, 0}, 2, impl.Shard{Number: 2, Values: []int{50, 30}}, true},
		{[]int{10, 20, 30, 0, 0}, 2, impl.Shard{Number: 2, Values: []int{50, 30}}, false},
		{[]int{10, 20, 30}, 3, impl.Shard{Number: 2, Values: []int{170}}, true},
		{[]int{10, 20, 30}, 8, impl.Shard{Number: 2, Values: []int{170}}, true},
		{[]int{10, 20, 30}, 1, impl.Shard{Number: 8, Values: []int{10, 20, 30}}, true},
		{[]int{0}, 1, impl.Shard{}, false},
	} {
		if impl.ShardMatches(x.data, x.need, x.shard) != x.matches {
			t.Errorf("ShardMatches of %v, %d, %v is %t", x.data, x.need, x.shard, !x.matches)
		}
	}
}

// The values are those that the shard would have, if the data, the number that suffices or its own number were not out of range.
func TestShardMatchesOfInvalidArguments(t *testing.T) {
	for _, data := range invalidData() {
		for _, need := range []int{1, 2, impl.MaxShards} {
			values := valuesOf(data, need, 1)
			for j := range values {
				values[j] = (values[j] + impl.Field) % impl.Field
			}
			for _, other := range [][]int{values, nil, {0}} {
				if impl.ShardMatches(data, need, impl.Shard{Number: 1, Values: other}) {
					t.Errorf("%v matches %v", data, other)
				}
			}
		}
	}
	for _, data := range fewData() {
		for _, need := range notUpTo(impl.MaxShards) {
			for _, values := range [][]int{data, nil, {0}, valuesOf(data, impl.MaxSymbols, 1)} {
				if impl.ShardMatches(data, need, impl.Shard{Number: 1, Values: values}) {
					t.Errorf("%v matches %v, with %d that suffice", data, values, need)
				}
			}
		}
		for _, number := range append(notUpTo(impl.MaxShards), impl.Field, impl.Field+impl.MaxShards) {
			for need := 1; need <= impl.MaxShards; need++ {
				congruent := (number%impl.Field + impl.Field) % impl.Field
				if impl.ShardMatches(data, need, impl.Shard{Number: number, Values: valuesOf(data, need, congruent)}) {
					t.Errorf("%v matches shard %d, with %d that suffice", data, number, need)
				}
			}
		}
	}
}

// spoil changes values and what lies beyond their length, which may be shared, too.
func spoil(values []int) {
	values = values[:cap(values)]
	for i := range values {
		values[i] = -5
	}
}

func TestMadeShardsAreApart(t *testing.T) {
	for _, data := range fewData() {
		for need := 1; need <= impl.MaxShards; need++ {
			before := slices.Clone(data)
			list, again := impl.ShardMake(data, need, impl.MaxShards), impl.ShardMake(data, need, impl.MaxShards)
			for i := range list {
				spoil(list[i].Values)
				for j := i + 1; j < len(list); j++ {
					if !slices.Equal(list[j].Values, valuesOf(before, need, j+1)) {
						t.Errorf("shards %d and %d of %v share memory", i+1, j+1, before)
					}
				}
			}
			for i, s := range again {
				if !slices.Equal(s.Values, valuesOf(before, need, i+1)) {
					t.Errorf("two calls with %v share memory", before)
				}
			}
			if !slices.Equal(data, before) {
				t.Errorf("the shards of %v share memory with it, or change it", before)
			}
		}
	}
}

func TestJoinedDataAndRepairedShardsAreApart(t *testing.T) {
	for _, before := range fewData() {
		for need := 1; need <= impl.MaxShards; need++ {
			list := shardsOf(before, need, 8, 7, 6, 5, 4, 3, 2, 1)
			kept, data := cloneShards(list), slices.Clone(before)
			joined, _ := impl.ShardJoin(len(data), need, list)
			again, _ := impl.ShardJoin(len(data), need, list)
			repaired, _ := impl.ShardRepair(len(data), need, list, 3)
			repeated, _ := impl.ShardRepair(len(data), need, list, 3)
			impl.ShardMatches(data, need, list[0])
			spoil(joined)
			spoil(repaired.Values)
			if !slices.EqualFunc(list, kept, sameShard) || !slices.Equal(data, before) {
				t.Errorf("the arguments %v and %v are now %v and %v", kept, before, list, data)
			}
			if !slices.Equal(again, before) || !slices.Equal(repeated.Values, valuesOf(before, need, 3)) {
				t.Errorf("two results for %v share memory", kept)
			}
		}
	}
}
