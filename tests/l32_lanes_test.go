package tests

import (
	"math"
	"runtime"
	"slices"
	"sync"
	"testing"

	"loop.example/dagconsensus/impl"
)

// conflictBy tells without the program whether two transactions conflict.
func conflictBy(a impl.Txn, b impl.Txn) bool {
	accounts := []int{b.From, b.To}
	return slices.Contains(accounts, a.From) || slices.Contains(accounts, a.To)
}

// lanesBy divides transactions without the program: from the first one that is left, it follows conflicts as far as they lead.
func lanesBy(list []impl.Txn) [][]int {
	lanes := [][]int{}
	reached := make([]bool, len(list))
	for first := range list {
		if reached[first] {
			continue
		}
		reached[first] = true
		lane := []int{first}
		for at := 0; at < len(lane); at++ {
			for i, x := range list {
				if !reached[i] && conflictBy(list[lane[at]], x) {
					reached[i] = true
					lane = append(lane, i)
				}
			}
		}
		slices.Sort(lane)
		lanes = append(lanes, lane)
	}
	return lanes
}

func depthBy(lanes [][]int) int {
	depth := 0
	for _, lane := range lanes {
		depth = max(depth, len(lane))
	}
	return depth
}

func sameLanes(a [][]int, b [][]int) bool {
	return slices.EqualFunc(a, b, slices.Equal[[]int])
}

func cloneLanes(lanes [][]int) [][]int {
	list := [][]int{}
	for _, lane := range lanes {
		list = append(list, slices.Clone(lane))
	}
	return list
}

func txnsAt(list []impl.Txn, indexes []int) []impl.Txn {
	chosen := []impl.Txn{}
	for _, i := range indexes {
		chosen = append(chosen, list[i])
	}
	return chosen
}

func replacedTxn(list []impl.Txn, i int, x impl.Txn) []impl.Txn {
	list = slices.Clone(list)
	list[i] = x
	return list
}

func areTxns(list []impl.Txn) bool {
	for _, x := range list {
		if !isTxn(x) {
			return false
		}
	}
	return true
}

// pathTxns has a transaction between each account and the next one, which goes back if its bit of the mask is set.
func pathTxns(mask int, accounts ...int) []impl.Txn {
	list := []impl.Txn{}
	for i := 1; i < len(accounts); i++ {
		x := txnOf(accounts[i-1], accounts[i], 10+i, i%3)
		if mask>>(i-1)&1 == 1 {
			x.From, x.To = x.To, x.From
		}
		list = append(list, x)
	}
	return list
}

// pairsWithin has the pairs of different accounts with the same group.
func pairsWithin(groups [6]int) [][2]int {
	list := [][2]int{}
	for _, pair := range accountPairs() {
		if groups[pair[0]] == groups[pair[1]] {
			list = append(list, pair)
		}
	}
	return list
}

// dividedList has as many valid transactions as asked for, within up to so many groups of accounts, as a seed tells.
func dividedList(many int, groups int, seed int) []impl.Txn {
	next := seeded(1000*seed + 10*many + groups)
	divided, spread := [6]int{}, next(6)
	for account := range divided {
		divided[account] = (account + spread) % 6 * groups / 6
	}
	if seed%2 == 1 {
		other := next(6)
		divided[spread], divided[other] = divided[other], divided[spread]
	}
	pairs, list := pairsWithin(divided), []impl.Txn{}
	for range many {
		pair := pairs[next(len(pairs))]
		list = append(list, txnOf(pair[0], pair[1], 1+next([]int{5, 99}[next(2)]), next(10)))
	}
	return list
}

// laneLists has valid lists of all lengths, of one to three lanes.
func laneLists() [][]impl.Txn {
	list := [][]impl.Txn{}
	for _, txns := range manyLists() {
		if areTxns(txns) {
			list = append(list, txns)
		}
	}
	for many := 1; many <= 16; many++ {
		for groups := 1; groups <= 3; groups++ {
			for seed := range 6 {
				list = append(list, dividedList(many, groups, seed))
			}
		}
	}
	return append(list, pathTxns(5, 0, 1, 2, 3, 4, 5), pathTxns(0, 5, 3, 1, 0, 2, 4), reversed(pathTxns(2, 2, 5, 0, 3)))
}

// fewLaneLists has one of each few of them.
func fewLaneLists() [][]impl.Txn {
	list := [][]impl.Txn{}
	for i, txns := range laneLists() {
		if i%6 == 0 {
			list = append(list, txns)
		}
	}
	return list
}

// eachShortList goes through all lists of transactions between all accounts, of up to so many.
func eachShortList(most int, each func(list []impl.Txn)) {
	lists := [][]impl.Txn{{}}
	for many := range most + 1 {
		longer := [][]impl.Txn{}
		for _, list := range lists {
			each(list)
			if many == most {
				continue
			}
			for i, pair := range accountPairs() {
				x := txnOf(pair[0], pair[1], 20+7*many+i, (many+i)%10)
				longer = append(longer, append(slices.Clone(list), x))
			}
		}
		lists = longer
	}
}

func outcomesOf(l impl.Ledger, list []impl.Txn) []bool {
	_, outcomes := runBy(l, list)
	return outcomes
}

func expectConflict(t *testing.T, a impl.Txn, b impl.Txn, conflict bool) {
	t.Helper()
	if impl.TxnsConflict(a, b) != conflict || impl.TxnsConflict(b, a) != conflict {
		t.Errorf("that %v and %v conflict is %v, and exchanged %v", a, b, impl.TxnsConflict(a, b), impl.TxnsConflict(b, a))
	}
}

func expectLanes(t *testing.T, list []impl.Txn, want ...[]int) {
	t.Helper()
	if lanes := impl.LanesOf(list); !sameLanes(lanes, want) {
		t.Errorf("the lanes of %v are %v and not %v", list, lanes, want)
	}
	if depth := impl.LanesDepth(list); depth != depthBy(want) {
		t.Errorf("the longest lane of %v has %d transactions and not %d", list, depth, depthBy(want))
	}
}

// expectNoLanes expects of each function what it returns for an invalid list, also with a ledger that can pay for everything.
func expectNoLanes(t *testing.T, list []impl.Txn) {
	t.Helper()
	if lanes := impl.LanesOf(list); len(lanes) != 0 {
		t.Errorf("the lanes of %v are %v", list, lanes)
	}
	if depth := impl.LanesDepth(list); depth != -1 {
		t.Errorf("the longest lane of %v has %d transactions", list, depth)
	}
	expectLanesNotRun(t, evenLedger(0, 500), list)
	expectLanesNotRun(t, evenLedger(5850, 500), list)
}

func expectLanesRun(t *testing.T, l impl.Ledger, list []impl.Txn, want impl.Ledger, done ...bool) {
	t.Helper()
	if after, outcomes := impl.LanesRun(l, list); !slices.Equal(outcomes, done) || !sameLedger(after, want) {
		t.Errorf("with the lanes of %v, %v is %v, %v and not %v, %v", list, l, after, outcomes, want, done)
	}
}

func expectLanesNotRun(t *testing.T, l impl.Ledger, list []impl.Txn) {
	t.Helper()
	expectLanesRun(t, l, list, impl.Ledger{})
}

// expectSame expects that valid transactions that are accepted do the same in lanes and in order, as computed without the program.
func expectSame(t *testing.T, l impl.Ledger, list []impl.Txn) {
	t.Helper()
	want, outcomes := runBy(l, list)
	expectRun(t, l, list, want, outcomes...)
	expectLanesRun(t, l, list, want, outcomes...)
}

// expectOnlyRun expects that LedgerRun accepts a list with an invalid transaction, which fails alone, and that LanesRun does not.
func expectOnlyRun(t *testing.T, l impl.Ledger, list []impl.Txn) {
	t.Helper()
	want, outcomes := runBy(l, list)
	expectRun(t, l, list, want, outcomes...)
	expectLanesNotRun(t, l, list)
}

func TestTxnsConflict(t *testing.T) {
	x := txnOf(0, 1, 3, 4)
	for _, y := range []struct {
		txn      impl.Txn
		conflict bool
	}{
		{txnOf(0, 2, 3, 4), true},
		{txnOf(2, 1, 3, 4), true},
		{txnOf(1, 2, 3, 4), true},
		{txnOf(2, 0, 3, 4), true},
		{txnOf(0, 1, 3, 4), true},
		{txnOf(0, 1, 99, 0), true},
		{txnOf(1, 0, 3, 4), true},
		{txnOf(2, 3, 3, 4), false},
		{txnOf(3, 4, 3, 4), false},
		{txnOf(4, 5, 0, 1), false},
		{txnOf(5, 2, 1, 0), false},
	} {
		expectConflict(t, x, y.txn, y.conflict)
	}
}

// Invalid transactions are compared as numbers.
func TestInvalidTxnsConflict(t *testing.T) {
	for _, x := range []struct {
		a, b     impl.Txn
		conflict bool
	}{
		{impl.Txn{}, impl.Txn{}, true},
		{impl.Txn{}, txnOf(0, 1, 1, 0), true},
		{impl.Txn{}, txnOf(1, 0, 1, 0), true},
		{impl.Txn{}, txnOf(1, 2, 0, 0), false},
		{txnOf(3, 3, 1, 0), txnOf(3, 3, 1, 0), true},
		{txnOf(3, 3, 1, 0), txnOf(4, 4, 1, 0), false},
		{txnOf(3, 3, 1, 0), txnOf(4, 3, 1, 0), true},
		{txnOf(3, 3, 4, 4), txnOf(4, 5, 3, 3), false},
		{txnOf(-1, 6, 1, 0), txnOf(6, 7, 1, 0), true},
		{txnOf(-1, 6, 1, 0), txnOf(7, -1, 1, 0), true},
		{txnOf(-1, 6, 1, 0), txnOf(1, 0, 1, 0), false},
		{txnOf(-1, -1, 1, 0), txnOf(-1, -1, 1, 0), true},
		{txnOf(-1, -1, 1, 0), txnOf(-2, 5, 1, 0), false},
		{txnOf(0, 6, 1, 0), txnOf(6, 12, 1, 0), true},
		{txnOf(0, 6, 1, 0), txnOf(12, 18, 1, 0), false},
		{txnOf(0, 1, 0, 0), txnOf(1, 2, 100, 10), true},
		{txnOf(0, 1, -1, -1), txnOf(2, 3, -1, -1), false},
		{txnOf(math.MinInt, math.MaxInt, 1, 0), txnOf(math.MaxInt, 0, 1, 0), true},
		{txnOf(math.MinInt, math.MaxInt, 1, 0), txnOf(0, math.MinInt, 1, 0), true},
		{txnOf(math.MinInt, math.MaxInt, 1, 0), txnOf(0, -1, 1, 0), false},
		{txnOf(math.MinInt, math.MinInt, 1, 0), txnOf(math.MaxInt, math.MaxInt, 1, 0), false},
		{txnOf(math.MinInt, math.MinInt, 1, 0), txnOf(0, 0, 1, 0), false},
	} {
		expectConflict(t, x.a, x.b, x.conflict)
	}
}

func TestPromise112ConflictsOfAllAccounts(t *testing.T) {
	accounts := append(notAccounts(), 0, 1, 2, 3, 4, 5)
	pairs := [][2]int{}
	for _, from := range accounts {
		for _, to := range accounts {
			pairs = append(pairs, [2]int{from, to})
		}
	}
	for i, a := range pairs {
		for j, b := range pairs {
			x, y := txnOf(a[0], a[1], i%100, j%10), txnOf(b[0], b[1], j%100, i%10)
			expectConflict(t, x, y, conflictBy(x, y))
		}
	}
}

// Sums and fees are no accounts, even if they are equal to those of the other transaction.
func TestPromise112EqualTransactions(t *testing.T) {
	for _, x := range append(manyTxns(), invalidTxns()...) {
		expectConflict(t, x, x, true)
		expectConflict(t, x, txnOf(x.To, x.From, x.Fee, x.Sum), true)
		apart := txnOf(x.From^32, x.To^32, x.From, x.To)
		expectConflict(t, x, apart, conflictBy(x, apart))
	}
}

// The expected lanes are worked out by hand.
func TestLanesOf(t *testing.T) {
	a, b, c := txnOf(0, 1, 5, 0), txnOf(2, 3, 5, 0), txnOf(4, 5, 5, 0)
	expectLanes(t, nil)
	expectLanes(t, []impl.Txn{})
	expectLanes(t, []impl.Txn{a}, []int{0})
	expectLanes(t, []impl.Txn{c}, []int{0})
	expectLanes(t, []impl.Txn{a, a}, []int{0, 1})
	expectLanes(t, []impl.Txn{a, b}, []int{0}, []int{1})
	expectLanes(t, []impl.Txn{b, a}, []int{0}, []int{1})
	expectLanes(t, []impl.Txn{c, b, a}, []int{0}, []int{1}, []int{2})
	expectLanes(t, []impl.Txn{c, a, c, b, a, c}, []int{0, 2, 5}, []int{1, 4}, []int{3})
	expectLanes(t, []impl.Txn{a, txnOf(1, 0, 9, 9)}, []int{0, 1})
	expectLanes(t, []impl.Txn{a, txnOf(0, 2, 5, 0)}, []int{0, 1})
	expectLanes(t, []impl.Txn{a, txnOf(2, 1, 5, 0)}, []int{0, 1})
	expectLanes(t, []impl.Txn{a, txnOf(1, 2, 5, 0)}, []int{0, 1})
	expectLanes(t, []impl.Txn{a, txnOf(2, 0, 5, 0)}, []int{0, 1})
	expectLanes(t, []impl.Txn{a, b, txnOf(1, 4, 5, 0)}, []int{0, 2}, []int{1})
	expectLanes(t, []impl.Txn{a, b, txnOf(4, 2, 5, 0)}, []int{0}, []int{1, 2})
	expectLanes(t, []impl.Txn{a, c, b, txnOf(3, 1, 5, 0)}, []int{0, 2, 3}, []int{1})
	expectLanes(t, []impl.Txn{a, b, c, txnOf(5, 2, 5, 0), b}, []int{0}, []int{1, 2, 3, 4})
	expectLanes(t, []impl.Txn{a, b, c, txnOf(5, 2, 5, 0), txnOf(0, 4, 5, 0)}, []int{0, 1, 2, 3, 4})
}

// Each lane is worked out by hand: the accounts are connected only if all transactions between them are there.
func TestChainsOfConflicts(t *testing.T) {
	list := []impl.Txn{txnOf(0, 1, 1, 0), txnOf(2, 1, 1, 0), txnOf(2, 3, 1, 0), txnOf(4, 3, 1, 0), txnOf(4, 5, 1, 0)}
	expectConflict(t, list[0], list[2], false)
	expectConflict(t, list[0], list[4], false)
	expectConflict(t, list[1], list[3], false)
	expectLanes(t, list, []int{0, 1, 2, 3, 4})
	expectLanes(t, list[:4], []int{0, 1, 2, 3})
	expectLanes(t, slices.Delete(slices.Clone(list), 1, 2), []int{0}, []int{1, 2, 3})
	expectLanes(t, slices.Delete(slices.Clone(list), 2, 3), []int{0, 1}, []int{2, 3})
	expectLanes(t, slices.Delete(slices.Clone(list), 3, 4), []int{0, 1, 2}, []int{3})
	expectLanes(t, txnsAt(list, []int{0, 2, 4}), []int{0}, []int{1}, []int{2})
	expectLanes(t, txnsAt(list, []int{0, 2, 4, 1, 3}), []int{0, 1, 2, 3, 4})
	expectLanes(t, txnsAt(list, []int{4, 0, 2, 3}), []int{0, 2, 3}, []int{1})
	expectLanes(t, txnsAt(list, []int{4, 0, 2, 1}), []int{0}, []int{1, 2, 3})
}

// A chain is a single lane in every order of its transactions, and with each of them in either direction.
func TestLanesOfChainsInEveryOrder(t *testing.T) {
	lists := 0
	for _, accounts := range [][]int{{0, 1, 2, 3}, {5, 4, 3, 2, 1}, {0, 1, 2, 3, 4, 5}, {3, 0, 5, 1, 4, 2}} {
		many := len(accounts) - 1
		for mask := range 1 << many {
			path := pathTxns(mask, accounts...)
			expectConflict(t, path[0], path[many-1], false)
			for _, list := range orders(path) {
				lists++
				expectLanes(t, list, subset(many, 1<<many-1))
				expectSame(t, scatteredLedger(lists%60), list)
			}
		}
	}
	if lists != 8*6+16*24+2*32*120 {
		t.Errorf("there are %d lists", lists)
	}
}

// A chain leaves two accounts over: a transaction between these is a lane of its own, wherever it stands, and makes no gap in the chain.
func TestChainsWithALaneBetween(t *testing.T) {
	for mask := range 16 {
		apart := txnOf(5-mask%2, 4+mask%2, 7, 1)
		for _, path := range orders(pathTxns(mask/2, 2, 0, 3, 1)) {
			for at := range 4 {
				list := slices.Insert(slices.Clone(path), at, apart)
				chain := slices.Delete([]int{0, 1, 2, 3}, at, at+1)
				want := [][]int{chain, {at}}
				if at == 0 {
					want = [][]int{{at}, chain}
				}
				expectLanes(t, list, want...)
				expectSame(t, scatteredLedger(mask), list)
			}
		}
	}
}

// All pairs of transactions without a common account are connected by each transaction between them, with the one that is left before it or after it.
func TestLanesThatALaterTransactionConnects(t *testing.T) {
	lists := 0
	for _, x := range orders([]int{0, 1, 2, 3, 4, 5}) {
		a, b := txnOf(x[0], x[1], 5, 0), txnOf(x[2], x[3], 6, 1)
		apart, between := txnOf(x[4], x[5], 7, 2), txnOf(x[1], x[2], 8, 3)
		expectLanes(t, []impl.Txn{a, b}, []int{0}, []int{1})
		expectLanes(t, []impl.Txn{a, b, between}, []int{0, 1, 2})
		expectLanes(t, []impl.Txn{a, b, a, b, apart}, []int{0, 2}, []int{1, 3}, []int{4})
		expectLanes(t, []impl.Txn{a, b, a, b, apart, between}, []int{0, 1, 2, 3, 5}, []int{4})
		expectLanes(t, []impl.Txn{a, apart, b, between}, []int{0, 2, 3}, []int{1})
		expectLanes(t, []impl.Txn{apart, a, b, between}, []int{0}, []int{1, 2, 3})
		expectLanes(t, []impl.Txn{b, a, between, apart}, []int{0, 1, 2}, []int{3})
		for _, list := range [][]impl.Txn{{a, b, between}, {a, apart, b, between}, {apart, a, b, between}} {
			expectSame(t, scatteredLedger(lists%60), list)
			lists++
		}
	}
	if lists != 3*720 {
		t.Errorf("there are %d lists", lists)
	}
}

// There are three lanes with two accounts each at most.
func TestAsManyLanesAsAccountsAllow(t *testing.T) {
	most := 0
	for _, x := range orders([]int{0, 1, 2, 3, 4, 5}) {
		list, want := []impl.Txn{}, [][]int{{}, {}, {}}
		for i := range 16 {
			lane := i % 3
			list = append(list, txnOf(x[2*lane+i%2], x[2*lane+1-i%2], 1+i, i%10))
			want[lane] = append(want[lane], i)
		}
		expectLanes(t, list, want...)
		expectSame(t, evenLedger(5850, 500), list)
	}
	for _, list := range laneLists() {
		most = max(most, len(impl.LanesOf(list)))
	}
	if most != 3 {
		t.Errorf("there are at most %d lanes", most)
	}
}

func TestListsOfOneLane(t *testing.T) {
	for many := 1; many <= 16; many++ {
		all := subset(many, 1<<many-1)
		for _, pair := range accountPairs() {
			x, back := txnOf(pair[0], pair[1], 40, 1), txnOf(pair[1], pair[0], 60, 2)
			list := []impl.Txn{}
			for i := range many {
				list = append(list, []impl.Txn{x, back, back}[i%3])
			}
			expectLanes(t, list, all)
			expectSame(t, evenLedger(9, 99), list)
		}
	}
}

func TestPromise113IndexesOfLanes(t *testing.T) {
	counts := [4]int{}
	for _, list := range laneLists() {
		lanes := impl.LanesOf(list)
		all, last := []int{}, -1
		for _, lane := range lanes {
			if len(lane) == 0 || lane[0] <= last || !slices.IsSorted(lane) {
				t.Fatalf("the lanes of %v are %v", list, lanes)
			}
			all, last = append(all, lane...), lane[0]
		}
		slices.Sort(all)
		if !slices.Equal(all, subset(len(list), 1<<len(list)-1)) {
			t.Errorf("the lanes of %v are %v", list, lanes)
		}
		counts[len(lanes)]++
	}
	if min(counts[1], counts[2], counts[3]) < 50 {
		t.Errorf("these lists have no, one, two and three lanes: %v", counts)
	}
}

func TestPromise114DifferentLanes(t *testing.T) {
	pairs := 0
	for _, list := range laneLists() {
		lanes := impl.LanesOf(list)
		for i, one := range lanes {
			for _, other := range lanes[:i] {
				for _, a := range txnsAt(list, one) {
					for _, b := range txnsAt(list, other) {
						pairs++
						expectConflict(t, a, b, false)
					}
				}
			}
		}
	}
	if pairs < 1000 {
		t.Errorf("only %d pairs of transactions are in different lanes", pairs)
	}
}

func TestPromise115OtherTransactionsOfTheLane(t *testing.T) {
	later := 0
	for _, list := range laneLists() {
		for _, lane := range impl.LanesOf(list) {
			for at, i := range lane {
				others := txnsAt(list, slices.Delete(slices.Clone(lane), at, at+1))
				connected := slices.ContainsFunc(others, func(x impl.Txn) bool { return impl.TxnsConflict(list[i], x) })
				if at > 0 && !connected {
					t.Errorf("in the lane %v of %v, %d conflicts with no other one", lane, list, i)
				}
				later += min(at, 1)
			}
		}
	}
	if later < 1000 {
		t.Errorf("only %d transactions are not the first ones of their lanes", later)
	}
}

// Lanes may not only be apart, but each must be held together by a chain: two lanes in one would keep the promises 113 to 115.
func TestLanesOfAnotherProgram(t *testing.T) {
	for _, list := range laneLists() {
		expectLanes(t, list, lanesBy(list)...)
		expectLanes(t, reversed(list), lanesBy(reversed(list))...)
	}
}

func TestLanesOfShortLists(t *testing.T) {
	lists := 0
	eachShortList(3, func(list []impl.Txn) {
		lists++
		expectLanes(t, list, lanesBy(list)...)
		expectSame(t, scatteredLedger(lists%60), list)
	})
	if lists != 1+30+900+27000 {
		t.Errorf("there are %d lists", lists)
	}
}

func TestPromise116LanesAreRunAsInOrder(t *testing.T) {
	all, some, none := 0, 0, 0
	for _, l := range manyLedgers() {
		for _, list := range fewLaneLists() {
			after, outcomes := impl.LanesRun(l, list)
			want, done := impl.LedgerRun(l, list)
			if !sameLedger(after, want) || !slices.Equal(outcomes, done) || !impl.LedgerValid(after) || len(done) != len(list) {
				t.Fatalf("with the lanes of %v, %v is %v, %v and not %v, %v", list, l, after, outcomes, want, done)
			}
			switch count := countOf(outcomes); {
			case len(list) == 0:
			case count == 0:
				none++
			case count == len(list):
				all++
			default:
				some++
			}
		}
	}
	if min(all, some, none) < 100 {
		t.Errorf("all transactions succeed %d times, some %d times, none %d times", all, some, none)
	}
}

func TestPromise116LanesOfAnotherProgram(t *testing.T) {
	for _, l := range append(fewLedgers(), evenLedger(5850, 500), evenLedger(0, 100)) {
		for _, list := range laneLists() {
			expectSame(t, l, list)
		}
	}
}

func TestPromise117LanesInReverseOrder(t *testing.T) {
	moved := 0
	for _, l := range manyLedgers() {
		for _, list := range fewLaneLists() {
			indexes := slices.Concat(reversed(impl.LanesOf(list))...)
			want, outcomes := impl.LedgerRun(l, list)
			done := []bool{}
			for _, i := range indexes {
				done = append(done, outcomes[i])
			}
			expectRun(t, l, txnsAt(list, indexes), want, done...)
			expectLanesRun(t, l, txnsAt(list, indexes), want, done...)
			if !slices.IsSorted(indexes) && countOf(outcomes) > 0 {
				moved++
			}
		}
	}
	if moved < 1000 {
		t.Errorf("only %d lists change their order", moved)
	}
}

func TestPromise118LongestLanes(t *testing.T) {
	seen := [17]bool{}
	for _, list := range laneLists() {
		longest := 0
		for _, lane := range impl.LanesOf(list) {
			longest = max(longest, len(lane))
		}
		if depth := impl.LanesDepth(list); depth != longest || depth != depthBy(lanesBy(list)) {
			t.Errorf("the longest lane of %v has %d transactions and not %d", list, depth, longest)
		}
		seen[longest] = true
	}
	if depth := max(impl.LanesDepth(nil), impl.LanesDepth([]impl.Txn{})); depth != 0 {
		t.Errorf("without transactions, the longest lane has %d", depth)
	}
	if slices.Contains(seen[:], false) {
		t.Errorf("these are the lengths of the longest lanes: %v", seen)
	}
}

func TestPromise119AccountsOfOtherLanes(t *testing.T) {
	changed, kept := 0, 0
	for _, l := range manyLedgers() {
		for _, list := range fewLaneLists() {
			for _, lane := range impl.LanesOf(list) {
				chosen := txnsAt(list, lane)
				after, _ := impl.LedgerRun(l, chosen)
				expectLanesRun(t, l, chosen, after, outcomesOf(l, chosen)...)
				for account, balance := range l.Balances {
					used := slices.ContainsFunc(chosen, func(x impl.Txn) bool { return x.From == account || x.To == account })
					if !used && after.Balances[account] != balance {
						t.Errorf("with the lane %v, account %d of %v has %d", chosen, account, l, after.Balances[account])
					}
					if !used {
						kept++
					} else if after.Balances[account] != balance {
						changed++
					}
				}
			}
		}
	}
	if min(changed, kept) < 1000 {
		t.Errorf("%d balances change and %d are not used", changed, kept)
	}
}

// The expected ledgers are worked out by hand.
func TestLanesRun(t *testing.T) {
	l := ledgerOf(40, 100, 20, 999, 0, 950, 7)
	list := []impl.Txn{txnOf(0, 1, 30, 2), txnOf(2, 3, 99, 9), txnOf(4, 5, 99, 0), txnOf(1, 0, 50, 1), txnOf(3, 2, 99, 0), txnOf(5, 4, 99, 7), txnOf(1, 0, 50, 0)}
	expectLanes(t, list, []int{0, 3, 6}, []int{1, 4}, []int{2, 5})
	expectLanesRun(t, l, nil, l)
	expectLanesRun(t, l, list[:1], ledgerOf(42, 68, 50, 999, 0, 950, 7), true)
	expectLanesRun(t, l, list[:3], ledgerOf(51, 68, 50, 891, 99, 851, 106), true, true, true)
	expectLanesRun(t, l, list, ledgerOf(58, 118, 0, 990, 0, 950, 0), true, true, true, false, true, true, true)
	expectLanesRun(t, l, reversed(list), ledgerOf(51, 68, 50, 891, 99, 851, 106), false, false, false, false, true, true, true)
	// The balance of account 2 has space for 60 only after it has paid.
	between := []impl.Txn{txnOf(0, 2, 60, 5), txnOf(4, 5, 1, 1), txnOf(2, 3, 60, 3), txnOf(0, 2, 60, 5), txnOf(5, 4, 8, 0)}
	expectLanes(t, between, []int{0, 2, 3}, []int{1, 4})
	expectLanesRun(t, l, between, ledgerOf(49, 35, 20, 996, 60, 956, 0), false, true, true, true, true)
	expectLanesRun(t, l, between[1:3], ledgerOf(44, 100, 20, 936, 60, 948, 8), true, true)
	expectLanesRun(t, ledgerOf(0, 9, 0, 0, 0, 0, 0), []impl.Txn{txnOf(0, 1, 5, 0), txnOf(2, 3, 5, 0), txnOf(1, 4, 5, 0)}, ledgerOf(0, 4, 0, 0, 0, 5, 0), true, false, true)
}

// The expected ledgers are worked out by hand: the fees of all lanes add up, and do not count before a lane is executed.
func TestFeesOfLanesNearTheirLimit(t *testing.T) {
	list := []impl.Txn{}
	for i := range 16 {
		list = append(list, txnOf(i%3*2, i%3*2+1, 1, 9))
	}
	expectLanesRun(t, ledgerOf(5850, 60, 0, 50, 0, 50, 0), list, ledgerOf(5994, 0, 6, 0, 5, 0, 5), slices.Repeat([]bool{true}, 16)...)
	expectLanesRun(t, ledgerOf(5850, 59, 0, 50, 0, 49, 0), list, ledgerOf(5976, 9, 5, 0, 5, 9, 4), append(slices.Repeat([]bool{true}, 14), false, false)...)
	expectLanesRun(t, ledgerOf(5850, 0, 0, 0, 0, 0, 0), list, ledgerOf(5850, 0, 0, 0, 0, 0, 0), make([]bool, 16)...)
	expectLanesRun(t, ledgerOf(5850, 1, 2, 3, 4, 5, 6), nil, ledgerOf(5850, 1, 2, 3, 4, 5, 6))
	expectLanesNotRun(t, ledgerOf(5851, 60, 0, 50, 0, 50, 0), list)
	expectLanesNotRun(t, ledgerOf(5851, 60, 0, 50, 0, 50, 0), list[:1])
	expectLanesNotRun(t, ledgerOf(5851, 60, 0, 50, 0, 50, 0), []impl.Txn{txnOf(0, 1, 1, 0)})
	expectLanesNotRun(t, ledgerOf(5851, 60, 0, 50, 0, 50, 0), nil)
	expectLanesNotRun(t, ledgerOf(5994, 60, 0, 50, 0, 50, 0), list)
	expectLanesNotRun(t, ledgerOf(5995, 60, 0, 50, 0, 50, 0), list)
	for fees := range 5996 {
		l := ledgerOf(fees, 60, 0, 50, 0, 50, 0)
		if fees > 5850 {
			expectNotRun(t, l, list)
			expectLanesNotRun(t, l, list)
			expectLanesNotRun(t, l, nil)
		} else {
			expectSame(t, l, list)
		}
	}
}

func TestInvalidTransactionsOfLanes(t *testing.T) {
	list := []impl.Txn{txnOf(0, 1, 10, 1), txnOf(2, 3, 11, 2), txnOf(4, 5, 12, 3), txnOf(1, 0, 13, 4), txnOf(5, 4, 14, 5)}
	l := evenLedger(3, 600)
	expectSame(t, l, list)
	for i := range list {
		for _, broken := range append(brokenTxns(list[i]), invalidTxns()[:30]...) {
			for _, other := range [][]impl.Txn{replacedTxn(list, i, broken), slices.Insert(slices.Clone(list), i, broken)} {
				expectNoLanes(t, other)
				expectOnlyRun(t, l, other)
			}
		}
	}
	for _, broken := range invalidTxns() {
		for _, other := range [][]impl.Txn{{broken}, {broken, broken}, append(slices.Clone(list), broken)} {
			expectNoLanes(t, other)
			expectOnlyRun(t, l, other)
		}
	}
}

// In lists of all lengths, one transaction at the beginning, in the middle and at the end is invalid, or all are.
func TestInvalidTransactionsOfLanesOfAllLengths(t *testing.T) {
	broken := invalidTxns()
	for many := 1; many <= 16; many++ {
		for seed, l := range []impl.Ledger{evenLedger(0, 500), scatteredLedger(many), evenLedger(5850, 999)} {
			list := dividedList(many, 1+seed, seed)
			expectSame(t, l, list)
			for k, i := range []int{0, many / 2, many - 1} {
				other := replacedTxn(list, i, broken[(31*many+7*seed+k)%len(broken)])
				expectNoLanes(t, other)
				expectOnlyRun(t, l, other)
			}
			expectNoLanes(t, broken[many:2*many])
			expectOnlyRun(t, l, broken[many:2*many])
		}
	}
}

// The lists have as many lanes as accounts allow, and a single one.
func TestLongestListsOfLanesAndOneMore(t *testing.T) {
	for groups := 1; groups <= 3; groups++ {
		for _, l := range []impl.Ledger{evenLedger(0, 500), evenLedger(5850, 499)} {
			for _, many := range []int{15, 16} {
				list := dividedList(many, groups, 2)
				expectLanes(t, list, lanesBy(list)...)
				expectSame(t, l, list)
			}
			for _, many := range []int{17, 18, 32, 100, 1000} {
				list := dividedList(many, groups, 2)
				expectNoLanes(t, list)
				expectNotRun(t, l, list)
				expectLanesNotRun(t, l, list)
				expectNoLanes(t, replacedTxn(list, many-1, impl.Txn{}))
			}
		}
	}
	expectNoLanes(t, slices.Repeat([]impl.Txn{txnOf(0, 1, 1, 0)}, 17))
	expectNoLanes(t, slices.Repeat([]impl.Txn{{}}, 17))
}

// An invalid ledger is given with valid lists, and a valid ledger with invalid lists.
func TestLanesOfInvalidLedgers(t *testing.T) {
	lists := append(fewLaneLists()[:8], nil, pathTxns(0, 0, 1, 2, 3, 4, 5), dividedList(16, 3, 1), dividedList(17, 3, 1), invalidTxns()[:5])
	for _, l := range invalidLedgers() {
		for _, list := range lists {
			expectLanesNotRun(t, l, list)
			expectNotRun(t, l, list)
		}
	}
	for _, l := range append(tightLedgers(), fullLedgers()...) {
		for _, list := range lists {
			expectLanesNotRun(t, l, list)
		}
	}
	for _, l := range manyLedgers() {
		expectLanesNotRun(t, l, lists[len(lists)-1])
		expectLanesNotRun(t, l, lists[len(lists)-2])
		expectSame(t, l, lists[len(lists)-3])
	}
}

// Lists are executed in one ledger after the other, as seeds tell, and compared with what is computed without the program.
func TestManyLanes(t *testing.T) {
	done, failed, rejected := 0, 0, 0
	for seed := range 100 {
		next, l := seeded(seed+5), scatteredLedger(seed)
		l.Fees = 0
		for range 30 {
			list := dividedList(next(17), 1+next(3), next(1000))
			if len(list) > 0 && next(8) == 0 {
				rejected++
				list[next(len(list))] = invalidTxns()[next(100)]
				expectNoLanes(t, list)
				expectOnlyRun(t, l, list)
				continue
			}
			expectLanes(t, list, lanesBy(list)...)
			expectSame(t, l, list)
			after, outcomes := runBy(l, list)
			done, failed, l = done+countOf(outcomes), failed+len(list)-countOf(outcomes), after
		}
	}
	if min(done, failed) < 1000 || rejected < 100 {
		t.Errorf("%d transactions succeed, %d fail, and %d lists are rejected", done, failed, rejected)
	}
}

func TestLanesAreApart(t *testing.T) {
	for _, list := range append(laneLists(), invalidTxns()[:16], dividedList(17, 3, 1)) {
		txns := roomyTxns(list)
		one, two := impl.LanesOf(txns), impl.LanesOf(txns)
		impl.LanesDepth(txns)
		for i := range txns {
			impl.TxnsConflict(txns[i], txns[0])
		}
		kept := cloneLanes(two)
		if !sameLanes(one, two) || !areUntouchedTxns(txns, list) {
			t.Errorf("the transactions %v are changed, or their lanes are %v and %v", list, one, two)
		}
		for i, lane := range one {
			spoil(lane)
			if !sameLanes(one[i+1:], kept[i+1:]) || !sameLanes(two, kept) || !areUntouchedTxns(txns, list) {
				t.Errorf("of %v, lane %d shares its memory with another one or with the transactions", list, i)
			}
		}
		clear(one[:cap(one)])
		if !sameLanes(two, kept) {
			t.Errorf("of %v, two lists of lanes share their memory", list)
		}
	}
}

// The arguments and one of two results are changed as soon as they are returned, which lanes that still run would meet.
func TestRunsOfLanesAreApart(t *testing.T) {
	lists := append(fewLaneLists(), invalidTxns()[:16], dividedList(17, 3, 1))
	for _, l := range slices.Concat(fewLedgers(), tightLedgers()[:5], fullLedgers()[:5], invalidLedgers()[:50]) {
		roomy := ledgerOf(l.Fees, roomyList(l.Balances)...)
		for _, list := range lists {
			txns := roomyTxns(list)
			one, outcomes := impl.LanesRun(roomy, txns)
			two, again := impl.LanesRun(roomy, txns)
			kept, keptLedger := slices.Clone(again), cloneLedger(two)
			expectLedgerApart(t, l, roomy, one, two)
			spoilOutcomes(outcomes)
			if !slices.Equal(again, kept) || !areUntouchedTxns(txns, list) {
				t.Errorf("the transactions %v are changed, or share their memory with a result, or two results do", list)
			}
			clear(txns)
			if !slices.Equal(again, kept) || !sameLedger(two, keptLedger) {
				t.Errorf("of the transactions %v, the result changes with them", list)
			}
		}
	}
}

// Many calls with the same arguments run at once, on one processor or on several.
func TestLanesRunInAnyOrder(t *testing.T) {
	defer runtime.GOMAXPROCS(runtime.GOMAXPROCS(0))
	for _, processors := range []int{1, 2, 8} {
		runtime.GOMAXPROCS(processors)
		for i, l := range fewLedgers() {
			list := roomyTxns(dividedList(16, 1+i%3, i))
			roomy := ledgerOf(l.Fees, roomyList(l.Balances)...)
			var running sync.WaitGroup
			for range 20 {
				running.Go(func() { expectSame(t, roomy, list) })
			}
			running.Wait()
		}
	}
}
