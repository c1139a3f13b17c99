package tests

import (
	"math"
	"slices"
	"testing"

	"loop.example/dagconsensus/impl"
)

func txnOf(from int, to int, sum int, fee int) impl.Txn {
	return impl.Txn{From: from, To: to, Sum: sum, Fee: fee}
}

func ledgerOf(fees int, balances ...int) impl.Ledger {
	return impl.Ledger{Balances: balances, Fees: fees}
}

// evenLedger is a ledger in which all accounts have the same balance.
func evenLedger(fees int, balance int) impl.Ledger {
	return ledgerOf(fees, slices.Repeat([]int{balance}, 6)...)
}

func sameLedger(a impl.Ledger, b impl.Ledger) bool {
	return a.Fees == b.Fees && slices.Equal(a.Balances, b.Balances)
}

func cloneLedger(l impl.Ledger) impl.Ledger {
	return ledgerOf(l.Fees, slices.Clone(l.Balances)...)
}

func withBalance(l impl.Ledger, account int, balance int) impl.Ledger {
	return ledgerOf(l.Fees, replaced(l.Balances, account, balance)...)
}

func notAccounts() []int {
	return []int{-1, -2, -6, 6, 7, 12, 1000, math.MaxInt, math.MinInt}
}

func notSums() []int {
	return []int{0, -1, -2, -99, 100, 101, 198, 999, 1000, math.MaxInt, math.MaxInt - 9, math.MinInt}
}

func notFees() []int {
	return []int{-1, -2, -9, 10, 11, 18, 99, 1000, math.MaxInt, math.MaxInt - 99, math.MinInt}
}

func notBalances() []int {
	return []int{-1, -2, -999, 1000, 1001, 1998, 5994, math.MaxInt, math.MaxInt - 99, math.MinInt}
}

func notSumsOfFees() []int {
	return []int{-1, -2, -9, -144, -5994, 5995, 5996, 6003, 11988, math.MaxInt, math.MaxInt - 8, math.MaxInt - 9, math.MaxInt - 143, math.MaxInt - 144, math.MinInt, math.MinInt + 9}
}

// accountPairs has all pairs of different accounts.
func accountPairs() [][2]int {
	list := [][2]int{}
	for from := range 6 {
		for to := range 6 {
			if from != to {
				list = append(list, [2]int{from, to})
			}
		}
	}
	return list
}

// manyTxns has transactions between all accounts, with sums and fees at both ends of their ranges and between.
func manyTxns() []impl.Txn {
	list := []impl.Txn{}
	for _, pair := range accountPairs() {
		for _, sum := range []int{1, 2, 50, 98, 99} {
			for _, fee := range []int{0, 1, 5, 9} {
				list = append(list, txnOf(pair[0], pair[1], sum, fee))
			}
		}
	}
	return list
}

// fewTxns has one of each few of them.
func fewTxns() []impl.Txn {
	list := []impl.Txn{}
	for i, x := range manyTxns() {
		if i%11 == 0 {
			list = append(list, x)
		}
	}
	return list
}

// brokenTxns has the transaction with one number that is out of range each, with both numbers that are added up out of range, and from an account to itself.
func brokenTxns(x impl.Txn) []impl.Txn {
	list := []impl.Txn{txnOf(x.From, x.From, x.Sum, x.Fee), txnOf(x.To, x.To, x.Sum, x.Fee)}
	for _, account := range notAccounts() {
		list = append(list, txnOf(account, x.To, x.Sum, x.Fee), txnOf(x.From, account, x.Sum, x.Fee), txnOf(account, account, x.Sum, x.Fee))
	}
	for _, sum := range notSums() {
		list = append(list, txnOf(x.From, x.To, sum, x.Fee))
		for _, fee := range notFees() {
			list = append(list, txnOf(x.From, x.To, sum, fee))
		}
	}
	for _, fee := range notFees() {
		list = append(list, txnOf(x.From, x.To, x.Sum, fee))
	}
	return list
}

func invalidTxns() []impl.Txn {
	list := []impl.Txn{{}}
	for _, x := range []impl.Txn{txnOf(0, 5, 1, 0), txnOf(5, 0, 99, 9), txnOf(2, 3, 50, 5)} {
		list = append(list, brokenTxns(x)...)
	}
	return list
}

// isTxn tells without the program whether a transaction is valid.
func isTxn(x impl.Txn) bool {
	if x.From == x.To || x.Sum <= 0 || x.Sum >= 100 || x.Fee <= -1 || x.Fee >= 10 {
		return false
	}
	return min(x.From, x.To) >= 0 && max(x.From, x.To) <= 5
}

// applyBy executes a transaction in a valid ledger without the program.
func applyBy(l impl.Ledger, x impl.Txn) (impl.Ledger, bool) {
	if !isTxn(x) {
		return l, false
	}
	after := cloneLedger(l)
	after.Balances[x.From] -= x.Sum
	after.Balances[x.From] -= x.Fee
	after.Balances[x.To] += x.Sum
	after.Fees += x.Fee
	if after.Balances[x.From] < 0 || after.Balances[x.To] >= 1000 {
		return l, false
	}
	return after, true
}

// runBy executes transactions in a valid ledger without the program.
func runBy(l impl.Ledger, list []impl.Txn) (impl.Ledger, []bool) {
	outcomes := make([]bool, len(list))
	for i, x := range list {
		l, outcomes[i] = applyBy(l, x)
	}
	return l, outcomes
}

// totalBy adds up balances and fees without the program.
func totalBy(l impl.Ledger) int {
	total := l.Fees
	for _, balance := range l.Balances {
		total += balance
	}
	return total
}

// seeded returns numbers less than others that it is asked for, as a seed tells.
func seeded(seed int) func(many int) int {
	return func(many int) int {
		seed = (seed*1103515245 + 12345) % (1 << 31)
		return (seed >> 8) % many
	}
}

// scatteredLedger has balances at both ends of their range, near them and anywhere, and fees that leave space for a run.
func scatteredLedger(seed int) impl.Ledger {
	next := seeded(1000*seed + 17)
	l := ledgerOf([]int{0, 1, 5850, 5849, next(5851)}[next(5)])
	for range 6 {
		l.Balances = append(l.Balances, []int{0, 999, next(120), 999 - next(120), next(1000)}[next(5)])
	}
	return l
}

// manyLedgers has ledgers with space for the fees of a run.
func manyLedgers() []impl.Ledger {
	list := []impl.Ledger{}
	for _, balance := range []int{0, 1, 2, 9, 99, 100, 107, 108, 500, 900, 901, 997, 998, 999} {
		list = append(list, evenLedger(0, balance), evenLedger(5850, balance), evenLedger(balance, balance))
	}
	for account := range 6 {
		list = append(list, withBalance(evenLedger(0, 0), account, 999), withBalance(evenLedger(5850, 999), account, 0), withBalance(evenLedger(1, 899), account, 101))
	}
	for seed := range 60 {
		list = append(list, scatteredLedger(seed))
	}
	return list
}

// fewLedgers has one of each few of them.
func fewLedgers() []impl.Ledger {
	list := []impl.Ledger{}
	for i, l := range manyLedgers() {
		if i%5 == 0 {
			list = append(list, l)
		}
	}
	return list
}

// withFees has the ledger with different fees.
func withFees(l impl.Ledger, fees ...int) []impl.Ledger {
	list := []impl.Ledger{}
	for _, sum := range fees {
		list = append(list, ledgerOf(sum, l.Balances...))
	}
	return list
}

// tightLedgers has ledgers with space for one fee, but not for those of a run.
func tightLedgers() []impl.Ledger {
	list := []impl.Ledger{}
	for _, l := range fewLedgers() {
		list = append(list, withFees(l, 5851, 5852, 5859, 5900, 5976, 5984, 5985)...)
	}
	return list
}

// fullLedgers has valid ledgers without space for a fee.
func fullLedgers() []impl.Ledger {
	list := []impl.Ledger{}
	for _, l := range fewLedgers() {
		list = append(list, withFees(l, 5986, 5987, 5990, 5993, 5994)...)
	}
	return list
}

// misfits has ledgers with another number of balances.
func misfits() []impl.Ledger {
	list := []impl.Ledger{{}}
	for many := range 20 {
		if many != 6 {
			list = append(list, ledgerOf(0, make([]int, many)...), ledgerOf(7, slices.Repeat([]int{500}, many)...))
		}
	}
	return append(list, ledgerOf(0, make([]int, 1000)...))
}

func invalidLedgers() []impl.Ledger {
	list := misfits()
	for _, l := range []impl.Ledger{evenLedger(0, 0), evenLedger(5850, 999), ledgerOf(5994, 1, 2, 3, 4, 5, 6), scatteredLedger(3)} {
		for account := range 6 {
			for _, balance := range notBalances() {
				list = append(list, withBalance(l, account, balance))
			}
		}
		list = append(list, withFees(l, notSumsOfFees()...)...)
	}
	opposite := ledgerOf(0, -1, 1, 0, 0, 0, 0)
	return append(list, opposite, ledgerOf(0, math.MaxInt, 1, 1, 1, 1, 1), evenLedger(0, math.MaxInt), evenLedger(math.MaxInt, math.MaxInt), evenLedger(math.MinInt, math.MinInt))
}

// scatteredTxn is most often valid, and has small sums or any ones.
func scatteredTxn(next func(many int) int) impl.Txn {
	from := next(6)
	x := txnOf(from, (from+1+next(5))%6, 1+next([]int{5, 99}[next(2)]), next(10))
	if next(12) == 0 {
		broken := brokenTxns(x)
		return broken[next(len(broken))]
	}
	return x
}

// scatteredList has as many transactions as asked for, with one account preferred.
func scatteredList(many int, seed int) []impl.Txn {
	next := seeded(100*seed + 7*many + 3)
	list, favorite := []impl.Txn{}, next(6)
	for range many {
		x := scatteredTxn(next)
		if isTxn(x) && next(3) == 0 && x.To != favorite {
			x.From = favorite
		}
		list = append(list, x)
	}
	return list
}

// manyLists has lists of all lengths, some of which go back and forth between accounts or repeat one transaction.
func manyLists() [][]impl.Txn {
	list := [][]impl.Txn{{}}
	for many := 1; many <= 16; many++ {
		for seed := range 5 {
			list = append(list, scatteredList(many, seed))
		}
		around, repeated := []impl.Txn{}, []impl.Txn{}
		for i := range many {
			around = append(around, txnOf((i+2)%6, (i+3)%6, 60+i, i%10))
			repeated = append(repeated, txnOf(4, many%4, 99, 9))
		}
		list = append(list, around, repeated)
	}
	return append(list, invalidTxns()[:16])
}

// fewLists has one of each few of them.
func fewLists() [][]impl.Txn {
	list := [][]impl.Txn{}
	for i, txns := range manyLists() {
		if i%4 == 0 {
			list = append(list, txns)
		}
	}
	return append(list, manyLists()[len(manyLists())-1])
}

func expectApplied(t *testing.T, l impl.Ledger, x impl.Txn, want impl.Ledger, done bool) {
	t.Helper()
	if after, ok := impl.LedgerApply(l, x); ok != done || !sameLedger(after, want) {
		t.Errorf("with the transaction %v, %v is %v, %v and not %v, %v", x, l, after, ok, want, done)
	}
}

func expectRun(t *testing.T, l impl.Ledger, list []impl.Txn, want impl.Ledger, done ...bool) {
	t.Helper()
	if after, outcomes := impl.LedgerRun(l, list); !slices.Equal(outcomes, done) || !sameLedger(after, want) {
		t.Errorf("with the transactions %v, %v is %v, %v and not %v, %v", list, l, after, outcomes, want, done)
	}
}

func expectNotRun(t *testing.T, l impl.Ledger, list []impl.Txn) {
	t.Helper()
	expectRun(t, l, list, impl.Ledger{})
}

// expectNoLedger expects of each function what it returns for an invalid ledger.
func expectNoLedger(t *testing.T, l impl.Ledger) {
	t.Helper()
	if impl.LedgerValid(l) {
		t.Errorf("%v is valid", l)
	}
	if total := impl.LedgerTotal(l); total != -1 {
		t.Errorf("the total of %v is %d", l, total)
	}
	for _, x := range []impl.Txn{txnOf(0, 1, 1, 0), txnOf(5, 4, 99, 9), txnOf(0, 0, 1, 0), txnOf(0, 6, 1, 0), txnOf(0, 1, math.MinInt, math.MinInt)} {
		expectApplied(t, l, x, impl.Ledger{}, false)
		expectNotRun(t, l, []impl.Txn{x})
		expectNotRun(t, l, []impl.Txn{x, x})
	}
	expectNotRun(t, l, nil)
	expectNotRun(t, l, []impl.Txn{})
	expectNotRun(t, l, scatteredList(16, 1))
	expectNotRun(t, l, scatteredList(17, 1))
}

func countOf(outcomes []bool) int {
	count := 0
	for _, done := range outcomes {
		if done {
			count++
		}
	}
	return count
}

func TestConstantsOfTheLedger(t *testing.T) {
	constants := []int{impl.Accounts, impl.MaxBalance, impl.MaxSum, impl.MaxFee, impl.MaxTxns}
	if !slices.Equal(constants, []int{6, 999, 99, 9, 16}) {
		t.Errorf("the constants are %v", constants)
	}
}

// Which of the transactions are valid is worked out by hand.
func TestTxnValid(t *testing.T) {
	for _, x := range []struct {
		txn   impl.Txn
		valid bool
	}{
		{txnOf(0, 5, 1, 0), true},
		{txnOf(5, 0, 99, 9), true},
		{txnOf(0, 1, 50, 5), true},
		{txnOf(4, 5, 1, 9), true},
		{txnOf(-1, 5, 1, 0), false},
		{txnOf(6, 5, 1, 0), false},
		{txnOf(0, -1, 1, 0), false},
		{txnOf(0, 6, 1, 0), false},
		{txnOf(0, 0, 1, 0), false},
		{txnOf(5, 5, 1, 0), false},
		{txnOf(6, 6, 1, 0), false},
		{txnOf(0, 5, 0, 0), false},
		{txnOf(0, 5, 0, 9), false},
		{txnOf(0, 5, 100, 0), false},
		{txnOf(0, 5, -1, 0), false},
		{txnOf(0, 5, 1, -1), false},
		{txnOf(0, 5, 99, -1), false},
		{txnOf(0, 5, 1, 10), false},
		{impl.Txn{}, false},
	} {
		if impl.TxnValid(x.txn) != x.valid {
			t.Errorf("that %v is valid is not %v", x.txn, x.valid)
		}
	}
}

func TestTxnValidOfAllNumbers(t *testing.T) {
	for from := -2; from <= 7; from++ {
		for to := -2; to <= 7; to++ {
			for sum := -2; sum <= 102; sum++ {
				for fee := -2; fee <= 12; fee++ {
					if x := txnOf(from, to, sum, fee); impl.TxnValid(x) != isTxn(x) {
						t.Errorf("that %v is valid is not %v", x, isTxn(x))
					}
				}
			}
		}
	}
}

func TestInvalidTxns(t *testing.T) {
	for _, x := range invalidTxns() {
		if impl.TxnValid(x) || isTxn(x) {
			t.Errorf("%v is valid", x)
		}
	}
}

// Which of the ledgers are valid is worked out by hand.
func TestLedgerValid(t *testing.T) {
	for _, x := range []struct {
		ledger impl.Ledger
		total  int
	}{
		{ledgerOf(0, 0, 0, 0, 0, 0, 0), 0},
		{ledgerOf(1, 0, 0, 0, 0, 0, 0), 1},
		{ledgerOf(0, 1, 20, 300, 4, 50, 600), 975},
		{ledgerOf(7, 1, 20, 300, 4, 50, 600), 982},
		{ledgerOf(0, 999, 0, 0, 0, 0, 0), 999},
		{ledgerOf(0, 0, 0, 0, 0, 0, 999), 999},
		{ledgerOf(0, 999, 999, 999, 999, 999, 999), 5994},
		{ledgerOf(5994, 0, 0, 0, 0, 0, 0), 5994},
		{ledgerOf(5994, 999, 999, 999, 999, 999, 999), 11988},
		{ledgerOf(5995, 0, 0, 0, 0, 0, 0), -1},
		{ledgerOf(-1, 0, 0, 0, 0, 0, 0), -1},
		{ledgerOf(-1, 1, 0, 0, 0, 0, 0), -1},
		{ledgerOf(0, 1000, 0, 0, 0, 0, 0), -1},
		{ledgerOf(0, 0, 0, 0, 0, 0, 1000), -1},
		{ledgerOf(0, -1, 0, 0, 0, 0, 0), -1},
		{ledgerOf(0, 5, 5, 5, 5, 5, -1), -1},
		{ledgerOf(0, 0, 0, 0, 0, 0), -1},
		{ledgerOf(0, 0, 0, 0, 0, 0, 0, 0), -1},
		{impl.Ledger{}, -1},
		{ledgerOf(5), -1},
	} {
		if impl.LedgerValid(x.ledger) != (x.total >= 0) || impl.LedgerTotal(x.ledger) != x.total {
			t.Errorf("that %v is valid is %v, its total is %d and not %d", x.ledger, impl.LedgerValid(x.ledger), impl.LedgerTotal(x.ledger), x.total)
		}
	}
}

func TestValidLedgers(t *testing.T) {
	for _, l := range slices.Concat(manyLedgers(), tightLedgers(), fullLedgers()) {
		if !impl.LedgerValid(l) || impl.LedgerTotal(l) != totalBy(l) {
			t.Errorf("that %v is valid is %v, its total is %d", l, impl.LedgerValid(l), impl.LedgerTotal(l))
		}
	}
}

func TestEachBalanceAndSumOfFees(t *testing.T) {
	for n := -20; n <= 6020; n++ {
		l := ledgerOf(n, 1, 2, 3, 4, 5, 6)
		if valid := n >= 0 && n <= 5994; impl.LedgerValid(l) != valid {
			t.Errorf("that %v is valid is not %v", l, valid)
		}
		for account := range 6 {
			l := withBalance(evenLedger(9, 10), account, n)
			if valid := n >= 0 && n <= 999; impl.LedgerValid(l) != valid {
				t.Errorf("that %v is valid is not %v", l, valid)
			}
		}
	}
}

func TestInvalidLedgers(t *testing.T) {
	for _, l := range invalidLedgers() {
		expectNoLedger(t, l)
	}
}

func TestPromise104WhatATransactionChanges(t *testing.T) {
	succeeded := 0
	for _, l := range append(manyLedgers(), tightLedgers()...) {
		for _, x := range manyTxns() {
			after, ok := impl.LedgerApply(l, x)
			if !ok {
				continue
			}
			succeeded++
			if !impl.LedgerValid(after) || after.Fees != l.Fees+x.Fee {
				t.Fatalf("with the transaction %v, %v is %v", x, l, after)
			}
			for account, balance := range l.Balances {
				switch account {
				case x.From:
					balance -= x.Sum + x.Fee
				case x.To:
					balance += x.Sum
				}
				if after.Balances[account] != balance {
					t.Errorf("with the transaction %v, account %d of %v has %d and not %d", x, account, l, after.Balances[account], balance)
				}
			}
		}
	}
	if succeeded < 10000 {
		t.Errorf("only %d transactions succeed", succeeded)
	}
}

func TestPromise105NothingIsLost(t *testing.T) {
	all, some, none := 0, 0, 0
	for _, l := range manyLedgers() {
		for _, list := range manyLists() {
			after, outcomes := impl.LedgerRun(l, list)
			if impl.LedgerTotal(after) != totalBy(l) || totalBy(after) != totalBy(l) || len(outcomes) != len(list) {
				t.Errorf("with the transactions %v, %v is %v, %v", list, l, after, outcomes)
			}
			switch count := countOf(outcomes); {
			case len(list) == 0:
			case count == 0:
				none++
			case count == len(list):
				all++
			default:
				some++
			}
		}
	}
	if min(all, some, none) < 500 {
		t.Errorf("all transactions succeed %d times, some %d times, none %d times", all, some, none)
	}
}

func TestPromise106WhichTransactionsFail(t *testing.T) {
	done, failed := 0, 0
	for _, l := range append(manyLedgers(), tightLedgers()...) {
		for _, x := range manyTxns() {
			want, ok := applyBy(l, x)
			expectApplied(t, l, x, want, ok)
			if ok {
				done++
			} else {
				failed++
			}
		}
	}
	if min(done, failed) < 10000 {
		t.Errorf("%d transactions succeed and %d fail", done, failed)
	}
}

// The ledgers have enough for each transaction that is valid, and space for it.
func TestPromise106InvalidTransactionsFail(t *testing.T) {
	ledgers := append(fewLedgers(), evenLedger(0, 500), evenLedger(5985, 500), ledgerOf(5850, 300, 400, 500, 600, 700, 800))
	for _, l := range ledgers {
		for _, x := range invalidTxns() {
			expectApplied(t, l, x, l, false)
		}
	}
}

// Only what one of both accounts has is near what the transaction needs.
func TestPromise106ExactBalances(t *testing.T) {
	for _, pair := range accountPairs() {
		for sum := 1; sum <= 99; sum++ {
			for fee := range 10 {
				x, from, to := txnOf(pair[0], pair[1], sum, fee), pair[0], pair[1]
				l := evenLedger(fee, 500)
				exact, space := withBalance(l, from, sum+fee), withBalance(l, to, 999-sum)
				want, _ := applyBy(exact, x)
				expectApplied(t, exact, x, want, true)
				want, _ = applyBy(space, x)
				expectApplied(t, space, x, want, true)
				less, more := withBalance(l, from, sum+fee-1), withBalance(l, to, 1000-sum)
				expectApplied(t, less, x, less, false)
				expectApplied(t, more, x, more, false)
			}
		}
	}
}

func TestPromise107RunsInTwoParts(t *testing.T) {
	accepted, rejected := 0, 0
	for _, l := range append(fewLedgers(), evenLedger(5841, 500), evenLedger(5850, 500), evenLedger(5800, 500)) {
		for _, list := range fewLists() {
			want, outcomes := impl.LedgerRun(l, list)
			for cut := range len(list) + 1 {
				first, done := impl.LedgerRun(l, list[:cut])
				if first.Fees > 5850 {
					rejected++
					expectNotRun(t, first, list[cut:])
					continue
				}
				accepted++
				expectRun(t, first, list[cut:], want, outcomes[min(cut, len(outcomes)):]...)
				if !slices.Equal(done, outcomes[:min(cut, len(outcomes))]) {
					t.Errorf("of the first %d of the transactions %v in %v, %v succeed", cut, list, l, done)
				}
			}
		}
	}
	if min(accepted, rejected) < 500 {
		t.Errorf("%d second parts are accepted and %d are not", accepted, rejected)
	}
}

func TestPromise108TransactionsOneByOne(t *testing.T) {
	for _, l := range manyLedgers() {
		for _, list := range manyLists() {
			after, outcomes := l, []bool{}
			for _, x := range list {
				next, done := impl.LedgerApply(after, x)
				after, outcomes = next, append(outcomes, done)
			}
			expectRun(t, l, list, after, outcomes...)
		}
	}
}

// Transactions are also executed without those before them, to see which of them succeed or fail because of these.
func TestPromise108OfAnotherProgram(t *testing.T) {
	earned, spent := 0, 0
	for _, l := range manyLedgers() {
		for _, list := range manyLists() {
			want, outcomes := runBy(l, list)
			expectRun(t, l, list, want, outcomes...)
			for i, x := range list {
				_, alone := applyBy(l, x)
				if outcomes[i] && !alone {
					earned++
				} else if !outcomes[i] && alone {
					spent++
				}
			}
		}
	}
	if min(earned, spent) < 1000 {
		t.Errorf("%d transactions succeed and %d fail because of earlier ones", earned, spent)
	}
}

func TestPromise109SuccessfulTransactionsAlone(t *testing.T) {
	fewer := 0
	for _, l := range manyLedgers() {
		for _, list := range manyLists() {
			want, outcomes := impl.LedgerRun(l, list)
			successful := []impl.Txn{}
			for i, done := range outcomes {
				if done {
					successful = append(successful, list[i])
				}
			}
			expectRun(t, l, successful, want, slices.Repeat([]bool{true}, len(successful))...)
			if len(successful) > 0 && len(successful) < len(list) {
				fewer++
			}
		}
	}
	if fewer < 1000 {
		t.Errorf("some, but not all transactions of only %d lists succeed", fewer)
	}
}

func TestPromise110ExchangedAccounts(t *testing.T) {
	valid := 0
	for from := -2; from <= 7; from++ {
		for to := -2; to <= 7; to++ {
			for _, x := range []impl.Txn{txnOf(from, to, 1, 0), txnOf(from, to, 99, 9), txnOf(from, to, 50, 5), txnOf(from, to, 0, 0), txnOf(from, to, 1, 10)} {
				exchanged := txnOf(to, from, x.Sum, x.Fee)
				if impl.TxnValid(x) != impl.TxnValid(exchanged) {
					t.Errorf("only one of %v and %v is valid", x, exchanged)
				}
				if !impl.TxnValid(x) {
					continue
				}
				valid++
				if from == to || min(from, to) < 0 || max(from, to) >= impl.Accounts {
					t.Errorf("%v is valid", x)
				}
			}
		}
	}
	if valid != 3*30 {
		t.Errorf("%d transactions are valid", valid)
	}
}

func TestPromise111ReverseTransactions(t *testing.T) {
	succeeded := 0
	for _, l := range append(manyLedgers(), tightLedgers()...) {
		for _, x := range manyTxns() {
			if x.Fee > 0 {
				continue
			}
			after, ok := impl.LedgerApply(l, x)
			if !ok {
				continue
			}
			succeeded++
			expectApplied(t, after, txnOf(x.To, x.From, x.Sum, 0), l, true)
		}
	}
	if succeeded < 3000 {
		t.Errorf("only %d transactions with fee 0 succeed", succeeded)
	}
}

func TestPromise111ReverseRuns(t *testing.T) {
	for _, l := range fewLedgers() {
		for _, x := range fewTxns() {
			x.Fee = 0
			if _, ok := impl.LedgerApply(l, x); ok {
				back := txnOf(x.To, x.From, x.Sum, 0)
				expectRun(t, l, []impl.Txn{x, back, x, back}, l, true, true, true, true)
			}
		}
	}
}

// The expected ledgers are worked out by hand.
func TestLedgerApply(t *testing.T) {
	l := ledgerOf(40, 100, 20, 999, 0, 950, 7)
	expectApplied(t, l, txnOf(0, 1, 30, 2), ledgerOf(42, 68, 50, 999, 0, 950, 7), true)
	expectApplied(t, l, txnOf(1, 0, 11, 9), ledgerOf(49, 111, 0, 999, 0, 950, 7), true)
	expectApplied(t, l, txnOf(1, 0, 12, 9), l, false)
	expectApplied(t, l, txnOf(2, 3, 99, 0), ledgerOf(40, 100, 20, 900, 99, 950, 7), true)
	expectApplied(t, l, txnOf(2, 5, 99, 9), ledgerOf(49, 100, 20, 891, 0, 950, 106), true)
	expectApplied(t, l, txnOf(0, 2, 1, 0), l, false)
	expectApplied(t, l, txnOf(3, 0, 1, 0), l, false)
	expectApplied(t, l, txnOf(0, 4, 49, 1), ledgerOf(41, 50, 20, 999, 0, 999, 7), true)
	expectApplied(t, l, txnOf(0, 4, 50, 1), l, false)
	expectApplied(t, l, txnOf(5, 0, 7, 0), ledgerOf(40, 107, 20, 999, 0, 950, 0), true)
	expectApplied(t, l, txnOf(5, 0, 7, 1), l, false)
	expectApplied(t, l, txnOf(5, 5, 1, 0), l, false)
	expectApplied(t, l, txnOf(5, 6, 1, 0), l, false)
	expectApplied(t, l, txnOf(0, 1, 0, 0), l, false)
	expectApplied(t, l, txnOf(0, 1, 100, 0), l, false)
	expectApplied(t, l, txnOf(0, 1, 1, 10), l, false)
	expectApplied(t, l, txnOf(0, 1, 1, -1), l, false)
}

// The expected ledgers are worked out by hand.
func TestLedgerRun(t *testing.T) {
	l := ledgerOf(0, 100, 0, 0, 0, 0, 950)
	a, b, c := txnOf(0, 1, 50, 5), txnOf(1, 2, 50, 0), txnOf(0, 3, 45, 1)
	expectRun(t, l, nil, l)
	expectRun(t, l, []impl.Txn{a}, ledgerOf(5, 45, 50, 0, 0, 0, 950), true)
	expectRun(t, l, []impl.Txn{a, b}, ledgerOf(5, 45, 0, 50, 0, 0, 950), true, true)
	expectRun(t, l, []impl.Txn{b, a}, ledgerOf(5, 45, 50, 0, 0, 0, 950), false, true)
	expectRun(t, l, []impl.Txn{c}, ledgerOf(1, 54, 0, 0, 45, 0, 950), true)
	expectRun(t, l, []impl.Txn{a, c}, ledgerOf(5, 45, 50, 0, 0, 0, 950), true, false)
	expectRun(t, l, []impl.Txn{c, a}, ledgerOf(1, 54, 0, 0, 45, 0, 950), true, false)
	expectRun(t, l, []impl.Txn{b, b}, l, false, false)
	d, e := txnOf(0, 5, 60, 0), txnOf(5, 4, 30, 9)
	expectRun(t, l, []impl.Txn{d, e, d}, ledgerOf(9, 40, 0, 0, 0, 30, 971), false, true, true)
	expectRun(t, l, []impl.Txn{e, d}, ledgerOf(9, 40, 0, 0, 0, 30, 971), true, true)
	expectRun(t, l, []impl.Txn{a, {}, txnOf(0, 6, 1, 0), b, txnOf(2, 2, 1, 0), txnOf(2, 4, 40, 9)}, ledgerOf(14, 45, 0, 1, 0, 40, 950), true, false, false, true, false, true)
	expectRun(t, l, []impl.Txn{{}, txnOf(0, 1, 1, math.MinInt), txnOf(0, 1, math.MaxInt, math.MaxInt)}, l, false, false, false)
}

// Whether arguments are accepted does not depend on what the transactions would change.
func TestFeesNearTheirLimit(t *testing.T) {
	lists := [][]impl.Txn{{}, {txnOf(0, 1, 1, 0)}, {txnOf(0, 1, 1, 9)}, {txnOf(1, 0, 1, 9)}, {txnOf(0, 0, 1, 9)}, invalidTxns()[:16], slices.Repeat([]impl.Txn{txnOf(0, 1, 1, 9)}, 16)}
	for fees := range 5995 {
		if fees > 100 && fees < 5800 {
			continue
		}
		l := ledgerOf(fees, 500, 0, 0, 0, 0, 999)
		for _, x := range []impl.Txn{txnOf(0, 1, 1, 9), txnOf(0, 1, 1, 0), txnOf(1, 0, 1, 9), txnOf(0, 5, 1, 0), {}, txnOf(0, 1, 1, 10), txnOf(0, 1, 1, -1), txnOf(0, 1, math.MaxInt, math.MaxInt)} {
			want, done := applyBy(l, x)
			if fees > 5985 {
				want, done = impl.Ledger{}, false
			}
			expectApplied(t, l, x, want, done)
		}
		for _, list := range lists {
			want, outcomes := runBy(l, list)
			if fees > 5850 {
				want, outcomes = impl.Ledger{}, nil
			}
			expectRun(t, l, list, want, outcomes...)
		}
	}
}

// The expected ledgers are worked out by hand.
func TestExactlyTheLimitOfFeesAndOneMore(t *testing.T) {
	x := txnOf(0, 1, 2, 9)
	expectApplied(t, ledgerOf(5985, 11, 997, 0, 0, 0, 0), x, ledgerOf(5994, 0, 999, 0, 0, 0, 0), true)
	expectApplied(t, ledgerOf(5986, 11, 997, 0, 0, 0, 0), x, impl.Ledger{}, false)
	expectApplied(t, ledgerOf(5986, 11, 997, 0, 0, 0, 0), txnOf(0, 1, 2, 0), impl.Ledger{}, false)
	expectApplied(t, ledgerOf(5986, 11, 997, 0, 0, 0, 0), txnOf(0, 0, 2, 0), impl.Ledger{}, false)
	expectApplied(t, ledgerOf(5985, 11, 997, 0, 0, 0, 0), txnOf(0, 0, 2, 0), ledgerOf(5985, 11, 997, 0, 0, 0, 0), false)
	expectApplied(t, ledgerOf(5994, 11, 997, 0, 0, 0, 0), x, impl.Ledger{}, false)
	list := slices.Repeat([]impl.Txn{x}, 16)
	expectRun(t, ledgerOf(5850, 176, 967, 0, 0, 0, 0), list, ledgerOf(5994, 0, 999, 0, 0, 0, 0), slices.Repeat([]bool{true}, 16)...)
	expectRun(t, ledgerOf(5850, 175, 967, 0, 0, 0, 0), list, ledgerOf(5985, 10, 997, 0, 0, 0, 0), append(slices.Repeat([]bool{true}, 15), false)...)
	expectRun(t, ledgerOf(5850, 176, 968, 0, 0, 0, 0), list, ledgerOf(5985, 11, 998, 0, 0, 0, 0), append(slices.Repeat([]bool{true}, 15), false)...)
	expectNotRun(t, ledgerOf(5851, 176, 967, 0, 0, 0, 0), list)
	expectNotRun(t, ledgerOf(5851, 176, 967, 0, 0, 0, 0), list[:1])
	expectNotRun(t, ledgerOf(5851, 176, 967, 0, 0, 0, 0), nil)
	expectNotRun(t, ledgerOf(5851, 176, 967, 0, 0, 0, 0), []impl.Txn{{}})
	expectNotRun(t, ledgerOf(5985, 176, 967, 0, 0, 0, 0), nil)
	expectNotRun(t, ledgerOf(5994, 176, 967, 0, 0, 0, 0), nil)
	expectRun(t, ledgerOf(5850, 176, 967, 0, 0, 0, 0), nil, ledgerOf(5850, 176, 967, 0, 0, 0, 0))
}

func TestLedgersWithoutSpaceForFees(t *testing.T) {
	for _, l := range fullLedgers() {
		for _, x := range append(fewTxns(), invalidTxns()...) {
			expectApplied(t, l, x, impl.Ledger{}, false)
		}
	}
	for _, l := range append(tightLedgers(), fullLedgers()...) {
		for _, list := range fewLists() {
			expectNotRun(t, l, list)
		}
	}
}

// Each transaction of the lists would succeed, or none would.
func TestLongestListsAndOneMore(t *testing.T) {
	for _, x := range []impl.Txn{txnOf(0, 5, 1, 0), txnOf(5, 0, 20, 9), txnOf(3, 3, 1, 1), {}} {
		for _, l := range []impl.Ledger{evenLedger(0, 500), evenLedger(5850, 499)} {
			for _, many := range []int{15, 16} {
				want, outcomes := runBy(l, slices.Repeat([]impl.Txn{x}, many))
				if count := countOf(outcomes); isTxn(x) && count != many || !isTxn(x) && count != 0 {
					t.Errorf("%d of %d transactions %v succeed in %v", count, many, x, l)
				}
				expectRun(t, l, slices.Repeat([]impl.Txn{x}, many), want, outcomes...)
			}
			for _, many := range []int{17, 18, 32, 100, 1000} {
				expectNotRun(t, l, slices.Repeat([]impl.Txn{x}, many))
			}
		}
	}
	expectNotRun(t, evenLedger(0, 500), append(scatteredList(16, 1), impl.Txn{}))
	expectNotRun(t, evenLedger(0, 500), append(invalidTxns()[:16], txnOf(0, 1, 1, 0)))
}

// Each transaction of a list is replaced by an invalid one, which alone fails and does not keep others from succeeding.
func TestInvalidTransactionsOfLists(t *testing.T) {
	list := []impl.Txn{txnOf(0, 1, 10, 1), txnOf(2, 3, 11, 2), txnOf(4, 5, 12, 3), txnOf(1, 4, 13, 4), txnOf(5, 0, 14, 5)}
	l := evenLedger(3, 600)
	for i := range list {
		for _, broken := range append(brokenTxns(list[i]), impl.Txn{}) {
			other := slices.Clone(list)
			other[i] = broken
			outcomes := slices.Repeat([]bool{true}, 5)
			outcomes[i] = false
			want, _ := runBy(l, slices.Delete(slices.Clone(list), i, i+1))
			expectRun(t, l, other, want, outcomes...)
		}
	}
}

// Transactions are executed one by one and in lists, as seeds tell, and the ledgers are compared with what is computed without the program.
func TestManyTransactions(t *testing.T) {
	lists, done, failed := 0, 0, 0
	for seed := range 100 {
		next, l := seeded(seed), scatteredLedger(seed)
		l.Fees = 0
		for range 60 {
			if next(4) > 0 {
				x := scatteredTxn(next)
				want, ok := applyBy(l, x)
				expectApplied(t, l, x, want, ok)
				l = want
				continue
			}
			list := scatteredList(next(17), seed+next(1000))
			want, outcomes := runBy(l, list)
			expectRun(t, l, list, want, outcomes...)
			done, failed, lists = done+countOf(outcomes), failed+len(list)-countOf(outcomes), lists+1
			l = want
		}
	}
	if min(lists, done, failed) < 1000 {
		t.Errorf("in %d lists, %d transactions succeed and %d fail", lists, done, failed)
	}
}

// roomyTxns has hidden transactions after its own, which nobody may change.
func roomyTxns(list []impl.Txn) []impl.Txn {
	hidden := txnOf(-7, -7, -7, -7)
	return append(slices.Clone(list), hidden, hidden)[:len(list)]
}

func areUntouchedTxns(roomy []impl.Txn, list []impl.Txn) bool {
	hidden := txnOf(-7, -7, -7, -7)
	return slices.Equal(roomy[:len(list)+2], append(slices.Clone(list), hidden, hidden))
}

func spoilOutcomes(outcomes []bool) {
	outcomes = outcomes[:cap(outcomes)]
	for i := range outcomes {
		outcomes[i] = !outcomes[i]
	}
}

// expectLedgerApart spoils one of two equal results and looks at the other one and at the argument.
func expectLedgerApart(t *testing.T, l impl.Ledger, roomy impl.Ledger, one impl.Ledger, two impl.Ledger) {
	t.Helper()
	kept := cloneLedger(two)
	if !sameLedger(one, two) {
		t.Errorf("of %v, two results are %v and %v", l, one, two)
	}
	spoil(one.Balances)
	if !sameLedger(two, kept) || roomy.Fees != l.Fees || !isUntouchedList(roomy.Balances, l.Balances) {
		t.Errorf("%v is changed, or shares its memory with a result, or two results do", l)
	}
}

func TestLedgersAreApart(t *testing.T) {
	done, failed := 0, 0
	for _, l := range slices.Concat(manyLedgers(), tightLedgers(), fullLedgers()[:20], invalidLedgers()) {
		roomy := ledgerOf(l.Fees, roomyList(l.Balances)...)
		impl.LedgerValid(roomy)
		impl.LedgerTotal(roomy)
		for _, x := range append(fewTxns()[:12], invalidTxns()[:6]...) {
			one, ok := impl.LedgerApply(roomy, x)
			two, _ := impl.LedgerApply(roomy, x)
			expectLedgerApart(t, l, roomy, one, two)
			if ok {
				done++
			} else {
				failed++
			}
		}
	}
	if min(done, failed) < 300 {
		t.Errorf("%d transactions succeed and %d fail", done, failed)
	}
}

func TestRunsAreApart(t *testing.T) {
	lists := append(fewLists(), scatteredList(17, 2))
	for _, l := range slices.Concat(fewLedgers(), tightLedgers()[:5], fullLedgers()[:5], invalidLedgers()[:50]) {
		roomy := ledgerOf(l.Fees, roomyList(l.Balances)...)
		for _, list := range lists {
			txns := roomyTxns(list)
			one, outcomes := impl.LedgerRun(roomy, txns)
			two, again := impl.LedgerRun(roomy, txns)
			kept := slices.Clone(again)
			expectLedgerApart(t, l, roomy, one, two)
			spoilOutcomes(outcomes)
			if !slices.Equal(again, kept) || !areUntouchedTxns(txns, list) {
				t.Errorf("the transactions %v are changed, or share their memory with a result, or two results do", list)
			}
		}
	}
}
