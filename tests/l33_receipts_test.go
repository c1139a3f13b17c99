package tests

import (
	"fmt"
	"math"
	"runtime"
	"slices"
	"strings"
	"sync"
	"testing"
	"time"

	"loop.example/dagconsensus/impl"
)

func receiptOf(index int, done bool, digest int) impl.Receipt {
	return impl.Receipt{Index: index, Done: done, Digest: digest}
}

func otherOutcome(r impl.Receipt) impl.Receipt {
	return receiptOf(r.Index, !r.Done, r.Digest)
}

func replacedReceipt(list []impl.Receipt, i int, r impl.Receipt) []impl.Receipt {
	list = slices.Clone(list)
	list[i] = r
	return list
}

// notIndexes has numbers just out of range and far away, and some that become small numbers when they are doubled.
func notIndexes() []int {
	return []int{-1, -2, -16, 16, 17, 31, 32, 495, 991, 1000, math.MaxInt, math.MaxInt - 1, math.MaxInt/2 + 1, math.MinInt, math.MinInt + 1, math.MinInt + 15, math.MinInt / 2}
}

// isReceipt tells without the program whether a receipt is valid.
func isReceipt(r impl.Receipt) bool {
	return min(r.Index, r.Digest) >= 0 && r.Index <= 15 && r.Digest <= 990
}

// textBy writes a transaction without the program.
func textBy(x impl.Txn) string {
	return fmt.Sprintf("%d %d %d %d", x.From, x.To, x.Sum, x.Fee)
}

// digestBy hashes a text without the program: it adds up the bytes from the last one back, each with its power of 257.
func digestBy(text string) int {
	digest, power := 0, 1
	for i := len(text) - 1; i >= 0; i-- {
		digest = (digest + power*(int(text[i])+1)) % 991
		power = power * 257 % 991
	}
	return (digest + 7*power) % 991
}

// receiptsBy makes the receipts of valid transactions without the program.
func receiptsBy(list []impl.Txn, done []bool) []impl.Receipt {
	receipts := []impl.Receipt{}
	for i, x := range list {
		receipts = append(receipts, receiptOf(i, done[i], digestBy(textBy(x))))
	}
	return receipts
}

// leafBy hashes a valid receipt without the program.
func leafBy(r impl.Receipt) int {
	number := r.Index + r.Index
	if r.Done {
		number++
	}
	return pairOf(number, r.Digest)
}

func leavesBy(list []impl.Receipt) []int {
	leaves := []int{}
	for _, r := range list {
		leaves = append(leaves, leafBy(r))
	}
	return leaves
}

// provedBy returns the root that a proof gives for a leaf of a tree, and whether the proof has the right length, without the program: it works from the root down, as proofOf does.
func provedBy(size int, i int, leaf int, proof []int) (int, bool) {
	if size == 1 || len(proof) == 0 {
		return leaf, size == 1 && len(proof) == 0
	}
	split, last := splitOf(size), len(proof)-1
	if i < split {
		root, ok := provedBy(split, i, leaf, proof[:last])
		return pairOf(root, proof[last]), ok
	}
	root, ok := provedBy(size-split, i-split, leaf, proof[:last])
	return pairOf(proof[last], root), ok
}

// manyOutcomes has outcomes that are all true, all false, and mixed.
func manyOutcomes(many int) [][]bool {
	even, first, last, scattered := make([]bool, many), make([]bool, many), make([]bool, many), make([]bool, many)
	next := seeded(many + 3)
	for i := range many {
		even[i], first[i], last[i], scattered[i] = i%2 == 0, i == 0, i == many-1, next(2) == 0
	}
	return [][]bool{slices.Repeat([]bool{true}, many), make([]bool, many), even, first, last, scattered}
}

// manyReceipts has, for each length, receipts with digests and outcomes that are equal, alternating and scattered.
func manyReceipts() [][]impl.Receipt {
	lists := [][]impl.Receipt{}
	for many := 1; many <= 16; many++ {
		next, list := seeded(many), make([][]impl.Receipt, 6)
		for i := range many {
			list[0] = append(list[0], receiptOf(i, false, 0))
			list[1] = append(list[1], receiptOf(i, true, 990))
			list[2] = append(list[2], receiptOf(i, i%2 == 0, i%2*990))
			list[3] = append(list[3], receiptOf(i, i%2 == 1, 990-i))
			list[4] = append(list[4], receiptOf(i, next(2) == 0, next(991)))
			list[5] = append(list[5], receiptOf(i, next(4) > 0, next(991)))
		}
		lists = append(lists, list...)
	}
	return lists
}

// numberedReceipts has receipts of which every third one, from the second on, is of a transaction that has failed.
func numberedReceipts(many int) []impl.Receipt {
	list := []impl.Receipt{}
	for i := range many {
		list = append(list, receiptOf(i, i%3 != 1, (100*i+7)%991))
	}
	return list
}

// brokenReceipts has the receipt with one number that is out of range each, and with both.
func brokenReceipts(r impl.Receipt) []impl.Receipt {
	list := []impl.Receipt{}
	for _, index := range notIndexes() {
		list = append(list, receiptOf(index, r.Done, r.Digest))
		for _, digest := range notDigests() {
			list = append(list, receiptOf(index, r.Done, digest))
		}
	}
	for _, digest := range append(notDigests(), r.Digest+991, r.Digest-991) {
		list = append(list, receiptOf(r.Index, r.Done, digest))
	}
	return list
}

func invalidReceipts() []impl.Receipt {
	list := []impl.Receipt{}
	for _, r := range []impl.Receipt{{}, receiptOf(0, true, 990), receiptOf(15, false, 0), receiptOf(15, true, 990), receiptOf(7, true, 500)} {
		list = append(list, brokenReceipts(r)...)
	}
	return list
}

// misnumberedReceipts has lists of valid receipts that do not all have their indexes in the list.
func misnumberedReceipts() [][]impl.Receipt {
	lists := [][]impl.Receipt{{receiptOf(1, true, 5)}, {receiptOf(15, false, 5)}}
	for many := 2; many <= 16; many++ {
		list := numberedReceipts(many)
		lists = append(lists, list[1:], reversed(list), append(slices.Clone(list[1:]), list[0]))
		for i, r := range list {
			for _, index := range []int{i - 1, i + 1, 0, 15, i ^ 1, (i + 8) % 16} {
				if index != i && index >= 0 && index <= 15 {
					lists = append(lists, replacedReceipt(list, i, receiptOf(index, r.Done, r.Digest)))
				}
			}
			if i > 0 {
				exchanged := replacedReceipt(list, i, list[i-1])
				exchanged[i-1] = r
				lists = append(lists, exchanged, slices.Insert(slices.Clone(list[:many-1]), i, list[i-1]), slices.Delete(slices.Clone(list), i-1, i))
			}
		}
	}
	return lists
}

// invalidReceiptLists has an empty list, lists that are too long, lists with an invalid receipt at each place, and lists that are not numbered in order.
func invalidReceiptLists() [][]impl.Receipt {
	lists := append(misnumberedReceipts(), nil, []impl.Receipt{})
	for _, many := range []int{17, 18, 32, 33, 1000} {
		list := numberedReceipts(many)
		lists = append(lists, list, replacedReceipt(list, many-1, list[0]))
		lists = append(lists, append(numberedReceipts(16), list[:many-16]...), slices.Repeat([]impl.Receipt{{}}, many))
	}
	for _, many := range []int{1, 2, 3, 5, 8, 15, 16} {
		list := numberedReceipts(many)
		for i, r := range list {
			for _, broken := range brokenReceipts(r) {
				lists = append(lists, replacedReceipt(list, i, broken))
			}
		}
	}
	return lists
}

func expectReceipts(t *testing.T, list []impl.Txn, done []bool, want ...impl.Receipt) {
	t.Helper()
	if receipts := impl.ReceiptsOf(list, done); !slices.Equal(receipts, want) {
		t.Errorf("the receipts of %v with %v are %v and not %v", list, done, receipts, want)
	}
}

func expectReceiptDigest(t *testing.T, r impl.Receipt, want int) {
	t.Helper()
	if digest := impl.ReceiptDigest(r); digest != want {
		t.Errorf("the digest of %v is %d and not %d", r, digest, want)
	}
}

func expectChecked(t *testing.T, root int, size int, r impl.Receipt, proof []int, accepted bool) {
	t.Helper()
	if impl.ReceiptCheck(root, size, r, proof) != accepted {
		t.Errorf("that the proof %v shows %v in a tree of %d with the root %d is %v", proof, r, size, root, !accepted)
	}
}

// expectNoReceipts expects of each function what it returns for an invalid list.
func expectNoReceipts(t *testing.T, list []impl.Receipt) {
	t.Helper()
	if root := impl.ReceiptsRoot(list); root != -1 {
		t.Errorf("the root of %v is %d", list, root)
	}
	for _, i := range []int{0, 1, len(list) - 1, len(list), 15, 16, -1, math.MaxInt, math.MinInt} {
		if proof := impl.ReceiptProof(list, i); len(proof) != 0 {
			t.Errorf("the proof of receipt %d of %v is %v", i, list, proof)
		}
	}
}

// eachReceipt goes through the receipts of valid lists, with their roots and proofs worked out without the program.
func eachReceipt(lists [][]impl.Receipt, each func(list []impl.Receipt, i int, root int, proof []int)) {
	for _, list := range lists {
		leaves := leavesBy(list)
		for i := range list {
			each(list, i, rootOf(leaves), proofOf(leaves, i))
		}
	}
}

// The expected digests are worked out with another program.
func TestTxnDigest(t *testing.T) {
	for _, x := range []struct {
		txn    impl.Txn
		digest int
	}{
		{txnOf(0, 1, 1, 0), 972},
		{txnOf(0, 1, 1, 1), 973},
		{txnOf(0, 1, 1, 9), 981},
		{txnOf(1, 0, 1, 0), 835},
		{txnOf(0, 5, 1, 0), 789},
		{txnOf(0, 1, 5, 0), 571},
		{txnOf(2, 3, 5, 0), 114},
		{txnOf(0, 1, 9, 9), 179},
		{txnOf(0, 1, 10, 0), 351},
		{txnOf(3, 4, 10, 1), 81},
		{txnOf(2, 3, 50, 5), 843},
		{txnOf(0, 1, 99, 0), 206},
		{txnOf(0, 1, 99, 9), 215},
		{txnOf(5, 0, 99, 0), 105},
		{txnOf(5, 4, 98, 9), 8},
		{txnOf(4, 5, 99, 9), 184},
		{txnOf(5, 4, 99, 9), 651},
	} {
		if digest := impl.TxnDigest(x.txn); digest != x.digest {
			t.Errorf("the digest of %v is %d and not %d", x.txn, digest, x.digest)
		}
	}
}

// eachTxn goes through all valid transactions.
func eachTxn(each func(x impl.Txn)) {
	for _, pair := range accountPairs() {
		for sum := 1; sum <= 99; sum++ {
			for fee := range 10 {
				each(txnOf(pair[0], pair[1], sum, fee))
			}
		}
	}
}

func TestTxnDigestsOfAllTransactions(t *testing.T) {
	shortest, longest := 0, 0
	eachTxn(func(x impl.Txn) {
		text := textBy(x)
		if digest := impl.TxnDigest(x); digest != digestBy(text) || digest != impl.HashText(text) {
			t.Errorf("the digest of %v is %d and not %d", x, digest, digestBy(text))
		}
		switch len(strings.Fields(text)[2]) {
		case 1:
			shortest++
		case 2:
			longest++
		}
	})
	if shortest != 30*9*10 || longest != 30*90*10 {
		t.Errorf("the sums of %d transactions have one digit, and of %d two", shortest, longest)
	}
}

func TestPromise120TheLastDigitOfTheFee(t *testing.T) {
	eachTxn(func(x impl.Txn) {
		digest := impl.TxnDigest(x)
		if digest < 0 || digest >= impl.HashSize {
			t.Fatalf("the digest of %v is %d", x, digest)
		}
		for fee := range 10 {
			if other := txnOf(x.From, x.To, x.Sum, fee); fee != x.Fee && impl.TxnDigest(other) == digest {
				t.Errorf("%v and %v have the digest %d", x, other, digest)
			}
		}
	})
}

// Every other single digit changes the digest, too: accounts have one, and sums as many as before.
func TestOtherDigitsOfATransaction(t *testing.T) {
	eachTxn(func(x impl.Txn) {
		digest := impl.TxnDigest(x)
		others := []impl.Txn{txnOf(x.From, x.To, x.Sum/10*10+(x.Sum+3)%10, x.Fee), txnOf(x.From, x.To, (x.Sum+40)%100, x.Fee)}
		for account := range 6 {
			others = append(others, txnOf(account, x.To, x.Sum, x.Fee), txnOf(x.From, account, x.Sum, x.Fee))
		}
		for _, other := range others {
			if other != x && len(textBy(other)) == len(textBy(x)) && impl.TxnDigest(other) == digest {
				t.Errorf("%v and %v have the digest %d", x, other, digest)
			}
		}
	})
}

func TestTxnDigestOfInvalidTransactions(t *testing.T) {
	for _, x := range append(invalidTxns(), txnOf(0, 1, 1, 10), txnOf(0, 1, 100, 0), txnOf(0, 6, 1, 0), txnOf(6, 0, 1, 0), txnOf(3, 3, 1, 0)) {
		if digest := impl.TxnDigest(x); digest != -1 {
			t.Errorf("the digest of %v is %d", x, digest)
		}
	}
}

// The digests are those of the transactions above.
func TestReceiptsOf(t *testing.T) {
	a, b, c := txnOf(0, 1, 1, 0), txnOf(4, 5, 99, 9), txnOf(0, 1, 10, 0)
	expectReceipts(t, nil, nil)
	expectReceipts(t, []impl.Txn{}, []bool{})
	expectReceipts(t, []impl.Txn{}, nil)
	expectReceipts(t, []impl.Txn{a}, []bool{true}, receiptOf(0, true, 972))
	expectReceipts(t, []impl.Txn{a}, []bool{false}, receiptOf(0, false, 972))
	expectReceipts(t, []impl.Txn{a, b, c}, []bool{true, false, true}, receiptOf(0, true, 972), receiptOf(1, false, 184), receiptOf(2, true, 351))
	expectReceipts(t, []impl.Txn{c, b, a}, []bool{true, false, false}, receiptOf(0, true, 351), receiptOf(1, false, 184), receiptOf(2, false, 972))
	expectReceipts(t, []impl.Txn{b, b}, []bool{false, true}, receiptOf(0, false, 184), receiptOf(1, true, 184))
}

func TestPromise121ReceiptsOfTransactions(t *testing.T) {
	for _, list := range append(laneLists(), []impl.Txn{}) {
		for _, done := range manyOutcomes(len(list)) {
			receipts := impl.ReceiptsOf(list, done)
			if len(receipts) != len(list) {
				t.Fatalf("the receipts of %v with %v are %v", list, done, receipts)
			}
			for i, r := range receipts {
				if r.Index != i || r.Done != done[i] || r.Digest != impl.TxnDigest(list[i]) {
					t.Errorf("receipt %d of %v with %v is %v", i, list, done, r)
				}
			}
			expectReceipts(t, list, done, receiptsBy(list, done)...)
		}
	}
}

// The outcomes are those that the ledger has, in order and in lanes.
func TestReceiptsOfExecutedTransactions(t *testing.T) {
	mixed := 0
	for _, l := range fewLedgers() {
		for _, list := range laneLists() {
			_, done := impl.LedgerRun(l, list)
			_, again := impl.LanesRun(l, list)
			want := receiptsBy(list, outcomesOf(l, list))
			expectReceipts(t, list, done, want...)
			expectReceipts(t, list, again, want...)
			if count := countOf(done); count > 0 && count < len(list) {
				mixed++
			}
		}
	}
	if mixed < 1000 {
		t.Errorf("the outcomes of only %d lists are mixed", mixed)
	}
}

func TestLongestListsOfReceiptsAndOneMore(t *testing.T) {
	for _, x := range []impl.Txn{txnOf(0, 1, 1, 0), txnOf(5, 4, 99, 9)} {
		for _, many := range []int{15, 16} {
			for _, done := range manyOutcomes(many) {
				list := slices.Repeat([]impl.Txn{x}, many)
				expectReceipts(t, list, done, receiptsBy(list, done)...)
			}
		}
		for _, many := range []int{17, 18, 32, 100, 1000} {
			list := slices.Repeat([]impl.Txn{x}, many)
			for _, outcomes := range []int{many, many - 1, many + 1, 16, 0} {
				for _, done := range manyOutcomes(outcomes) {
					expectReceipts(t, list, done)
				}
			}
		}
	}
}

func TestAsManyOutcomesAsTransactions(t *testing.T) {
	for many := range 17 {
		list := dividedList(max(many, 1), 2, many)[:many]
		for outcomes := range 40 {
			for _, done := range manyOutcomes(outcomes) {
				if outcomes == many {
					expectReceipts(t, list, done, receiptsBy(list, done)...)
				} else {
					expectReceipts(t, list, done)
				}
			}
		}
		expectReceipts(t, list, make([]bool, 1000))
	}
}

func TestReceiptsOfInvalidTransactions(t *testing.T) {
	broken := invalidTxns()
	for many := 1; many <= 16; many++ {
		list := dividedList(many, 2, many)
		for _, done := range manyOutcomes(many) {
			expectReceipts(t, list, done, receiptsBy(list, done)...)
			for i := range list {
				for _, x := range []impl.Txn{{}, txnOf(i%6, i%6, 5, 5), broken[(53*many+i)%len(broken)]} {
					expectReceipts(t, replacedTxn(list, i, x), done)
				}
			}
			expectReceipts(t, broken[many:2*many], done)
		}
	}
	list, done := []impl.Txn{txnOf(0, 1, 10, 1), txnOf(2, 3, 11, 2), txnOf(4, 5, 12, 3)}, []bool{true, false, true}
	for i := range list {
		for _, x := range append(brokenTxns(list[i]), broken...) {
			expectReceipts(t, replacedTxn(list, i, x), done)
			expectReceipts(t, []impl.Txn{x}, done[i:i+1])
		}
	}
}

// The expected digests are worked out with another program.
func TestReceiptDigest(t *testing.T) {
	for _, x := range []struct{ index, digest, failed, done int }{
		{0, 0, 5, 36}, {0, 1, 22, 53}, {0, 500, 577, 608}, {0, 990, 979, 19},
		{1, 0, 67, 98}, {1, 1, 84, 115}, {1, 500, 639, 670}, {1, 990, 50, 81},
		{7, 0, 439, 470}, {7, 1, 456, 487}, {7, 500, 20, 51}, {7, 990, 422, 453},
		{14, 0, 873, 904}, {14, 1, 890, 921}, {14, 500, 454, 485}, {14, 990, 856, 887},
		{15, 0, 935, 966}, {15, 1, 952, 983}, {15, 500, 516, 547}, {15, 990, 918, 949},
	} {
		expectReceiptDigest(t, receiptOf(x.index, false, x.digest), x.failed)
		expectReceiptDigest(t, receiptOf(x.index, true, x.digest), x.done)
	}
}

// No index or outcome may be hidden in the digest: for each digest of a transaction, all receipts have different ones.
func TestReceiptDigestsOfAllReceipts(t *testing.T) {
	for digest := range impl.HashSize {
		seen := map[int]bool{}
		for index := range impl.MaxTxns {
			for _, done := range []bool{false, true} {
				r := receiptOf(index, done, digest)
				expectReceiptDigest(t, r, leafBy(r))
				expectReceiptDigest(t, r, impl.HashPair(2*index+countOf([]bool{done}), digest))
				seen[impl.ReceiptDigest(r)] = true
			}
		}
		if len(seen) != 2*impl.MaxTxns {
			t.Errorf("of the transaction with the digest %d, there are %d digests of receipts", digest, len(seen))
		}
	}
}

func TestPromise122OutcomesAndDigestsMatter(t *testing.T) {
	for index := range impl.MaxTxns {
		for _, done := range []bool{false, true} {
			seen := [impl.HashSize]bool{}
			for digest := range impl.HashSize {
				r := receiptOf(index, done, digest)
				n := impl.ReceiptDigest(r)
				if n < 0 || n >= impl.HashSize || n == impl.ReceiptDigest(otherOutcome(r)) {
					t.Fatalf("the digest of %v is %d, with the other outcome %d", r, n, impl.ReceiptDigest(otherOutcome(r)))
				}
				if seen[n] {
					t.Errorf("%v has the digest %d, as with another digest", r, n)
				}
				seen[n] = true
			}
		}
	}
}

// Each receipt is invalid alone, in a list, and for a reader, also with the number that the functions return for it.
func TestInvalidReceipts(t *testing.T) {
	for _, r := range invalidReceipts() {
		if isReceipt(r) {
			t.Fatalf("%v is valid", r)
		}
		expectReceiptDigest(t, r, -1)
		expectNoReceipts(t, []impl.Receipt{r})
		for _, size := range []int{1, 2, 8, 15, 16, 17, 32, r.Index + 1} {
			for _, proof := range [][]int{nil, {0}, {0, 0, 0}, {0, 0, 0, 0}, {-1}, {-1, -1, -1, -1}} {
				for _, root := range []int{-1, 0, 5, 990, r.Digest} {
					expectChecked(t, root, size, r, proof, false)
				}
			}
		}
	}
}

// The expected roots and proofs are worked out with another program.
func TestTreesOfReceipts(t *testing.T) {
	for i, x := range []struct {
		root                int
		first, middle, last []int
	}{
		{155, nil, nil, nil},
		{205, []int{895}, []int{155}, []int{155}},
		{524, []int{895, 706}, []int{155, 706}, []int{205}},
		{668, []int{895, 423}, []int{486, 205}, []int{706, 205}},
		{924, []int{895, 423, 235}, []int{486, 205, 235}, []int{668}},
		{368, []int{895, 423, 144}, []int{706, 205, 144}, []int{235, 668}},
		{814, []int{895, 423, 520}, []int{706, 205, 520}, []int{144, 668}},
		{11, []int{895, 423, 123}, []int{46, 269, 668}, []int{817, 144, 668}},
		{809, []int{895, 423, 123, 377}, []int{46, 269, 668, 377}, []int{11}},
		{697, []int{895, 423, 123, 487}, []int{235, 269, 668, 487}, []int{377, 11}},
		{2, []int{895, 423, 123, 621}, []int{235, 269, 668, 621}, []int{487, 11}},
		{72, []int{895, 423, 123, 800}, []int{566, 144, 668, 800}, []int{897, 487, 11}},
		{175, []int{895, 423, 123, 398}, []int{566, 144, 668, 398}, []int{800, 11}},
		{966, []int{895, 423, 123, 736}, []int{817, 144, 668, 736}, []int{488, 800, 11}},
		{722, []int{895, 423, 123, 197}, []int{817, 144, 668, 197}, []int{333, 800, 11}},
		{407, []int{895, 423, 123, 878}, []int{157, 208, 866, 11}, []int{48, 333, 800, 11}},
	} {
		many := i + 1
		list := numberedReceipts(many)
		if root := impl.ReceiptsRoot(list); root != x.root {
			t.Errorf("the root of %v is %d and not %d", list, root, x.root)
		}
		for at, want := range map[int][]int{0: x.first, many / 2: x.middle, many - 1: x.last} {
			if proof := impl.ReceiptProof(list, at); !slices.Equal(proof, want) {
				t.Errorf("the proof of receipt %d of %v is %v and not %v", at, list, proof, want)
			}
			expectChecked(t, x.root, many, list[at], want, true)
		}
	}
}

func TestTreesOfReceiptsOfAnotherProgram(t *testing.T) {
	eachReceipt(manyReceipts(), func(list []impl.Receipt, i int, root int, proof []int) {
		if n := impl.ReceiptsRoot(list); n != root {
			t.Errorf("the root of %v is %d and not %d", list, n, root)
		}
		if found := impl.ReceiptProof(list, i); !slices.Equal(found, proof) {
			t.Errorf("the proof of receipt %d of %v is %v and not %v", i, list, found, proof)
		}
	})
}

// A single receipt has no proof but its root, and the last one of an odd number has no neighbour.
func TestReceiptsWithoutANeighbour(t *testing.T) {
	for _, list := range manyReceipts() {
		many := len(list)
		proof := impl.ReceiptProof(list, many-1)
		want := []int{0, 1, 1, 2, 1, 2, 2, 3, 1, 2, 2, 3, 2, 3, 3, 4}[many-1]
		if len(proof) != want {
			t.Errorf("the proof of the last one of %v is %v", list, proof)
		}
		if many == 1 {
			expectChecked(t, leafBy(list[0]), 1, list[0], nil, true)
			expectChecked(t, leafBy(list[0]), 2, list[0], nil, false)
		} else if many%2 == 1 {
			// Paired with itself or with a padding, it would have a longer proof.
			expectChecked(t, impl.ReceiptsRoot(list), many, list[many-1], append([]int{leafBy(list[many-1])}, proof...), false)
			expectChecked(t, impl.ReceiptsRoot(list), many, list[many-1], append([]int{0}, proof...), false)
		}
	}
}

func TestProofOfNoReceipt(t *testing.T) {
	for _, list := range manyReceipts() {
		many := len(list)
		for _, i := range []int{-1, -2, -many, -many - 1, many, many + 1, 2 * many, 16, 17, math.MaxInt, math.MinInt, math.MinInt + 1} {
			if proof := impl.ReceiptProof(list, i); len(proof) != 0 {
				t.Errorf("the proof of receipt %d of %v is %v", i, list, proof)
			}
		}
	}
}

func TestInvalidReceiptLists(t *testing.T) {
	for _, list := range invalidReceiptLists() {
		expectNoReceipts(t, list)
	}
}

// Receipts that are moved keep their digests, so that only their indexes tell.
func TestReceiptsInAnotherOrder(t *testing.T) {
	for _, many := range []int{2, 3, 4, 5} {
		list := numberedReceipts(many)
		for _, other := range orders(list) {
			if slices.Equal(other, list) {
				if impl.ReceiptsRoot(other) != rootOf(leavesBy(list)) {
					t.Errorf("the root of %v is %d", other, impl.ReceiptsRoot(other))
				}
			} else {
				expectNoReceipts(t, other)
			}
		}
	}
}

func TestPromise123ProofsOfReceiptsAreAccepted(t *testing.T) {
	eachReceipt(manyReceipts(), func(list []impl.Receipt, i int, root int, proof []int) {
		expectChecked(t, impl.ReceiptsRoot(list), len(list), list[i], impl.ReceiptProof(list, i), true)
		expectChecked(t, root, len(list), list[i], proof, true)
	})
	for _, list := range laneLists() {
		for _, done := range manyOutcomes(len(list)) {
			receipts := impl.ReceiptsOf(list, done)
			for i, r := range receipts {
				expectChecked(t, impl.ReceiptsRoot(receipts), len(list), r, impl.ReceiptProof(receipts, i), true)
			}
		}
	}
}

func TestPromise124OtherReceiptsAreRejected(t *testing.T) {
	eachReceipt(manyReceipts(), func(list []impl.Receipt, i int, root int, proof []int) {
		r := list[i]
		expectChecked(t, root, len(list), otherOutcome(r), impl.ReceiptProof(list, i), false)
		for digest := range impl.HashSize {
			expectChecked(t, root, len(list), receiptOf(i, r.Done, digest), proof, digest == r.Digest)
		}
	})
	for _, list := range laneLists() {
		for _, done := range manyOutcomes(len(list)) {
			receipts := impl.ReceiptsOf(list, done)
			for i, r := range receipts {
				root, proof := impl.ReceiptsRoot(receipts), impl.ReceiptProof(receipts, i)
				expectChecked(t, root, len(list), otherOutcome(r), proof, false)
				expectChecked(t, root, len(list), receiptOf(i, r.Done, (r.Digest+1)%991), proof, false)
			}
		}
	}
}

// A receipt with another index has another digest, and is accepted only where its place in the tree makes up for that by chance, as is worked out without the program.
func TestReceiptsWithOtherIndexesAreRejected(t *testing.T) {
	others := 0
	eachReceipt(manyReceipts(), func(list []impl.Receipt, i int, root int, proof []int) {
		for index := range impl.MaxTxns {
			for _, r := range []impl.Receipt{receiptOf(index, list[i].Done, list[i].Digest), receiptOf(index, !list[i].Done, list[i].Digest)} {
				want := false
				if index < len(list) {
					n, ok := provedBy(len(list), index, leafBy(r), proof)
					want = ok && n == root
				}
				expectChecked(t, root, len(list), r, proof, want)
				if want && r != list[i] {
					others++
				}
			}
		}
	})
	if others > 50 {
		t.Errorf("%d receipts with other indexes are accepted", others)
	}
}

func TestPromise125RootsOfReceipts(t *testing.T) {
	for _, list := range manyReceipts() {
		leaves := []int{}
		for _, r := range list {
			leaves = append(leaves, impl.ReceiptDigest(r))
		}
		root := impl.ReceiptsRoot(list)
		if root != impl.MerkleRoot(leaves) || root < 0 || root >= impl.HashSize {
			t.Errorf("the root of %v is %d and not %d", list, root, impl.MerkleRoot(leaves))
		}
		for i, r := range list {
			if n := impl.ReceiptsRoot(replacedReceipt(list, i, otherOutcome(r))); n == root || n < 0 {
				t.Errorf("the root of %v is %d, with another outcome at %d it is %d", list, root, i, n)
			}
		}
	}
}

func TestPromise126IndexesAreLessThanTheSize(t *testing.T) {
	accepted, rejected := 0, 0
	eachReceipt(manyReceipts(), func(list []impl.Receipt, i int, root int, proof []int) {
		for size := -3; size <= 40; size++ {
			want := false
			if size >= 1 && size <= 16 && i < size {
				n, ok := provedBy(size, i, leafBy(list[i]), proof)
				want = ok && n == root
			}
			expectChecked(t, root, size, list[i], proof, want)
			if want {
				accepted++
			} else {
				rejected++
			}
		}
	})
	if min(accepted, rejected) < 1000 {
		t.Errorf("%d receipts are accepted and %d are not", accepted, rejected)
	}
}

func TestPromise126FurtherDigests(t *testing.T) {
	eachReceipt(manyReceipts(), func(list []impl.Receipt, i int, root int, proof []int) {
		for digest := range impl.HashSize {
			expectChecked(t, root, len(list), list[i], append(slices.Clone(proof), digest), false)
		}
		for at := range len(proof) + 1 {
			for _, digest := range []int{0, 1, 500, 990, root, leafBy(list[i]), list[i].Digest} {
				expectChecked(t, root, len(list), list[i], slices.Insert(slices.Clone(proof), at, digest), false)
			}
		}
		for at := range proof {
			expectChecked(t, root, len(list), list[i], slices.Delete(slices.Clone(proof), at, at+1), false)
		}
		expectChecked(t, root, len(list), list[i], slices.Repeat([]int{0}, 1000), false)
	})
}

// What counts is the number of digests, even where the root would be right: each root here is that of the proof as it is.
func TestProofsOfReceiptsOfOtherLengths(t *testing.T) {
	eachReceipt(manyReceipts(), func(list []impl.Receipt, i int, root int, proof []int) {
		if len(list) > 1 {
			// Without its last digest, it gives the root of one of the two parts that the tree is made of.
			split, part := splitOf(len(list)), list
			if i < split {
				part = list[:split]
			} else {
				part = list[split:]
			}
			expectChecked(t, rootOf(leavesBy(part)), len(list), list[i], proof[:len(proof)-1], false)
		}
		for _, digest := range []int{0, 7, 990} {
			longer := append(slices.Clone(proof), digest)
			expectChecked(t, pairOf(root, digest), len(list), list[i], longer, false)
			expectChecked(t, pairOf(digest, root), len(list), list[i], longer, false)
		}
	})
}

// A list is cut after each receipt, which then is the last one of the tree.
func TestSizeOfTheIndexAndOneMore(t *testing.T) {
	eachReceipt(manyReceipts(), func(list []impl.Receipt, i int, root int, proof []int) {
		part := list[:i+1]
		shorter := impl.ReceiptProof(part, i)
		expectChecked(t, impl.ReceiptsRoot(part), i+1, list[i], shorter, true)
		expectChecked(t, impl.ReceiptsRoot(part), i, list[i], shorter, false)
		for _, other := range [][]int{nil, proof, shorter, {leafBy(list[i])}, {0, 0, 0, 0}} {
			for _, n := range []int{root, leafBy(list[i]), impl.ReceiptsRoot(part), impl.ReceiptsRoot(list[:i]), -1} {
				expectChecked(t, n, i, list[i], other, false)
			}
		}
	})
}

// The proofs would be right if a tree could have this size.
func TestTreesOfReceiptsOfOtherSizes(t *testing.T) {
	for size := 17; size <= 64; size++ {
		leaves := slices.Repeat([]int{5}, size)
		for i := range 16 {
			r := receiptOf(i, i%2 == 0, 90*i/2)
			other := replaced(leaves, i, leafBy(r))
			expectChecked(t, rootOf(other), size, r, proofOf(other, i), false)
		}
	}
	for _, size := range []int{0, -1, -2, -16, math.MinInt, math.MinInt + 1, 17, 18, 32, math.MaxInt} {
		for _, r := range []impl.Receipt{{}, receiptOf(0, true, 990), receiptOf(1, true, 5), receiptOf(15, false, 990)} {
			for _, proof := range [][]int{nil, {0}, {0, 0}, {0, 0, 0, 0}, {0, 0, 0, 0, 0}} {
				for _, root := range []int{-1, 0, leafBy(r), 990} {
					expectChecked(t, root, size, r, proof, false)
				}
			}
		}
	}
}

func TestReceiptsByOtherRootsAreRejected(t *testing.T) {
	eachReceipt(manyReceipts(), func(list []impl.Receipt, i int, root int, proof []int) {
		for other := range impl.HashSize {
			expectChecked(t, other, len(list), list[i], proof, other == root)
		}
		for _, other := range append(notDigests(), root+991, root-991) {
			expectChecked(t, other, len(list), list[i], proof, false)
		}
	})
}

// Numbers that are congruent to the right ones would give the right root, if they were combined.
func TestProofsOfReceiptsWithOtherNumbers(t *testing.T) {
	eachReceipt(manyReceipts(), func(list []impl.Receipt, i int, root int, proof []int) {
		for at, digest := range proof {
			for _, n := range append(notDigests(), digest+991, digest-991) {
				expectChecked(t, root, len(list), list[i], replaced(proof, at, n), false)
				expectChecked(t, -1, len(list), list[i], replaced(proof, at, n), false)
			}
			expectChecked(t, root, len(list), list[i], replaced(proof, at, (digest+1)%991), false)
		}
		for _, broken := range brokenReceipts(list[i]) {
			expectChecked(t, root, len(list), broken, proof, false)
			expectChecked(t, -1, len(list), broken, proof, false)
		}
	})
}

// Proofs of all lengths are checked for all sizes and indexes, by the root that they give and by others.
func TestReceiptCheckOfAnotherProgram(t *testing.T) {
	accepted, rejected := 0, 0
	for size := 1; size <= 16; size++ {
		for i := range 16 {
			for length := range 6 {
				for seed := range 20 {
					next, proof := seeded(1000*size+100*i+10*length+seed), []int{}
					for range length {
						proof = append(proof, next(991))
					}
					r := receiptOf(i, next(2) == 0, next(991))
					root, ok := next(991), false
					if i < size {
						root, ok = provedBy(size, i, leafBy(r), proof)
					}
					expectChecked(t, root, size, r, proof, ok)
					expectChecked(t, (root+1+next(990))%991, size, r, proof, false)
					if ok {
						accepted++
					} else {
						rejected++
					}
				}
			}
		}
	}
	if min(accepted, rejected) < 2000 {
		t.Errorf("%d receipts are accepted and %d are not", accepted, rejected)
	}
}

// roomyOutcomes has hidden outcomes after its own, which nobody may change.
func roomyOutcomes(done []bool) []bool {
	return append(slices.Clone(done), true, false)[:len(done)]
}

func areUntouchedOutcomes(roomy []bool, done []bool) bool {
	return slices.Equal(roomy[:len(done)+2], append(slices.Clone(done), true, false))
}

// roomyReceipts has hidden receipts after its own, which nobody may change.
func roomyReceipts(list []impl.Receipt) []impl.Receipt {
	hidden := receiptOf(-7, true, -7)
	return append(slices.Clone(list), hidden, hidden)[:len(list)]
}

func areUntouchedReceipts(roomy []impl.Receipt, list []impl.Receipt) bool {
	hidden := receiptOf(-7, true, -7)
	return slices.Equal(roomy[:len(list)+2], append(slices.Clone(list), hidden, hidden))
}

func spoilReceipts(list []impl.Receipt) {
	list = list[:cap(list)]
	for i := range list {
		list[i] = receiptOf(-9, !list[i].Done, -9)
	}
}

// The arguments and one of two results are changed as soon as they are returned, which a sender that still runs would meet.
func TestReceiptsAreApart(t *testing.T) {
	for _, list := range append(laneLists(), invalidTxns()[:16], dividedList(17, 3, 1), []impl.Txn{}) {
		for _, done := range append(manyOutcomes(len(list)), make([]bool, len(list)+1)) {
			txns, outcomes := roomyTxns(list), roomyOutcomes(done)
			one, two := impl.ReceiptsOf(txns, outcomes), impl.ReceiptsOf(txns, outcomes)
			kept := slices.Clone(two)
			if !slices.Equal(one, two) {
				t.Errorf("the receipts of %v with %v are %v and %v", list, done, one, two)
			}
			spoilReceipts(one)
			if !slices.Equal(two, kept) || !areUntouchedTxns(txns, list) || !areUntouchedOutcomes(outcomes, done) {
				t.Errorf("%v or %v is changed, or two results share their memory", list, done)
			}
			clear(txns)
			spoilOutcomes(outcomes)
			if !slices.Equal(two, kept) {
				t.Errorf("of %v with %v, the receipts change with them", list, done)
			}
		}
	}
}

func TestProofsOfReceiptsAreApart(t *testing.T) {
	for _, list := range slices.Concat(manyReceipts(), misnumberedReceipts(), [][]impl.Receipt{nil, numberedReceipts(17)}) {
		receipts := roomyReceipts(list)
		impl.ReceiptsRoot(receipts)
		for i, r := range list {
			proof, again := impl.ReceiptProof(receipts, i), impl.ReceiptProof(receipts, i)
			kept := slices.Clone(again)
			roomy := roomyList(proof)
			impl.ReceiptDigest(receipts[i])
			impl.ReceiptCheck(impl.ReceiptsRoot(receipts), len(list), r, roomy)
			if !slices.Equal(proof, kept) || !isUntouchedList(roomy, kept) {
				t.Errorf("the proof %v of receipt %d of %v is changed to %v", kept, i, list, roomy)
			}
			spoil(proof)
			if !slices.Equal(again, kept) || !areUntouchedReceipts(receipts, list) {
				t.Errorf("%v is changed, or shares its memory with a proof, or two proofs do", list)
			}
		}
		if !areUntouchedReceipts(receipts, list) {
			t.Errorf("%v is changed", list)
		}
	}
}

// Many calls with the same arguments run at once, on one processor or on several.
func TestReceiptsAtOnce(t *testing.T) {
	defer runtime.GOMAXPROCS(runtime.GOMAXPROCS(0))
	for _, processors := range []int{1, 2, 8} {
		runtime.GOMAXPROCS(processors)
		for seed := range 20 {
			list := roomyTxns(dividedList(1+seed%16, 1+seed%3, seed))
			for _, done := range manyOutcomes(len(list)) {
				outcomes, want := roomyOutcomes(done), receiptsBy(list, done)
				var running sync.WaitGroup
				for range 10 {
					running.Go(func() { expectReceipts(t, list, outcomes, want...) })
				}
				running.Wait()
			}
		}
	}
}

// A goroutine that waited for ever would still be there.
func TestNoSenderOfReceiptsIsLeft(t *testing.T) {
	before := runtime.NumGoroutine()
	for range 100 {
		for _, list := range fewLaneLists() {
			impl.ReceiptsOf(list, make([]bool, len(list)))
			impl.ReceiptsOf(list, make([]bool, len(list)+1))
			impl.ReceiptsOf(append(slices.Clone(list), impl.Txn{}), make([]bool, len(list)+1))
		}
	}
	// What has closed its channel may take a moment to end.
	for range 1000 {
		if runtime.NumGoroutine() <= before {
			return
		}
		time.Sleep(10 * time.Millisecond)
	}
	t.Errorf("there are %d goroutines and not %d", runtime.NumGoroutine(), before)
}
