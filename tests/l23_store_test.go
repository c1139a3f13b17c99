package tests

import (
	"cmp"
	"math"
	"slices"
	"testing"

	"loop.example/dagconsensus/impl"
)

func batchOf(digest int, author int, round int, size int) impl.Batch {
	return impl.Batch{Digest: digest, Author: author, Round: round, Size: size}
}

func storeOf(floor int, list ...impl.Batch) impl.Store {
	return impl.Store{Floor: floor, Batches: list}
}

func sameStore(a impl.Store, b impl.Store) bool {
	return a.Floor == b.Floor && slices.Equal(a.Batches, b.Batches)
}

func cloneStore(x impl.Store) impl.Store {
	return storeOf(x.Floor, slices.Clone(x.Batches)...)
}

func notSizes() []int {
	return []int{0, -1, -2, -12, 13, 14, 24, 30, 31, 1000, math.MaxInt, math.MinInt}
}

// invalidBatches has a batch with one number that is out of range each.
func invalidBatches(b impl.Batch) []impl.Batch {
	list := []impl.Batch{}
	for _, digest := range notDigests() {
		list = append(list, batchOf(digest, b.Author, b.Round, b.Size))
	}
	for _, author := range notAuthors() {
		list = append(list, batchOf(b.Digest, author, b.Round, b.Size))
	}
	for _, round := range notRounds() {
		list = append(list, batchOf(b.Digest, b.Author, round, b.Size))
	}
	for _, size := range notSizes() {
		list = append(list, batchOf(b.Digest, b.Author, b.Round, size))
	}
	return list
}

// manyBatches has batches of all authors and all sizes, with digests and rounds at both ends of their ranges and between.
func manyBatches() []impl.Batch {
	list := []impl.Batch{}
	for i, digest := range []int{0, 1, 2, 3, 100, 101, 102, 494, 495, 496, 700, 701, 987, 988, 989, 990} {
		for j, round := range []int{0, 1, 2, 9, 10, 11, 15, 28, 29, 30} {
			list = append(list, batchOf(digest, (i+3*j)%7, round, 1+(5*i+j)%12))
		}
	}
	return list
}

// fewBatches has one of each few of them.
func fewBatches() []impl.Batch {
	list := []impl.Batch{}
	for i, b := range manyBatches() {
		if i%7 == 0 {
			list = append(list, b)
		}
	}
	return list
}

// putBy returns what a valid store answers to a valid batch, without the program.
func putBy(x impl.Store, b impl.Batch) (impl.Store, int) {
	size := b.Size
	for _, stored := range x.Batches {
		if stored.Digest == b.Digest {
			return x, 1
		}
		if stored.Author == b.Author {
			size += stored.Size
		}
	}
	if b.Round < x.Floor {
		return x, 2
	}
	if len(x.Batches) == 12 || size > 30 {
		return x, 3
	}
	list := append(slices.Clone(x.Batches), b)
	slices.SortFunc(list, func(a impl.Batch, b impl.Batch) int {
		return cmp.Compare(a.Digest, b.Digest)
	})
	return storeOf(x.Floor, list...), 0
}

// usedBy adds up sizes without the program.
func usedBy(x impl.Store, author int) int {
	used := 0
	for _, b := range x.Batches {
		if b.Author == author {
			used += b.Size
		}
	}
	return used
}

// leftBy returns a store with another floor without the program.
func leftBy(x impl.Store, floor int) impl.Store {
	y := storeOf(floor)
	for _, b := range x.Batches {
		if b.Round >= floor {
			y.Batches = append(y.Batches, b)
		}
	}
	return y
}

// scatteredStore has up to as many batches, from a floor on, as a seed tells: often with the largest or the smallest digests, next to each other, and often of the floor itself.
func scatteredStore(floor int, many int, seed int) impl.Store {
	state := 1000*seed + 37*floor + many
	next := func(many int) int {
		state = (state*1103515245 + 12345) % (1 << 31)
		return (state >> 8) % many
	}
	x := storeOf(floor)
	for tries := 0; tries < 300 && len(x.Batches) < many; tries++ {
		digest := []int{next(991), next(14), 990 - next(14)}[next(3)]
		round := []int{floor + next(31-floor), floor}[next(2)]
		x, _ = putBy(x, batchOf(digest, next(7), round, 1+next(max(2, 12-many+seed))%12))
	}
	return x
}

// fullAuthor is a store in which the sizes of one author add up to a number, with other batches between and around.
func fullAuthor(author int, round int, sizes ...int) impl.Store {
	x := storeOf(round/2, batchOf(0, (author+1)%7, round, 12))
	for i, size := range sizes {
		x.Batches = append(x.Batches, batchOf(10*i+5, author, round, size))
		if i%3 == 1 {
			x.Batches = append(x.Batches, batchOf(10*i+6, (author+2)%7, round, 12-i))
		}
	}
	return x
}

// ofAuthor has a batch of one author for each size.
func ofAuthor(author int, sizes ...int) impl.Store {
	x := storeOf(0)
	for i, size := range sizes {
		x.Batches = append(x.Batches, batchOf(80*i+7, author, 2*i, size))
	}
	return x
}

// quotaStores has stores in which an author has exactly Quota or one less, some of which also have all batches that they may have.
func quotaStores() []impl.Store {
	list := []impl.Store{}
	for author := range 7 {
		list = append(list, fullAuthor(author, 3*author+1, 12, 12, 6), fullAuthor(author, 30, 10, 10, 10), fullAuthor(author, 7, 5, 5, 5, 5, 5, 5), fullAuthor(author, 7, 5, 5, 5, 5, 5, 4))
		list = append(list, ofAuthor(author, 12, 12, 6), ofAuthor(author, 1, 12, 12, 4), ofAuthor(author, 3, 2, 3, 2, 3, 2, 3, 2, 3, 2, 3, 2), ofAuthor(author, 3, 2, 3, 2, 3, 2, 3, 2, 3, 2, 3, 1), ofAuthor(author, 3, 3, 3, 3, 3, 3, 3, 3, 3, 1, 2))
	}
	all := storeOf(2)
	for i := range 12 {
		all.Batches = append(all.Batches, batchOf(90*i, i%4, 2+i, 10))
	}
	return append(list, all)
}

// manyStores has stores with all floors, without batches, with few, with all but one and with all that they may have.
func manyStores() []impl.Store {
	list := append(quotaStores(), impl.Store{}, impl.Store{Batches: []impl.Batch{}})
	for floor := range 32 {
		list = append(list, storeOf(floor))
	}
	for _, floor := range []int{0, 1, 2, 10, 15, 29, 30} {
		for _, many := range []int{1, 2, 3, 5, 10, 11, 12} {
			for seed := range 4 {
				list = append(list, scatteredStore(floor, many, seed))
			}
		}
	}
	return list
}

// fewStores has one of each few of them.
func fewStores() []impl.Store {
	list := []impl.Store{}
	for i, x := range manyStores() {
		if i%7 == 0 {
			list = append(list, x)
		}
	}
	return list
}

// tooMany has stores with more batches than they may have, though no author has too much.
func tooMany() []impl.Store {
	list := []impl.Store{}
	for _, many := range []int{13, 14, 20, 100, 991} {
		x := storeOf(1)
		for i := range many {
			x.Batches = append(x.Batches, batchOf(i, i%7, 1+i%30, 1))
		}
		list = append(list, x)
	}
	return append(list, ofAuthor(3, 1, 1, 1, 1, 1, 1, 1, 1, 1, 1, 1, 1, 1), storeOf(0, make([]impl.Batch, 1000)...))
}

// tooMuch has stores in which an author has more than Quota: by one or by more, in few or in many batches.
func tooMuch() []impl.Store {
	list := []impl.Store{}
	for author := range 7 {
		list = append(list, fullAuthor(author, 3*author+1, 12, 12, 7), fullAuthor(author, 30, 12, 12, 12), fullAuthor(author, 30, 5, 5, 5, 5, 5, 5, 1))
		list = append(list, ofAuthor(author, 12, 12, 7), ofAuthor(author, 7, 12, 12), ofAuthor(author, 1, 12, 12, 1, 5), ofAuthor(author, 3, 2, 3, 2, 3, 2, 3, 2, 3, 2, 3, 3))
	}
	return list
}

// brokenAt has stores in which the batch with an index is invalid, below the floor, twice there or in a wrong place.
func brokenAt(x impl.Store, i int) []impl.Store {
	list, b := []impl.Store{}, x.Batches[i]
	with := func(other impl.Batch) impl.Store {
		y := cloneStore(x)
		y.Batches[i] = other
		return y
	}
	for _, invalid := range invalidBatches(b) {
		list = append(list, with(invalid))
	}
	again := batchOf(b.Digest, (b.Author+1)%7, 30, 1)
	for _, repeated := range []impl.Batch{b, again} {
		list = append(list, storeOf(x.Floor, slices.Insert(slices.Clone(x.Batches), i, repeated)...), storeOf(x.Floor, slices.Insert(slices.Clone(x.Batches), i+1, repeated)...))
	}
	list = append(list, storeOf(b.Round+1, x.Batches...), storeOf(31, x.Batches...))
	if x.Floor > 0 {
		list = append(list, with(batchOf(b.Digest, b.Author, x.Floor-1, b.Size)), with(batchOf(b.Digest, b.Author, 0, b.Size)))
	}
	if i > 0 {
		y := cloneStore(x)
		y.Batches[i-1], y.Batches[i] = y.Batches[i], y.Batches[i-1]
		list = append(list, y, storeOf(x.Floor, append(slices.Clone(x.Batches[i:]), x.Batches[:i]...)...))
		list = append(list, with(batchOf(x.Batches[i-1].Digest, b.Author, b.Round, b.Size)))
	}
	return list
}

func invalidStores() []impl.Store {
	list := append(tooMany(), tooMuch()...)
	for _, floor := range notFloors() {
		list = append(list, storeOf(floor), storeOf(floor, batchOf(0, 0, 0, 1)), storeOf(floor, batchOf(5, 6, 30, 12)))
	}
	for _, x := range []impl.Store{storeOf(0, batchOf(0, 0, 0, 1)), storeOf(30, batchOf(990, 6, 30, 12)), scatteredStore(2, 2, 0), scatteredStore(1, 5, 2), scatteredStore(10, 11, 1), ofAuthor(3, 12, 12, 6)} {
		for i := range x.Batches {
			list = append(list, brokenAt(x, i)...)
		}
	}
	return list
}

func expectPut(t *testing.T, x impl.Store, b impl.Batch, want impl.Store, code int) {
	t.Helper()
	if y, n := impl.StorePut(x, b); n != code || !sameStore(y, want) {
		t.Errorf("with the batch %v, %v is %v, %d and not %v, %d", b, x, y, n, want, code)
	}
}

func expectUsed(t *testing.T, x impl.Store, author int, want int) {
	t.Helper()
	if used := impl.StoreUsed(x, author); used != want {
		t.Errorf("in %v, author %d uses %d, not %d", x, author, used, want)
	}
}

func expectGot(t *testing.T, x impl.Store, b impl.Batch) {
	t.Helper()
	if got, ok := impl.StoreGet(x, b.Digest); !ok || got != b {
		t.Errorf("in %v, the batch with digest %d is %v, %v and not %v", x, b.Digest, got, ok, b)
	}
}

func expectNotGot(t *testing.T, x impl.Store, digest int) {
	t.Helper()
	if got, ok := impl.StoreGet(x, digest); ok || got != (impl.Batch{}) {
		t.Errorf("in %v, the batch with digest %d is %v, %v", x, digest, got, ok)
	}
}

func expectLeft(t *testing.T, x impl.Store, floor int, want impl.Store) {
	t.Helper()
	if y, ok := impl.StoreForget(x, floor); !ok || !sameStore(y, want) {
		t.Errorf("with the floor %d, %v is %v, %v and not %v", floor, x, y, ok, want)
	}
}

func expectNotLeft(t *testing.T, x impl.Store, floor int) {
	t.Helper()
	if y, ok := impl.StoreForget(x, floor); ok || !sameStore(y, impl.Store{}) {
		t.Errorf("with the floor %d, %v is %v, %v", floor, x, y, ok)
	}
}

// expectNoStore expects of each function what it returns for an invalid store.
func expectNoStore(t *testing.T, x impl.Store) {
	t.Helper()
	if impl.StoreValid(x) {
		t.Errorf("%v is valid", x)
	}
	digests := []int{0, 5, 990, -1, 991}
	batches := []impl.Batch{{}, batchOf(0, 0, 0, 1), batchOf(500, 6, 30, 12), batchOf(990, 6, 30, 1), batchOf(5, 7, 0, 1)}
	for _, b := range x.Batches[:min(len(x.Batches), 14)] {
		digests = append(digests, b.Digest, b.Digest+1)
		batches = append(batches, b, batchOf(b.Digest, 2, 30, 1))
	}
	for _, b := range batches {
		expectPut(t, x, b, impl.Store{}, 4)
	}
	for author := -1; author <= 7; author++ {
		expectUsed(t, x, author, -1)
	}
	for _, digest := range digests {
		expectNotGot(t, x, digest)
	}
	for _, floor := range []int{0, 1, 2, 30, 31, x.Floor, -1, 32} {
		expectNotLeft(t, x, floor)
	}
}

func TestStoreConstants(t *testing.T) {
	codes := []int{impl.StoreDone, impl.StoreKnown, impl.StoreOld, impl.StoreFull, impl.StoreInvalid}
	if impl.MaxBatches != 12 || impl.MaxBatch != 12 || impl.Quota != 30 || !slices.Equal(codes, []int{0, 1, 2, 3, 4}) {
		t.Errorf("a store has %d batches of size %d, an author has %d, and the codes are %v", impl.MaxBatches, impl.MaxBatch, impl.Quota, codes)
	}
}

// Which of the stores are valid is worked out by hand.
func TestStoreValid(t *testing.T) {
	a, b := batchOf(5, 3, 7, 12), batchOf(6, 3, 7, 12)
	for _, x := range []struct {
		store impl.Store
		valid bool
	}{
		{impl.Store{}, true},
		{storeOf(31), true},
		{storeOf(32), false},
		{storeOf(-1), false},
		{storeOf(0, batchOf(0, 0, 0, 1)), true},
		{storeOf(0, batchOf(990, 6, 30, 12)), true},
		{storeOf(0, impl.Batch{}), false},
		{storeOf(0, batchOf(991, 6, 30, 12)), false},
		{storeOf(0, batchOf(-1, 6, 30, 12)), false},
		{storeOf(0, batchOf(990, 7, 30, 12)), false},
		{storeOf(0, batchOf(990, -1, 30, 12)), false},
		{storeOf(0, batchOf(990, 6, 31, 12)), false},
		{storeOf(0, batchOf(990, 6, -1, 12)), false},
		{storeOf(0, batchOf(990, 6, 30, 13)), false},
		{storeOf(0, batchOf(990, 6, 30, 0)), false},
		{storeOf(7, a, b), true},
		{storeOf(8, a, b), false},
		{storeOf(30, batchOf(5, 3, 30, 1)), true},
		{storeOf(31, batchOf(5, 3, 30, 1)), false},
		{storeOf(31, batchOf(5, 3, 31, 1)), false},
		{storeOf(0, b, a), false},
		{storeOf(0, a, a), false},
		{storeOf(0, a, batchOf(5, 2, 8, 1)), false},
		{storeOf(0, a, b, batchOf(7, 3, 7, 6)), true},
		{storeOf(0, a, b, batchOf(7, 3, 7, 7)), false},
		{storeOf(0, a, b, batchOf(7, 2, 7, 12)), true},
		{storeOf(0, a, b, batchOf(7, 2, 7, 12), batchOf(8, 3, 8, 6)), true},
		{storeOf(0, a, b, batchOf(7, 2, 7, 12), batchOf(8, 3, 8, 7)), false},
		{ofAuthor(6, 3, 2, 3, 2, 3, 2, 3, 2, 3, 2, 3, 2), true},
		{ofAuthor(6, 3, 2, 3, 2, 3, 2, 3, 2, 3, 2, 3, 3), false},
		{ofAuthor(6, 1, 1, 1, 1, 1, 1, 1, 1, 1, 1, 1, 1, 1), false},
	} {
		if impl.StoreValid(x.store) != x.valid {
			t.Errorf("that %v is valid is not %v", x.store, x.valid)
		}
	}
}

func TestValidStores(t *testing.T) {
	full, most, both := 0, 0, 0
	for _, x := range manyStores() {
		if !impl.StoreValid(x) {
			t.Errorf("%v is invalid", x)
		}
		quota := false
		for author := range 7 {
			quota = quota || usedBy(x, author) == 30
		}
		if len(x.Batches) == 12 {
			full++
		}
		if quota {
			most++
		}
		if quota && len(x.Batches) == 12 {
			both++
		}
	}
	if full < 20 || most < 20 || both < 5 {
		t.Errorf("%d stores have all batches that they may have, %d have an author with all that it may have, %d have both", full, most, both)
	}
}

func TestInvalidStores(t *testing.T) {
	for _, x := range invalidStores() {
		expectNoStore(t, x)
	}
}

// The batch alone is invalid, whatever else applies: the digest is stored, the round is below the floor, or there is no space.
func TestInvalidBatches(t *testing.T) {
	for _, x := range manyStores() {
		for _, b := range append([]impl.Batch{batchOf(0, 0, 0, 1), batchOf(990, 6, 30, 12), batchOf(333, 3, min(x.Floor, 30), 7)}, x.Batches[:min(len(x.Batches), 3)]...) {
			for _, invalid := range invalidBatches(b) {
				expectPut(t, x, invalid, impl.Store{}, 4)
			}
		}
		expectPut(t, x, impl.Batch{}, impl.Store{}, 4)
	}
}

func TestPromise95StoredBatchesAreThere(t *testing.T) {
	done := 0
	for _, x := range manyStores() {
		for _, b := range manyBatches() {
			y, code := impl.StorePut(x, b)
			if code != 0 {
				continue
			}
			done++
			expectGot(t, y, b)
			expectUsed(t, y, b.Author, impl.StoreUsed(x, b.Author)+b.Size)
			if y.Floor != x.Floor || len(y.Batches) != len(x.Batches)+1 || !impl.StoreValid(y) {
				t.Errorf("with the batch %v, %v is %v", b, x, y)
			}
			for _, stored := range x.Batches {
				expectGot(t, y, stored)
			}
		}
	}
	if done < 5000 {
		t.Errorf("only %d batches are stored", done)
	}
}

// The other batches differ in their author, round and size, one by one and all at once; some are below the floor, some are larger than what is left.
func TestPromise96StoredDigestsAreKnown(t *testing.T) {
	for _, x := range manyStores() {
		for _, b := range manyBatches() {
			y, code := impl.StorePut(x, b)
			if code != 0 {
				continue
			}
			author, round, size := (b.Author+1)%7, (b.Round+16)%31, 13-b.Size
			for _, other := range []impl.Batch{b, batchOf(b.Digest, author, b.Round, b.Size), batchOf(b.Digest, b.Author, round, b.Size), batchOf(b.Digest, b.Author, b.Round, size), batchOf(b.Digest, author, round, size), batchOf(b.Digest, author, 0, 12), batchOf(b.Digest, b.Author, 30, 1)} {
				expectPut(t, y, other, y, 1)
			}
		}
	}
}

func TestPromise97NobodyExceedsTheQuota(t *testing.T) {
	for _, x := range manyStores() {
		for author := range 7 {
			if used := impl.StoreUsed(x, author); used > 30 || used != usedBy(x, author) {
				t.Errorf("in %v, author %d uses %d", x, author, used)
			}
		}
		for _, b := range manyBatches() {
			y, _ := impl.StorePut(x, b)
			for author := range 7 {
				if usedBy(y, author) > 30 {
					t.Errorf("with the batch %v, author %d uses too much in %v", b, author, y)
				}
			}
		}
	}
}

// All sizes of three batches and a fourth one are tried.
func TestPromise97ExactlyTheQuotaAndOneMore(t *testing.T) {
	exact, more := 0, 0
	for i := range 12 * 12 * 12 {
		a, b, d := 1+i%12, 1+i/12%12, 1+i/144
		if a+b+d > 30 {
			if impl.StoreValid(ofAuthor(5, a, b, d)) {
				t.Errorf("a store has sizes %d, %d and %d of one author", a, b, d)
			}
			continue
		}
		x := ofAuthor(5, a, b, d)
		for size := 1; size <= 12; size++ {
			added := batchOf(600, 5, 30, size)
			if a+b+d+size <= 30 {
				expectPut(t, x, added, storeOf(0, append(slices.Clone(x.Batches), added)...), 0)
			} else {
				expectPut(t, x, added, x, 3)
			}
			if a+b+d+size == 30 {
				exact++
			} else if a+b+d+size == 31 {
				more++
			}
		}
	}
	if exact == 0 || more == 0 {
		t.Errorf("%d sizes add up to the quota and %d to one more", exact, more)
	}
}

func TestPromise98WhichCodeApplies(t *testing.T) {
	codes := [4]int{}
	for _, x := range manyStores() {
		batches := manyBatches()
		for _, b := range x.Batches {
			batches = append(batches, b, batchOf(b.Digest, 6-b.Author, 0, 1), batchOf(b.Digest, b.Author, b.Round, 12))
		}
		for _, b := range batches {
			want, code := putBy(x, b)
			expectPut(t, x, b, want, code)
			codes[code]++
		}
	}
	if slices.Min(codes[:]) < 1000 {
		t.Errorf("the codes appear %v times", codes)
	}
}

// Of the three reasons not to store a batch, each set of them applies to some batch; the first one alone decides.
func TestTheFirstCodeApplies(t *testing.T) {
	quota := storeOf(10, batchOf(50, 4, 10, 12), batchOf(60, 4, 11, 12), batchOf(70, 4, 12, 6))
	crowd := storeOf(10)
	for i := range 12 {
		crowd.Batches = append(crowd.Batches, batchOf(5*i+10, i%6, 10+i, 12-i%5))
	}
	both := ofAuthor(4, 3, 2, 3, 2, 3, 2, 3, 2, 3, 2, 3, 2)
	both.Floor = 10
	for i := range both.Batches {
		both.Batches[i] = batchOf(5*i+10, 4, 10+i, both.Batches[i].Size)
	}
	for _, x := range []impl.Store{quota, crowd, both} {
		expectPut(t, x, batchOf(60, 4, 9, 12), x, 1)
		expectPut(t, x, batchOf(60, 4, 10, 12), x, 1)
		expectPut(t, x, batchOf(60, 0, 0, 1), x, 1)
		expectPut(t, x, batchOf(61, 4, 9, 12), x, 2)
		expectPut(t, x, batchOf(61, 4, 0, 1), x, 2)
		expectPut(t, x, batchOf(61, 6, 9, 12), x, 2)
		expectPut(t, x, batchOf(61, 4, 10, 12), x, 3)
		expectPut(t, x, batchOf(61, 4, 30, 1), x, 3)
		expectPut(t, x, batchOf(60, 4, 10, 13), impl.Store{}, 4)
		expectPut(t, x, batchOf(60, 4, -1, 12), impl.Store{}, 4)
		expectPut(t, x, batchOf(60, 7, 9, 12), impl.Store{}, 4)
		expectPut(t, x, batchOf(991, 4, 9, 12), impl.Store{}, 4)
	}
	added := batchOf(61, 6, 10, 12)
	expectPut(t, quota, added, storeOf(10, quota.Batches[0], quota.Batches[1], added, quota.Batches[2]), 0)
	expectPut(t, crowd, added, crowd, 3)
	expectPut(t, both, added, both, 3)
	expectPut(t, storeOf(10), batchOf(61, 4, 9, 12), storeOf(10), 2)
}

func TestPromise99ExactlyTheBatchesFromTheFloorOnRemain(t *testing.T) {
	all, some, none := 0, 0, 0
	for _, x := range manyStores() {
		for floor := x.Floor; floor <= 31; floor++ {
			want := leftBy(x, floor)
			expectLeft(t, x, floor, want)
			y, _ := impl.StoreForget(x, floor)
			for _, b := range x.Batches {
				if b.Round >= floor {
					expectGot(t, y, b)
				} else {
					expectNotGot(t, y, b.Digest)
				}
			}
			for author := range 7 {
				expectUsed(t, y, author, usedBy(want, author))
			}
			switch {
			case len(x.Batches) == 0:
			case len(want.Batches) == 0:
				none++
			case len(want.Batches) == len(x.Batches):
				all++
			default:
				some++
			}
		}
	}
	if min(all, some, none) < 100 {
		t.Errorf("all batches remain %d times, some %d times, none %d times", all, some, none)
	}
}

func TestPromise100ForgettingInSteps(t *testing.T) {
	for _, x := range manyStores() {
		for low := x.Floor; low <= 31; low++ {
			y, _ := impl.StoreForget(x, low)
			for high := low; high <= 31; high++ {
				want, ok := impl.StoreForget(x, high)
				if !ok {
					t.Fatalf("%v has no floor %d", x, high)
				}
				expectLeft(t, y, high, want)
			}
			for _, floor := range []int{-1, 0, x.Floor - 1, low - 1} {
				if floor < low {
					expectNotLeft(t, y, floor)
				}
			}
		}
	}
}

func TestPromise101OrderOfBatches(t *testing.T) {
	both := 0
	for _, x := range fewStores() {
		batches := append(fewBatches(), batchOf(0, 6, 30, 1), batchOf(990, 6, 30, 12), batchOf(333, 3, 30, 6), batchOf(333, 3, 30, 5))
		for _, a := range batches {
			for _, b := range batches {
				y, first := impl.StorePut(x, a)
				z, second := impl.StorePut(y, b)
				if first != 0 || second != 0 {
					continue
				}
				both++
				y, first = impl.StorePut(x, b)
				expectPut(t, y, a, z, 0)
				if first != 0 {
					t.Errorf("%v stores %v after %v, but not before", x, b, a)
				}
			}
		}
	}
	if both < 5000 {
		t.Errorf("only %d pairs of batches are stored", both)
	}
}

// Each step reaches all of the 13 numbers, of which the first 12 that come are stored, in another order.
func TestPromise101OrderOfManyBatches(t *testing.T) {
	for start := range 13 {
		for step := 1; step < 13; step++ {
			x, list := impl.Store{}, []impl.Batch{}
			for i := range 12 {
				n := (start + i*step) % 13
				b := batchOf(82*n, n%5, 2*n, 1+n%12)
				y, code := impl.StorePut(x, b)
				if code != 0 || len(y.Batches) != i+1 || !impl.StoreValid(y) {
					t.Fatalf("with the batch %v, %v is %v, %d", b, x, y, code)
				}
				x, list = y, append(list, b)
			}
			slices.SortFunc(list, func(a impl.Batch, b impl.Batch) int {
				return cmp.Compare(a.Digest, b.Digest)
			})
			if !sameStore(x, storeOf(0, list...)) {
				t.Errorf("from %d on in steps of %d, the store is %v", start, step, x)
			}
			expectPut(t, x, batchOf(1, 6, 30, 1), x, 3)
		}
	}
}

func TestPromise102OtherAuthorsUseTheSame(t *testing.T) {
	for _, x := range manyStores() {
		for _, b := range manyBatches() {
			y, code := impl.StorePut(x, b)
			for author := range 7 {
				want := usedBy(x, author)
				if code == 0 && author == b.Author {
					want += b.Size
				}
				expectUsed(t, y, author, want)
			}
		}
	}
}

func TestPromise103BatchesThatAreFound(t *testing.T) {
	for _, x := range fewStores() {
		for digest := -1; digest <= 991; digest++ {
			i := slices.IndexFunc(x.Batches, func(b impl.Batch) bool { return b.Digest == digest })
			if i < 0 {
				expectNotGot(t, x, digest)
				continue
			}
			expectGot(t, x, x.Batches[i])
			if b, _ := impl.StoreGet(x, digest); b.Digest != digest || b.Round < x.Floor {
				t.Errorf("in %v, the batch with digest %d is %v", x, digest, b)
			}
		}
	}
	for _, x := range manyStores() {
		for _, b := range x.Batches {
			expectGot(t, x, b)
		}
		for _, digest := range notDigests() {
			expectNotGot(t, x, digest)
		}
	}
}

// The expected stores are worked out by hand.
func TestStorePut(t *testing.T) {
	a, b, d := batchOf(5, 1, 2, 12), batchOf(3, 1, 9, 12), batchOf(990, 0, 30, 1)
	x := storeOf(2, b, a)
	expectPut(t, impl.Store{}, a, storeOf(0, a), 0)
	expectPut(t, impl.Store{}, batchOf(0, 0, 0, 1), storeOf(0, batchOf(0, 0, 0, 1)), 0)
	expectPut(t, storeOf(2, a), b, x, 0)
	expectPut(t, storeOf(2, b), a, x, 0)
	expectPut(t, storeOf(3, b), a, storeOf(3, b), 2)
	expectPut(t, x, d, storeOf(2, b, a, d), 0)
	expectPut(t, x, batchOf(4, 6, 30, 12), storeOf(2, b, batchOf(4, 6, 30, 12), a), 0)
	expectPut(t, x, batchOf(0, 6, 2, 12), storeOf(2, batchOf(0, 6, 2, 12), b, a), 0)
	expectPut(t, x, batchOf(4, 1, 2, 6), storeOf(2, b, batchOf(4, 1, 2, 6), a), 0)
	expectPut(t, x, batchOf(4, 1, 2, 7), x, 3)
	expectPut(t, x, batchOf(4, 1, 1, 7), x, 2)
	expectPut(t, x, batchOf(5, 1, 1, 7), x, 1)
	expectPut(t, x, batchOf(5, 6, 30, 1), x, 1)
	expectPut(t, x, a, x, 1)
	expectPut(t, x, batchOf(5, 1, 31, 12), impl.Store{}, 4)
	expectPut(t, x, batchOf(5, 1, 2, 0), impl.Store{}, 4)
	expectPut(t, storeOf(2, a, b), d, impl.Store{}, 4)
	expectPut(t, storeOf(3, b, a), d, impl.Store{}, 4)
	expectPut(t, storeOf(31), d, storeOf(31), 2)
	expectPut(t, storeOf(32), d, impl.Store{}, 4)
	expectPut(t, storeOf(30), d, storeOf(30, d), 0)
	expectPut(t, storeOf(-1), d, impl.Store{}, 4)
}

// For each store, the round is below, at and above the floor, and there is space for two batches, for one or for none.
func TestBatchesAtTheFloor(t *testing.T) {
	for _, many := range []int{0, 1, 10, 11, 12} {
		for _, floor := range []int{0, 1, 9, 29} {
			x := storeOf(floor)
			for i := range many {
				x.Batches = append(x.Batches, batchOf(100+i, i%6, floor+1, 10))
			}
			for round := range 31 {
				for _, digest := range []int{0, 99, 112, 990} {
					b := batchOf(digest, 6, round, 12)
					switch {
					case round < floor:
						expectPut(t, x, b, x, 2)
					case many == 12:
						expectPut(t, x, b, x, 3)
					case digest < 100:
						expectPut(t, x, b, storeOf(floor, append([]impl.Batch{b}, x.Batches...)...), 0)
					default:
						expectPut(t, x, b, storeOf(floor, append(slices.Clone(x.Batches), b)...), 0)
					}
				}
			}
		}
	}
}

// The expected sizes are worked out by hand.
func TestStoreUsed(t *testing.T) {
	x := storeOf(2, batchOf(1, 1, 2, 12), batchOf(3, 0, 2, 1), batchOf(5, 1, 30, 12), batchOf(7, 6, 4, 5), batchOf(9, 1, 3, 6))
	for author, used := range []int{1, 30, 0, 0, 0, 0, 5} {
		expectUsed(t, x, author, used)
		expectUsed(t, storeOf(31), author, 0)
	}
	for _, y := range []impl.Store{x, {}, storeOf(31), scatteredStore(1, 12, 1)} {
		for _, author := range notAuthors() {
			expectUsed(t, y, author, -1)
		}
	}
	expectUsed(t, storeOf(3, x.Batches...), 1, -1)
	expectUsed(t, storeOf(32), 0, -1)
}

func TestStoreGet(t *testing.T) {
	a, b, d := batchOf(0, 3, 5, 12), batchOf(7, 3, 9, 1), batchOf(990, 0, 30, 1)
	x := storeOf(5, a, b, d)
	expectGot(t, x, a)
	expectGot(t, x, b)
	expectGot(t, x, d)
	for _, digest := range append(notDigests(), 1, 6, 8, 989) {
		expectNotGot(t, x, digest)
	}
	expectNotGot(t, storeOf(5, b, d), 0)
	expectNotGot(t, storeOf(5, a, b), 990)
	expectNotGot(t, storeOf(5, a, d), 7)
	expectNotGot(t, storeOf(6, a, b, d), 7)
	expectNotGot(t, storeOf(5, b, a, d), 7)
	expectNotGot(t, impl.Store{}, 0)
}

// The expected stores are worked out by hand.
func TestStoreForget(t *testing.T) {
	a, b, d, e := batchOf(1, 2, 3, 7), batchOf(2, 2, 1, 7), batchOf(3, 6, 30, 12), batchOf(4, 0, 3, 1)
	x := storeOf(1, a, b, d, e)
	expectLeft(t, x, 1, x)
	expectLeft(t, x, 2, storeOf(2, a, d, e))
	expectLeft(t, x, 3, storeOf(3, a, d, e))
	expectLeft(t, x, 4, storeOf(4, d))
	expectLeft(t, x, 30, storeOf(30, d))
	expectLeft(t, x, 31, storeOf(31))
	expectLeft(t, storeOf(0, a, e), 4, storeOf(4))
	expectLeft(t, storeOf(0, a, e), 3, storeOf(3, a, e))
	expectLeft(t, impl.Store{}, 0, storeOf(0))
	expectLeft(t, impl.Store{}, 31, storeOf(31))
	expectLeft(t, storeOf(31), 31, storeOf(31))
	for _, floor := range append(notFloors(), 0) {
		expectNotLeft(t, x, floor)
		expectNotLeft(t, storeOf(31), floor)
	}
	expectNotLeft(t, storeOf(31), 30)
	expectNotLeft(t, storeOf(2, a, b), 2)
	expectNotLeft(t, storeOf(2, a, b), 31)
	expectNotLeft(t, storeOf(0, b, a), 31)
}

// Bits tell which of the batches are below the floor: beside each other, at the beginning, at the end, and far apart.
func TestEachSetOfBatchesIsForgotten(t *testing.T) {
	for _, many := range []int{0, 1, 2, 3, 7, 12} {
		for mask := range 1 << many {
			x, want := storeOf(4), storeOf(9)
			for i := range many {
				b := batchOf(30*i, i%7, 4+5*(mask>>i&1), 1+i)
				x.Batches = append(x.Batches, b)
				if mask>>i&1 == 1 {
					want.Batches = append(want.Batches, b)
				}
			}
			expectLeft(t, x, 9, want)
		}
	}
}

// Batches that are forgotten make room for others, and may not come back.
func TestFullStoresForget(t *testing.T) {
	x := ofAuthor(4, 3, 2, 3, 2, 3, 2, 3, 2, 3, 2, 3, 2)
	b := batchOf(100, 4, 30, 3)
	expectPut(t, x, b, x, 3)
	y, _ := impl.StoreForget(x, 0)
	expectPut(t, y, b, x, 3)
	y, _ = impl.StoreForget(x, 1)
	expectPut(t, y, b, storeOf(1, slices.Insert(slices.Clone(x.Batches[1:]), 1, b)...), 0)
	expectPut(t, y, batchOf(100, 4, 30, 4), y, 3)
	expectPut(t, y, x.Batches[0], y, 2)
	expectPut(t, y, batchOf(7, 4, 1, 3), storeOf(1, slices.Insert(slices.Clone(x.Batches[1:]), 0, batchOf(7, 4, 1, 3))...), 0)
	y, _ = impl.StoreForget(x, 31)
	expectPut(t, y, b, y, 2)
}

// Batches are stored and forgotten as seeds tell, and the stores are compared with what is computed without the program.
func TestManySteps(t *testing.T) {
	codes := [4]int{}
	for seed := range 300 {
		next := func(many int) int {
			seed = (seed*1103515245 + 12345) % (1 << 31)
			return (seed >> 8) % many
		}
		x, authors, digests, sizes := impl.Store{}, 1+next(7), 20+next(900), 1+next(12)
		for range 100 {
			if next(15) == 0 {
				floor := min(x.Floor+next(3), 31)
				expectLeft(t, x, floor, leftBy(x, floor))
				x = leftBy(x, floor)
				continue
			}
			b := batchOf(next(digests), next(authors), min(max(x.Floor-1, 0)+next(8), 30), 1+next(sizes))
			want, code := putBy(x, b)
			expectPut(t, x, b, want, code)
			codes[code]++
			x = want
		}
	}
	if slices.Min(codes[:]) < 1000 {
		t.Errorf("the codes appear %v times", codes)
	}
}

// roomyStore has hidden batches after its batches, which nobody may change.
func roomyStore(x impl.Store) impl.Store {
	hidden := batchOf(-7, -7, -7, -7)
	return storeOf(x.Floor, append(slices.Clone(x.Batches), hidden, hidden)[:len(x.Batches)]...)
}

func isUntouchedStore(y impl.Store, x impl.Store) bool {
	hidden := y.Batches[len(y.Batches) : len(y.Batches)+2]
	return sameStore(y, x) && hidden[0] == batchOf(-7, -7, -7, -7) && hidden[1] == batchOf(-7, -7, -7, -7)
}

func spoilBatches(list []impl.Batch) {
	list = list[:cap(list)]
	for i := range list {
		list[i] = batchOf(-5, -5, -5, -5)
	}
}

// expectStoreApart spoils one of two equal results and looks at the other one and at the argument.
func expectStoreApart(t *testing.T, x impl.Store, roomy impl.Store, one impl.Store, two impl.Store) {
	t.Helper()
	kept := cloneStore(two)
	if !sameStore(one, two) {
		t.Errorf("of %v, two results are %v and %v", x, one, two)
	}
	spoilBatches(one.Batches)
	if !sameStore(two, kept) || !isUntouchedStore(roomy, x) {
		t.Errorf("%v is changed, or shares its memory with a result, or two results do", x)
	}
}

func TestStoresAreApart(t *testing.T) {
	codes := [5]int{}
	for _, x := range append(manyStores(), tooMuch()...) {
		y := roomyStore(x)
		impl.StoreValid(y)
		batches := []impl.Batch{batchOf(1, 3, 0, 9), batchOf(500, 6, min(x.Floor, 30), 1), batchOf(989, 5, 30, 12), batchOf(0, 4, 31, 12)}
		for _, b := range x.Batches[:min(len(x.Batches), 2)] {
			batches = append(batches, b, batchOf(b.Digest, b.Author, 30, 1), batchOf(b.Digest+1, b.Author, 30, 12))
			impl.StoreGet(y, b.Digest)
			impl.StoreUsed(y, b.Author)
		}
		for _, b := range batches {
			one, code := impl.StorePut(y, b)
			two, _ := impl.StorePut(y, b)
			expectStoreApart(t, x, y, one, two)
			codes[code]++
		}
		for _, floor := range []int{-1, x.Floor, x.Floor + 1, 30, 31} {
			one, _ := impl.StoreForget(y, floor)
			two, _ := impl.StoreForget(y, floor)
			expectStoreApart(t, x, y, one, two)
		}
	}
	if slices.Min(codes[:]) < 50 {
		t.Errorf("the codes appear %v times", codes)
	}
}
