package tests

import (
	"math"
	"slices"
	"strings"
	"testing"

	"loop.example/dagconsensus/impl"
)

// notDigests has numbers just out of range and far away, and some that are congruent to digests.
func notDigests() []int {
	return []int{-1, -2, -impl.HashSize, impl.HashSize, impl.HashSize + 1, 2 * impl.HashSize, 100000, math.MaxInt, math.MinInt}
}

// splitOf returns the largest power of two that is less than a number of at least 2.
func splitOf(size int) int {
	split := 1
	for 2*split < size {
		split *= 2
	}
	return split
}

// pairOf hashes two digests without the program.
func pairOf(a int, b int) int {
	return (31*a + 17*b + 5) % impl.HashSize
}

// rootOf works from the root down, unlike the document: the left part of a tree is the largest full tree that leaves something for the right part.
func rootOf(leaves []int) int {
	if len(leaves) == 1 {
		return leaves[0]
	}
	split := splitOf(len(leaves))
	return pairOf(rootOf(leaves[:split]), rootOf(leaves[split:]))
}

// proofOf works from the root down, as rootOf does.
func proofOf(leaves []int, i int) []int {
	if len(leaves) == 1 {
		return []int{}
	}
	split := splitOf(len(leaves))
	if i < split {
		return append(proofOf(leaves[:split], i), rootOf(leaves[split:]))
	}
	return append(proofOf(leaves[split:], i-split), rootOf(leaves[:split]))
}

// manyTrees has, for each size, leaves that are equal, ascending, at both ends of the range, and scattered.
func manyTrees() [][]int {
	list := [][]int{}
	for size := 1; size <= impl.MaxLeaves; size++ {
		ascending, ends, scattered := []int{}, []int{}, []int{}
		for i := range size {
			ascending = append(ascending, i+1)
			ends = append(ends, i%2*(impl.HashSize-1))
			scattered = append(scattered, (i*i*389+i*127+size*53)%impl.HashSize)
		}
		list = append(list, slices.Repeat([]int{0}, size), slices.Repeat([]int{impl.HashSize - 1}, size), ascending, ends, scattered)
	}
	return list
}

// invalidLeaves has no leaf, too many leaves, and each number that is no digest at each position.
func invalidLeaves() [][]int {
	list := [][]int{nil, {}, make([]int, impl.MaxLeaves+1), make([]int, 2*impl.MaxLeaves), make([]int, 1000)}
	for size := 1; size <= impl.MaxLeaves; size++ {
		for i := range size {
			for _, n := range notDigests() {
				leaves := slices.Repeat([]int{5}, size)
				leaves[i] = n
				list = append(list, leaves)
			}
		}
	}
	return list
}

// replaced returns a copy of a list with another number at an index.
func replaced(list []int, i int, n int) []int {
	list = slices.Clone(list)
	list[i] = n
	return list
}

// The expected digests are worked out with another program.
func TestHashText(t *testing.T) {
	for _, x := range []struct {
		s      string
		digest int
	}{
		{"a", 906}, {"b", 907}, {"ab", 56}, {"ba", 312}, {" ", 841}, {"\n", 819}, {"0 1 5 0", 571},
		{"\x00", 809}, {"\x00\x00", 795}, {"\xff", 73}, {"\xff\xfe", 187}, {"\u00e9", 538}, {"\u65e5\u672c", 50},
		{strings.Repeat("a", 60), 478}, {"b" + strings.Repeat("a", 59), 744}, {strings.Repeat("a", 59) + "b", 479},
		{strings.Repeat("\x00", 60), 59}, {strings.Repeat("\xff", 60), 854}, {strings.Repeat("\u00e9", 30), 696},
	} {
		if n := impl.HashText(x.s); n != x.digest {
			t.Errorf("the digest of %q is %d, not %d", x.s, n, x.digest)
		}
	}
}

func TestPromise10OneOtherByteChangesTheDigest(t *testing.T) {
	for size := 1; size <= impl.MaxText; size++ {
		text := make([]byte, size)
		for i := range text {
			text[i] = byte(31*i + size)
		}
		for i, old := range text {
			seen := map[int]byte{}
			for b := range 256 {
				text[i] = byte(b)
				digest := impl.HashText(string(text))
				if digest < 0 || digest >= impl.HashSize {
					t.Fatalf("the digest of %q is %d", text, digest)
				}
				if other, ok := seen[digest]; ok {
					t.Fatalf("%q has the same digest with byte %d at %d", text, other, i)
				}
				seen[digest] = byte(b)
			}
			text[i] = old
		}
	}
}

func TestPromise11EmptyAndTooLongTexts(t *testing.T) {
	if n := impl.HashText(""); n != 7 {
		t.Errorf("the digest of the empty text is %d", n)
	}
	for size := range impl.MaxText + 1 {
		if n := impl.HashText(strings.Repeat("x", size)); n < 0 || n >= impl.HashSize {
			t.Errorf("the digest of a text of %d bytes is %d", size, n)
		}
	}
	for _, s := range []string{
		strings.Repeat("x", impl.MaxText+1), strings.Repeat("\x00", impl.MaxText+1), strings.Repeat("x", impl.MaxText+2),
		strings.Repeat("x", 2*impl.MaxText), strings.Repeat("x", 100000),
		// Bytes count, not runes.
		strings.Repeat("\u00e9", impl.MaxText/2) + "x", strings.Repeat("\u00e9", impl.MaxText/2+1), strings.Repeat("\u65e5", impl.MaxText/3+1),
	} {
		if n := impl.HashText(s); n != -1 {
			t.Errorf("the digest of a text of %d bytes is %d", len(s), n)
		}
	}
}

// The expected digests are worked out with another program.
func TestHashPair(t *testing.T) {
	for _, x := range []struct{ a, b, digest int }{
		{0, 0, 5}, {1, 0, 36}, {0, 1, 22}, {1, 2, 70}, {2, 1, 84}, {32, 0, 6}, {0, 58, 0},
		{500, 500, 221}, {0, 990, 979}, {990, 0, 965}, {990, 990, 948},
	} {
		if n := impl.HashPair(x.a, x.b); n != x.digest {
			t.Errorf("the digest of %d and %d is %d, not %d", x.a, x.b, n, x.digest)
		}
	}
}

func TestHashPairOfOtherNumbers(t *testing.T) {
	for _, n := range notDigests() {
		for _, digest := range []int{0, 1, impl.HashSize - 1} {
			if impl.HashPair(n, digest) != -1 || impl.HashPair(digest, n) != -1 {
				t.Errorf("%d and %d have a digest", n, digest)
			}
		}
		for _, m := range notDigests() {
			if impl.HashPair(n, m) != -1 {
				t.Errorf("%d and %d have a digest", n, m)
			}
		}
	}
}

func TestPromise12EachDigestOfAPairMatters(t *testing.T) {
	for fixed := range impl.HashSize {
		first, second := [impl.HashSize]bool{}, [impl.HashSize]bool{}
		for n := range impl.HashSize {
			a, b := impl.HashPair(n, fixed), impl.HashPair(fixed, n)
			if a < 0 || a >= impl.HashSize || b < 0 || b >= impl.HashSize {
				t.Fatalf("%d and %d have the digests %d and %d", n, fixed, a, b)
			}
			if first[a] || second[b] {
				t.Fatalf("%d and %d have the digest of another pair", n, fixed)
			}
			first[a], second[b] = true, true
		}
	}
}

// The expected roots and proofs are worked out with another program.
func TestTreesOfEachSize(t *testing.T) {
	leaves := []int{}
	for i, x := range []struct {
		root        int
		first, last []int
	}{
		{1, []int{}, []int{}},
		{70, []int{2}, []int{1}},
		{244, []int{2, 3}, []int{70}},
		{42, []int{2, 166}, []int{3, 70}},
		{401, []int{2, 166, 5}, []int{42}},
		{806, []int{2, 166, 262}, []int{5, 42}},
		{767, []int{2, 166, 318}, []int{262, 42}},
		{133, []int{2, 166, 339}, []int{7, 262, 42}},
		{317, []int{2, 166, 339, 9}, []int{133}},
		{945, []int{2, 166, 339, 454}, []int{9, 133}},
		{882, []int{2, 166, 339, 392}, []int{454, 133}},
		{75, []int{2, 166, 339, 636}, []int{11, 454, 133}},
		{256, []int{2, 166, 339, 122}, []int{636, 133}},
		{849, []int{2, 166, 339, 973}, []int{13, 636, 133}},
		{361, []int{2, 166, 339, 886}, []int{646, 636, 133}},
		{548, []int{2, 166, 339, 897}, []int{15, 646, 636, 133}},
	} {
		leaves = append(leaves, i+1)
		if n := impl.MerkleRoot(leaves); n != x.root {
			t.Errorf("the root of %v is %d, not %d", leaves, n, x.root)
		}
		if proof := impl.MerkleProof(leaves, 0); !slices.Equal(proof, x.first) {
			t.Errorf("the proof of the first of %v is %v, not %v", leaves, proof, x.first)
		}
		if proof := impl.MerkleProof(leaves, i); !slices.Equal(proof, x.last) {
			t.Errorf("the proof of the last of %v is %v, not %v", leaves, proof, x.last)
		}
	}
	if len(leaves) != impl.MaxLeaves {
		t.Errorf("only trees of up to %d leaves are tested", len(leaves))
	}
}

func TestMerkleRootAndMerkleProof(t *testing.T) {
	for _, leaves := range manyTrees() {
		if n := impl.MerkleRoot(leaves); n != rootOf(leaves) {
			t.Errorf("the root of %v is %d, not %d", leaves, n, rootOf(leaves))
		}
		for i := range leaves {
			if proof := impl.MerkleProof(leaves, i); !slices.Equal(proof, proofOf(leaves, i)) {
				t.Errorf("the proof of leaf %d of %v is %v, not %v", i, leaves, proof, proofOf(leaves, i))
			}
		}
	}
}

// A last node without a successor is neither paired with itself nor with a padding.
func TestNodeWithoutASuccessorIsKept(t *testing.T) {
	for size := 3; size < impl.MaxLeaves; size += 2 {
		leaves := slices.Repeat([]int{3}, size)
		root := impl.MerkleRoot(leaves)
		if root == impl.MerkleRoot(append(slices.Clone(leaves), 3)) || root == impl.MerkleRoot(append(slices.Clone(leaves), 0)) {
			t.Errorf("%d leaves have the root of %d", size, size+1)
		}
	}
}

func TestInvalidLeaves(t *testing.T) {
	for _, leaves := range invalidLeaves() {
		if n := impl.MerkleRoot(leaves); n != -1 {
			t.Errorf("the root of %v is %d", leaves, n)
		}
		for _, i := range []int{-1, 0, 1, len(leaves) - 1, len(leaves), impl.MaxLeaves} {
			if proof := impl.MerkleProof(leaves, i); len(proof) != 0 {
				t.Errorf("the proof of leaf %d of %v is %v", i, leaves, proof)
			}
		}
	}
}

func TestProofOfNoLeaf(t *testing.T) {
	for _, leaves := range manyTrees() {
		size, root := len(leaves), impl.MerkleRoot(leaves)
		for _, i := range []int{-1, -2, -size, size, size + 1, size ^ 1, 2 * size, impl.MaxLeaves, math.MaxInt, math.MinInt} {
			if i >= 0 && i < size {
				continue
			}
			if proof := impl.MerkleProof(leaves, i); len(proof) != 0 {
				t.Errorf("the proof of leaf %d of %v is %v", i, leaves, proof)
			}
			for j, leaf := range leaves {
				if impl.MerkleCheck(root, size, i, leaf, impl.MerkleProof(leaves, j)) {
					t.Errorf("of %v, the proof of leaf %d shows leaf %d", leaves, j, i)
				}
			}
		}
	}
}

func TestPromise13ProofsAreAccepted(t *testing.T) {
	for _, leaves := range manyTrees() {
		for i, leaf := range leaves {
			if !impl.MerkleCheck(impl.MerkleRoot(leaves), len(leaves), i, leaf, impl.MerkleProof(leaves, i)) {
				t.Errorf("the proof of leaf %d of %v is rejected", i, leaves)
			}
		}
	}
}

// The roots are those of the trees above; a proof is also accepted for a smaller tree with the same nodes.
func TestMerkleCheck(t *testing.T) {
	for _, x := range []struct {
		root, size, i, leaf int
		proof               []int
		accepted            bool
	}{
		{9, 1, 0, 9, nil, true},
		{9, 1, 0, 9, []int{}, true},
		{9, 1, 0, 8, nil, false},
		{0, 1, 0, 0, nil, true},
		{990, 1, 0, 990, nil, true},
		{70, 2, 0, 1, []int{2}, true},
		{84, 2, 1, 1, []int{2}, true},
		{84, 2, 0, 1, []int{2}, false},
		{70, 2, 1, 1, []int{2}, false},
		{70, 2, 1, 2, []int{1}, true},
		{244, 3, 2, 3, []int{70}, true},
		{244, 4, 2, 3, []int{70}, false},
		{244, 2, 1, 3, []int{70}, true},
		{244, 3, 0, 1, []int{2, 3}, true},
		{244, 3, 1, 2, []int{1, 3}, true},
		{244, 3, 1, 2, []int{3, 1}, false},
		{979, 2, 0, 0, []int{990}, true},
		{948, 2, 1, 990, []int{990}, true},
		{401, 5, 4, 5, []int{42}, true},
		{401, 5, 3, 5, []int{42}, false},
		{401, 2, 1, 5, []int{42}, true},
	} {
		if impl.MerkleCheck(x.root, x.size, x.i, x.leaf, x.proof) != x.accepted {
			t.Errorf("MerkleCheck of %v is %t", x, !x.accepted)
		}
	}
}

func TestPromise14OtherLeavesAreRejected(t *testing.T) {
	for _, leaves := range manyTrees() {
		root := impl.MerkleRoot(leaves)
		for i, leaf := range leaves {
			proof := impl.MerkleProof(leaves, i)
			for other := range impl.HashSize {
				if other != leaf && impl.MerkleCheck(root, len(leaves), i, other, proof) {
					t.Errorf("leaf %d of %v is shown to be %d", i, leaves, other)
				}
			}
		}
	}
}

func TestPromise15EachLeafMatters(t *testing.T) {
	for _, leaves := range manyTrees() {
		root := impl.MerkleRoot(leaves)
		for i, leaf := range leaves {
			for other := range impl.HashSize {
				if n := impl.MerkleRoot(replaced(leaves, i, other)); (n == root) != (other == leaf) || n < 0 || n >= impl.HashSize {
					t.Errorf("with %d at %d, the root of %v is %d", other, i, leaves, n)
				}
			}
		}
	}
}

func TestPromise16TreesOfOneAndTwoLeaves(t *testing.T) {
	for a := range impl.HashSize {
		if n := impl.MerkleRoot([]int{a}); n != a {
			t.Errorf("the root of leaf %d is %d", a, n)
		}
		if proof := impl.MerkleProof([]int{a}, 0); len(proof) != 0 {
			t.Errorf("the proof of leaf %d is %v", a, proof)
		}
		for b := range impl.HashSize {
			if n := impl.MerkleRoot([]int{a, b}); n != impl.HashPair(a, b) {
				t.Fatalf("the root of leaves %d and %d is %d", a, b, n)
			}
		}
	}
	if !slices.Equal(impl.MerkleProof([]int{1, 2}, 0), []int{2}) || !slices.Equal(impl.MerkleProof([]int{1, 2}, 1), []int{1}) {
		t.Error("the proof of one of two leaves is not the other one")
	}
}

// The lengths are worked out with another program, for every index.
func TestLengthsOfProofs(t *testing.T) {
	for _, lengths := range [][]int{
		{0}, {1, 1}, {2, 2, 1}, {2, 2, 2, 2}, {3, 3, 3, 3, 1}, {3, 3, 3, 3, 2, 2}, {3, 3, 3, 3, 3, 3, 2},
		{3, 3, 3, 3, 3, 3, 3, 3}, {4, 4, 4, 4, 4, 4, 4, 4, 1}, {4, 4, 4, 4, 4, 4, 4, 4, 2, 2},
		{4, 4, 4, 4, 4, 4, 4, 4, 3, 3, 2}, {4, 4, 4, 4, 4, 4, 4, 4, 3, 3, 3, 3}, {4, 4, 4, 4, 4, 4, 4, 4, 4, 4, 4, 4, 2},
		{4, 4, 4, 4, 4, 4, 4, 4, 4, 4, 4, 4, 3, 3}, {4, 4, 4, 4, 4, 4, 4, 4, 4, 4, 4, 4, 4, 4, 3},
		{4, 4, 4, 4, 4, 4, 4, 4, 4, 4, 4, 4, 4, 4, 4, 4},
	} {
		for i, length := range lengths {
			if proof := impl.MerkleProof(make([]int, len(lengths)), i); len(proof) != length {
				t.Errorf("the proof of leaf %d of %d has %d digests, not %d", i, len(lengths), len(proof), length)
			}
		}
	}
}

func TestPromise17LengthOfAProof(t *testing.T) {
	for _, leaves := range manyTrees() {
		size, root := len(leaves), impl.MerkleRoot(leaves)
		for i, leaf := range leaves {
			proof := impl.MerkleProof(leaves, i)
			if len(proof) > 4 {
				t.Errorf("the proof of leaf %d of %v is %v", i, leaves, proof)
			}
			if len(proof) > 0 && impl.MerkleCheck(root, size, i, leaf, proof[:len(proof)-1]) {
				t.Errorf("the proof of leaf %d of %v is accepted without its last digest", i, leaves)
			}
			for digest := range impl.HashSize {
				if impl.MerkleCheck(root, size, i, leaf, append(slices.Clone(proof), digest)) {
					t.Errorf("the proof of leaf %d of %v is accepted with %d after it", i, leaves, digest)
				}
			}
		}
	}
}

// What counts is the number of digests, even where the root would be right: each root here is that of the proof as it is.
func TestProofsOfOtherLengthsAreRejected(t *testing.T) {
	for _, x := range []struct {
		root, size, i, leaf int
		proof               []int
	}{
		{70, 1, 0, 1, []int{2}},
		{1, 2, 0, 1, nil},
		{70, 2, 0, 70, []int{}},
		{70, 3, 0, 1, []int{2}},
		{3, 3, 2, 3, nil},
		{244, 2, 0, 1, []int{2, 3}},
		{42, 5, 0, 1, []int{2, 166}},
		{401, 4, 0, 1, []int{2, 166, 5}},
		{133, 16, 0, 1, []int{2, 166, 339}},
		{548, 8, 0, 1, []int{2, 166, 339, 897}},
		{5, 1, 0, 5, make([]int, 1000)},
		{5, 16, 0, 5, make([]int, 1000)},
	} {
		if impl.MerkleCheck(x.root, x.size, x.i, x.leaf, x.proof) {
			t.Errorf("MerkleCheck accepts %v", x)
		}
	}
}

func TestPromise18OtherRootsAreRejected(t *testing.T) {
	for _, leaves := range manyTrees() {
		root := impl.MerkleRoot(leaves)
		for i, leaf := range leaves {
			proof := impl.MerkleProof(leaves, i)
			for other := range impl.HashSize {
				if other != root && impl.MerkleCheck(other, len(leaves), i, leaf, proof) {
					t.Errorf("the proof of leaf %d of %v is accepted for root %d", i, leaves, other)
				}
			}
			for _, other := range append(notDigests(), root+impl.HashSize, root-impl.HashSize) {
				if impl.MerkleCheck(other, len(leaves), i, leaf, proof) {
					t.Errorf("the proof of leaf %d of %v is accepted for root %d", i, leaves, other)
				}
			}
		}
	}
}

// Numbers that are congruent to the right ones would give the right root, if they were combined.
func TestProofsOfOtherNumbersAreRejected(t *testing.T) {
	for _, leaves := range manyTrees() {
		size, root := len(leaves), impl.MerkleRoot(leaves)
		for i, leaf := range leaves {
			proof := impl.MerkleProof(leaves, i)
			for _, n := range append(notDigests(), leaf+impl.HashSize, leaf-impl.HashSize) {
				if impl.MerkleCheck(root, size, i, n, proof) || impl.MerkleCheck(n, size, i, n, proof) || impl.MerkleCheck(-1, size, i, n, proof) {
					t.Errorf("leaf %d of %v is shown to be %d", i, leaves, n)
				}
			}
			for j, digest := range proof {
				for _, n := range append(notDigests(), digest+impl.HashSize, digest-impl.HashSize) {
					// -1 is what HashPair returns for such a number.
					if impl.MerkleCheck(root, size, i, leaf, replaced(proof, j, n)) || impl.MerkleCheck(-1, size, i, leaf, replaced(proof, j, n)) {
						t.Errorf("the proof of leaf %d of %v is accepted with %d at %d", i, leaves, n, j)
					}
				}
			}
		}
	}
}

// The proofs would be right if a tree could have this size.
func TestTreesOfOtherSizesAreRejected(t *testing.T) {
	for size := impl.MaxLeaves + 1; size <= 4*impl.MaxLeaves; size++ {
		leaves := slices.Repeat([]int{5}, size)
		for i := range leaves {
			if impl.MerkleCheck(rootOf(leaves), size, i, 5, proofOf(leaves, i)) {
				t.Errorf("leaf %d of %d is accepted", i, size)
			}
		}
	}
	for _, size := range []int{0, -1, -2, -impl.MaxLeaves, math.MinInt, impl.MaxLeaves + 1, math.MaxInt} {
		for _, i := range []int{-1, 0, 1, size - 1, size, math.MinInt} {
			for _, proof := range [][]int{nil, {0}, {0, 0}} {
				if impl.MerkleCheck(5, size, i, 5, proof) {
					t.Errorf("leaf %d of %d is accepted with %v", i, size, proof)
				}
			}
		}
	}
}

func TestMerkleArgumentsAndResultsAreApart(t *testing.T) {
	for _, leaves := range manyTrees() {
		before := slices.Clone(leaves)
		for i, leaf := range leaves {
			proof, again := impl.MerkleProof(leaves, i), impl.MerkleProof(leaves, i)
			kept := slices.Clone(proof)
			impl.MerkleCheck(impl.MerkleRoot(leaves), len(leaves), i, leaf, proof)
			if !slices.Equal(proof, kept) {
				t.Errorf("MerkleCheck changes the proof %v to %v", kept, proof)
			}
			// What lies beyond the length of a slice may be shared, too.
			proof = proof[:cap(proof)]
			for j := range proof {
				proof[j] = -5
			}
			if !slices.Equal(leaves, before) || !slices.Equal(again, kept) {
				t.Errorf("a proof shares memory with %v or with another proof", before)
			}
		}
	}
}
