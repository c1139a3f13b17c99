package tests

import (
	"math"
	"slices"
	"testing"

	"loop.example/dagconsensus/impl"
)

// notSignNumbers has 0, numbers just out of range and far away, and some that are congruent to secrets, keys and signatures.
func notSignNumbers() []int {
	return []int{0, -1, -2, -996, -997, -998, 997, 998, 1993, 1994, 100000, math.MaxInt, math.MinInt}
}

// notSignedDigests has numbers that are no digests. 996 and -1 would be signed by 0, and 997 like 0.
func notSignedDigests() []int {
	return append(notDigests(), 995, 996, 997, 998, -6, -7, -996, -997, -998, 1993, 1994)
}

// fewSecrets has both ends and the middle of the range, and the secrets of the keys 1, 3, 995 and 996.
func fewSecrets() []int {
	return []int{1, 2, 3, 199, 200, 399, 498, 499, 598, 995, 996}
}

// fewDigests has both ends and the middle of the range.
func fewDigests() []int {
	return []int{0, 1, 9, 498, 499, 989, 990}
}

// keyOf returns the public key of a secret without the program.
func keyOf(secret int) int {
	return secret * 5 % 997
}

// signatureOf signs without the program.
func signatureOf(secret int, digest int) int {
	return secret * (digest + 1) % 997
}

func keysOf(secrets []int) []int {
	keys := []int{}
	for _, secret := range secrets {
		keys = append(keys, keyOf(secret))
	}
	return keys
}

// signaturesOf returns the signatures of the members in a mask, and 0 for the others.
func signaturesOf(secrets []int, digest int, mask int) []int {
	signatures := make([]int, len(secrets))
	for _, member := range subset(len(secrets), mask) {
		signatures[member] = signatureOf(secrets[member], digest)
	}
	return signatures
}

// certOf returns the certificate of the members in a mask without the program, also if they are too few.
func certOf(secrets []int, digest int, mask int) impl.Cert {
	return impl.Cert{Digest: digest, Signers: subset(len(secrets), mask), Sum: sumOf(signaturesOf(secrets, digest, mask)) % 997}
}

// sumAt adds up the numbers at some indexes: keys of signers, or weights.
func sumAt(list []int, indexes []int) int {
	sum := 0
	for _, i := range indexes {
		sum += list[i]
	}
	return sum
}

func everybody(c []int) int {
	return 1<<len(c) - 1
}

// secretLists returns lists of as many secrets: equal ones, smallest and largest ones, ascending and scattered ones, pairs that add up to 0, and lists all of which do.
func secretLists(size int) [][]int {
	ascending, scattered, pairs := []int{}, []int{}, []int{}
	for i := range size {
		ascending = append(ascending, i+1)
		scattered = append(scattered, (i*i*331+i*89+size*11)%996+1)
		pairs = append(pairs, []int{400 + i, 598 - i}[i%2])
	}
	list := [][]int{slices.Repeat([]int{1}, size), slices.Repeat([]int{996}, size), ascending, scattered, pairs}
	if size > 1 {
		zero := slices.Clone(ascending)
		zero[size-1] = 997 - sumOf(ascending[:size-1])
		list = append(list, zero)
	}
	return list
}

func sameCert(a impl.Cert, b impl.Cert) bool {
	return a.Digest == b.Digest && slices.Equal(a.Signers, b.Signers) && a.Sum == b.Sum
}

func withSum(x impl.Cert, sum int) impl.Cert {
	return impl.Cert{Digest: x.Digest, Signers: x.Signers, Sum: sum}
}

func withDigest(x impl.Cert, digest int) impl.Cert {
	return impl.Cert{Digest: digest, Signers: x.Signers, Sum: x.Sum}
}

func expectCert(t *testing.T, c []int, keys []int, digest int, signatures []int, want impl.Cert) {
	t.Helper()
	if x, ok := impl.CertMake(c, keys, digest, signatures); !ok || !sameCert(x, want) {
		t.Errorf("in %v with keys %v, the signatures %v of %d give %v, %v and not %v", c, keys, signatures, digest, x, ok, want)
	}
}

func expectNoCert(t *testing.T, c []int, keys []int, digest int, signatures []int) {
	t.Helper()
	if x, ok := impl.CertMake(c, keys, digest, signatures); ok || !sameCert(x, impl.Cert{}) {
		t.Errorf("in %v with keys %v, the signatures %v of %d give %v, %v", c, keys, signatures, digest, x, ok)
	}
}

func expectAccepted(t *testing.T, c []int, keys []int, x impl.Cert) {
	t.Helper()
	if !impl.CertCheck(c, keys, x) {
		t.Errorf("in %v with keys %v, %v is rejected", c, keys, x)
	}
}

func expectRejected(t *testing.T, c []int, keys []int, x impl.Cert) {
	t.Helper()
	if impl.CertCheck(c, keys, x) {
		t.Errorf("in %v with keys %v, %v is accepted", c, keys, x)
	}
}

// eachCert calls a function with certificates of all members that are a quorum, or, if asked for them, of all that are not.
func eachCert(quorum bool, each func(c []int, secrets []int, mask int, x impl.Cert)) {
	for _, c := range fewCommittees() {
		weights := subsetWeights(c)
		for i, secrets := range secretLists(len(c)) {
			for mask, weight := range weights {
				if (weight >= impl.CommitteeQuorum(c)) == quorum {
					digest := fewDigests()[(i+mask)%len(fewDigests())]
					each(c, secrets, mask, certOf(secrets, digest, mask))
				}
			}
		}
	}
}

// The expected numbers are worked out with another program.
func TestKeysAndSignatures(t *testing.T) {
	digests := []int{0, 1, 9, 498, 989, 990}
	for _, x := range []struct {
		secret, key int
		signatures  []int
	}{
		{1, 5, []int{1, 2, 10, 499, 990, 991}},
		{2, 10, []int{2, 4, 20, 1, 983, 985}},
		{3, 15, []int{3, 6, 30, 500, 976, 979}},
		{199, 995, []int{199, 398, 993, 598, 601, 800}},
		{200, 3, []int{200, 400, 6, 100, 594, 794}},
		{399, 1, []int{399, 798, 2, 698, 198, 597}},
		{498, 496, []int{498, 996, 992, 249, 502, 3}},
		{499, 501, []int{499, 1, 5, 748, 495, 994}},
		{598, 996, []int{598, 199, 995, 299, 799, 400}},
		{995, 987, []int{995, 993, 977, 996, 14, 12}},
		{996, 992, []int{996, 995, 987, 498, 7, 6}},
	} {
		if n := impl.KeyPublic(x.secret); n != x.key {
			t.Errorf("the key of %d is %d, not %d", x.secret, n, x.key)
		}
		for i, digest := range digests {
			if n := impl.SignMake(x.secret, digest); n != x.signatures[i] {
				t.Errorf("the signature of %d for %d is %d, not %d", x.secret, digest, n, x.signatures[i])
			}
			if !impl.SignCheck(x.key, digest, x.signatures[i]) {
				t.Errorf("the signature %d for %d is not valid for key %d", x.signatures[i], digest, x.key)
			}
		}
	}
}

func TestPromise28SignaturesAreAccepted(t *testing.T) {
	for secret := 1; secret < impl.SignSize; secret++ {
		key := impl.KeyPublic(secret)
		for digest := range impl.HashSize {
			signature := impl.SignMake(secret, digest)
			if signature != signatureOf(secret, digest) || !impl.SignCheck(key, digest, signature) {
				t.Fatalf("the signature of %d for %d is %d, and may be rejected", secret, digest, signature)
			}
		}
	}
}

func TestPromise29OtherDigestsAreRejected(t *testing.T) {
	for secret := 1; secret < impl.SignSize; secret++ {
		digests := fewDigests()[secret%7 : secret%7+1]
		if slices.Contains(fewSecrets(), secret) {
			digests = fewDigests()
		}
		for _, digest := range digests {
			signature := impl.SignMake(secret, digest)
			for other := range impl.HashSize {
				if impl.SignCheck(keyOf(secret), other, signature) != (other == digest) {
					t.Fatalf("the signature %d of %d for %d is accepted for %d, or not even for its own", signature, secret, digest, other)
				}
			}
		}
	}
}

func TestPromise30OtherKeysAreRejected(t *testing.T) {
	for secret := 1; secret < impl.SignSize; secret++ {
		digest := secret * 5 % impl.HashSize
		signature := impl.SignMake(secret, digest)
		for key := 1; key < impl.SignSize; key++ {
			if impl.SignCheck(key, digest, signature) != (key == keyOf(secret)) {
				t.Fatalf("the signature %d of %d for %d is accepted for key %d, or not even for its own", signature, secret, digest, key)
			}
		}
	}
}

func TestPromise31KeysDiffer(t *testing.T) {
	owners := map[int]int{}
	for secret := 1; secret < impl.SignSize; secret++ {
		key := impl.KeyPublic(secret)
		if key < 1 || key >= impl.SignSize || owners[key] != 0 {
			t.Fatalf("the key of %d is %d, which is out of range or that of %d", secret, key, owners[key])
		}
		owners[key] = secret
	}
	for _, secret := range notSignNumbers() {
		if key := impl.KeyPublic(secret); key != 0 {
			t.Errorf("the key of %d is %d", secret, key)
		}
	}
}

func TestPromise32OneSignatureForAKeyAndADigest(t *testing.T) {
	for key := 1; key < impl.SignSize; key++ {
		digest := key * 3 % impl.HashSize
		found := []int{}
		for signature := -impl.SignSize; signature <= 2*impl.SignSize; signature++ {
			if impl.SignCheck(key, digest, signature) {
				found = append(found, signature)
			}
		}
		// The equation itself tells which one it must be.
		if len(found) != 1 || found[0] < 1 || found[0] > 996 || (found[0]*5-key*(digest+1))%997 != 0 {
			t.Fatalf("%v are valid for key %d and digest %d", found, key, digest)
		}
	}
}

func TestSignMakeOfInvalidArguments(t *testing.T) {
	for _, secret := range notSignNumbers() {
		for _, digest := range append(fewDigests(), notSignedDigests()...) {
			if n := impl.SignMake(secret, digest); n != 0 {
				t.Errorf("the signature of %d for %d is %d", secret, digest, n)
			}
		}
	}
	for _, digest := range notSignedDigests() {
		for _, secret := range fewSecrets() {
			if n := impl.SignMake(secret, digest); n != 0 {
				t.Errorf("the signature of %d for %d is %d", secret, digest, n)
			}
		}
	}
}

func expectInvalid(t *testing.T, key int, digest int, signature int) {
	t.Helper()
	if impl.SignCheck(key, digest, signature) {
		t.Errorf("the signature %d for %d is valid for key %d", signature, digest, key)
	}
}

// Each argument is replaced by numbers out of range, some of which are congruent to it, so that only its range tells that it is wrong.
func TestSignCheckOfInvalidArguments(t *testing.T) {
	for _, secret := range fewSecrets() {
		for _, digest := range fewDigests() {
			key, signature := keyOf(secret), signatureOf(secret, digest)
			for _, n := range append(notSignNumbers(), key-997, key+997, key+2*997) {
				expectInvalid(t, n, digest, signature)
			}
			for _, n := range append(notSignNumbers(), signature-997, signature+997, signature+2*997) {
				expectInvalid(t, key, digest, n)
			}
			for _, n := range append(notSignedDigests(), digest-997, digest+997, digest+2*997) {
				expectInvalid(t, key, n, signature)
			}
		}
	}
}

func TestSignCheckOfDigestsThatCouldBeSigned(t *testing.T) {
	for _, secret := range fewSecrets() {
		for _, digest := range []int{-997, -1, 991, 992, 993, 994, 995, 996, 997, 998, 1987} {
			for _, signature := range []int{signatureOf(secret, digest), (signatureOf(secret, digest) + 997) % 997} {
				expectInvalid(t, keyOf(secret), digest, signature)
			}
		}
	}
	for _, digest := range append(fewDigests(), notSignedDigests()...) {
		for _, n := range []int{0, 997, -997} {
			expectInvalid(t, n, digest, n)
			expectInvalid(t, n, digest, 0)
		}
	}
}

// The expected sums are worked out by hand.
func TestCertMake(t *testing.T) {
	four, keys := []int{1, 1, 1, 1}, []int{5, 10, 15, 20}
	for _, x := range []struct {
		c, keys    []int
		digest     int
		signatures []int
		signers    []int
		sum        int
	}{
		{four, keys, 9, []int{10, 20, 30, 0}, []int{0, 1, 2}, 60},
		{four, keys, 9, []int{10, 20, 0, 40}, []int{0, 1, 3}, 70},
		{four, keys, 9, []int{10, 0, 30, 40}, []int{0, 2, 3}, 80},
		{four, keys, 9, []int{0, 20, 30, 40}, []int{1, 2, 3}, 90},
		{four, keys, 9, []int{10, 20, 30, 40}, []int{0, 1, 2, 3}, 100},
		{four, keys, 0, []int{1, 2, 3, 0}, []int{0, 1, 2}, 6},
		{four, keys, 990, []int{991, 985, 979, 0}, []int{0, 1, 2}, 961},
		{four, []int{5, 5, 5, 5}, 1, []int{2, 0, 2, 2}, []int{0, 2, 3}, 6},
		{[]int{1}, []int{992}, 0, []int{996}, []int{0}, 996},
		{[]int{9}, []int{1}, 0, []int{399}, []int{0}, 399},
		{[]int{3, 1}, keys[:2], 2, []int{3, 0}, []int{0}, 3},
		{[]int{3, 1}, keys[:2], 2, []int{3, 6}, []int{0, 1}, 9},
		{[]int{2, 1, 1, 1}, keys, 0, []int{1, 2, 0, 4}, []int{0, 1, 3}, 7},
		{[]int{1, 1, 1}, []int{5, 10, 982}, 4, []int{5, 10, 982}, []int{0, 1, 2}, 0},
	} {
		want := impl.Cert{Digest: x.digest, Signers: x.signers, Sum: x.sum}
		expectCert(t, x.c, x.keys, x.digest, x.signatures, want)
		expectAccepted(t, x.c, x.keys, want)
	}
	for _, x := range []struct {
		c, keys    []int
		digest     int
		signatures []int
	}{
		{four, keys, 9, []int{10, 20, 0, 0}},
		{four, keys, 9, []int{0, 0, 0, 40}},
		{four, keys, 9, []int{0, 0, 0, 0}},
		{four, keys, 8, []int{10, 20, 30, 40}},
		{four, keys, 9, []int{20, 10, 30, 40}},
		{four, keys, 9, []int{10, 20, 30, 41}},
		{[]int{3, 1}, keys[:2], 2, []int{0, 6}},
		{[]int{2, 1, 1, 1}, keys, 0, []int{1, 0, 0, 4}},
		{[]int{2, 1, 1, 1}, keys, 0, []int{0, 2, 3, 4}},
		{[]int{1, 1, 1}, keys[:3], 0, []int{1, 2, 0}},
		{[]int{9, 9, 9, 9, 9, 9, 9}, []int{5, 5, 5, 5, 5, 5, 5}, 0, []int{1, 1, 1, 1, 0, 0, 0}},
	} {
		expectNoCert(t, x.c, x.keys, x.digest, x.signatures)
	}
}

func TestPromise33MadeCertificatesAreAccepted(t *testing.T) {
	eachCert(true, func(c []int, secrets []int, mask int, want impl.Cert) {
		x, ok := impl.CertMake(c, keysOf(secrets), want.Digest, signaturesOf(secrets, want.Digest, mask))
		if !ok || !impl.CertCheck(c, keysOf(secrets), x) {
			t.Errorf("in %v with secrets %v, %v cannot be made or is rejected", c, secrets, want)
		}
	})
}

func TestPromise34SignersAreThoseWhoHaveSigned(t *testing.T) {
	eachCert(true, func(c []int, secrets []int, mask int, want impl.Cert) {
		signatures := signaturesOf(secrets, want.Digest, mask)
		x, ok := impl.CertMake(c, keysOf(secrets), want.Digest, signatures)
		if !ok || !sameCert(x, want) || 3*impl.MembersWeight(c, x.Signers) <= 2*sumOf(c) {
			t.Errorf("in %v with secrets %v, the signatures %v give %v and not %v", c, secrets, signatures, x, want)
		}
	})
}

func TestPromise35OtherDigestsAndSumsAreRejected(t *testing.T) {
	eachCert(true, func(c []int, secrets []int, mask int, x impl.Cert) {
		keys := keysOf(secrets)
		zero := sumAt(keys, x.Signers)%997 == 0
		for digest := range impl.HashSize {
			// The same sum for every digest is what the document requires of keys that add up to 0.
			if impl.CertCheck(c, keys, withDigest(x, digest)) != (digest == x.Digest || zero) {
				t.Fatalf("in %v with keys %v, %v is accepted for %d, or not even for its own digest", c, keys, x, digest)
			}
		}
		for sum := -1; sum <= impl.SignSize; sum++ {
			if impl.CertCheck(c, keys, withSum(x, sum)) != (sum == x.Sum) {
				t.Fatalf("in %v with keys %v, %v is accepted with sum %d, or not even with its own", c, keys, x, sum)
			}
		}
	})
}

func TestPromise36OtherSignaturesFail(t *testing.T) {
	eachCert(true, func(c []int, secrets []int, mask int, x impl.Cert) {
		signatures := signaturesOf(secrets, x.Digest, mask)
		expectCert(t, c, keysOf(secrets), x.Digest, signatures, x)
		for i, signature := range signatures {
			others := append(notSignNumbers()[1:], 1, 2, 498, 499, 995, 996, signature-1, signature+1, 997-signature, signature-997, signature+997)
			for _, other := range others {
				if signature != 0 && other != 0 && other != signature {
					expectNoCert(t, c, keysOf(secrets), x.Digest, replaced(signatures, i, other))
				}
			}
		}
	})
}

func TestPromise36EachOtherSignatureFails(t *testing.T) {
	for _, c := range [][]int{{1}, {1, 1, 1, 1}, {9, 5, 3, 1}} {
		for _, secrets := range secretLists(len(c)) {
			signatures := signaturesOf(secrets, 7, everybody(c))
			for i := range c {
				for other := 1; other < impl.SignSize; other++ {
					if other != signatures[i] {
						expectNoCert(t, c, keysOf(secrets), 7, replaced(signatures, i, other))
					}
				}
			}
		}
	}
}

func TestPromise37TooFewSigners(t *testing.T) {
	eachCert(false, func(c []int, secrets []int, mask int, x impl.Cert) {
		expectRejected(t, c, keysOf(secrets), x)
		expectNoCert(t, c, keysOf(secrets), x.Digest, signaturesOf(secrets, x.Digest, mask))
	})
}

// The expected quorums are worked out by hand; masks have the first member in their lowest bit.
func TestExactlyAQuorumAndOneLess(t *testing.T) {
	for _, x := range []struct {
		c            []int
		exact, fewer int
	}{
		{[]int{1, 1, 1, 1}, 0b0111, 0b1100},
		{[]int{2, 1, 1, 1}, 0b0111, 0b1110},
		{[]int{2, 2, 1, 1}, 0b0111, 0b1110},
		{[]int{1, 2, 3}, 0b110, 0b101},
		{[]int{3, 3, 2, 1}, 0b1011, 0b0011},
		{[]int{1, 2, 3, 4, 5}, 0b11010, 0b11001},
		{[]int{1, 1, 1, 1, 1, 1, 1}, 0b1010111, 0b1010101},
		{[]int{1, 2, 3, 4, 5, 6, 7}, 0b1110001, 0b1110000},
		{[]int{9, 8, 7, 6, 5, 4, 3}, 0b0010111, 0b1110101},
	} {
		quorum := 2*sumOf(x.c)/3 + 1
		exact, fewer := subset(len(x.c), x.exact), subset(len(x.c), x.fewer)
		if sumAt(x.c, exact) != quorum || sumAt(x.c, fewer) != quorum-1 {
			t.Fatalf("of %v, %v are no quorum of %d, or %v lack more than 1", x.c, exact, quorum, fewer)
		}
		for _, secrets := range secretLists(len(x.c)) {
			keys := keysOf(secrets)
			expectAccepted(t, x.c, keys, certOf(secrets, 6, x.exact))
			expectCert(t, x.c, keys, 6, signaturesOf(secrets, 6, x.exact), certOf(secrets, 6, x.exact))
			expectRejected(t, x.c, keys, certOf(secrets, 6, x.fewer))
			expectNoCert(t, x.c, keys, 6, signaturesOf(secrets, 6, x.fewer))
		}
	}
}

// Keys of members 0 to 2 and of all members add up to 0, so that their sums are 0 for every digest.
func TestSumsThatAreZero(t *testing.T) {
	c := []int{1, 1, 1, 1, 1}
	for _, secrets := range [][]int{{1, 2, 994, 3, 994}, {996, 995, 3, 499, 498}, {332, 332, 333, 1, 996}, {1, 1, 995, 400, 597}} {
		keys := keysOf(secrets)
		for _, weights := range [][]int{{3, 3, 2, 1, 1}, {9, 9, 9, 1, 1}, c} {
			for _, mask := range []int{0b00111, 0b11111} {
				for _, digest := range fewDigests() {
					x := impl.Cert{Digest: digest, Signers: subset(5, mask), Sum: 0}
					if 3*sumAt(weights, x.Signers) > 2*sumOf(weights) {
						expectCert(t, weights, keys, digest, signaturesOf(secrets, digest, mask), x)
						expectAccepted(t, weights, keys, x)
					} else {
						expectNoCert(t, weights, keys, digest, signaturesOf(secrets, digest, mask))
						expectRejected(t, weights, keys, x)
					}
					for _, sum := range append(notSignNumbers()[1:], 1, 2, 498, 499, 995, 996, 2*997, -2*997) {
						expectRejected(t, weights, keys, withSum(x, sum))
					}
				}
				for _, digest := range notSignedDigests() {
					expectRejected(t, weights, keys, impl.Cert{Digest: digest, Signers: subset(5, mask), Sum: 0})
				}
			}
			// Without one of them, neither keys nor signatures add up to 0.
			x := certOf(secrets, 9, 0b01111)
			if x.Sum == 0 {
				t.Fatalf("the signatures of %v of members 0 to 3 add up to 0", secrets)
			}
			expectAccepted(t, weights, keys, x)
			expectRejected(t, weights, keys, withSum(x, 0))
		}
	}
}

func TestSmallestAndLargestSums(t *testing.T) {
	c := []int{1, 1, 1, 1}
	for _, x := range []struct {
		secrets     []int
		digest, sum int
	}{
		{[]int{1, 1, 996, 7}, 0, 1},
		{[]int{1, 996, 996, 7}, 0, 996},
		{[]int{996, 996, 2, 7}, 990, 0},
		{[]int{332, 332, 332, 7}, 0, 996},
		{[]int{332, 333, 333, 7}, 0, 1},
		{[]int{499, 498, 499, 7}, 1, 1},
		{[]int{498, 499, 498, 7}, 1, 996},
	} {
		want := impl.Cert{Digest: x.digest, Signers: []int{0, 1, 2}, Sum: x.sum}
		expectCert(t, c, keysOf(x.secrets), x.digest, signaturesOf(x.secrets, x.digest, 0b0111), want)
		expectAccepted(t, c, keysOf(x.secrets), want)
	}
}

// The sums fit the lists, so that only the signers tell that they are wrong; a member listed twice would make a quorum.
func TestSignersThatAreNoSet(t *testing.T) {
	c, secrets := []int{1, 1, 1, 1}, []int{1, 2, 3, 400}
	keys := keysOf(secrets)
	for _, signers := range [][]int{
		{0, 0, 0}, {0, 1, 1}, {0, 0, 1}, {0, 1, 0}, {0, 1, 2, 2}, {0, 0, 1, 2}, {0, 1, 2, 3, 3}, {0, 0, 1, 1, 2, 2},
		{2, 1, 0}, {0, 2, 1}, {1, 0, 2}, {3, 0, 1}, {3, 2, 1, 0}, {0, 1, 3, 2}, make([]int, 1000),
	} {
		sum := 0
		for _, member := range signers {
			sum += signatureOf(secrets[member], 9)
		}
		expectRejected(t, c, keys, impl.Cert{Digest: 9, Signers: signers, Sum: sum % 997})
	}
	for _, member := range []int{-1, -2, -4, 4, 5, 8, 1000, math.MaxInt, math.MinInt} {
		for _, signers := range [][]int{{member}, {member, 0, 1, 2}, {0, 1, 2, member}, {0, 1, 2, 3, member}, {0, 1, member}, {member, 1, 2, 3}, {0, member, 2, 3}} {
			for _, sum := range []int{0, 10, 20, 30, 60, 28, 100} {
				expectRejected(t, c, keys, impl.Cert{Digest: 9, Signers: signers, Sum: sum})
			}
		}
	}
}

func TestOtherSignersAreRejected(t *testing.T) {
	for _, c := range [][]int{{1, 1, 1, 1}, {1, 1, 1, 1, 1, 1, 1}, {9, 5, 3, 1}} {
		secrets := secretLists(len(c))[2]
		for mask := range 1 << len(c) {
			x := certOf(secrets, 9, mask)
			for other := range 1 << len(c) {
				y := impl.Cert{Digest: 9, Signers: subset(len(c), other), Sum: x.Sum}
				// Small secrets have small sums, so that the same sum means that the same signatures could have been added.
				fits := sumAt(secrets, y.Signers) == sumAt(secrets, x.Signers) && 3*sumAt(c, y.Signers) > 2*sumOf(c)
				if impl.CertCheck(c, keysOf(secrets), y) != fits {
					t.Errorf("in %v with secrets %v, %v is accepted, or wrongly rejected", c, secrets, y)
				}
			}
		}
	}
}

// The lists of keys and signatures would make a certificate of a committee with as many members.
func TestCertificatesOfInvalidCommittees(t *testing.T) {
	for _, c := range invalidCommittees() {
		secrets := make([]int, len(c))
		for i := range secrets {
			secrets[i] = i%996 + 1
		}
		keys, signers, sum := keysOf(secrets), []int{}, 0
		signatures := []int{}
		for i, secret := range secrets {
			signers, signatures = append(signers, i), append(signatures, signatureOf(secret, 9))
			sum += signatures[i]
		}
		expectNoCert(t, c, keys, 9, signatures)
		expectRejected(t, c, keys, impl.Cert{Digest: 9, Signers: signers, Sum: sum % 997})
		expectNoCert(t, c, keys, 9, make([]int, len(c)))
		expectRejected(t, c, keys, impl.Cert{Digest: 9})
		expectNoCert(t, c, []int{5}, 9, []int{10})
		expectRejected(t, c, []int{5}, impl.Cert{Digest: 9, Signers: []int{0}, Sum: 10})
	}
}

// The members that have signed are a quorum with valid signatures, however many keys and signatures there are.
func TestNumbersOfKeysAndSignatures(t *testing.T) {
	for _, c := range [][]int{{9, 9, 9, 1}, {1, 1, 1, 1}, {9, 9, 9, 1, 1, 1, 1}} {
		secrets := []int{1, 2, 3, 4, 5, 6, 7, 8, 9, 10, 11, 12, 13, 14}
		keys := keysOf(secrets)
		for manyKeys := range len(keys) + 1 {
			x := impl.Cert{Digest: 9, Signers: []int{0, 1, 2}, Sum: 60}
			if impl.CertCheck(c, keys[:manyKeys], x) != (manyKeys == len(c)) {
				t.Errorf("in %v with %d keys, %v is accepted, or wrongly rejected", c, manyKeys, x)
			}
			for manySignatures := range len(keys) + 1 {
				for _, mask := range []int{0b111, 1<<len(c) - 1, 1<<manySignatures - 1} {
					signatures := signaturesOf(secrets, 9, mask)[:manySignatures]
					if manyKeys == len(c) && manySignatures == len(c) {
						expectCert(t, c, keys[:manyKeys], 9, signatures, certOf(secrets[:len(c)], 9, mask))
					} else {
						expectNoCert(t, c, keys[:manyKeys], 9, signatures)
					}
				}
			}
		}
	}
}

func TestEmptyArguments(t *testing.T) {
	for _, empty := range [][]int{nil, {}} {
		for _, other := range [][]int{nil, {}, {5}} {
			expectNoCert(t, empty, other, 9, empty)
			expectNoCert(t, []int{1}, empty, 9, other)
			expectNoCert(t, []int{1}, other, 9, empty)
			expectRejected(t, empty, other, impl.Cert{Digest: 9, Signers: empty})
			expectRejected(t, []int{1}, other, impl.Cert{Digest: 9, Signers: empty})
			expectRejected(t, []int{1}, empty, impl.Cert{Digest: 9, Signers: other})
			expectRejected(t, empty, other, impl.Cert{Digest: 9, Signers: []int{0}, Sum: 10})
		}
		for _, x := range []impl.Cert{{}, {Digest: 990, Signers: empty}, {Signers: empty, Sum: 1}} {
			expectRejected(t, []int{1, 1, 1, 1}, []int{5, 10, 15, 20}, x)
		}
	}
}

// Keys are also replaced by numbers that are congruent to them, those of members that have signed and that have not.
func TestKeysOutOfRange(t *testing.T) {
	for _, c := range [][]int{{1}, {1, 1, 1, 1}, {9, 9, 9, 1, 1, 1, 1}} {
		for _, secrets := range secretLists(len(c)) {
			keys := keysOf(secrets)
			for _, mask := range []int{0b111 & everybody(c), everybody(c)} {
				x := certOf(secrets, 9, mask)
				expectAccepted(t, c, keys, x)
				for i, key := range keys {
					for _, n := range append(notSignNumbers(), key-997, key+997, key-2*997, key+2*997) {
						others := replaced(keys, i, n)
						expectRejected(t, c, others, x)
						expectNoCert(t, c, others, 9, signaturesOf(secrets, 9, mask))
						expectNoCert(t, c, others, 9, replaced(signaturesOf(secrets, 9, mask), i, 0))
					}
					// A key of 0 would have a signature of 0.
					zeros := replaced(keys, i, 0)
					expectRejected(t, c, zeros, withSum(x, sumAt(zeros, x.Signers)*2%997))
				}
			}
		}
	}
}

func TestKeysThatCancelOut(t *testing.T) {
	c := []int{1, 1, 1, 1}
	x := impl.Cert{Digest: 9, Signers: []int{0, 1, 2, 3}, Sum: 60}
	expectAccepted(t, c, []int{5, 10, 10, 5}, x)
	for _, keys := range [][]int{{5, 10, 1012, -997}, {-5, 10, 10, 15}, {30, 0, 0, 0}, {1027, 0, -997, 0}, {math.MaxInt, math.MaxInt, 2, 30}, {math.MinInt, math.MinInt, 15, 15}} {
		expectRejected(t, c, keys, x)
	}
}

// The signatures and sums are those that the digests would have.
func TestDigestsOutOfRange(t *testing.T) {
	for _, c := range [][]int{{1}, {1, 1, 1, 1}, {9, 9, 9, 1, 1, 1, 1}} {
		for _, secrets := range secretLists(len(c)) {
			for _, digest := range notSignedDigests() {
				rest := ((digest%997+1)%997 + 997) % 997
				for _, mask := range []int{0b111 & everybody(c), everybody(c)} {
					signatures := signaturesOf(secrets, rest-1, mask)
					expectNoCert(t, c, keysOf(secrets), digest, signatures)
					x := certOf(secrets, rest-1, mask)
					expectRejected(t, c, keysOf(secrets), withDigest(x, digest))
				}
			}
		}
	}
}

func TestSumsOutOfRange(t *testing.T) {
	eachCert(true, func(c []int, secrets []int, mask int, x impl.Cert) {
		for _, sum := range append(notSignNumbers()[1:], x.Sum-997, x.Sum+997, x.Sum-2*997, x.Sum+2*997, x.Sum+997*1000000, math.MaxInt-1, math.MinInt+1) {
			expectRejected(t, c, keysOf(secrets), withSum(x, sum))
		}
	})
}

// All but one signature are valid and make a quorum without it.
func TestOneInvalidSignature(t *testing.T) {
	for _, c := range [][]int{{1, 1, 1, 1}, {9, 9, 9, 9, 9, 9, 9}, {1, 2, 3, 4, 5, 6, 7}} {
		secrets := secretLists(len(c))[3]
		signatures := signaturesOf(secrets, 9, everybody(c))
		for i, signature := range signatures {
			without := certOf(secrets, 9, everybody(c)&^(1<<i))
			expectCert(t, c, keysOf(secrets), 9, replaced(signatures, i, 0), without)
			others := append(notSignNumbers()[1:], signature-997, signature+997, 997-signature, -signature, signature+1, signature-1,
				signatureOf(secrets[i], 8), signatureOf(secrets[i], 10), signatures[(i+1)%len(c)], secrets[i], keyOf(secrets[i]))
			for _, other := range others {
				expectNoCert(t, c, keysOf(secrets), 9, replaced(signatures, i, other))
			}
		}
	}
}

// Two invalid signatures have the same sum as two valid ones, so that the sum alone does not tell that they are wrong.
func TestInvalidSignaturesWithTheRightSum(t *testing.T) {
	c, secrets := []int{1, 1, 1, 1}, []int{1, 2, 3, 4}
	for _, signatures := range [][]int{{11, 19, 30, 40}, {20, 10, 30, 40}, {10, 20, 40, 30}, {11, 19, 30, 0}, {-987, 1017, 30, 40}, {1007, 20, 30, 40}, {30, 20, 10, 0}} {
		expectNoCert(t, c, keysOf(secrets), 9, signatures)
	}
	expectAccepted(t, c, keysOf(secrets), impl.Cert{Digest: 9, Signers: []int{0, 1, 2, 3}, Sum: 100})
}

// Keys need not differ: only epochs ask for that.
func TestEqualKeys(t *testing.T) {
	for _, c := range fewCommittees() {
		secrets := slices.Repeat([]int{7}, len(c))
		expectCert(t, c, keysOf(secrets), 3, signaturesOf(secrets, 3, everybody(c)), impl.Cert{Digest: 3, Signers: subset(len(c), everybody(c)), Sum: 28 * len(c)})
	}
}

func TestCertArgumentsAndResultsAreApart(t *testing.T) {
	eachCert(true, func(c []int, secrets []int, mask int, want impl.Cert) {
		members, keys := slices.Clone(c), keysOf(secrets)
		signatures := signaturesOf(secrets, want.Digest, mask)
		x, _ := impl.CertMake(members, keys, want.Digest, signatures)
		again, _ := impl.CertMake(members, keys, want.Digest, signatures)
		kept := impl.Cert{Digest: x.Digest, Signers: slices.Clone(x.Signers), Sum: x.Sum}
		impl.CertCheck(members, keys, x)
		if !sameCert(x, kept) {
			t.Errorf("the argument %v is now %v", kept, x)
		}
		spoil(x.Signers)
		if !slices.Equal(members, c) || !slices.Equal(keys, keysOf(secrets)) || !slices.Equal(signatures, signaturesOf(secrets, want.Digest, mask)) {
			t.Errorf("the arguments %v, %v and %v are changed, or shared with the result", members, keys, signatures)
		}
		if !sameCert(again, want) {
			t.Errorf("two results for %v share memory", signatures)
		}
	})
}
