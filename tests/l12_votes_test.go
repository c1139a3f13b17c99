package tests

import (
	"cmp"
	"math"
	"slices"
	"testing"

	"loop.example/dagconsensus/impl"
)

func voteOf(round int, author int, digest int) impl.Vote {
	return impl.Vote{Round: round, Author: author, Digest: digest}
}

func voterOf(floor int, list ...impl.Vote) impl.Voter {
	return impl.Voter{Floor: floor, Signed: list}
}

func tallyOf(v impl.Vote, members ...int) impl.Tally {
	return impl.Tally{Vote: v, Members: members}
}

func sameVoter(a impl.Voter, b impl.Voter) bool {
	return a.Floor == b.Floor && slices.Equal(a.Signed, b.Signed)
}

func sameTally(a impl.Tally, b impl.Tally) bool {
	return a.Vote == b.Vote && slices.Equal(a.Members, b.Members)
}

func cloneVoter(x impl.Voter) impl.Voter {
	return voterOf(x.Floor, slices.Clone(x.Signed)...)
}

func cloneTally(t impl.Tally) impl.Tally {
	return tallyOf(t.Vote, slices.Clone(t.Members)...)
}

// notAuthors has numbers that are no author in any committee.
func notAuthors() []int {
	return notMembers(make([]int, impl.MaxMembers))
}

func notFloors() []int {
	return []int{-1, -2, -31, 32, 33, 62, 1000, math.MaxInt, math.MinInt}
}

// invalidVotes has a vote with one number that is out of range each.
func invalidVotes(v impl.Vote) []impl.Vote {
	list := []impl.Vote{}
	for _, round := range notRounds() {
		list = append(list, voteOf(round, v.Author, v.Digest))
	}
	for _, author := range notAuthors() {
		list = append(list, voteOf(v.Round, author, v.Digest))
	}
	for _, digest := range notDigests() {
		list = append(list, voteOf(v.Round, v.Author, digest))
	}
	return list
}

// manyVotes has votes for all rounds and authors, ascending, with digests of which many are equal, smallest or largest.
func manyVotes() []impl.Vote {
	list := []impl.Vote{}
	for round := range 31 {
		for author := range 7 {
			list = append(list, voteOf(round, author, []int{0, 990, 7, 7, 31*round + author}[(round+author)%5]))
		}
	}
	return list
}

// otherVote is a vote for another digest.
func otherVote(v impl.Vote) impl.Vote {
	return voteOf(v.Round, v.Author, (v.Digest+1)%impl.HashSize)
}

// someVotes has up to as many of the votes from a floor on, one of each few.
func someVotes(floor int, many int, step int) []impl.Vote {
	list := []impl.Vote{}
	for i := 7 * floor; i < 217 && len(list) < many; i += step {
		list = append(list, manyVotes()[i])
	}
	return list
}

// manyVoters has voters with all floors, without votes, with few, with all but one and with all that they remember: side by side and far apart.
func manyVoters() []impl.Voter {
	list := []impl.Voter{{}, {Signed: []impl.Vote{}}}
	for floor := range 32 {
		list = append(list, voterOf(floor))
	}
	for _, floor := range []int{0, 1, 2, 10, 14, 15, 24, 25, 26, 29, 30} {
		for _, many := range []int{1, 2, 3, 8, 39, 40} {
			for _, step := range []int{1, 2, 5, 7} {
				list = append(list, voterOf(floor, someVotes(floor, many, step)...))
			}
		}
		// These have the last votes, none of which are for the floor.
		list = append(list, voterOf(floor, manyVotes()[216:]...), voterOf(floor, manyVotes()[max(177, 7*floor):]...))
	}
	return list
}

// fewVoters has voters without votes, with few, and with all but two, all but one and all that they remember.
func fewVoters() []impl.Voter {
	list := []impl.Voter{voterOf(0), voterOf(3), voterOf(30), voterOf(31), voterOf(30, someVotes(30, 40, 1)...)}
	for _, many := range []int{1, 4, 38, 39, 40} {
		list = append(list, voterOf(0, someVotes(0, many, 5)...), voterOf(8, someVotes(9, many, 3)...))
	}
	return list
}

// invalidVoters has voters with a floor out of range, with a vote that is invalid, below the floor, twice or in a wrong place, and with too many votes.
func invalidVoters() []impl.Voter {
	list := []impl.Voter{voterOf(0, manyVotes()[:41]...), voterOf(0, manyVotes()[176:]...), voterOf(25, manyVotes()[176:]...), voterOf(0, manyVotes()...), voterOf(0, make([]impl.Vote, 1000)...)}
	for _, floor := range notFloors() {
		list = append(list, voterOf(floor), voterOf(floor, someVotes(30, 7, 1)...), voterOf(floor, someVotes(0, 3, 1)...))
	}
	for _, x := range []impl.Voter{voterOf(0, someVotes(0, 1, 1)...), voterOf(2, someVotes(2, 9, 2)...), voterOf(0, someVotes(0, 40, 5)...), voterOf(24, manyVotes()[177:]...)} {
		for i, v := range x.Signed {
			for _, invalid := range invalidVotes(v) {
				y := cloneVoter(x)
				y.Signed[i] = invalid
				list = append(list, y)
			}
			list = append(list, voterOf(x.Floor, slices.Insert(slices.Clone(x.Signed), i, v)...), voterOf(x.Floor, slices.Insert(slices.Clone(x.Signed), i, otherVote(v))...))
			list = append(list, voterOf(x.Floor, append(slices.Clone(x.Signed), v)...), voterOf(v.Round+1, x.Signed...), voterOf(31, x.Signed...))
			if i > 0 {
				y := cloneVoter(x)
				y.Signed[i-1], y.Signed[i] = y.Signed[i], y.Signed[i-1]
				list = append(list, y, voterOf(x.Floor, append(slices.Clone(x.Signed[i:]), x.Signed[:i]...)...))
			}
			if x.Floor > 0 {
				y := cloneVoter(x)
				y.Signed[i].Round = x.Floor - 1
				list = append(list, y)
			}
		}
	}
	return list
}

// signedBy returns what a valid voter answers to a valid vote, without the program.
func signedBy(x impl.Voter, v impl.Vote) (impl.Voter, bool) {
	for _, signed := range x.Signed {
		if signed.Round == v.Round && signed.Author == v.Author {
			return x, signed.Digest == v.Digest
		}
	}
	if v.Round < x.Floor || len(x.Signed) == 40 {
		return x, false
	}
	list := append(slices.Clone(x.Signed), v)
	slices.SortFunc(list, func(a impl.Vote, b impl.Vote) int {
		return cmp.Or(cmp.Compare(a.Round, b.Round), cmp.Compare(a.Author, b.Author))
	})
	return voterOf(x.Floor, list...), true
}

// forgottenBy returns a voter with another floor without the program.
func forgottenBy(x impl.Voter, floor int) impl.Voter {
	y := voterOf(floor)
	for _, v := range x.Signed {
		if v.Round >= floor {
			y.Signed = append(y.Signed, v)
		}
	}
	return y
}

func expectVote(t *testing.T, x impl.Voter, v impl.Vote, want impl.Voter, cast bool) {
	t.Helper()
	if y, ok := impl.VoterSign(x, v); ok != cast || !sameVoter(y, want) {
		t.Errorf("after the vote %v, %v is %v, %v and not %v, %v", v, x, y, ok, want, cast)
	}
}

func expectForgotten(t *testing.T, x impl.Voter, floor int, want impl.Voter) {
	t.Helper()
	if y, ok := impl.VoterForget(x, floor); !ok || !sameVoter(y, want) {
		t.Errorf("with the floor %d, %v is %v, %v and not %v", floor, x, y, ok, want)
	}
}

func expectNotForgotten(t *testing.T, x impl.Voter, floor int) {
	t.Helper()
	if y, ok := impl.VoterForget(x, floor); ok || !sameVoter(y, impl.Voter{}) {
		t.Errorf("with the floor %d, %v is %v, %v", floor, x, y, ok)
	}
}

func expectCounted(t *testing.T, c []int, x impl.Tally, member int, want impl.Tally, counted bool) {
	t.Helper()
	if y, ok := impl.TallyAdd(c, x, member); ok != counted || !sameTally(y, want) {
		t.Errorf("in %v, with %d, %v is %v, %v and not %v, %v", c, member, x, y, ok, want, counted)
	}
}

// expectGuilty gives the tallies in both orders.
func expectGuilty(t *testing.T, c []int, a impl.Tally, b impl.Tally, want []int) {
	t.Helper()
	if guilty := impl.TallyGuilty(c, a, b); !slices.Equal(guilty, want) {
		t.Errorf("in %v, those guilty of %v and %v are %v, not %v", c, a, b, guilty, want)
	}
	if guilty := impl.TallyGuilty(c, b, a); !slices.Equal(guilty, want) {
		t.Errorf("in %v, those guilty of %v and %v are %v, not %v", c, b, a, guilty, want)
	}
}

// expectNoTally expects of each function what it returns for an invalid tally. The other tallies are of all members.
func expectNoTally(t *testing.T, c []int, x impl.Tally) {
	t.Helper()
	if impl.TallyDone(c, x) {
		t.Errorf("in %v, %v is done", c, x)
	}
	for _, member := range []int{-1, 0, 1, len(c) - 1, len(c), 6, 7} {
		expectCounted(t, c, x, member, impl.Tally{}, false)
	}
	all := subset(len(c), everybody(c))
	for _, v := range []impl.Vote{x.Vote, otherVote(x.Vote), voteOf(x.Vote.Round, x.Vote.Author, 3), voteOf(1, 2, 3), {}} {
		for _, members := range [][]int{nil, all, x.Members} {
			expectGuilty(t, c, x, tallyOf(v, members...), nil)
		}
	}
}

func TestVoterValid(t *testing.T) {
	if impl.MaxSigned != 40 {
		t.Errorf("a voter remembers %d votes", impl.MaxSigned)
	}
	for _, x := range []struct {
		voter impl.Voter
		valid bool
	}{
		{impl.Voter{}, true},
		{voterOf(0), true},
		{voterOf(31), true},
		{voterOf(32), false},
		{voterOf(-1), false},
		{voterOf(0, voteOf(0, 0, 0)), true},
		{voterOf(0, voteOf(30, 6, 990)), true},
		{voterOf(30, voteOf(30, 6, 990)), true},
		{voterOf(31, voteOf(30, 6, 990)), false},
		{voterOf(31, voteOf(31, 6, 990)), false},
		{voterOf(5, voteOf(4, 0, 0)), false},
		{voterOf(5, voteOf(5, 0, 0)), true},
		{voterOf(5, voteOf(6, 0, 0)), true},
		{voterOf(5, voteOf(5, 0, 0), voteOf(4, 1, 0)), false},
		{voterOf(0, voteOf(0, 7, 0)), false},
		{voterOf(0, voteOf(0, -1, 0)), false},
		{voterOf(0, voteOf(0, 0, 991)), false},
		{voterOf(0, voteOf(0, 0, -1)), false},
		{voterOf(0, voteOf(1, 2, 3), voteOf(1, 3, 3)), true},
		{voterOf(0, voteOf(1, 3, 3), voteOf(1, 2, 3)), false},
		{voterOf(0, voteOf(1, 2, 3), voteOf(1, 2, 3)), false},
		{voterOf(0, voteOf(1, 2, 3), voteOf(1, 2, 4)), false},
		{voterOf(0, voteOf(1, 6, 3), voteOf(2, 0, 3)), true},
		{voterOf(0, voteOf(2, 0, 3), voteOf(1, 6, 3)), false},
		{voterOf(0, voteOf(1, 2, 3), voteOf(2, 2, 3), voteOf(1, 4, 3)), false},
	} {
		if impl.VoterValid(x.voter) != x.valid {
			t.Errorf("that %v is valid is not %v", x.voter, x.valid)
		}
	}
}

func TestValidVoters(t *testing.T) {
	full := 0
	for _, x := range append(manyVoters(), fewVoters()...) {
		if !impl.VoterValid(x) {
			t.Errorf("%v is invalid", x)
		}
		if len(x.Signed) == 40 {
			full++
		}
	}
	if full < 10 {
		t.Errorf("only %d voters have all votes that they remember", full)
	}
}

func TestInvalidVoters(t *testing.T) {
	for _, x := range invalidVoters() {
		if impl.VoterValid(x) {
			t.Errorf("%v is valid", x)
		}
		votes := []impl.Vote{{}, voteOf(30, 6, 990), voteOf(-1, 0, 0)}
		for _, v := range x.Signed[:min(len(x.Signed), 3)] {
			votes = append(votes, v, otherVote(v))
		}
		for _, v := range votes {
			expectVote(t, x, v, impl.Voter{}, false)
		}
		for _, floor := range []int{0, 1, 30, 31, x.Floor, -1, 32} {
			expectNotForgotten(t, x, floor)
		}
	}
}

func TestInvalidVotes(t *testing.T) {
	for _, x := range manyVoters() {
		for _, v := range append([]impl.Vote{voteOf(0, 0, 0), voteOf(30, 6, 990), voteOf(min(x.Floor, 30), 3, 7)}, x.Signed[:min(len(x.Signed), 2)]...) {
			for _, invalid := range invalidVotes(v) {
				expectVote(t, x, invalid, impl.Voter{}, false)
			}
		}
	}
}

func TestPromise55NoOtherDigestIsSigned(t *testing.T) {
	for _, x := range manyVoters() {
		for _, v := range manyVotes() {
			y, ok := impl.VoterSign(x, v)
			if !ok {
				continue
			}
			for _, digest := range []int{0, 7, 8, 989, 990, v.Digest - 1, v.Digest + 1} {
				if digest >= 0 && digest != v.Digest && digest < impl.HashSize {
					expectVote(t, y, voteOf(v.Round, v.Author, digest), y, false)
				}
			}
		}
	}
}

func TestPromise55AllOtherDigests(t *testing.T) {
	for _, x := range fewVoters() {
		for _, v := range []impl.Vote{voteOf(30, 6, 0), voteOf(30, 1, 990), voteOf(8, 0, 500), voteOf(9, 4, 1)} {
			y, ok := impl.VoterSign(x, v)
			for digest := range impl.HashSize {
				if ok && digest != v.Digest {
					expectVote(t, y, voteOf(v.Round, v.Author, digest), y, false)
				}
			}
		}
	}
}

func TestPromise56VotesMayBeRepeated(t *testing.T) {
	for _, x := range manyVoters() {
		for _, v := range manyVotes() {
			if y, ok := impl.VoterSign(x, v); ok {
				expectVote(t, y, v, y, true)
			}
		}
		for _, v := range x.Signed {
			expectVote(t, x, v, x, true)
		}
	}
}

func TestPromise57VotesAreRemembered(t *testing.T) {
	for _, x := range manyVoters() {
		for _, signed := range manyVotes() {
			for _, v := range []impl.Vote{signed, otherVote(signed)} {
				y, ok := impl.VoterSign(x, v)
				rest := slices.Clone(y.Signed)
				for _, w := range x.Signed {
					i := slices.Index(rest, w)
					if i < 0 {
						t.Fatalf("after the vote %v, %v forgets %v", v, x, w)
					}
					rest = slices.Delete(rest, i, i+1)
				}
				if len(rest) > 1 || len(rest) == 1 && (!ok || rest[0] != v) || ok != slices.Contains(y.Signed, v) || y.Floor != x.Floor || !impl.VoterValid(y) {
					t.Fatalf("after the vote %v, %v is %v, %v", v, x, y, ok)
				}
			}
		}
	}
}

func TestPromise58ForgottenVotesAreNotCastAgain(t *testing.T) {
	for _, x := range manyVoters() {
		for floor := x.Floor; floor <= 31; floor++ {
			y, ok := impl.VoterForget(x, floor)
			if !ok {
				t.Fatalf("%v has no floor %d", x, floor)
			}
			for _, v := range x.Signed {
				if slices.Contains(y.Signed, v) {
					continue
				}
				for _, digest := range []int{v.Digest, 0, 7, 990, (v.Digest + 1) % impl.HashSize} {
					expectVote(t, y, voteOf(v.Round, v.Author, digest), y, false)
				}
			}
		}
	}
}

func TestPromise58WithAllDigests(t *testing.T) {
	for _, x := range fewVoters() {
		if len(x.Signed) == 0 {
			continue
		}
		v := x.Signed[len(x.Signed)/2]
		y, _ := impl.VoterForget(x, v.Round+1)
		for digest := range impl.HashSize {
			expectVote(t, y, voteOf(v.Round, v.Author, digest), y, false)
		}
	}
}

// Whatever is signed in between: no two votes for different digests of one author and round are ever cast.
func TestPromise58VotesAreCastOnce(t *testing.T) {
	for seed := range 200 {
		next := func(many int) int {
			seed = (seed*1103515245 + 12345) % (1 << 31)
			return (seed >> 8) % many
		}
		x, cast := impl.Voter{}, map[[2]int]int{}
		for range 300 {
			if next(30) == 0 {
				x, _ = impl.VoterForget(x, min(x.Floor+next(3), 31))
				continue
			}
			v := voteOf(min(max(x.Floor-2, 0)+next(6), 30), next(7), next(3))
			y, ok := impl.VoterSign(x, v)
			digest, before := cast[[2]int{v.Round, v.Author}]
			if ok && before && digest != v.Digest {
				t.Fatalf("%v casts %v after the vote for %d", x, v, digest)
			}
			if ok {
				cast[[2]int{v.Round, v.Author}] = v.Digest
			}
			x = y
		}
		if len(cast) < 20 {
			t.Errorf("only %d votes are cast", len(cast))
		}
	}
}

func TestPromise59ForgettingInSteps(t *testing.T) {
	for _, x := range manyVoters() {
		for low := x.Floor; low <= 31; low++ {
			y, _ := impl.VoterForget(x, low)
			for high := low; high <= 31; high++ {
				want, ok := impl.VoterForget(x, high)
				if !ok || !sameVoter(want, forgottenBy(x, high)) {
					t.Fatalf("with the floor %d, %v is %v, %v", high, x, want, ok)
				}
				expectForgotten(t, y, high, want)
			}
			for _, floor := range []int{-1, 0, x.Floor - 1, low - 1} {
				if floor < low {
					expectNotForgotten(t, y, floor)
				}
			}
		}
		y := x
		for floor := x.Floor; floor <= 31; floor++ {
			y, _ = impl.VoterForget(y, floor)
			expectForgotten(t, x, floor, y)
		}
	}
}

func TestPromise60VotesThatFail(t *testing.T) {
	failed, cast := 0, 0
	for _, x := range manyVoters() {
		for _, signed := range manyVotes() {
			for _, digest := range []int{signed.Digest, 0, 990, (signed.Digest + 1) % impl.HashSize} {
				v := voteOf(signed.Round, signed.Author, digest)
				want, ok := signedBy(x, v)
				expectVote(t, x, v, want, ok)
				if ok {
					cast++
				} else {
					failed++
				}
			}
		}
	}
	if cast < 10000 || failed < 10000 {
		t.Errorf("%d votes are cast, and %d are not", cast, failed)
	}
}

func TestPromise61OrderOfVotes(t *testing.T) {
	news := []impl.Vote{voteOf(0, 0, 5), voteOf(0, 0, 6), voteOf(3, 1, 5), voteOf(3, 6, 5), voteOf(8, 3, 0), voteOf(9, 0, 990), voteOf(16, 2, 0), voteOf(30, 0, 7), voteOf(30, 5, 7), voteOf(30, 5, 8), voteOf(30, 6, 990)}
	both := 0
	for _, x := range append(manyVoters(), fewVoters()...) {
		votes := append(slices.Clone(news), x.Signed[:min(len(x.Signed), 3)]...)
		for _, v := range votes {
			for _, w := range votes {
				y, first := impl.VoterSign(x, v)
				z, second := impl.VoterSign(y, w)
				if !first || !second {
					continue
				}
				both++
				y, first = impl.VoterSign(x, w)
				expectVote(t, y, v, z, true)
				if !first {
					t.Errorf("%v can cast %v after %v, but not before", x, w, v)
				}
			}
		}
	}
	if both < 1000 {
		t.Errorf("only %d pairs of votes are cast", both)
	}
}

// Each step reaches all of the 40 votes, in another order.
func TestPromise61OrderOfManyVotes(t *testing.T) {
	for _, step := range []int{1, 3, 7, 9, 11, 13, 17, 19, 21, 23, 27, 29, 31, 33, 37, 39} {
		x, list := impl.Voter{}, someVotes(0, 40, 5)
		for i := range list {
			y, ok := impl.VoterSign(x, list[i*step%40])
			if !ok || len(y.Signed) != i+1 || !impl.VoterValid(y) {
				t.Fatalf("after %v, %v is %v, %v", list[i*step%40], x, y, ok)
			}
			x = y
		}
		if !sameVoter(x, voterOf(0, list...)) {
			t.Errorf("in steps of %d, the voter is %v", step, x)
		}
		expectVote(t, x, voteOf(30, 6, 0), x, false)
	}
}

// The expected voters are worked out by hand.
func TestVoterSign(t *testing.T) {
	a, b, d := voteOf(1, 2, 7), voteOf(1, 4, 7), voteOf(3, 0, 9)
	x := voterOf(1, a, d)
	expectVote(t, impl.Voter{}, a, voterOf(0, a), true)
	expectVote(t, impl.Voter{}, impl.Vote{}, voterOf(0, impl.Vote{}), true)
	expectVote(t, x, b, voterOf(1, a, b, d), true)
	expectVote(t, x, voteOf(1, 1, 0), voterOf(1, voteOf(1, 1, 0), a, d), true)
	expectVote(t, x, voteOf(3, 6, 990), voterOf(1, a, d, voteOf(3, 6, 990)), true)
	expectVote(t, x, voteOf(2, 6, 990), voterOf(1, a, voteOf(2, 6, 990), d), true)
	expectVote(t, x, a, x, true)
	expectVote(t, x, d, x, true)
	expectVote(t, x, voteOf(1, 2, 8), x, false)
	expectVote(t, x, voteOf(3, 0, 7), x, false)
	expectVote(t, x, voteOf(2, 1, 7), voterOf(1, a, voteOf(2, 1, 7), d), true)
	expectVote(t, x, voteOf(0, 2, 7), x, false)
	expectVote(t, x, voteOf(-1, 2, 7), impl.Voter{}, false)
	expectVote(t, x, voteOf(31, 2, 7), impl.Voter{}, false)
	expectVote(t, x, voteOf(1, 7, 7), impl.Voter{}, false)
	expectVote(t, x, voteOf(1, 2, 991), impl.Voter{}, false)
	expectVote(t, voterOf(31), voteOf(30, 2, 7), voterOf(31), false)
	expectVote(t, voterOf(31), voteOf(31, 2, 7), impl.Voter{}, false)
	expectVote(t, voterOf(30), voteOf(30, 2, 7), voterOf(30, voteOf(30, 2, 7)), true)
	expectVote(t, voterOf(2, a), a, impl.Voter{}, false)
}

// For each voter, the vote is below, at and above the floor, or remembered, and the voter has room for two votes, for one or for none.
func TestVotesAtTheFloor(t *testing.T) {
	for _, many := range []int{0, 1, 38, 39, 40} {
		for _, floor := range []int{0, 1, 9, 20} {
			x := voterOf(floor, someVotes(floor+2, many, 1)...)
			room := many < 40
			for _, author := range []int{0, 3, 6} {
				for _, digest := range []int{0, 7, 990} {
					for round := range floor {
						expectVote(t, x, voteOf(round, author, digest), x, false)
					}
					for _, round := range []int{floor, floor + 1} {
						v, want := voteOf(round, author, digest), x
						if room {
							want = voterOf(floor, append([]impl.Vote{v}, x.Signed...)...)
						}
						expectVote(t, x, v, want, room)
					}
				}
			}
			for _, v := range x.Signed {
				expectVote(t, x, v, x, true)
				expectVote(t, x, otherVote(v), x, false)
			}
		}
	}
}

// The expected voters are worked out by hand.
func TestVoterForget(t *testing.T) {
	a, b, d, e := voteOf(1, 2, 7), voteOf(2, 0, 7), voteOf(2, 6, 0), voteOf(30, 3, 9)
	x := voterOf(1, a, b, d, e)
	expectForgotten(t, x, 1, x)
	expectForgotten(t, x, 2, voterOf(2, b, d, e))
	expectForgotten(t, x, 3, voterOf(3, e))
	expectForgotten(t, x, 30, voterOf(30, e))
	expectForgotten(t, x, 31, voterOf(31))
	expectForgotten(t, impl.Voter{}, 0, voterOf(0))
	expectForgotten(t, impl.Voter{}, 31, voterOf(31))
	expectForgotten(t, voterOf(31), 31, voterOf(31))
	for _, floor := range append(notFloors(), 0) {
		expectNotForgotten(t, x, floor)
	}
	expectNotForgotten(t, voterOf(31), 30)
	expectNotForgotten(t, voterOf(31), 32)
	expectNotForgotten(t, voterOf(2, a), 2)
	expectNotForgotten(t, voterOf(0, b, a), 31)
}

// Votes that are forgotten make room for others.
func TestFullVotersForget(t *testing.T) {
	x := voterOf(0, manyVotes()[:40]...)
	v := voteOf(7, 0, 5)
	expectVote(t, x, v, x, false)
	y, _ := impl.VoterForget(x, 1)
	expectVote(t, y, v, voterOf(1, append(manyVotes()[7:40], v)...), true)
	expectVote(t, y, voteOf(0, 0, 0), y, false)
	y, _ = impl.VoterForget(x, 0)
	expectVote(t, y, v, x, false)
}

func TestPromise62MembersAreCountedOnce(t *testing.T) {
	for _, c := range fewCommittees() {
		for mask := range 1 << len(c) {
			x := tallyOf(voteOf(mask%31, mask%7, mask), subset(len(c), mask)...)
			for member := range c {
				want := tallyOf(x.Vote, subset(len(c), mask|1<<member)...)
				expectCounted(t, c, x, member, want, mask>>member&1 == 0)
				y, _ := impl.TallyAdd(c, x, member)
				expectCounted(t, c, y, member, want, false)
			}
			for _, member := range notMembers(c) {
				expectCounted(t, c, x, member, impl.Tally{}, false)
			}
		}
	}
}

// The author of a vertex may be none of the committee that counts the votes.
func TestTallyAdd(t *testing.T) {
	c, v := []int{1, 9, 1}, voteOf(30, 6, 990)
	expectCounted(t, c, impl.Tally{}, 0, tallyOf(impl.Vote{}, 0), true)
	expectCounted(t, c, tallyOf(v), 2, tallyOf(v, 2), true)
	expectCounted(t, c, tallyOf(v, 2), 0, tallyOf(v, 0, 2), true)
	expectCounted(t, c, tallyOf(v, 0, 2), 1, tallyOf(v, 0, 1, 2), true)
	expectCounted(t, c, tallyOf(v, 0, 2), 2, tallyOf(v, 0, 2), false)
	expectCounted(t, c, tallyOf(v, 0, 1, 2), 0, tallyOf(v, 0, 1, 2), false)
	expectCounted(t, c, tallyOf(v, 0, 1, 2), 3, impl.Tally{}, false)
	expectCounted(t, c, tallyOf(v, 0), -1, impl.Tally{}, false)
	expectCounted(t, c, tallyOf(v, 0, 0), 1, impl.Tally{}, false)
	expectCounted(t, c, tallyOf(v, 1, 0), 0, impl.Tally{}, false)
	expectCounted(t, c, tallyOf(v, 3), 0, impl.Tally{}, false)
	expectCounted(t, c, tallyOf(voteOf(31, 6, 990), 1), 1, impl.Tally{}, false)
	expectCounted(t, c, tallyOf(voteOf(30, 7, 990)), 1, impl.Tally{}, false)
	expectCounted(t, nil, tallyOf(v), 0, impl.Tally{}, false)
	expectCounted(t, []int{1, 0}, tallyOf(v), 0, impl.Tally{}, false)
}

func TestPromise63DoneWithAQuorum(t *testing.T) {
	for _, c := range fewCommittees() {
		for mask := range 1 << len(c) {
			x := tallyOf(voteOf(mask%31, 6-mask%7, 990-mask), subset(len(c), mask)...)
			done := impl.TallyDone(c, x)
			if done != isHeavy(c, x.Members) {
				t.Errorf("in %v, that %v is done is %v", c, x, done)
			}
			for member := range c {
				y, _ := impl.TallyAdd(c, x, member)
				if done && !impl.TallyDone(c, y) {
					t.Errorf("in %v, %v is done, but not with %d", c, x, member)
				}
			}
		}
	}
}

// The expected quorums are worked out by hand.
func TestTallyDone(t *testing.T) {
	for _, x := range []struct {
		c, members []int
		done       bool
	}{
		{[]int{1, 1, 1, 1}, []int{0, 1, 3}, true},
		{[]int{1, 1, 1, 1}, []int{0, 3}, false},
		{[]int{1, 1, 1}, []int{0, 1}, false},
		{[]int{1, 1, 1}, []int{0, 1, 2}, true},
		{[]int{2, 1, 1, 1}, []int{0, 1, 2}, true},
		{[]int{2, 1, 1, 1}, []int{1, 2, 3}, false},
		{[]int{3, 3, 2, 1}, []int{0, 1, 3}, true},
		{[]int{3, 3, 2, 1}, []int{0, 1}, false},
		{[]int{9, 5, 3, 1}, []int{0, 1}, true},
		{[]int{9, 5, 3, 1}, []int{0, 2, 3}, true},
		{[]int{9, 5, 3, 1}, []int{0, 2}, false},
		{[]int{1, 2, 3, 4, 5, 6, 7}, []int{0, 4, 5, 6}, true},
		{[]int{1, 2, 3, 4, 5, 6, 7}, []int{4, 5, 6}, false},
		{[]int{4}, []int{0}, true},
		{[]int{4}, []int{}, false},
		{[]int{4}, []int{0, 0}, false},
		{[]int{9, 9, 9, 9}, []int{0, 1, 4}, false},
		{[]int{9, 9, 9, 9}, []int{2, 1, 0}, false},
		{[]int{9, 9, 9, 10}, []int{0, 1, 2, 3}, false},
		{nil, nil, false},
	} {
		for _, v := range []impl.Vote{{}, voteOf(30, 6, 990)} {
			if impl.TallyDone(x.c, tallyOf(v, x.members...)) != x.done {
				t.Errorf("in %v, that %v have cast a vote is not done: %v", x.c, x.members, x.done)
			}
		}
		for _, v := range invalidVotes(voteOf(30, 6, 990)) {
			if impl.TallyDone(x.c, tallyOf(v, x.members...)) {
				t.Errorf("in %v, the vote %v of %v is done", x.c, v, x.members)
			}
		}
	}
}

// notSets has lists with members that are not ascending, twice the same, or none of the committee.
func notSets(c []int) [][]int {
	list, all := [][]int{}, subset(len(c), everybody(c))
	for _, members := range notParents(c) {
		if !slices.IsSorted(members) || slices.Max(append([]int{0}, members...)) >= len(c) || slices.Min(append([]int{0}, members...)) < 0 {
			list = append(list, members)
		}
	}
	for _, member := range all {
		list = append(list, []int{member, member}, slices.Insert(slices.Clone(all), member, member))
	}
	return list
}

func TestInvalidTallies(t *testing.T) {
	for _, c := range fewCommittees() {
		all := subset(len(c), everybody(c))
		for _, members := range notSets(c) {
			expectNoTally(t, c, tallyOf(voteOf(1, 2, 3), members...))
		}
		for _, v := range append(invalidVotes(impl.Vote{}), invalidVotes(voteOf(30, 6, 990))...) {
			expectNoTally(t, c, tallyOf(v, all...))
			expectNoTally(t, c, tallyOf(v))
		}
	}
	for _, c := range invalidCommittees() {
		for _, members := range [][]int{nil, {0}, subset(len(c), 1<<min(len(c), 7)-1)} {
			expectNoTally(t, c, tallyOf(voteOf(1, 2, 3), members...))
		}
	}
}

func TestPromise64GuiltyIsMoreThanFaults(t *testing.T) {
	for _, c := range fewCommittees() {
		quorums := heavySets(c, everybody(c))
		for i, first := range quorums {
			for j, second := range quorums {
				v := voteOf((i+j)%31, i%7, j)
				a, b := tallyOf(v, subset(len(c), first)...), tallyOf(otherVote(v), subset(len(c), second)...)
				if !impl.TallyDone(c, a) || !impl.TallyDone(c, b) {
					t.Fatalf("in %v, %v and %v are not done", c, a, b)
				}
				if guilty := impl.TallyGuilty(c, a, b); impl.MembersWeight(c, guilty) <= impl.CommitteeFaults(c) || 3*sumAt(c, guilty) < sumOf(c) {
					t.Fatalf("in %v, those guilty of %v and %v are only %v", c, a, b, guilty)
				}
			}
		}
	}
}

func TestPromise65CommonMembersAreGuilty(t *testing.T) {
	v := voteOf(4, 5, 6)
	contradicting := []impl.Vote{voteOf(4, 5, 7), voteOf(4, 5, 0), voteOf(4, 5, 990)}
	others := []impl.Vote{v, voteOf(5, 5, 7), voteOf(3, 5, 7), voteOf(4, 4, 7), voteOf(4, 6, 7), voteOf(5, 4, 7), voteOf(5, 5, 6), voteOf(4, 6, 6), voteOf(-4, 5, 7), voteOf(4, 7, 7), voteOf(4, 5, 991), voteOf(4, 5, -1)}
	for _, c := range fewCommittees() {
		for first := range 1 << len(c) {
			for second := range 1 << len(c) {
				a, members := tallyOf(v, subset(len(c), first)...), subset(len(c), second)
				expectGuilty(t, c, a, tallyOf(contradicting[(first+second)%3], members...), subset(len(c), first&second))
				expectGuilty(t, c, a, tallyOf(others[(first+3*second)%len(others)], members...), nil)
			}
		}
		all := subset(len(c), everybody(c))
		for _, w := range others {
			expectGuilty(t, c, tallyOf(v, all...), tallyOf(w, all...), nil)
		}
		for _, w := range contradicting {
			expectGuilty(t, c, tallyOf(v, all...), tallyOf(w, all...), all)
			expectGuilty(t, c, tallyOf(v, all...), tallyOf(w), nil)
		}
	}
}

// The expected members are worked out by hand.
func TestTallyGuilty(t *testing.T) {
	c, v, w := []int{1, 2, 3, 4}, voteOf(0, 6, 0), voteOf(0, 6, 990)
	expectGuilty(t, c, tallyOf(v, 0, 1, 3), tallyOf(w, 1, 2, 3), []int{1, 3})
	expectGuilty(t, c, tallyOf(v, 0, 1), tallyOf(w, 2, 3), nil)
	expectGuilty(t, c, tallyOf(v, 2), tallyOf(w, 0, 1, 2, 3), []int{2})
	expectGuilty(t, c, tallyOf(v, 0, 1, 2, 3), tallyOf(w, 0, 1, 2, 3), []int{0, 1, 2, 3})
	expectGuilty(t, c, tallyOf(v, 0, 1, 3), tallyOf(v, 1, 2, 3), nil)
	expectGuilty(t, c, tallyOf(v, 0, 1, 3), tallyOf(voteOf(1, 6, 990), 1, 2, 3), nil)
	expectGuilty(t, c, tallyOf(v, 0, 1, 3), tallyOf(voteOf(0, 5, 990), 1, 2, 3), nil)
	expectGuilty(t, c, tallyOf(v, 0, 1, 3), tallyOf(w, 1, 2, 4), nil)
	expectGuilty(t, c, tallyOf(v, 0, 1, 1), tallyOf(w, 1, 2, 3), nil)
	expectGuilty(t, c, tallyOf(v, 3, 1, 0), tallyOf(w, 1, 2, 3), nil)
	expectGuilty(t, []int{1, 2, 3, 10}, tallyOf(v, 0, 1, 3), tallyOf(w, 1, 2, 3), nil)
	expectGuilty(t, []int{1, 2, 3}, tallyOf(v, 0, 1, 3), tallyOf(w, 1, 2, 3), nil)
	expectGuilty(t, []int{1, 2}, tallyOf(v, 0, 1), tallyOf(w, 0, 1), []int{0, 1})
}

// roomyVoter has hidden votes after its votes, which nobody may change.
func roomyVoter(x impl.Voter) impl.Voter {
	hidden := voteOf(-7, -7, -7)
	return voterOf(x.Floor, append(slices.Clone(x.Signed), hidden, hidden)[:len(x.Signed)]...)
}

func isUntouchedVoter(y impl.Voter, x impl.Voter) bool {
	hidden := y.Signed[len(y.Signed) : len(y.Signed)+2]
	return sameVoter(y, x) && hidden[0] == voteOf(-7, -7, -7) && hidden[1] == voteOf(-7, -7, -7)
}

func spoilVotes(list []impl.Vote) {
	list = list[:cap(list)]
	for i := range list {
		list[i] = voteOf(-5, -5, -5)
	}
}

// expectVoterApart spoils one of two equal results and looks at the other one and at the argument.
func expectVoterApart(t *testing.T, x impl.Voter, roomy impl.Voter, one impl.Voter, two impl.Voter) {
	t.Helper()
	kept := cloneVoter(two)
	if !sameVoter(one, two) {
		t.Errorf("of %v, two results are %v and %v", x, one, two)
	}
	spoilVotes(one.Signed)
	if !sameVoter(two, kept) || !isUntouchedVoter(roomy, x) {
		t.Errorf("%v is changed, or shares its memory with a result, or two results do", x)
	}
}

func TestVotersAreApart(t *testing.T) {
	for _, x := range manyVoters() {
		y := roomyVoter(x)
		impl.VoterValid(y)
		votes := []impl.Vote{voteOf(0, 3, 9), voteOf(min(x.Floor, 30), 3, 9), voteOf(30, 6, 9), voteOf(31, 6, 9)}
		for _, v := range x.Signed[:min(len(x.Signed), 2)] {
			votes = append(votes, v, otherVote(v))
		}
		for _, v := range votes {
			one, _ := impl.VoterSign(y, v)
			two, _ := impl.VoterSign(y, v)
			expectVoterApart(t, x, y, one, two)
		}
		for _, floor := range []int{-1, x.Floor, x.Floor + 1, 30, 31} {
			one, _ := impl.VoterForget(y, floor)
			two, _ := impl.VoterForget(y, floor)
			expectVoterApart(t, x, y, one, two)
		}
	}
}

func roomyTally(x impl.Tally) impl.Tally {
	return tallyOf(x.Vote, append(slices.Clone(x.Members), -7, -7)[:len(x.Members)]...)
}

func isUntouchedTally(y impl.Tally, x impl.Tally) bool {
	return sameTally(y, x) && slices.Equal(y.Members[len(y.Members):len(y.Members)+2], []int{-7, -7})
}

func TestTalliesAreApart(t *testing.T) {
	for _, c := range fewCommittees() {
		members := slices.Clone(c)
		for mask := range 1 << len(c) {
			x := tallyOf(voteOf(4, 5, 6), subset(len(c), mask)...)
			y, z := roomyTally(x), roomyTally(tallyOf(voteOf(4, 5, 7), x.Members...))
			for member := -1; member <= len(c); member++ {
				one, _ := impl.TallyAdd(members, y, member)
				two, _ := impl.TallyAdd(members, y, member)
				kept := cloneTally(two)
				spoil(one.Members)
				if !sameTally(two, kept) || !isUntouchedTally(y, x) {
					t.Errorf("in %v, %v is changed or shared with a result for %d, or two results are", c, x, member)
				}
			}
			one, two := impl.TallyGuilty(members, y, z), impl.TallyGuilty(members, y, z)
			spoil(one)
			impl.TallyDone(members, y)
			if !slices.Equal(two, x.Members) || !isUntouchedTally(y, x) || !isUntouchedTally(z, tallyOf(z.Vote, x.Members...)) || !slices.Equal(members, c) {
				t.Errorf("in %v, %v is changed or shared with those guilty, or two results are", c, x)
			}
		}
	}
}

// Both tallies and the committee have the same memory.
func TestTalliesThatShareMemory(t *testing.T) {
	list := []int{1, 2, 3, 4}
	a, b := tallyOf(voteOf(4, 5, 6), list[:3]...), tallyOf(voteOf(4, 5, 7), list[:2]...)
	expectGuilty(t, list, a, b, []int{1, 2})
	spoil(impl.TallyGuilty(list, a, b))
	for member := range list {
		x, _ := impl.TallyAdd(list, b, member)
		spoil(x.Members)
	}
	if !slices.Equal(list, []int{1, 2, 3, 4}) {
		t.Errorf("the members and the committee are %v", list)
	}
}
