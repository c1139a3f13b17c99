package tests

import (
	"math"
	"slices"
	"testing"

	"loop.example/dagconsensus/impl"
)

// led is a graph with its committee and the leaders of its waves.
type led struct {
	c       []int
	g       []impl.Vertex
	leaders []int
}

// scatteredLeaders returns as many members of a committee as there are waves.
func scatteredLeaders(c []int, waves int, seed int) []int {
	leaders := []int{}
	for wave := range waves {
		leaders = append(leaders, (wave*wave+3*wave+seed+seed/len(c)*wave)%len(c))
	}
	return leaders
}

// shunnedMembers returns the members without which the others are a quorum, so that a graph can do without their vertices.
func shunnedMembers(c []int) []int {
	members := []int{}
	for member := range c {
		if isHeavy(c, othersOf(c, member)) {
			members = append(members, member)
		}
	}
	return members
}

func othersOf(c []int, member int) []int {
	return subset(len(c), everybody(c)&^(1<<member))
}

// shunningGraph has some authors in each round. Where it can, it leaves leader vertices out of the parents of most vertices: only one in as many as shun tells may have them.
func shunningGraph(c []int, leaders []int, rounds int, shun int, seed int) []impl.Vertex {
	next := func(many int) int {
		seed = (seed*1103515245 + 12345) % (1 << 31)
		return (seed >> 8) % many
	}
	g, present := []impl.Vertex{}, 0
	for round := range rounds {
		sets := heavySets(c, everybody(c))
		authors := sets[next(len(sets))] | sets[next(len(sets))]
		parents := heavySets(c, present)
		without := parents
		if wave := round / 2; round%2 == 0 && wave >= 1 && wave <= len(leaders) {
			without = heavySets(c, present&^(1<<leaders[wave-1]))
		}
		for _, author := range subset(len(c), authors) {
			v := vertexOf(round, author, next(impl.HashSize))
			if round > 0 && len(without) > 0 && next(shun) > 0 {
				v.Parents = subset(len(c), without[next(len(without))])
			} else if round > 0 {
				v.Parents = subset(len(c), parents[next(len(parents))])
			}
			g = append(g, v)
		}
		present = authors
	}
	return g
}

// manyLed has graphs of several committees with no, few and many leaders, also more and fewer than the graphs have waves.
func manyLed() []led {
	list := []led{}
	for n, c := range fewCommittees() {
		for i, g := range manyGraphs(c) {
			list = append(list, led{c, g, scatteredLeaders(c, (7*i+n)%16, i)}, led{c, g, scatteredLeaders(c, impl.MaxWave, i)})
		}
		if len(shunnedMembers(c)) > 0 {
			list = append(list, shunningLed(c, 10)...)
		}
	}
	return list
}

func shunningLed(c []int, many int) []led {
	list := []led{}
	for seed := range many {
		leaders := scatteredLeaders(c, impl.MaxWave, seed)
		rounds := 31 - seed%3*seed%7
		g := shunningGraph(c, leaders, rounds, 2+seed%6, 1000*seed+sumOf(c))
		list = append(list, led{c, g, leaders}, led{c, g, leaders[:1+seed%14]})
	}
	return list
}

func wavesFrom(first int, last int) []int {
	waves := []int{}
	for wave := first; wave <= last; wave++ {
		waves = append(waves, wave)
	}
	return waves
}

// leaderBy returns the index of the leader vertex of a wave, or -1, without the program.
func (x led) leaderBy(wave int) int {
	return indexOf(x.g, 2*wave-1, x.leaders[wave-1])
}

// votesBy adds up, without the program, the weights of the children of a leader vertex.
func (x led) votesBy(wave int) int {
	weight := 0
	for _, v := range x.g {
		if v.Round == 2*wave && slices.Contains(v.Parents, x.leaders[wave-1]) {
			weight += x.c[v.Author]
		}
	}
	return weight
}

func (x led) isDirectBy(wave int) bool {
	return 3*x.votesBy(wave) > sumOf(x.c)
}

// reachOf returns, for each round, the mask of the authors of the vertices in the past of one of several vertices, without the program.
func reachOf(g []impl.Vertex, indexes ...int) [31]int {
	reach := [31]int{}
	for _, i := range indexes {
		reach[g[i].Round] |= 1 << g[i].Author
	}
	for i := len(g) - 1; i >= 0; i-- {
		if reach[g[i].Round]>>g[i].Author&1 == 1 {
			for _, author := range g[i].Parents {
				reach[g[i].Round-1] |= 1 << author
			}
		}
	}
	return reach
}

func (x led) isReachedBy(wave int, later int) bool {
	return reachOf(x.g, x.leaderBy(later))[2*wave-1]>>x.leaders[wave-1]&1 == 1
}

// committedBy returns the committed waves without the program. Unlike it, it starts with the last directly committed wave and goes back to the first wave at once:
// the leader vertex of every other directly committed wave is in the past of all later vertices, so that no such wave is left out.
func (x led) committedBy() []int {
	waves := []int{}
	for wave := len(x.leaders); wave >= 1; wave-- {
		if x.leaderBy(wave) < 0 {
			continue
		}
		if len(waves) == 0 && x.isDirectBy(wave) || len(waves) > 0 && x.isReachedBy(wave, waves[0]) {
			waves = slices.Insert(waves, 0, wave)
		}
	}
	return waves
}

func expectWaves(t *testing.T, x led, want ...int) {
	t.Helper()
	if waves := impl.CommitWaves(x.c, x.g, x.leaders); !slices.Equal(waves, want) {
		t.Fatalf("in %v, %v with the leaders %v commits %v, not %v", x.c, x.g, x.leaders, waves, want)
	}
}

// expectWave expects a leader vertex, or -1, and votes.
func expectWave(t *testing.T, x led, wave int, leader int, votes int) {
	t.Helper()
	if n := impl.WaveLeader(x.c, x.g, x.leaders, wave); n != leader {
		t.Fatalf("in %v, the leader vertex of wave %d of %v with the leaders %v is at %d, not %d", x.c, wave, x.g, x.leaders, n, leader)
	}
	if n := impl.WaveVotes(x.c, x.g, x.leaders, wave); n != votes {
		t.Fatalf("in %v, the votes of wave %d of %v with the leaders %v weigh %d, not %d", x.c, wave, x.g, x.leaders, n, votes)
	}
	if direct := impl.WaveDirect(x.c, x.g, x.leaders, wave); direct != (3*votes > sumOf(x.c)) {
		t.Fatalf("in %v, that wave %d of %v with the leaders %v is committed directly is %v", x.c, wave, x.g, x.leaders, direct)
	}
}

// expectNoWave expects what the functions return for invalid arguments.
func expectNoWave(t *testing.T, x led, wave int) {
	t.Helper()
	if n := impl.WaveLeader(x.c, x.g, x.leaders, wave); n != -1 {
		t.Fatalf("in %v, wave %d of %v with the leaders %v has a leader vertex at %d", x.c, wave, x.g, x.leaders, n)
	}
	if n := impl.WaveVotes(x.c, x.g, x.leaders, wave); n != -1 {
		t.Fatalf("in %v, wave %d of %v with the leaders %v has votes of %d", x.c, wave, x.g, x.leaders, n)
	}
	if impl.WaveDirect(x.c, x.g, x.leaders, wave) {
		t.Fatalf("in %v, wave %d of %v with the leaders %v is committed directly", x.c, wave, x.g, x.leaders)
	}
}

// expectNoWaves expects no wave with any number.
func expectNoWaves(t *testing.T, x led) {
	t.Helper()
	expectWaves(t, x)
	for _, wave := range []int{-1, 0, 1, 2, len(x.leaders), len(x.leaders) + 1, impl.MaxWave, impl.MaxWave + 1} {
		expectNoWave(t, x, wave)
	}
}

func expectLeaders(t *testing.T, c []int, leaders []int, valid bool) {
	t.Helper()
	if impl.LeadersValid(c, leaders) != valid {
		t.Errorf("that %v are leaders of %v is not %v", leaders, c, valid)
	}
}

func TestPromise73LeadersAreMembers(t *testing.T) {
	for _, c := range fewCommittees() {
		for waves := range impl.MaxWave + 3 {
			expectLeaders(t, c, scatteredLeaders(c, waves, waves), waves <= impl.MaxWave)
			expectLeaders(t, c, make([]int, waves), waves <= impl.MaxWave)
			expectLeaders(t, c, slices.Repeat([]int{len(c) - 1}, waves), waves <= impl.MaxWave)
		}
		expectLeaders(t, c, nil, true)
		expectLeaders(t, c, make([]int, 1000), false)
		for _, waves := range []int{1, 2, 7, impl.MaxWave} {
			for i := range waves {
				for _, n := range notMembers(c) {
					expectLeaders(t, c, replaced(scatteredLeaders(c, waves, i), i, n), false)
				}
			}
		}
	}
	for _, c := range invalidCommittees() {
		for _, leaders := range [][]int{nil, {}, {0}, {0, 0, 0}, {-1}, {len(c) - 1}, {1}, make([]int, impl.MaxWave), make([]int, impl.MaxWave+1)} {
			expectLeaders(t, c, leaders, false)
		}
	}
}

// The expected answers are worked out by hand.
func TestLeadersValid(t *testing.T) {
	c := []int{9, 5, 3, 1}
	expectLeaders(t, c, []int{3, 3, 3}, true)
	expectLeaders(t, c, []int{2, 0, 3, 1}, true)
	expectLeaders(t, c, []int{0, 1, 2, 3, 0, 1, 2, 3, 0, 1, 2, 3, 0, 1, 2}, true)
	expectLeaders(t, c, []int{0, 1, 2, 3, 0, 1, 2, 3, 0, 1, 2, 3, 0, 1, 2, 3}, false)
	expectLeaders(t, c, []int{0, 4}, false)
	expectLeaders(t, c, []int{9}, false)
	expectLeaders(t, c, []int{-1, 0}, false)
	expectLeaders(t, c[:3], []int{2, 0, 3, 1}, false)
	expectLeaders(t, []int{9, 5, 3, 0}, []int{0}, false)
	if impl.MaxWave != 15 || 2*impl.MaxWave != impl.MaxRound {
		t.Errorf("the last wave is %d, and the last round %d", impl.MaxWave, impl.MaxRound)
	}
}

func TestPromise74LeaderVertices(t *testing.T) {
	for _, x := range manyLed() {
		for wave := 1; wave <= len(x.leaders); wave++ {
			n := impl.WaveLeader(x.c, x.g, x.leaders, wave)
			if n != x.leaderBy(wave) || n != impl.GraphFind(x.c, x.g, 2*wave-1, x.leaders[wave-1]) {
				t.Fatalf("in %v, the leader vertex of wave %d of %v with the leaders %v is at %d", x.c, wave, x.g, x.leaders, n)
			}
		}
	}
}

func TestPromise75VotesAreOfChildren(t *testing.T) {
	for _, x := range manyLed() {
		for wave := 1; wave <= len(x.leaders); wave++ {
			n := impl.WaveVotes(x.c, x.g, x.leaders, wave)
			if n != x.votesBy(wave) || n > impl.MembersWeight(x.c, impl.GraphAuthors(x.c, x.g, 2*wave)) {
				t.Fatalf("in %v, the votes of wave %d of %v with the leaders %v weigh %d", x.c, wave, x.g, x.leaders, n)
			}
		}
	}
}

func TestPromise76DirectWithSupport(t *testing.T) {
	directs, others := 0, 0
	for _, x := range manyLed() {
		for wave := 1; wave <= len(x.leaders); wave++ {
			direct := impl.WaveDirect(x.c, x.g, x.leaders, wave)
			if direct != (impl.WaveVotes(x.c, x.g, x.leaders, wave) >= impl.CommitteeSupport(x.c)) || direct != x.isDirectBy(wave) {
				t.Fatalf("in %v, that wave %d of %v with the leaders %v is committed directly is %v", x.c, wave, x.g, x.leaders, direct)
			}
			if direct {
				directs++
			} else if x.leaderBy(wave) >= 0 {
				others++
			}
		}
	}
	if directs == 0 || others == 0 {
		t.Errorf("%d waves are committed directly, and %d are not", directs, others)
	}
}

// votedGraph is full up to the first round of a wave. In the second one, it has the vertices of some members; those of the voters alone have the leader vertex as a parent.
func votedGraph(c []int, wave int, leader int, present int, voters int) []impl.Vertex {
	g := fullGraph(c, 2*wave)
	for _, author := range subset(len(c), present) {
		v := vertexOf(2*wave, author, 12, othersOf(c, leader)...)
		if voters>>author&1 == 1 {
			v.Parents = subset(len(c), everybody(c))
		}
		g = append(g, v)
	}
	return g
}

// All sets of voters are tried, with all sets of others, or with none and all of them.
func TestVotesOfEachSetOfMembers(t *testing.T) {
	for _, c := range fewCommittees() {
		exact, fewer := 0, 0
		for _, leader := range shunnedMembers(c) {
			for voters := range 1 << len(c) {
				for present := voters; present <= everybody(c); present = (present + 1) | voters {
					if len(c) > 4 && present != voters && present != everybody(c) {
						continue
					}
					weight := sumAt(c, subset(len(c), voters))
					x := led{c, votedGraph(c, 1, leader, present, voters), []int{leader}}
					expectWave(t, x, 1, len(c)+leader, weight)
					if 3*weight > sumOf(c) {
						expectWaves(t, x, 1)
					} else {
						expectWaves(t, x)
					}
					if weight == sumOf(c)/3+1 {
						exact++
					} else if weight == sumOf(c)/3 {
						fewer++
					}
				}
			}
		}
		if slices.Equal(c, []int{1, 2, 3, 4, 5, 6, 7}) && (exact == 0 || fewer == 0) {
			t.Errorf("in %v, votes weigh exactly the support %d times, and one less %d times", c, exact, fewer)
		}
	}
}

// The expected supports are worked out by hand: the first voters weigh exactly as much, the second ones one less.
func TestVotesOfExactlySupportAndOneLess(t *testing.T) {
	for _, x := range []struct {
		c            []int
		leader       int
		support      int
		exact, fewer []int
	}{
		{[]int{1, 1, 1, 1}, 2, 2, []int{0, 3}, []int{2}},
		{[]int{2, 1, 1, 1}, 1, 2, []int{0}, []int{3}},
		{[]int{3, 3, 2, 1}, 3, 4, []int{1, 3}, []int{0}},
		{[]int{9, 5, 3, 2}, 2, 7, []int{1, 3}, nil},
		{[]int{9, 6, 3, 1}, 1, 7, []int{1, 3}, []int{1}},
		{[]int{1, 1, 1, 1, 1, 1}, 5, 3, []int{1, 2, 5}, []int{0, 4}},
		{[]int{1, 2, 3, 4, 5, 6, 7}, 6, 10, []int{0, 1, 2, 3}, []int{2, 5}},
		{[]int{1, 2, 3, 4, 5, 6, 7}, 0, 10, []int{2, 6}, []int{1, 6}},
		{[]int{2, 2, 2, 2, 2, 2, 2}, 3, 5, nil, []int{5, 6}},
	} {
		if x.exact != nil && sumAt(x.c, x.exact) != x.support || x.fewer != nil && sumAt(x.c, x.fewer) != x.support-1 || impl.CommitteeSupport(x.c) != x.support {
			t.Fatalf("of %v, the support is not %d, or %v or %v weigh something else", x.c, x.support, x.exact, x.fewer)
		}
		for _, wave := range []int{1, 2, 8, impl.MaxWave} {
			for _, voters := range [][]int{x.exact, x.fewer} {
				mask := 0
				for _, member := range voters {
					mask |= 1 << member
				}
				y := led{x.c, votedGraph(x.c, wave, x.leader, everybody(x.c), mask), slices.Repeat([]int{x.leader}, impl.MaxWave)}
				expectWave(t, y, wave, (2*wave-1)*len(x.c)+x.leader, sumAt(x.c, voters))
				if sumAt(x.c, voters) == x.support {
					expectWaves(t, y, wavesFrom(1, wave)...)
				} else {
					expectWaves(t, y, wavesFrom(1, wave-1)...)
				}
			}
		}
	}
}

func TestPromise77CommittedWavesHaveLeaderVertices(t *testing.T) {
	for _, x := range manyLed() {
		waves := impl.CommitWaves(x.c, x.g, x.leaders)
		for i, wave := range waves {
			if wave < 1 || wave > len(x.leaders) || i > 0 && wave <= waves[i-1] || impl.WaveLeader(x.c, x.g, x.leaders, wave) < 0 {
				t.Fatalf("in %v, %v with the leaders %v commits %v", x.c, x.g, x.leaders, waves)
			}
		}
		if len(waves) > 0 && !impl.WaveDirect(x.c, x.g, x.leaders, waves[len(waves)-1]) {
			t.Fatalf("in %v, the last one of %v is not committed directly by %v with the leaders %v", x.c, waves, x.g, x.leaders)
		}
	}
}

func TestPromise78DirectWavesAreCommitted(t *testing.T) {
	for _, x := range manyLed() {
		waves := impl.CommitWaves(x.c, x.g, x.leaders)
		for wave := 1; wave <= len(x.leaders); wave++ {
			if impl.WaveDirect(x.c, x.g, x.leaders, wave) && !slices.Contains(waves, wave) {
				t.Fatalf("in %v, %v with the leaders %v commits %v and not %d", x.c, x.g, x.leaders, waves, wave)
			}
		}
	}
}

func TestPromise79LeaderVerticesAreInThePastOfTheNext(t *testing.T) {
	for _, x := range manyLed() {
		waves := impl.CommitWaves(x.c, x.g, x.leaders)
		for i := 1; i < len(waves); i++ {
			past := impl.GraphPast(x.c, x.g, 2*waves[i]-1, x.leaders[waves[i]-1])
			if !slices.Contains(past, impl.WaveLeader(x.c, x.g, x.leaders, waves[i-1])) {
				t.Fatalf("in %v, %v with the leaders %v commits %v, though the past of wave %d is %v", x.c, x.g, x.leaders, waves, waves[i], past)
			}
		}
	}
}

func TestPromise80DirectWavesAreInThePastOfAllLaterVertices(t *testing.T) {
	for _, x := range manyLed() {
		pasts := [][]int{}
		for _, v := range x.g {
			pasts = append(pasts, impl.GraphPast(x.c, x.g, v.Round, v.Author))
		}
		for wave := 1; wave <= len(x.leaders); wave++ {
			if !impl.WaveDirect(x.c, x.g, x.leaders, wave) {
				continue
			}
			leader := impl.WaveLeader(x.c, x.g, x.leaders, wave)
			for i, v := range x.g {
				if _, found := slices.BinarySearch(pasts[i], leader); v.Round > 2*wave && !found {
					t.Fatalf("in %v, the past of %v in %v lacks the leader vertex %d of wave %d", x.c, v, x.g, leader, wave)
				}
			}
		}
	}
}

// closureOf returns the part of a graph that consists of some vertices and all that they depend on.
func closureOf(g []impl.Vertex, indexes ...int) []impl.Vertex {
	reach := reachOf(g, indexes...)
	part := []impl.Vertex{}
	for _, v := range g {
		if reach[v.Round]>>v.Author&1 == 1 {
			part = append(part, v)
		}
	}
	return part
}

// withoutTips leaves out some of the vertices that nobody refers to, then of those that nobody refers to any more, and so on: one in as many as keep tells remains with all that it depends on.
func withoutTips(g []impl.Vertex, keep int, seed int) []impl.Vertex {
	referred, part := [31]int{}, []impl.Vertex{}
	for i := len(g) - 1; i >= 0; i-- {
		v := g[i]
		if referred[v.Round]>>v.Author&1 == 0 && (7*i+seed)%keep > 0 {
			continue
		}
		part = append(part, v)
		for _, author := range v.Parents {
			referred[v.Round-1] |= 1 << author
		}
	}
	slices.Reverse(part)
	return part
}

// manyParts has parts of a graph that are closed under parents: the whole and no vertex, prefixes, the past of one and of several vertices, and the graph without vertices that nobody refers to.
func manyParts(g []impl.Vertex) [][]impl.Vertex {
	list := [][]impl.Vertex{g, nil}
	for i := 0; i < len(g); i += 1 + len(g)/12 {
		list = append(list, g[:i], closureOf(g, i))
		list = append(list, closureOf(g, i, (5*i+2)%len(g)), closureOf(g, i, i*i%len(g), len(g)-1-i/3))
	}
	for i := max(0, len(g)-6); i < len(g); i++ {
		list = append(list, closureOf(g, i))
	}
	for seed := range 6 {
		list = append(list, withoutTips(g, 2+3*seed, seed), withoutTips(g, 60, 11*seed))
	}
	return list
}

func isPrefix[T comparable](a []T, b []T) bool {
	return len(a) <= len(b) && slices.Equal(a, b[:len(a)])
}

// expectAgreement expects that of what a function returns for two parts of a graph, one is a prefix of the other.
func expectAgreement[T comparable](t *testing.T, list []led, function func(c []int, g []impl.Vertex, leaders []int) []T) {
	t.Helper()
	apart := 0
	for _, x := range list {
		parts, lists := manyParts(x.g), [][]T{}
		for _, part := range parts {
			if !impl.GraphValid(x.c, part) {
				t.Fatalf("in %v, the part %v of %v is invalid", x.c, part, x.g)
			}
			lists = append(lists, function(x.c, part, x.leaders))
		}
		for i, a := range lists {
			for j, b := range lists[:i] {
				if !isPrefix(a, b) && !isPrefix(b, a) {
					t.Fatalf("in %v with the leaders %v, %v gives %v, and %v gives %v", x.c, x.leaders, parts[i], a, parts[j], b)
				}
				if len(a) != len(b) {
					apart++
				}
			}
		}
	}
	if apart == 0 {
		t.Error("all parts give the same")
	}
}

func TestPromise81PartsAgree(t *testing.T) {
	expectAgreement(t, fewerLed(), impl.CommitWaves)
}

func TestPromise82PartsCommitAPrefix(t *testing.T) {
	shorter, indirect := 0, 0
	for _, x := range fewerLed() {
		whole := impl.CommitWaves(x.c, x.g, x.leaders)
		for _, part := range manyParts(x.g) {
			y := led{x.c, part, x.leaders}
			waves := impl.CommitWaves(x.c, part, x.leaders)
			if !isPrefix(waves, whole) {
				t.Fatalf("in %v with the leaders %v, %v commits %v, but its part %v commits %v", x.c, x.leaders, x.g, whole, part, waves)
			}
			if len(waves) < len(whole) {
				shorter++
			}
			for _, wave := range waves {
				if x.isDirectBy(wave) && !y.isDirectBy(wave) {
					indirect++
				}
			}
		}
	}
	if shorter == 0 || indirect == 0 {
		t.Errorf("%d parts commit fewer waves, and %d waves are committed directly in the whole alone", shorter, indirect)
	}
}

// Who has the vertex of member 3 in round 4 finds wave 2 committed directly; who lacks it commits it by wave 3 alone. Neither may commit wave 1: it is in the past of wave 3, but not in that of wave 2.
func TestPromise81WithAndWithoutAVote(t *testing.T) {
	c, full := []int{1, 1, 1, 1}, []int{0, 0, 0, 0}
	g := graphOfRounds(full, full, []int{3, 3, 3, 2}, []int{3, 0, 0, 3}, []int{3, 0, 0, 1}, []int{3, 3, 3, 3}, []int{3, 3, 3, 3})
	leaders := []int{3, 0, 0}
	without := closureOf(g, indexOf(g, 6, 0), indexOf(g, 6, 1), indexOf(g, 6, 2))
	early := g[:indexOf(g, 5, 0)]
	expectWave(t, led{c, g, leaders}, 2, indexOf(g, 3, 0), 2)
	expectWave(t, led{c, without, leaders}, 2, indexOf(without, 3, 0), 1)
	expectWaves(t, led{c, g, leaders}, 2, 3)
	expectWaves(t, led{c, without, leaders}, 2, 3)
	expectWaves(t, led{c, early, leaders}, 2)
}

// fewerLed has graphs, with leaders, of which many parts can be looked at.
func fewerLed() []led {
	list := []led{}
	for _, c := range [][]int{{2}, {1, 9}, {2, 3, 1}, {1, 1, 1, 1}, {9, 5, 3, 1}, {1, 2, 3, 4, 5}, {1, 2, 3, 4, 5, 6, 7}, {1, 1, 1, 1, 1, 1, 1}} {
		for seed := range 2 {
			list = append(list, led{c, scatteredGraph(c, 12, seed), scatteredLeaders(c, 9, seed)}, led{c, fullGraph(c, 9), scatteredLeaders(c, 4, seed)})
		}
		for _, member := range shunnedMembers(c) {
			list = append(list, lineLed(c, member, []int{1, 1, 2, 1, 0, 1, 2, 1}, []bool{true, true, true, false, true, true, true, false}))
		}
		if len(shunnedMembers(c)) > 0 {
			list = append(list, shunningLed(c, 7)...)
		}
	}
	return list
}

func TestPromise83FirstLeadersCommitAPrefix(t *testing.T) {
	for _, x := range manyLed() {
		whole := impl.CommitWaves(x.c, x.g, x.leaders)
		for many := range x.leaders {
			waves := impl.CommitWaves(x.c, x.g, x.leaders[:many])
			if !isPrefix(waves, whole) || len(waves) > 0 && waves[len(waves)-1] > many {
				t.Fatalf("in %v, %v with the leaders %v commits %v, but %v with the first %d", x.c, x.g, x.leaders, whole, waves, many)
			}
		}
	}
}

// The graphs have waves of every kind: this is counted.
func TestCommittedWavesFromTheEnd(t *testing.T) {
	kinds := map[string]int{}
	for _, x := range manyLed() {
		want := x.committedBy()
		expectWaves(t, x, want...)
		for wave := 1; wave <= len(x.leaders); wave++ {
			at, committed := slices.BinarySearch(want, wave)
			leader := x.leaderBy(wave)
			expectWave(t, x, wave, leader, x.votesBy(wave))
			switch {
			case leader < 0 && at > 0 && at < len(want):
				kinds["no leader vertex between committed waves"]++
			case leader < 0:
				kinds["no leader vertex"]++
			case x.isDirectBy(wave):
				kinds["direct"]++
			case committed && at > 0 && !x.isDirectBy(want[at-1]) && want[at-1] == wave-1:
				kinds["two indirect in a row"]++
			case committed:
				kinds["indirect"]++
			case at < len(want) && x.votesBy(wave) == 0:
				kinds["skipped without votes"]++
			case at < len(want) && x.isReachedBySkipped(wave, want):
				kinds["skipped but in the past of a skipped one"]++
			case at < len(want):
				kinds["skipped"]++
			default:
				kinds["not committed yet"]++
			}
		}
	}
	if len(kinds) != 9 {
		t.Errorf("the kinds of waves are %v", kinds)
	}
}

// isReachedBySkipped tells whether a leader vertex is in the past of that of a later wave that is not committed.
func (x led) isReachedBySkipped(wave int, committed []int) bool {
	for later := wave + 1; later <= len(x.leaders); later++ {
		if x.leaderBy(later) >= 0 && !slices.Contains(committed, later) && x.isReachedBy(wave, later) {
			return true
		}
	}
	return false
}

// lineLed has one leader for all waves, whose vertex of the second round of each wave alone has the leader vertex as a parent, and is itself a parent of the next leader vertex only if that is linked. So the rest of the graph knows nothing of it.
// For each wave, kinds tells that there is no leader vertex (0), that it has this single vote (1), or that everybody votes for it (2).
func lineLed(c []int, leader int, kinds []int, linked []bool) led {
	all, others := subset(len(c), everybody(c)), othersOf(c, leader)
	g := []impl.Vertex{}
	for member := range c {
		g = append(g, vertexOf(0, member, 0))
	}
	for i, kind := range kinds {
		for round := 2*i + 1; round <= 2*i+2; round++ {
			for member := range c {
				if round%2 == 1 && member == leader && kind == 0 {
					continue
				}
				v := vertexOf(round, member, round, others...)
				if round%2 == 1 && member == leader && i > 0 && linked[i] || round%2 == 0 && kind > 0 && (member == leader || kind == 2) {
					v.Parents = all
				}
				g = append(g, v)
			}
		}
	}
	return led{c, g, slices.Repeat([]int{leader}, len(kinds))}
}

// lineCommits tells which waves of a line are committed: those with votes, and those that the next one is linked to if it is committed.
func lineCommits(kinds []int, linked []bool) []int {
	waves, next := []int{}, false
	for i := len(kinds) - 1; i >= 0; i-- {
		next = kinds[i] == 2 || kinds[i] == 1 && next && linked[i+1]
		if next {
			waves = append(waves, i+1)
		}
	}
	slices.Reverse(waves)
	return waves
}

// Waves in the past of the next one, in the past only of one that is skipped, and in the past of none: in every combination of four of them.
func TestLinesOfLeaderVertices(t *testing.T) {
	for _, x := range []struct {
		c      []int
		leader int
	}{{[]int{1, 1, 1, 1}, 3}, {[]int{1, 1, 1, 1}, 0}, {[]int{9, 5, 3, 1}, 1}, {[]int{6, 1, 5, 2, 4, 3}, 2}, {[]int{1, 2, 3, 4, 5, 6, 7}, 6}} {
		for code := range 81 * 8 {
			kinds := []int{code % 3, code / 3 % 3, code / 9 % 3, code / 27 % 3}
			linked := []bool{true, code/81%2 == 1, code/162%2 == 1, code/324 == 1}
			y := lineLed(x.c, x.leader, kinds, linked)
			expectWaves(t, y, lineCommits(kinds, linked)...)
			for i, kind := range kinds {
				votes := []int{0, x.c[x.leader], sumOf(x.c)}[kind]
				expectWave(t, y, i+1, indexOf(y.g, 2*i+1, x.leader), votes)
			}
		}
	}
}

// The last wave commits all waves before it, or those after a missing link or a wave without a leader vertex. A wave that is committed directly needs no link, and the part of the graph up to it commits it, too.
func TestManyWavesInARow(t *testing.T) {
	c := []int{9, 5, 3, 1}
	kinds, linked := replaced(slices.Repeat([]int{1}, 15), 14, 2), slices.Repeat([]bool{true}, 15)
	expectWaves(t, lineLed(c, 1, kinds, linked), wavesFrom(1, 15)...)
	for wave := 1; wave < impl.MaxWave; wave++ {
		missing := slices.Clone(linked)
		missing[wave] = false
		expectWaves(t, lineLed(c, 1, kinds, missing), wavesFrom(wave+1, 15)...)
		expectWaves(t, lineLed(c, 1, replaced(kinds, wave-1, 0), linked), wavesFrom(wave+1, 15)...)
		direct := replaced(kinds, wave-1, 2)
		expectWaves(t, lineLed(c, 1, direct, missing), wavesFrom(1, 15)...)
		cut := lineLed(c, 1, direct[:wave], missing)
		expectWaves(t, cut, wavesFrom(1, wave)...)
		expectWaves(t, led{cut.c, cut.g[:len(cut.g)-len(c)], cut.leaders})
	}
}

// roundOf returns a round of a graph of four members, in which each vertex has all vertices but one as parents: shunned has, for each author, the one that is left out, or -1 if the author has no vertex.
func roundOf(round int, shunned ...int) []impl.Vertex {
	list := []impl.Vertex{}
	for author, n := range shunned {
		if n >= 0 && round > 0 {
			list = append(list, vertexOf(round, author, 0, othersOf([]int{1, 1, 1, 1}, n)...))
		} else if n >= 0 {
			list = append(list, vertexOf(round, author, 0))
		}
	}
	return list
}

func graphOfRounds(shunned ...[]int) []impl.Vertex {
	g := []impl.Vertex{}
	for round, list := range shunned {
		g = append(g, roundOf(round, list...)...)
	}
	return g
}

// The expected waves are worked out by hand. All weights are 1, so that two votes commit a wave, and each vertex has all vertices but one as parents.
func TestCommitWaves(t *testing.T) {
	c := []int{1, 1, 1, 1}
	full := []int{0, 0, 0, 0}
	for _, x := range []struct {
		g       []impl.Vertex
		leaders []int
		waves   []int
	}{
		// Nobody votes for wave 1; one does; two do.
		{graphOfRounds(full, full, []int{3, 3, 3, 3}), []int{3}, nil},
		{graphOfRounds(full, full, []int{3, 3, 2, 3}), []int{3}, nil},
		{graphOfRounds(full, full, []int{3, 2, 1, 3}), []int{3}, []int{1}},
		{graphOfRounds(full, full, []int{-1, -1, 1, 0}), []int{3}, []int{1}},
		{graphOfRounds(full, full, []int{-1, -1, 1, -1}), []int{3}, nil},
		{graphOfRounds(full, full), []int{3}, nil},
		// Wave 1 has one vote, of member 0, whose vertex is in the past of the leader vertex of wave 2, or is not.
		{graphOfRounds(full, full, []int{2, 3, 3, 3}, []int{3, 3, 3, 3}, []int{3, 3, 3, 3}), []int{3, 1}, []int{1, 2}},
		{graphOfRounds(full, full, []int{2, 3, 3, 3}, []int{3, 0, 3, 3}, []int{3, 3, 3, 3}), []int{3, 1}, []int{2}},
		// The same, but nobody votes for wave 2.
		{graphOfRounds(full, full, []int{2, 3, 3, 3}, []int{3, 3, 3, 3}, []int{1, 1, 1, 1}), []int{3, 1}, nil},
		{graphOfRounds(full, full, []int{2, 3, 3, 3}, []int{3, 3, 3, 3}, []int{1, 1, 1, 1}, full, full), []int{3, 1, 2}, []int{1, 3}},
		// Wave 2 has no leader vertex, between two waves that have one: wave 1 is committed by wave 3, or directly, or not.
		{graphOfRounds(full, full, []int{2, 3, 3, 3}, []int{3, 3, 3, -1}, []int{3, 3, 3, 3}, full, full), []int{3, 3, 2}, []int{1, 3}},
		{graphOfRounds(full, full, []int{2, 2, 2, 2}, []int{3, 3, 3, -1}, []int{3, 3, 3, 3}, full, full), []int{3, 3, 2}, []int{1, 3}},
		{graphOfRounds(full, full, []int{2, 3, 3, 3}, []int{0, 0, 0, -1}, []int{3, 3, 3, 3}, full, full), []int{3, 3, 2}, []int{3}},
		{graphOfRounds(full, full, []int{2, 3, 3, 3}, []int{3, 3, 3, -1}, []int{3, 3, 3, 3}), []int{3, 3, 2}, nil},
		// Wave 1 is in the past of the leader vertex of wave 2 only, which is skipped by wave 3.
		{graphOfRounds(full, full, []int{3, 3, 3, 2}, []int{3, 3, 3, 2}, []int{3, 3, 3, 2}, []int{3, 3, 3, 3}, []int{3, 3, 3, 3}), []int{3, 3, 0}, []int{3}},
		// Both are in the past of wave 3, one after the other.
		{graphOfRounds(full, full, []int{3, 3, 3, 2}, []int{3, 3, 3, 2}, []int{3, 3, 3, 2}, []int{2, 3, 3, 3}, []int{3, 3, 3, 3}), []int{3, 3, 0}, []int{1, 2, 3}},
		// Both are in the past of wave 3, but wave 1 is not in that of wave 2, which is committed.
		{graphOfRounds(full, full, []int{3, 3, 3, 2}, []int{3, 0, 0, 3}, []int{3, 0, 0, 0}, []int{3, 3, 3, 3}, []int{3, 3, 3, 3}), []int{3, 0, 0}, []int{2, 3}},
		// The same, but wave 2 is skipped, so that wave 1 is committed.
		{graphOfRounds(full, full, []int{3, 3, 3, 2}, []int{3, 0, 0, 3}, []int{3, 0, 0, 0}, []int{0, 0, 0, 0}, []int{3, 3, 3, 3}), []int{3, 0, 0}, []int{1, 3}},
		// The same again, but wave 2 is committed directly: wave 1 is in the past of wave 3 alone.
		{graphOfRounds(full, full, []int{3, 3, 3, 2}, []int{3, 0, 0, 3}, []int{3, 3, 0, 0}, []int{3, 3, 3, 3}, []int{3, 3, 3, 3}), []int{3, 0, 0}, []int{2, 3}},
	} {
		if !impl.GraphValid(c, x.g) {
			t.Fatalf("%v is invalid", x.g)
		}
		expectWaves(t, led{c, x.g, x.leaders}, x.waves...)
	}
}

// Three of four members have vertices; each choice of waves that the fourth one leads is tried for the first ten waves.
func TestWavesWithoutALeaderVertex(t *testing.T) {
	c := []int{1, 1, 1, 1}
	g := evenGraph([]int{0, 1, 2}, 31)
	for mask := range 1 << 10 {
		leaders, want := make([]int, impl.MaxWave), []int{}
		for wave := 1; wave <= impl.MaxWave; wave++ {
			leaders[wave-1] = wave % 3
			if mask>>(wave-1)&1 == 1 {
				leaders[wave-1] = 3
			} else {
				want = append(want, wave)
			}
		}
		expectWaves(t, led{c, g, leaders}, want...)
	}
	x := led{c, g, []int{0, 3, 1, 3, 3, 2}}
	for wave := 1; wave <= 6; wave++ {
		if x.leaders[wave-1] == 3 {
			expectWave(t, x, wave, -1, 0)
		} else {
			expectWave(t, x, wave, 3*(2*wave-1)+x.leaders[wave-1], 3)
		}
	}
	expectWaves(t, led{c, g, slices.Repeat([]int{3}, 15)})
}

// Graphs of each number of rounds have all leaders, and each number of them.
func TestGraphsThatEndBeforeTheirLeaders(t *testing.T) {
	for _, c := range fewCommittees() {
		g := fullGraph(c, 31)
		for rounds := range 32 {
			waves := max(0, rounds-1) / 2
			for _, many := range []int{0, 1, waves - 1, waves, waves + 1, impl.MaxWave} {
				if many < 0 || many > impl.MaxWave {
					continue
				}
				x := led{c, g[:rounds*len(c)], scatteredLeaders(c, many, rounds)}
				expectWaves(t, x, wavesFrom(1, min(waves, many))...)
				for _, wave := range []int{waves, waves + 1, waves + 2} {
					switch {
					case wave < 1 || wave > many:
						expectNoWave(t, x, wave)
					case rounds > 2*wave:
						expectWave(t, x, wave, (2*wave-1)*len(c)+x.leaders[wave-1], sumOf(c))
					case rounds > 2*wave-1:
						expectWave(t, x, wave, (2*wave-1)*len(c)+x.leaders[wave-1], 0)
					default:
						expectWave(t, x, wave, -1, 0)
					}
				}
			}
		}
	}
}

func TestEmptyGraphsAndNoLeaders(t *testing.T) {
	for _, c := range fewCommittees() {
		for _, g := range [][]impl.Vertex{nil, {}} {
			x := led{c, g, scatteredLeaders(c, impl.MaxWave, 1)}
			expectWaves(t, x)
			for wave := 1; wave <= impl.MaxWave; wave++ {
				expectWave(t, x, wave, -1, 0)
			}
		}
		for _, g := range manyGraphs(c) {
			expectNoWaves(t, led{c, g, nil})
			expectNoWaves(t, led{c, g, []int{}})
		}
	}
}

func TestInvalidWaves(t *testing.T) {
	for _, c := range fewCommittees() {
		for _, g := range [][]impl.Vertex{nil, fullGraph(c, 3), fullGraph(c, 31), scatteredGraph(c, 31, 9)} {
			for many := range impl.MaxWave + 1 {
				x := led{c, g, scatteredLeaders(c, many, 2)}
				for _, wave := range append(notWaves(), many+1, many+2, -many, math.MaxInt/2+1, math.MaxInt/2+2, math.MinInt/2, math.MinInt/2+1) {
					expectNoWave(t, x, wave)
				}
			}
		}
	}
}

// invalidlyLed has valid graphs with lists that are not leaders of their waves.
func invalidlyLed() []led {
	list := []led{}
	for _, c := range fewCommittees() {
		for _, g := range [][]impl.Vertex{nil, fullGraph(c, 3), fullGraph(c, 7)} {
			for _, many := range []int{1, 2, 3, impl.MaxWave} {
				for _, i := range []int{0, many / 2, many - 1} {
					for _, n := range notMembers(c) {
						list = append(list, led{c, g, replaced(scatteredLeaders(c, many, i), i, n)})
					}
				}
			}
			for _, many := range []int{16, 17, 30, 31, 32, 1000} {
				list = append(list, led{c, g, make([]int, many)}, led{c, g, scatteredLeaders(c, many, many)})
			}
		}
	}
	return list
}

// ledInvalidGraphs has graphs that are invalid, with valid and invalid leaders.
func ledInvalidGraphs() []led {
	list := []led{}
	for _, c := range [][]int{{1}, {1, 2, 3}, {1, 1, 1, 1}, {9, 5, 3, 1}} {
		graphs := invalidGraphs(c)
		for _, v := range invalidVertices(c) {
			graphs = append(graphs, append(fullGraph(c, 3), v), slices.Insert(fullGraph(c, 3), 0, v))
		}
		for _, g := range graphs {
			for _, leaders := range [][]int{nil, {0}, scatteredLeaders(c, 3, 1), {-1}, make([]int, 16)} {
				list = append(list, led{c, g, leaders})
			}
		}
	}
	return list
}

// ledByInvalidCommittees has lists that would be graphs of a committee with as many members.
func ledByInvalidCommittees() []led {
	list := []led{}
	for _, c := range invalidCommittees() {
		all := []int{}
		for member := range c {
			all = append(all, member)
		}
		for _, g := range [][]impl.Vertex{nil, {}, {vertexOf(0, 0, 5)}, evenGraph(all, 3)[:min(3*len(c), 24)]} {
			for _, leaders := range [][]int{nil, {}, {0}, {0, 0}, {max(0, len(c)-1)}, {-1}, make([]int, 16)} {
				list = append(list, led{c, g, leaders})
			}
		}
	}
	return list
}

func TestInvalidLeaders(t *testing.T) {
	for _, x := range invalidlyLed() {
		expectNoWaves(t, x)
	}
}

func TestWavesOfInvalidGraphs(t *testing.T) {
	for _, x := range ledInvalidGraphs() {
		expectNoWaves(t, x)
	}
}

func TestWavesOfInvalidCommittees(t *testing.T) {
	for _, x := range ledByInvalidCommittees() {
		expectNoWaves(t, x)
	}
}

// A list is a graph of one committee, or leaders of it, and not of another one. With other weights, the same votes do not commit a wave.
func TestWavesOfOtherCommittees(t *testing.T) {
	g := evenGraph([]int{0, 1}, 3)
	expectWaves(t, led{[]int{9, 5, 3, 1}, g, []int{0}}, 1)
	expectWaves(t, led{[]int{9, 5, 3, 1}, g, []int{3}})
	expectNoWaves(t, led{[]int{1, 1, 1}, g, []int{0}})
	expectNoWaves(t, led{[]int{1, 1}, g, []int{2}})
	expectNoWaves(t, led{[]int{9}, g, []int{0}})
	voted := votedGraph([]int{1, 1, 1, 1}, 1, 3, 15, 3)
	expectWaves(t, led{[]int{1, 1, 1, 1}, voted, []int{3}}, 1)
	expectWave(t, led{[]int{1, 1, 1, 1}, voted, []int{3}}, 1, 7, 2)
	expectWaves(t, led{[]int{1, 1, 4, 1}, voted, []int{3}})
	expectWave(t, led{[]int{1, 1, 4, 1}, voted, []int{3}}, 1, 7, 2)
	expectWaves(t, led{[]int{3, 1, 5, 1}, voted, []int{3}}, 1)
	expectWave(t, led{[]int{3, 1, 5, 1}, voted, []int{3}}, 1, 7, 4)
}

func TestWavesAreApart(t *testing.T) {
	for _, x := range append(manyLed(), led{[]int{1, 1}, fullGraph([]int{1, 1}, 3), []int{2}}, led{[]int{0}, fullGraph([]int{1}, 3), []int{0}}) {
		c, g, leaders := roomyList(x.c), roomy(x.g), roomyList(x.leaders)
		impl.LeadersValid(c, leaders)
		for _, wave := range []int{0, 1, 2, len(leaders), len(leaders) + 1} {
			impl.WaveLeader(c, g, leaders, wave)
			impl.WaveVotes(c, g, leaders, wave)
			impl.WaveDirect(c, g, leaders, wave)
		}
		one, two := impl.CommitWaves(c, g, leaders), impl.CommitWaves(c, g, leaders)
		kept := slices.Clone(two)
		if !slices.Equal(one, two) {
			t.Fatalf("in %v, two results for %v with the leaders %v are %v and %v", x.c, x.g, x.leaders, one, two)
		}
		spoil(one)
		if !slices.Equal(two, kept) || !isUntouchedList(c, x.c) || !isUntouched(g, x.g) || !isUntouchedList(leaders, x.leaders) {
			t.Fatalf("in %v, %v with the leaders %v are changed, or share their memory with the waves, or two results do", x.c, x.g, x.leaders)
		}
	}
}
