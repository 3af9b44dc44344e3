package potential_test

import (
	"math"
	"math/rand/v2"
	"slices"
	"strings"
	"testing"

	"customhouse/api"
)

// with returns a list with one more element, at its place in the order of the model; elements that the model puts nowhere come first if I or J is negative, and last otherwise.
func with(l []api.Potential, p api.Potential) []api.Potential {
	at := slices.IndexFunc(l, func(q api.Potential) bool { return isBehind(q, p) })
	if at < 0 {
		at = len(l)
	}
	return slices.Insert(slices.Clone(l), at, p)
}

// isBehind says whether the state of an element comes behind that of another one.
func isBehind(q, p api.Potential) bool {
	if q.I != p.I {
		return q.I > p.I
	}
	if q.J != p.J {
		return q.J > p.J
	}
	if q.Ahead != p.Ahead {
		return q.Ahead > p.Ahead
	}
	return q.Right && !p.Right
}

// certificate is one that holds for two words and a bound.
type certificate struct {
	table api.Table
	pair  pair
	bound int
	list  []api.Potential
}

// good are certificates that hold.
func good() []certificate {
	texts := tableOf(rule(plain, "a", "x", 1), rule(plain, "a", "xy", 1), rule(plain, "b", "x", 1), rule(plain, "b", "xy", 1), rule(plain, "c", "y", 0), rule(plain, "d", "", 0), rule(plain, "e", "y", 4))
	return []certificate{
		{example(), pair{plain, "ab", plain, "ac"}, 2, list("0 0 2; 1 0 a 2; 1 1 2; 2 1 b 2")},
		{example(), pair{plain, "ab", plain, "ac"}, 1, list("0 0 1; 1 0 a 1; 1 1 1; 2 1 b 1")},
		{example(), pair{plain, "cc", plain, "cc"}, 8, list("0 0 8; 1 0 b 6; 1 1 4; 2 1 b 2")},
		{example(), pair{plain, "a", plain, "b"}, 100000, list("0 0 100000; 1 0 a 100000")},
		{texts, pair{plain, "ac", plain, "be"}, 6, list("0 0 6; 1 0 x 5; 1 0 xy 5; 1 1 4; 1 1 y 6; 1 1 >y 6; 1 2 6; 2 1 6; 2 1 y 4; 2 2 y 6; 2 2 >y 6")},
		{scripts(), pair{plain, "na", abjad, "n'"}, 3, list("0 0 3; 1 0 n 3; 1 1 1; 2 1 a 1")},
		{scripts(), pair{cased, "AA'", cased, "a'A"}, 2, list("0 0 2; 1 0 a 2; 1 1 >a 1")},
	}
}

// P12.1, L2: certificates hold that are not those of Make: with states that no moves lead to, with any text of small letters ahead, and with an H that is less than it could be.
func TestCheckOfOtherCertificates(t *testing.T) {
	for _, one := range good() {
		checkVerdict(t, one.table, one.pair, one.bound, one.list, true)
	}
	ac, c := pair{plain, "ab", plain, "ac"}, pair{plain, "cc", plain, "cc"}
	for _, test := range []struct {
		pair  pair
		bound int
		list  string
	}{
		{ac, 2, "0 0 2; 1 0 a 2; 1 1 2; 1 1 zzz 2; 2 1 b 2"}, {ac, 2, "0 0 2; 1 0 a 2; 1 1 2; 1 1 zzz 1; 2 1 b 2"}, {ac, 2, "0 0 2; 1 0 a 2; 1 1 2; 2 1 b 2; 2 1 >b 2"}, {ac, 2, "0 0 2; 1 0 a 2; 1 1 2; 2 1 b 2; 2 2 a 2; 2 2 >a 2; 2 2 zzz 2; 2 2 >zzz 2"},
		{ac, 2, "0 0 2; 0 0 q 2; 0 0 >q 1; 0 2 >b 2; 1 0 a 2; 1 1 2; 2 0 2; 2 1 >a 2; 2 1 b 2; 2 1 q 2"}, {ac, 2, "0 0 2; 1 0 a 2; 1 1 2; 2 0 1; 2 1 >a 1; 2 1 b 2"}, {ac, 2, "0 0 2; 0 1 2; 1 0 a 2; 1 1 2; 1 1 a 2; 2 1 b 2"}, {ac, 1, "0 0 1; 1 0 a 1; 1 1 1; 2 1 1; 2 1 b 1"}, {ac, 2, "0 0 2; 1 0 a 2; 1 1 2; 2 1 2; 2 1 b 2; 2 2 >b 1"},
		// States to which no moves lead from the begin, but from which moves lead on.
		{ac, 2, "0 0 2; 0 1 >a 2; 1 0 a 2; 1 1 2; 2 1 b 2"}, {ac, 2, "0 0 2; 1 0 a 2; 1 1 2; 2 0 ab 2; 2 1 b 2"}, {ac, 2, "0 0 2; 1 0 a 2; 1 1 2; 2 0 a 2; 2 1 2; 2 1 b 2"}, {ac, 2, "0 0 2; 0 0 >b 2; 1 0 a 2; 1 1 2; 2 1 b 2"},
		// What costs 2 need not have an H, if the H of the states before it is as much less.
		{c, 6, "0 0 6; 1 0 b 4; 1 1 2"}, {c, 4, "0 0 4; 1 0 b 2"}, {c, 2, "0 0 2"}, {c, 1, "0 0 1"}, {c, 7, "0 0 7; 1 0 b 5; 1 1 3; 2 1 b 1"}, {c, 7, "0 0 7; 1 0 b 6; 1 1 4; 2 1 b 2"}, {c, 2, "0 0 2; 1 0 b 1"}, {c, 3, "0 0 3; 1 0 b 1"}, {c, 2, "0 0 2; 1 1 2; 2 1 b 1"}, {c, 2, "0 0 2; 1 1 2"}, {c, 1, "0 0 1; 2 1 b 1"},
	} {
		checkVerdict(t, example(), test.pair, test.bound, list(test.list), true)
	}
	// The H of a state without moves is any one up to the bound.
	for _, h := range []int{1, 2, 50000, 99999, 100000} {
		l := list("0 0 100000; 1 0 a 100000; 1 1 q 1")
		l[2].H = h
		checkVerdict(t, example(), pair{plain, "a", plain, "b"}, 100000, l, true)
	}
}

// P12.1, L2: elements that are none, each at its place in the order of states, so that nothing else is wrong.
func TestCheckOfWrongElements(t *testing.T) {
	for _, one := range good() {
		wrong := func(p api.Potential) {
			t.Helper()
			for _, h := range []int{1, one.bound} {
				p.H = h
				checkVerdict(t, one.table, one.pair, one.bound, with(one.list, p), false)
			}
		}
		i, j := len(lettersOf(one.pair.a, one.pair.x)), len(lettersOf(one.pair.b, one.pair.y))
		// The end.
		wrong(api.Potential{I: i, J: j})
		for _, text := range []string{"", "q"} {
			// More letters than there are, or fewer than none.
			for _, n := range []int{-1, -2, -12, -256, -1 << 32, math.MinInt} {
				wrong(api.Potential{I: n, Ahead: text})
				wrong(api.Potential{J: n, Ahead: text})
				wrong(api.Potential{I: i, J: n, Ahead: text})
				wrong(api.Potential{I: n, J: n, Ahead: text})
			}
			for _, n := range []int{1, 2, 12, 13, 256, 1 << 32, math.MaxInt - 12} {
				wrong(api.Potential{I: i + n, Ahead: text})
				wrong(api.Potential{I: i + n, J: j, Ahead: text})
				wrong(api.Potential{J: j + n, Ahead: text})
				wrong(api.Potential{I: i, J: j + n, Ahead: text})
			}
		}
		// Nothing ahead of the right word.
		for _, at := range [][2]int{{0, 0}, {0, j}, {i, 0}, {i, j}, {i - 1, j}, {i, j - 1}} {
			wrong(api.Potential{I: at[0], J: at[1], Right: true})
		}
		// What rules cannot write is ahead.
		for _, text := range []string{"qqqq", "aaaa", "abcd", "zzzzz", rep("a", 256), rep("z", 1<<20), "A", "Q", "Z", "1", "0", " ", "'", "-", "`", "{", "@", "[", "\x00", "\n", "\x7f", "\x80", "\xff", "é", "ä", "aA", "Aa", "aaA", "aAa", "Aaa", "a ", " a", "a\x00", "a\x00a", "qé", "éq", "q\xff", "qq\x80", "q`", "q{", "a'", "日"} {
			for _, isRight := range []bool{false, true} {
				wrong(api.Potential{I: i, J: j, Ahead: text, Right: isRight})
				wrong(api.Potential{I: i - 1, J: j, Ahead: text, Right: isRight})
				wrong(api.Potential{Ahead: text, Right: isRight})
			}
		}
		// All of this is right with other texts.
		for _, text := range []string{"q", "qq", "qqq", "zzz", "qz"} {
			for _, isRight := range []bool{false, true} {
				checkVerdict(t, one.table, one.pair, one.bound, with(one.list, api.Potential{I: i, J: j, Ahead: text, Right: isRight, H: one.bound}), true)
				checkVerdict(t, one.table, one.pair, one.bound, with(one.list, api.Potential{I: 0, J: j, Ahead: text, Right: isRight, H: 1}), true)
			}
		}
	}
}

// P12.1, L2: states that are equal, or not in order, each of I, J, Ahead and Right.
func TestCheckOfTheOrder(t *testing.T) {
	for _, one := range good() {
		for i := range one.list {
			for _, h := range []int{1, one.list[i].H, one.bound} {
				again := one.list[i]
				again.H = h
				checkVerdict(t, one.table, one.pair, one.bound, slices.Insert(slices.Clone(one.list), i, again), false)
				checkVerdict(t, one.table, one.pair, one.bound, slices.Insert(slices.Clone(one.list), i+1, again), false)
				checkVerdict(t, one.table, one.pair, one.bound, append(slices.Clone(one.list), again), false)
			}
			for j := range i {
				other := slices.Clone(one.list)
				other[i], other[j] = other[j], other[i]
				checkVerdict(t, one.table, one.pair, one.bound, other, false)
			}
		}
	}
	// Pairs of states that no moves lead on from, and to, next to each other: the first one comes first.
	p := pair{plain, "aaa", plain, "bbb"}
	start := list("0 0 5; 1 0 a 5")
	for _, text := range []string{
		"1 3 q 5; 2 0 q 5", "2 3 zzz 5; 3 1 q 5", "3 1 q 5; 3 2 q 5", "3 2 zz 5; 3 3 a 5", "3 3 a 5; 3 3 b 5", "3 3 a 5; 3 3 aa 5", "3 3 aa 5; 3 3 aaa 5", "3 3 aaa 5; 3 3 b 5", "3 3 az 5; 3 3 ba 5", "3 3 zz 5; 3 3 zzz 5", "3 3 >q 5; 3 3 qa 5", "3 3 q 5; 3 3 >q 5", "3 3 qzz 5; 3 3 >qzz 5", "2 3 >q 5; 3 3 q 5", "3 1 >q 5; 3 2 q 5", "3 2 >b 5; 3 3 a 5", "3 3 >a 5; 3 3 b 5", "3 3 >aa 5; 3 3 ab 5", "1 3 zzz 5; 2 0 a 5", "2 0 >zzz 5; 2 1 q 5",
	} {
		l := list(text)
		checkVerdict(t, example(), p, 5, slices.Concat(start, l), true)
		slices.Reverse(l)
		checkVerdict(t, example(), p, 5, slices.Concat(start, l), false)
		for _, h := range []int{1, 4, 5} {
			again := l[0]
			again.H = h
			checkVerdict(t, example(), p, 5, append(slices.Clone(start), l[0], again), false)
		}
	}
}

// P12.1, L2: an H is at least 1, not greater than the bound, and not greater than MaxBound.
func TestCheckOfH(t *testing.T) {
	for _, one := range good() {
		for i := range one.list {
			for _, h := range []int{0, -1, -2, -one.bound, math.MinInt, math.MinInt + 1, -1 << 32, one.bound + 1, one.bound + 2, 100001, math.MaxInt, 1 << 32, 1<<32 + one.list[i].H, 1<<16 + 1<<20} {
				l := slices.Clone(one.list)
				l[i].H = h
				checkVerdict(t, one.table, one.pair, one.bound, l, false)
			}
		}
		// The same for states that no moves lead on from.
		for _, h := range []int{0, -1, math.MinInt, one.bound + 1, 100001, math.MaxInt} {
			checkVerdict(t, one.table, one.pair, one.bound, with(one.list, api.Potential{I: 1, J: 2, Ahead: "qqq", H: h}), false)
		}
	}
	// No H is greater than MaxBound, so that nothing holds for a greater bound.
	for _, bound := range []int{100001, 100002, 200000, 1 << 32, math.MaxInt - 1, math.MaxInt} {
		for _, h := range []int{bound, 100001, 100000, 1} {
			l := list("0 0 1; 1 0 a 1")
			l[0].H, l[1].H = h, h
			checkVerdict(t, example(), pair{plain, "a", plain, "b"}, bound, l, false)
			checkVerdict(t, example(), pair{plain, "x", plain, "b"}, bound, l[:1], false)
		}
		checkVerdict(t, example(), pair{plain, "a", plain, "b"}, bound, nil, false)
	}
}

// P12.1, L2: an H that is one too great for one of the moves, and the H of the begin that is one too small.
func TestCheckOfMoves(t *testing.T) {
	c := pair{plain, "cc", plain, "cc"}
	for _, text := range []string{
		"0 0 8; 1 0 b 7; 1 1 4; 2 1 b 2", "0 0 8; 1 0 b 6; 1 1 5; 2 1 b 2", "0 0 8; 1 0 b 6; 1 1 4; 2 1 b 3", "0 0 8; 1 0 b 7; 1 1 5; 2 1 b 3", "0 0 8; 1 0 b 5; 1 1 4; 2 1 b 2", "0 0 8; 1 0 b 6; 1 1 3; 2 1 b 2", "0 0 8; 1 0 b 6; 1 1 4; 2 1 b 1", "0 0 7; 1 0 b 6; 1 1 4; 2 1 b 2",
		// A state left out, to which a move leads.
		"1 0 b 6; 1 1 4; 2 1 b 2", "0 0 8; 1 1 4; 2 1 b 2", "0 0 8; 1 0 b 6; 2 1 b 2", "0 0 8; 1 0 b 6; 1 1 4", "0 0 8", "2 1 b 2", "1 0 b 8", "",
		// The states of other texts, or of the other word.
		"0 0 8; 1 0 a 6; 1 1 4; 2 1 b 2", "0 0 8; 1 0 >b 6; 1 1 4; 2 1 b 2", "0 0 8; 1 0 bb 6; 1 1 4; 2 1 b 2", "0 0 8; 1 0 b 6; 1 1 4; 2 1 >b 2", "0 0 8; 1 0 b 6; 1 1 b 4; 2 1 b 2", "0 0 8; 1 0 b 6; 1 1 4; 1 2 b 2", "0 0 8; 0 1 b 6; 1 1 4; 2 1 b 2", "0 0 b 8; 1 0 b 6; 1 1 4; 2 1 b 2",
	} {
		checkVerdict(t, example(), c, 8, list(text), false)
	}
	// A state to which no moves lead from the begin must fit its own moves all the same.
	for _, text := range []string{
		"0 0 2; 1 0 a 2; 1 1 2; 1 2 >b 1; 2 1 b 2", "0 0 2; 0 2 >ab 1; 1 0 a 2; 1 1 2; 2 1 b 2", "0 0 2; 1 0 a 2; 1 1 2; 2 0 a 1; 2 1 b 2", "0 0 2; 1 0 a 2; 1 1 2; 2 0 a 2; 2 1 1; 2 1 b 2", "0 0 2; 0 1 1; 1 0 a 2; 1 1 2; 2 1 b 2", "0 0 2; 1 0 a 2; 1 1 2; 2 0 1; 2 1 b 2",
	} {
		checkVerdict(t, example(), pair{plain, "ab", plain, "ac"}, 2, list(text), false)
	}
	// Each of several moves counts: those that write nothing, those after which the right word has written more, and those that lead to the end.
	several := tableOf(rule(plain, "a", "x", 5), rule(plain, "a", "y", 3), rule(plain, "a", "", 4), rule(plain, "b", "x", 6), rule(plain, "b", "xz", 1), rule(plain, "b", "", 2))
	for text, want := range map[string]bool{
		"0 0 6; 1 0 2; 1 0 x 6; 1 0 y 6; 1 1 x 6; 1 1 >x 6; 1 1 >xz 6; 1 1 y 6; 1 1 >z 6": true, "0 0 6; 1 0 2; 1 0 x 6; 1 0 y 6; 1 1 x 4; 1 1 >xz 1; 1 1 y 4; 1 1 >z 5": true, "0 0 6; 1 0 2; 1 0 x 1; 1 0 y 3; 1 1 >xz 1; 1 1 y 1": true,
		"0 0 6; 1 0 2; 1 0 x 6; 1 0 y 6; 1 1 x 3; 1 1 >xz 1; 1 1 y 4; 1 1 >z 5": false, "0 0 6; 1 0 2; 1 0 x 6; 1 0 y 6; 1 1 x 4; 1 1 y 4; 1 1 >z 5": false, "0 0 6; 1 0 2; 1 0 x 6; 1 0 y 6; 1 1 x 4; 1 1 >xz 1; 1 1 y 3; 1 1 >z 5": false, "0 0 6; 1 0 2; 1 0 x 6; 1 0 y 6; 1 1 x 4; 1 1 >xz 1; 1 1 y 4; 1 1 >z 4": false,
		"0 0 6; 1 0 1; 1 0 x 6; 1 0 y 6; 1 1 x 4; 1 1 >xz 1; 1 1 y 4; 1 1 >z 5": false, "0 0 6; 1 0 3; 1 0 x 6; 1 0 y 6; 1 1 x 6; 1 1 >x 6; 1 1 >xz 6; 1 1 y 6; 1 1 >z 6": false, "0 0 6; 1 0 2; 1 0 y 3; 1 1 >xz 1; 1 1 y 1": false, "0 0 6; 1 0 2; 1 0 x 1; 1 0 y 2; 1 1 >xz 1; 1 1 y 1": false, "0 0 6; 1 0 2; 1 0 x 1; 1 0 y 3; 1 1 >xz 1": false,
	} {
		checkVerdict(t, several, pair{plain, "a", plain, "b"}, 6, list(text), want)
	}
}

// P12.1, L2, and P12.9: for bounds that are not positive just the empty list holds, and for others it does not.
func TestCheckOfEmptyLists(t *testing.T) {
	for _, one := range good() {
		for _, bound := range []int{0, -1, -2, -100000, -100001, -1 << 32, math.MinInt, math.MinInt + 1} {
			checkVerdict(t, one.table, one.pair, bound, nil, true)
			checkVerdict(t, one.table, one.pair, bound, []api.Potential{}, true)
			checkVerdict(t, one.table, one.pair, bound, one.list, false)
			for _, h := range []int{bound, 0, 1, -1, 100000, bound - 1, bound + 1} {
				checkVerdict(t, one.table, one.pair, bound, []api.Potential{{H: h}}, false)
				checkVerdict(t, one.table, one.pair, bound, []api.Potential{{I: 1, J: 1, Ahead: "qqq", H: h}}, false)
			}
		}
		for _, bound := range []int{1, 2, 8, 100000, 100001, math.MaxInt} {
			checkVerdict(t, one.table, one.pair, bound, nil, false)
			checkVerdict(t, one.table, one.pair, bound, []api.Potential{}, false)
		}
	}
	checkVerdict(t, example(), pair{plain, "ab", plain, "ab"}, 0, nil, true)
	checkVerdict(t, example(), pair{plain, "ab", plain, "ab"}, 1, nil, false)
}

// randomHolding returns a certificate that holds for a positive bound, with states to which no moves lead, and with some H's that are less than they could be, or none if it found no such bound.
func randomHolding(r *rand.Rand, m solved) (int, []api.Potential) {
	h := map[place]int{}
	limit := 1 + r.IntN(pick(r, []int{3, 30, 3000, 100000}))
	odds := pick(r, []int{4, 40, 1 << 30})
	for _, at := range slices.Backward(byUse(m.places())) {
		most := min(limit, m.costs[at])
		for _, move := range m.moves(at) {
			most = min(most, move.cost+h[move.to])
		}
		if most > 0 && r.IntN(odds) == 0 {
			most = r.IntN(most + 1)
		}
		if m.reached[at] == 0 && r.IntN(2) == 0 {
			most = 0
		}
		h[at] = most
	}
	var l []api.Potential
	for _, at := range m.places() {
		if h[at] > 0 {
			l = append(l, at.element(h[at]))
		}
	}
	return h[place{}], lesser(l, h[place{}])
}

// changed returns a certificate in which something was changed at random.
func changed(r *rand.Rand, l []api.Potential, bound int) []api.Potential {
	l = slices.Clone(l)
	i := r.IntN(len(l))
	switch r.IntN(8) {
	case 0, 1:
		l[i].H += pick(r, []int{-1, 1, -2, 2, 1000})
	case 2:
		l = slices.Delete(l, i, i+1)
	case 3:
		j := r.IntN(len(l))
		l[i], l[j] = l[j], l[i]
	case 4:
		l[i].Right = !l[i].Right
	case 5:
		l[i].Ahead = pick(r, []string{"", "a", "aa", "b", "ab", l[i].Ahead + "a", l[i].Ahead[min(1, len(l[i].Ahead)):]})
	case 6:
		one := api.Potential{I: r.IntN(5) - 1 + l[i].I, J: r.IntN(5) - 1 + l[i].J, Ahead: pick(r, []string{"", "a", "aa", "b", "q", "zzz", "aaaa", "A"}), Right: r.IntN(2) == 0, H: 1 + r.IntN(max(1, bound+1))}
		l = with(l, one)
	case 7:
		if r.IntN(2) == 0 {
			l[i].I += pick(r, []int{-1, 1})
		} else {
			l[i].J += pick(r, []int{-1, 1})
		}
	}
	return l
}

// P12.1, L2: Check agrees with the model about certificates that hold, and about what comes from them by one change.
func TestCheckAgreesWithTheModel(t *testing.T) {
	r := rand.New(rand.NewPCG(12, 4))
	counts := map[bool]int{}
	beyond := 0
	for range 1500 {
		table, p := randomCase(r, pick(r, []int{8, 12}), 5)
		m := newSolved(table, p)
		bound, l := randomHolding(r, m)
		if bound == 0 {
			continue
		}
		if !p.check(table, bound, l) || !m.holds(bound, l) {
			t.Fatalf("%v does not hold for %v and %d, with %v", l, p, bound, table.Rules)
		}
		if made, _ := m.wanted(bound); !slices.Equal(made, l) {
			beyond++
		}
		for range 20 {
			l := changed(r, l, bound)
			bound := bound + pick(r, []int{0, 0, 0, 0, 0, 1, -1, -bound})
			want := m.holds(bound, l)
			if p.check(table, bound, l) != want {
				t.Fatalf("Check of %v, for %v and %d, is %t, with %v", l, p, bound, !want, table.Rules)
			}
			counts[want]++
		}
	}
	if min(counts[true], counts[false]) < 3000 || beyond < 500 {
		t.Fatalf("the certificates hold or not: %v; %d are not those of Make", counts, beyond)
	}
}

// P12.1, L2: letters, and not bytes, are counted, and capital letters are small ones.
func TestCheckOfLettersOfTwoBytes(t *testing.T) {
	table := tableOf(rule(cased, "a'", "a", 1), rule(cased, "a", "b", 1), rule(syllab, "ka", "ka", 2), rule(syllab, "n", "n", 0))
	for _, test := range []struct {
		pair  pair
		bound int
		list  string
		want  bool
	}{
		{pair{cased, "A'a", cased, "a'A"}, 4, "0 0 4; 1 0 a 3; 1 1 2; 2 1 b 1", true}, {pair{cased, "A'a", cased, "a'A"}, 4, "0 0 4; 1 0 a 3; 1 1 2; 2 1 b 1; 2 2 b 1", true}, {pair{cased, "A'a", cased, "a'A"}, 4, "0 0 4; 1 0 a 3; 1 1 2; 2 1 b 1; 3 2 b 1", false}, {pair{cased, "A'a", cased, "a'A"}, 4, "0 0 4; 1 0 a 3; 1 1 2; 2 1 b 1; 2 3 b 1", false}, {pair{cased, "A'a", cased, "a'A"}, 4, "0 0 4; 1 0 a 3; 1 1 2; 2 1 b 1; 2 2 1", false},
		{pair{syllab, "kan", syllab, "kan"}, 4, "0 0 4; 1 0 ka 2", true}, {pair{syllab, "kan", syllab, "kan"}, 4, "0 0 4; 1 0 ka 2; 3 3 n 1", false}, {pair{syllab, "kan", syllab, "kan"}, 4, "0 0 4; 1 0 ka 2; 2 3 n 1", false}, {pair{syllab, "kan", syllab, "kan"}, 4, "0 0 4; 1 0 ka 2; 2 2 n 1", true}, {pair{syllab, "kan", syllab, "kan"}, 4, "0 0 4; 2 0 ka 2", false},
	} {
		checkVerdict(t, table, test.pair, test.bound, list(test.list), test.want)
		if test.want {
			p := test.pair
			p.x, p.y = strings.ToLower(p.x), strings.ToLower(p.y)
			checkVerdict(t, table, p, test.bound, list(test.list), true)
		}
	}
}
