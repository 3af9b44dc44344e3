package tree

import (
	"math"
	"math/bits"
	"slices"
	"strconv"
	"strings"
	"testing"

	"customhouse/api"
	"customhouse/digest"
)

// letters returns the list a, b, c and so on: after z follow a1, b1 and so on.
func letters(n int) []string {
	l := []string{}
	for i := range n {
		text := string(rune('a' + i%26))
		if i >= 26 {
			text += strconv.Itoa(i / 26)
		}
		l = append(l, text)
	}
	return l
}

// shaped returns the root that a shape describes: a letter is a list of one string, and (AB) a list of two parts.
func shaped(shape string) string {
	root, left := shapedAndLeft(shape)
	if left != "" {
		panic("shape " + shape)
	}
	return root
}

func shapedAndLeft(shape string) (root, left string) {
	if shape[0] != '(' {
		return digest.List([]string{"leaf", shape[:1]}), shape[1:]
	}
	first, left := shapedAndLeft(shape[1:])
	others, left := shapedAndLeft(left)
	return digest.List([]string{"node", first, others}), strings.TrimPrefix(left, ")")
}

// allShaped returns the roots that shapes, with spaces between them, describe.
func allShaped(shapes string) []string {
	l := []string{}
	for _, shape := range strings.Fields(shapes) {
		l = append(l, shaped(shape))
	}
	return l
}

// kinds are lists of n strings: different ones, equal ones, empty ones, and such as contain the words and texts that are digested.
func kinds(n int) [][]string {
	odd := []string{"", "leaf", "node", "empty", "\x00", "\xff\xfe", "1:a", "4:leaf1:a", digest.List([]string{"leaf", "a"}), "4:node16:", strings.Repeat("long ", 50)}
	l := [][]string{letters(n), make([]string, n), slices.Repeat([]string{"same"}, n), nil}
	for i := range n {
		l[3] = append(l[3], odd[i%len(odd)])
	}
	return l
}

// fake returns so many different digests.
func fake(n int) []string {
	l := []string{}
	for i := range n {
		l = append(l, digest.Sum("fake "+strconv.Itoa(i)))
	}
	return l
}

// climbed computes the root from a path without a recursion, from the numbers of the element and of the last one: a part without a neighbour on its right is passed on upwards.
func climbed(n, i int, leaf string, path []string) (root string, fits bool) {
	at, last, root := i, n-1, digest.List([]string{"leaf", leaf})
	for _, p := range path {
		if last == 0 {
			return "", false
		}
		if at%2 == 1 || at == last {
			root = digest.List([]string{"node", p, root})
			for at%2 == 0 && at != 0 {
				at, last = at/2, last/2
			}
		} else {
			root = digest.List([]string{"node", root, p})
		}
		at, last = at/2, last/2
	}
	return root, last == 0
}

// climbedTwo computes both roots from a link without a recursion, 0 < m < n: upwards from the last of the first m elements.
func climbedTwo(old string, m, n int, link []string) (begin, whole string, fits bool) {
	if bits.OnesCount(uint(m)) == 1 {
		link = append([]string{old}, link...)
	}
	if len(link) == 0 {
		return "", "", false
	}
	at, last := m-1, n-1
	for at%2 == 1 {
		at, last = at/2, last/2
	}
	begin, whole = link[0], link[0]
	for _, p := range link[1:] {
		if last == 0 {
			return "", "", false
		}
		if at%2 == 1 || at == last {
			begin, whole = digest.List([]string{"node", p, begin}), digest.List([]string{"node", p, whole})
			for at%2 == 0 && at != 0 {
				at, last = at/2, last/2
			}
		} else {
			whole = digest.List([]string{"node", whole, p})
		}
		at, last = at/2, last/2
	}
	return begin, whole, last == 0
}

// depth returns the number of elements of the path of the element i of n elements.
func depth(n, i int) int {
	for count := 0; ; count++ {
		if _, fits := climbed(n, i, "", fake(count)); fits {
			return count
		}
	}
}

// linkSize returns the number of elements of the link from m of n elements, 0 < m < n.
func linkSize(m, n int) int {
	for count := 0; ; count++ {
		if _, _, fits := climbedTwo("", m, n, fake(count)); fits {
			return count
		}
	}
}

// sizes are numbers of elements around powers of two, up to the greatest one, some of them with many digits 1.
func sizes() []int {
	l := []int{999999, 1000000, 983039, 699050, 524287 + 131072}
	for n := 4; n < 1000000; n *= 2 {
		l = append(l, n-1, n, n+1)
	}
	return l
}

// places are numbers from 0 to n: at both ends, in the middle, and around powers of two.
func places(n int) []int {
	l := []int{0, 1, n / 3, n / 2, n/2 + 1, n - 2, n - 1, n}
	for k := 1; k < n; k *= 2 {
		l = append(l, k-1, k, min(k+1, n), n-k)
	}
	return l
}

// P2.1, B1.
func TestRootOfKnownLists(t *testing.T) {
	if got, want := Root(nil), digest.List([]string{"empty"}); got != want || Root([]string{}) != want {
		t.Errorf("the root of the empty list is %s, want %s", got, want)
	}
	for i, shape := range []string{"a", "(ab)", "((ab)c)", "((ab)(cd))", "(((ab)(cd))e)", "(((ab)(cd))(ef))", "(((ab)(cd))((ef)g))", "(((ab)(cd))((ef)(gh)))", "((((ab)(cd))((ef)(gh)))i)", "((((ab)(cd))((ef)(gh)))(ij))", "((((ab)(cd))((ef)(gh)))((ij)k))", "((((ab)(cd))((ef)(gh)))((ij)(kl)))", "((((ab)(cd))((ef)(gh)))(((ij)(kl))m))"} {
		if got, want := Root(letters(i+1)), shaped(shape); got != want {
			t.Errorf("the root of %d strings is %s, want %s", i+1, got, want)
		}
	}
	for _, text := range []string{"", "leaf", "\x00\xff", "1:a"} {
		if got, want := Root([]string{text}), digest.List([]string{"leaf", text}); got != want {
			t.Errorf("the root of %q is %s, want %s", text, got, want)
		}
	}
}

// P2.1, B1.
func TestPathOfKnownLists(t *testing.T) {
	for _, test := range []struct {
		n, i int
		want string
	}{
		{1, 0, ""},
		{2, 0, "b"}, {2, 1, "a"},
		{3, 0, "b c"}, {3, 1, "a c"}, {3, 2, "(ab)"},
		{4, 0, "b (cd)"}, {4, 2, "d (ab)"}, {4, 3, "c (ab)"},
		{5, 0, "b (cd) e"}, {5, 3, "c (ab) e"}, {5, 4, "((ab)(cd))"},
		{6, 1, "a (cd) (ef)"}, {6, 4, "f ((ab)(cd))"}, {6, 5, "e ((ab)(cd))"},
		{7, 1, "a (cd) ((ef)g)"}, {7, 4, "f g ((ab)(cd))"}, {7, 6, "(ef) ((ab)(cd))"},
		{8, 5, "e (gh) ((ab)(cd))"},
		{9, 0, "b (cd) ((ef)(gh)) i"}, {9, 8, "(((ab)(cd))((ef)(gh)))"},
		{11, 10, "(ij) (((ab)(cd))((ef)(gh)))"}, {13, 9, "i (kl) m (((ab)(cd))((ef)(gh)))"},
	} {
		got, err := Path(letters(test.n), test.i)
		if err != api.OK || !slices.Equal(got, allShaped(test.want)) {
			t.Errorf("Path of %d in %d: %v, %d, want %s", test.i, test.n, got, err, test.want)
		}
	}
}

// P2.1, B3: of none, of all, of a part that is a subtree, and of others.
func TestLinkOfKnownLists(t *testing.T) {
	for _, test := range []struct {
		n, m int
		want string
	}{
		{0, 0, ""},
		{1, 0, ""}, {1, 1, ""},
		{2, 0, ""}, {2, 1, "b"}, {2, 2, ""},
		{3, 0, ""}, {3, 1, "b c"}, {3, 2, "c"}, {3, 3, ""},
		{4, 1, "b (cd)"}, {4, 2, "(cd)"}, {4, 3, "c d (ab)"}, {4, 4, ""},
		{5, 1, "b (cd) e"}, {5, 2, "(cd) e"}, {5, 3, "c d (ab) e"}, {5, 4, "e"}, {5, 5, ""},
		{6, 4, "(ef)"}, {6, 5, "e f ((ab)(cd))"},
		{7, 0, ""}, {7, 1, "b (cd) ((ef)g)"}, {7, 2, "(cd) ((ef)g)"}, {7, 3, "c d (ab) ((ef)g)"}, {7, 4, "((ef)g)"}, {7, 5, "e f g ((ab)(cd))"}, {7, 6, "(ef) g ((ab)(cd))"}, {7, 7, ""},
		{8, 6, "(ef) (gh) ((ab)(cd))"}, {8, 7, "g h (ef) ((ab)(cd))"},
		{9, 8, "i"}, {12, 10, "(ij) (kl) (((ab)(cd))((ef)(gh)))"}, {13, 12, "((ij)(kl)) m (((ab)(cd))((ef)(gh)))"},
	} {
		got, err := Link(letters(test.n), test.m)
		if err != api.OK || !slices.Equal(got, allShaped(test.want)) {
			t.Errorf("Link of %d in %d: %v, %d, want %s", test.m, test.n, got, err, test.want)
		}
	}
}

// P2.1, B1 and B3, and P1: nothing comes with an error.
func TestPathAndLinkOfWhatIsNotThere(t *testing.T) {
	for n := range 10 {
		l := letters(n)
		for _, i := range []int{math.MinInt, -2, -1, n, n + 1, 1 << 40, math.MaxInt} {
			if got, err := Path(l, i); err != api.ErrArg || len(got) > 0 {
				t.Errorf("Path of %d in %d: %v, %d", i, n, got, err)
			}
			if got, err := Link(l, i); (i != n || err != api.OK) && err != api.ErrArg || len(got) > 0 {
				t.Errorf("Link of %d in %d: %v, %d", i, n, got, err)
			}
		}
	}
}

// P2.1, B2: as many digests as the path has prove the root that is computed from them, and only this one.
func TestCheckIsWhatTheWordsSay(t *testing.T) {
	check := func(n, i int) {
		path := fake(depth(n, i))
		root, _ := climbed(n, i, "x", path)
		if !Check(root, n, i, "x", path) {
			t.Errorf("%d of %d is not proved", i, n)
		}
		if Check(root, n, i, "y", path) || Check(root, n, i, "", path) || Check(root, n, i, root, path) || Check(digest.Sum("other"), n, i, "x", path) || Check("", n, i, "x", path) {
			t.Errorf("another string or root is proved for %d of %d", i, n)
		}
		for at := range path {
			other := slices.Clone(path)
			other[at] = digest.Sum("other")
			if Check(root, n, i, "x", other) || Check(root, n, i, "x", slices.Delete(slices.Clone(path), at, at+1)) || Check(root, n, i, "x", slices.Insert(slices.Clone(path), at, root)) {
				t.Errorf("%d of %d is proved without the element %d of the path", i, n, at)
			}
		}
		for _, more := range []string{root, digest.Sum("fake 0"), Root(nil), ""} {
			if Check(root, n, i, "x", append(slices.Clone(path), more)) {
				t.Errorf("%d of %d is proved with %q more", i, n, more)
			}
		}
	}
	for n := 1; n <= 40; n++ {
		for i := range n {
			check(n, i)
		}
	}
	for _, n := range sizes() {
		for _, i := range places(n - 1) {
			check(n, i)
		}
	}
}

// P2.1, B2: another index or number of elements is only accepted if the same root is computed with it.
func TestCheckOfOtherPlaces(t *testing.T) {
	for n := 1; n <= 12; n++ {
		l := letters(n)
		root := Root(l)
		for i := range n {
			path, _ := Path(l, i)
			for other := range 26 {
				for at := range other {
					want, fits := climbed(other, at, l[i], path)
					if got := Check(root, other, at, l[i], path); got != (fits && want == root) {
						t.Errorf("the path of %d in %d for %d in %d: %t", i, n, at, other, got)
					}
				}
			}
		}
	}
}

// P2.1, B2: numbers out of their limits, whose path would have computed the root.
func TestCheckOfNumbersOutOfTheirLimits(t *testing.T) {
	leaf := digest.List([]string{"leaf", "x"})
	for _, n := range []int{-1, 0, math.MinInt, math.MaxInt, 1 << 62, 1<<62 + 1} {
		for _, i := range []int{-1, 0, 1, math.MinInt, math.MaxInt, n - 1} {
			if Check(leaf, n, i, "x", nil) || Check(leaf, n, i, "x", fake(1)) {
				t.Errorf("%d of %d", i, n)
			}
		}
	}
	for _, i := range []int{-1, 1, 2, math.MinInt, math.MaxInt} {
		if Check(leaf, 1, i, "x", nil) {
			t.Errorf("%d of 1", i)
		}
	}
	if !Check(leaf, 1, 0, "x", nil) || !Check(leaf, 1, 0, "x", []string{}) {
		t.Error("0 of 1")
	}
	for _, n := range []int{1000000, 1000001, 1048576, 1048577} {
		for _, i := range []int{0, 1, 499999, 999999} {
			path := fake(depth(n, i))
			root, _ := climbed(n, i, "x", path)
			if got := Check(root, n, i, "x", path); got != (n <= 1000000) {
				t.Errorf("%d of %d: %t", i, n, got)
			}
		}
	}
}

// noDigests are texts that are no digests.
func noDigests() []string {
	return []string{"", "x", "0123456789abcde", "0123456789abcdef0", "0123456789abcdeF", "0123456789ABCDEF", "0123456789abcde\n", strings.Repeat("\u00e9", 8), strings.Repeat("0", 1000)}
}

// P2.1, B2: what is no digest proves nothing, also if the root is computed from it.
func TestCheckOfWhatIsNoDigest(t *testing.T) {
	for _, bad := range noDigests() {
		for n := 2; n < 10; n++ {
			for i := range n {
				for at := range depth(n, i) {
					path := fake(depth(n, i))
					path[at] = bad
					root, fits := climbed(n, i, "x", path)
					if !fits || Check(root, n, i, "x", path) {
						t.Errorf("%d of %d with %q at %d", i, n, bad, at)
					}
				}
			}
		}
		if Check(bad, 1, 0, "x", nil) {
			t.Errorf("the root %q", bad)
		}
	}
}

// P2.1, B4: as many digests as the link has prove the roots that are computed from them, and only these.
func TestExtendsIsWhatTheWordsSay(t *testing.T) {
	check := func(m, n int) {
		link := fake(linkSize(m, n))
		old, root, _ := climbedTwo(digest.Sum("old"), m, n, link)
		if !Extends(old, m, root, n, link) {
			t.Errorf("%d of %d is not proved", m, n)
		}
		if other := digest.Sum("other"); Extends(other, m, root, n, link) || Extends(old, m, other, n, link) || Extends(root, m, old, n, link) || Extends(old, m, old, n, link) || Extends(root, m, root, n, link) || Extends(old, m, root, n, nil) {
			t.Errorf("another root is proved for %d of %d", m, n)
		}
		for at := range link {
			other := slices.Clone(link)
			other[at] = digest.Sum("other")
			if Extends(old, m, root, n, other) || Extends(old, m, root, n, slices.Delete(slices.Clone(link), at, at+1)) || Extends(old, m, root, n, slices.Insert(slices.Clone(link), at, old)) {
				t.Errorf("%d of %d is proved without the element %d of the link", m, n, at)
			}
		}
		for _, more := range []string{old, root, link[0], Root(nil), ""} {
			if Extends(old, m, root, n, append(slices.Clone(link), more)) {
				t.Errorf("%d of %d is proved with %q more", m, n, more)
			}
		}
	}
	for n := 2; n <= 40; n++ {
		for m := 1; m < n; m++ {
			check(m, n)
		}
	}
	for _, n := range sizes() {
		for _, m := range places(n) {
			if m > 0 && m < n {
				check(m, n)
			}
		}
	}
}

// P2.1, B4: of none and of all elements.
func TestExtendsOfNoneAndOfAll(t *testing.T) {
	empty, a, b := Root(nil), digest.Sum("a"), digest.Sum("b")
	for i, test := range []struct {
		old  string
		m    int
		root string
		n    int
		link []string
		want bool
	}{
		{empty, 0, empty, 0, nil, true},
		{empty, 0, empty, 0, []string{}, true},
		{empty, 0, empty, 0, []string{a}, false},
		{empty, 0, empty, 0, []string{empty}, false},
		{empty, 0, a, 0, nil, false},
		{a, 0, empty, 0, nil, false},
		{a, 0, a, 0, nil, false},
		{empty, 0, a, 1, nil, true},
		{empty, 0, empty, 1, nil, true},
		{empty, 0, a, 1, []string{a}, false},
		{empty, 0, a, 7, nil, true},
		{empty, 0, a, 1000000, nil, true},
		{empty, 0, a, 1000001, nil, false},
		{a, 0, a, 1, nil, false},
		{a, 0, b, 2, nil, false},
		{a, 0, b, 2, []string{a, b}, false},
		{a, 1, a, 1, nil, true},
		{a, 1, a, 1, []string{}, true},
		{a, 1, a, 1, []string{a}, false},
		{a, 1, b, 1, nil, false},
		{empty, 1, empty, 1, nil, true},
		{a, 3, a, 3, nil, true},
		{a, 3, b, 3, nil, false},
		{a, 3, a, 3, []string{a}, false},
		{a, 3, a, 3, []string{a, a}, false},
		{a, 4, a, 4, []string{a}, false},
		{a, 1000000, a, 1000000, nil, true},
		{a, 1000001, a, 1000001, nil, false},
	} {
		if got := Extends(test.old, test.m, test.root, test.n, test.link); got != test.want {
			t.Errorf("line %d: %t", i, got)
		}
	}
}

// P2.1, B4: numbers out of their limits.
func TestExtendsOfNumbersOutOfTheirLimits(t *testing.T) {
	numbers := []int{math.MinInt, -2, -1, 0, 1, 2, 3, 1000000, 1000001, 1 << 40, 1 << 62, math.MaxInt}
	empty, a := Root(nil), digest.Sum("a")
	for _, m := range numbers {
		for _, n := range numbers {
			allowed := 0 <= m && m <= n && n <= 1000000
			if got := Extends(empty, m, empty, n, nil); got != (allowed && (m == 0 || m == n)) {
				t.Errorf("%d of %d: %t", m, n, got)
			}
			if !allowed && (Extends(a, m, a, n, nil) || Extends(a, m, a, n, []string{a}) || Extends(empty, m, a, n, nil)) {
				t.Errorf("%d of %d", m, n)
			}
		}
	}
	for _, n := range []int{1000000, 1000001, 1048576, 1048577} {
		for _, m := range []int{1, 2, 3, 524288, 524289, 999999} {
			link := fake(linkSize(m, n))
			old, root, _ := climbedTwo(a, m, n, link)
			if got := Extends(old, m, root, n, link); got != (n <= 1000000) {
				t.Errorf("%d of %d: %t", m, n, got)
			}
		}
	}
}

// P2.1, B4: what is no digest proves nothing, also if the roots are computed from it.
func TestExtendsOfWhatIsNoDigest(t *testing.T) {
	empty := Root(nil)
	for _, bad := range noDigests() {
		for n := 2; n < 10; n++ {
			for m := 1; m < n; m++ {
				for at := range linkSize(m, n) {
					link := fake(linkSize(m, n))
					link[at] = bad
					old, root, fits := climbedTwo(digest.Sum("old"), m, n, link)
					if !fits || Extends(old, m, root, n, link) {
						t.Errorf("%d of %d with %q at %d", m, n, bad, at)
					}
				}
				link := fake(linkSize(m, n))
				if old, root, _ := climbedTwo(bad, m, n, link); old == bad && Extends(old, m, root, n, link) {
					t.Errorf("%d of %d with the old root %q", m, n, bad)
				}
			}
		}
		if Extends(bad, 1, bad, 1, nil) || Extends(bad, 3, bad, 3, nil) || Extends(empty, 0, bad, 1, nil) || Extends(empty, 0, bad, 0, nil) || Extends(bad, 0, empty, 0, nil) || Extends(empty, 0, empty, 1, []string{bad}) || Extends(empty, 1, empty, 1, []string{bad}) {
			t.Errorf("the root %q", bad)
		}
	}
}

// P2.1, B2 and B4: a proof that ends too early proves nothing, also if the roots are computed with empty texts for what it lacks.
func TestProofsThatEndTooEarly(t *testing.T) {
	for n := 2; n <= 20; n++ {
		for i := range n {
			proof := fake(depth(n, i))
			for from := range proof {
				lacking := append(slices.Clone(proof[:from]), make([]string, len(proof)-from)...)
				root, fits := climbed(n, i, "x", lacking)
				if !fits || Check(root, n, i, "x", proof[:from]) {
					t.Errorf("%d of %d with %d elements", i, n, from)
				}
			}
		}
		for m := 1; m < n; m++ {
			proof := fake(linkSize(m, n))
			for from := range proof {
				lacking := append(slices.Clone(proof[:from]), make([]string, len(proof)-from)...)
				old, root, fits := climbedTwo(digest.Sum("old"), m, n, lacking)
				if !fits || Extends(old, m, root, n, proof[:from]) {
					t.Errorf("%d first ones of %d with %d elements", m, n, from)
				}
			}
		}
	}
}

// P2.2.
func TestThePathOfAnElementProvesIt(t *testing.T) {
	for n := 1; n <= 70; n++ {
		for kind, l := range kinds(n) {
			root := Root(l)
			for i := range l {
				path, err := Path(l, i)
				if err != api.OK || !Check(root, n, i, l[i], path) {
					t.Errorf("%d of %d, kind %d, error %d", i, n, kind, err)
				}
			}
		}
	}
}

// P2.5.
func TestTheLinkProvesThatAListBeginsWithAnother(t *testing.T) {
	for n := range 71 {
		for kind, l := range kinds(n) {
			root := Root(l)
			for m := range n + 1 {
				link, err := Link(l, m)
				if err != api.OK || !Extends(Root(l[:m]), m, root, n, link) {
					t.Errorf("%d of %d, kind %d, error %d", m, n, kind, err)
				}
			}
		}
	}
}

// P2.2 and P2.5 for the longest list about which proofs are accepted, and a longer one.
func TestProofsOfLongLists(t *testing.T) {
	l := letters(1000001)
	for _, n := range []int{1000000, 1000001} {
		root := Root(l[:n])
		for _, i := range []int{0, n - 1} {
			path, err := Path(l[:n], i)
			if err != api.OK || len(path) != depth(n, i) || Check(root, n, i, l[i], path) != (n == 1000000) {
				t.Errorf("%d of %d", i, n)
			}
		}
		for _, m := range []int{524289, 999999} {
			link, err := Link(l[:n], m)
			if err != api.OK || len(link) != linkSize(m, n) || Extends(Root(l[:m]), m, root, n, link) != (n == 1000000) {
				t.Errorf("%d first ones of %d", m, n)
			}
		}
	}
}

// P2.7: all proofs of short lists, and some of longer ones.
func TestProofsAreShort(t *testing.T) {
	check := func(l []string, i int) {
		n := len(l)
		path, _ := Path(l, i)
		link, _ := Link(l, i)
		if most := len(strconv.FormatInt(int64(n), 2)); len(path) > most || len(link) > most+1 {
			t.Errorf("%d of %d: %d and %d elements", i, n, len(path), len(link))
		}
		if len(path) != depth(n, i) || i > 0 && len(link) != linkSize(i, n) {
			t.Errorf("%d of %d: %d and %d elements, which is not what computes a root", i, n, len(path), len(link))
		}
	}
	for n := 1; n < 130; n++ {
		for i := range n {
			check(letters(n), i)
		}
	}
	for _, n := range []int{255, 256, 257, 1000, 4095, 4096, 4097} {
		l := letters(n)
		for _, i := range places(n - 1) {
			check(l, i)
		}
	}
}

// digested collects the texts that are digested, by their digests; twice says that two different ones have one digest.
type digested struct {
	of    map[string]string
	twice bool
}

func (d *digested) list(l ...string) string {
	joined := ""
	for _, element := range l {
		joined += strconv.Itoa(len(element)) + ":" + element
	}
	sum := digest.Sum(joined)
	if other, found := d.of[sum]; found && other != joined {
		d.twice = true
	}
	if d.of == nil {
		d.of = map[string]string{}
	}
	d.of[sum] = joined
	return sum
}

// root collects what is digested for the root of a list.
func (d *digested) root(l []string) string {
	switch len(l) {
	case 0:
		return d.list("empty")
	case 1:
		return d.list("leaf", l[0])
	}
	k := 1 << (bits.Len(uint(len(l)-1)) - 1)
	return d.list("node", d.root(l[:k]), d.root(l[k:]))
}

// known returns the digests that are collected, and another one, in increasing order.
func (d *digested) known() []string {
	l := []string{digest.Sum("unknown")}
	for sum := range d.of {
		l = append(l, sum)
	}
	slices.Sort(l)
	return l
}

// sequences yields all lists of so many of some texts. The list is only valid until the next one.
func sequences(texts []string, count int, yield func([]string)) {
	l := make([]string, count)
	var fill func(at int)
	fill = func(at int) {
		if at == count {
			yield(l)
			return
		}
		for _, text := range texts {
			l[at] = text
			fill(at + 1)
		}
	}
	fill(0)
}

// P2.3: all paths of digests of the list, for other strings, among them those of the list and what is digested for it.
func TestInclusionIsBinding(t *testing.T) {
	for n := 1; n <= 6; n++ {
		l := letters(n)
		var d digested
		root := d.root(l)
		others := append(letters(n+1), "", "other", root, d.of[root], d.of[digest.List([]string{"leaf", "a"})])
		for i := range n {
			proved := 0
			sequences(d.known(), depth(n, i), func(path []string) {
				for _, other := range others {
					if Check(root, n, i, other, path) {
						proved++
						if other != l[i] {
							t.Errorf("%q is proved at %d of %d", other, i, n)
						}
					}
				}
			})
			if proved != 1 {
				t.Errorf("%d proofs of %d of %d", proved, i, n)
			}
		}
	}
}

// P2.4: all lists of at most 5 elements.
func TestDifferentListsHaveDifferentRoots(t *testing.T) {
	texts := []string{"", "a", "b", "1:a", "leaf", Root([]string{"a"})}
	for n := range 6 {
		of := map[string][]string{}
		sequences(texts, n, func(l []string) {
			root := Root(l)
			if other, found := of[root]; found {
				t.Errorf("%q and %q have one root", other, l)
			}
			of[root] = slices.Clone(l)
		})
		if len(of) != int(math.Pow(float64(len(texts)), float64(n))) {
			t.Errorf("%d roots of %d elements", len(of), n)
		}
	}
	for n := 1; n <= 70; n++ {
		l := letters(n)
		root := Root(l)
		for i := range n {
			for _, other := range []string{"", "other", l[(i+1)%n]} {
				changed := slices.Clone(l)
				changed[i] = other
				if n > 1 && Root(changed) == root {
					t.Errorf("%q at %d of %d", other, i, n)
				}
			}
		}
	}
}

// P2.6: all links of digests of both lists, for lists of which one is not the begin of the other.
func TestConsistencyIsBinding(t *testing.T) {
	for n := 1; n <= 5; n++ {
		l := letters(n)
		for m := 1; m <= n; m++ {
			for _, old := range otherBegins(l, m) {
				var d digested
				root, begin := d.root(l), d.root(old)
				count := 0
				if m < n {
					count = linkSize(m, n)
				}
				sequences(d.known(), count, func(link []string) {
					if Extends(begin, m, root, n, link) {
						t.Errorf("%q is proved to be the begin of %q", old, l)
					}
				})
			}
		}
	}
	for n := 1; n <= 70; n++ {
		l := letters(n)
		for m := 1; m <= n; m++ {
			for _, old := range otherBegins(l, m) {
				link, _ := Link(l, m)
				other, _ := Link(append(slices.Clone(old), l[m:]...), m)
				if Extends(Root(old), m, Root(l), n, link) || Extends(Root(old), m, Root(l), n, other) {
					t.Errorf("another begin is proved for %d of %d", m, n)
				}
			}
		}
	}
}

// otherBegins returns lists of m elements that are not the first ones of l: with another first, middle or last element, or with elements exchanged.
func otherBegins(l []string, m int) [][]string {
	var others [][]string
	for _, at := range []int{0, m / 2, m - 1} {
		changed := slices.Clone(l[:m])
		changed[at] = "other"
		others = append(others, changed)
	}
	if m > 1 {
		changed := slices.Clone(l[:m])
		changed[0], changed[m-1] = l[m-1], l[0]
		others = append(others, changed)
	}
	return others
}

// mixed is what digests do with each block: with it, different texts with one digest can be found.
func mixed(x uint64) uint64 {
	x *= 2862933555777941757
	x ^= x >> 32
	x *= 3935559000370003845
	return x ^ x>>29
}

// twins returns two different strings whose leaves have one digest: two blocks of 8 bytes within the string differ such that the state after them is the same.
func twins() (string, string) {
	first := strings.Repeat("t", 32)
	head := "4:leaf32:" + first[:7]
	before := uint64(2611923443488327891) ^ 41
	for i := 0; i < len(head); i += 8 {
		before = mixed(before ^ number(head[i:i+8]))
	}
	block := number("tttttttt")
	other := block ^ 1
	second := mixed(before^block) ^ block ^ mixed(before^other)
	return first, first[:7] + text(other) + text(second) + first[23:]
}

// number returns the number of a block of 8 bytes, and text the block of a number.
func number(block string) uint64 {
	n := uint64(0)
	for i := range 8 {
		n = n<<8 | uint64(block[i])
	}
	return n
}

func text(n uint64) string {
	var block [8]byte
	for i := range 8 {
		block[7-i] = byte(n >> (8 * i))
	}
	return string(block[:])
}

// P2.3, P2.4 and P2.6: what proves another string shows two strings with one digest, as proofs depend on digests only.
func TestWhatProvesSomethingElseShowsOneDigestOfTwo(t *testing.T) {
	x, y := twins()
	if x == y || len(x) != len(y) || Root([]string{x}) != Root([]string{y}) {
		t.Fatalf("%q and %q are no twins", x, y)
	}
	for n := 1; n <= 9; n++ {
		for i := range n {
			l := letters(n)
			l[i] = x
			other := slices.Clone(l)
			other[i] = y
			var d digested
			root := d.root(l)
			if d.twice {
				t.Errorf("two strings have one digest among those of %d", n)
			}
			path, _ := Path(l, i)
			if Root(other) != root || !Check(root, n, i, y, path) {
				t.Errorf("the twin at %d of %d is not proved", i, n)
			}
			for m := range n + 1 {
				link, _ := Link(l, m)
				if !Extends(Root(other[:m]), m, root, n, link) {
					t.Errorf("the twin at %d is not proved to be in the first %d of %d", i, m, n)
				}
			}
			if d.root(other); !d.twice {
				t.Errorf("no two strings have one digest among those of %d", n)
			}
		}
	}
}

// P1: all functions end, also with long arguments and with what is no text.
func TestLongArguments(t *testing.T) {
	long := strings.Repeat("\xff\x00", 1<<20)
	many := slices.Repeat([]string{long}, 1<<10)
	digests := slices.Repeat([]string{digest.Sum("")}, 1<<18)
	if !digest.Is(Root([]string{long, "", long})) {
		t.Error("no root")
	}
	for _, n := range []int{-1, 0, 1, 2, 1000000, math.MaxInt} {
		for _, i := range []int{-1, 0, 1, 2, 999999, math.MaxInt} {
			for _, proof := range [][]string{many, digests} {
				if Check(long, n, i, long, proof) || Check(digests[0], n, i, "", proof) || Extends(long, i, long, n, proof) || Extends(digests[0], i, digests[0], n, proof) {
					t.Errorf("%d of %d", i, n)
				}
			}
		}
	}
}

// P3, and the rule that arguments are not modified.
func TestEqualArgumentsYieldEqualResults(t *testing.T) {
	for n := range 20 {
		l := letters(n)
		root := Root(l)
		if root != Root(letters(n)) {
			t.Errorf("the root of %d", n)
		}
		for i := range n {
			path, err := Path(l, i)
			link, linkErr := Link(l, i)
			copies := [2][]string{slices.Clone(path), slices.Clone(link)}
			accepted := [2]bool{Check(root, n, i, l[i], path), Extends(Root(l[:i]), i, root, n, link)}
			again, errAgain := Path(letters(n), i)
			linkAgain, linkErrAgain := Link(letters(n), i)
			if !slices.Equal(again, path) || errAgain != err || !slices.Equal(linkAgain, link) || linkErrAgain != linkErr {
				t.Errorf("the proofs of %d of %d", i, n)
			}
			if !slices.Equal(path, copies[0]) || !slices.Equal(link, copies[1]) || !slices.Equal(l, letters(n)) {
				t.Errorf("an argument for %d of %d is modified", i, n)
			}
			if accepted != [2]bool{Check(root, n, i, l[i], path), Extends(Root(l[:i]), i, root, n, link)} {
				t.Errorf("the proofs of %d of %d are not accepted again", i, n)
			}
		}
	}
}

// The rule that results do not share memory with arguments or with one another.
func TestResultsAreNewMemory(t *testing.T) {
	l := append(make([]string, 0, 100), letters(7)...)
	for i := range 8 {
		for _, proof := range []func([]string, int) ([]string, api.Errno){Path, Link} {
			first, _ := proof(l, i)
			want := slices.Clone(first)
			second, _ := proof(l, i)
			second = append(second, "more")
			for at := range second {
				second[at] = "changed"
			}
			if !slices.Equal(first, want) || !slices.Equal(l, letters(7)) || !slices.Equal(l[:8][7:], []string{""}) {
				t.Errorf("the proof of %d", i)
			}
		}
	}
}
