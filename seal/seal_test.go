package seal

import (
	"math"
	"math/rand/v2"
	"slices"
	"strconv"
	"strings"
	"testing"

	"customhouse/api"
	"customhouse/digest"
)

// digitsOf computes the digits of a message from the number that its digest is.
func digitsOf(t *testing.T, message string) [18]int {
	t.Helper()
	number, err := strconv.ParseUint(digest.Sum(message), 16, 64)
	if err != nil {
		t.Fatal(err)
	}
	var l [18]int
	sum := 240
	for k := 15; k >= 0; k-- {
		l[k] = int(number % 16)
		sum -= l[k]
		number /= 16
	}
	l[16], l[17] = sum/16, sum%16
	return l
}

// after returns a text after n digests, one after the other.
func after(text string, n int) string {
	for range n {
		text = digest.Sum(text)
	}
	return text
}

// startOf returns the start of the chain k of the key i of a secret, from the joined text.
func startOf(secret string, i, k int) string {
	joined := ""
	for _, element := range []string{secret, strconv.Itoa(i), strconv.Itoa(k)} {
		joined += strconv.Itoa(len(element)) + ":" + element
	}
	return digest.Sum(joined)
}

// keysOf computes the one-time keys of a tree.
func keysOf(secret string, height int) []string {
	var keys []string
	for i := range 1 << height {
		ends := ""
		for k := range 18 {
			ends += "16:" + after(startOf(secret, i, k), 15)
		}
		keys = append(keys, digest.Sum(ends))
	}
	return keys
}

// levelsOf computes the roots of all parts of a tree: first those of single keys, then those of two of them, and so on to the public key.
func levelsOf(keys []string) [][]string {
	var level []string
	for _, key := range keys {
		level = append(level, digest.List([]string{"leaf", key}))
	}
	levels := [][]string{level}
	for len(level) > 1 {
		var upper []string
		for i := 0; i < len(level); i += 2 {
			upper = append(upper, digest.List([]string{"node", level[i], level[i+1]}))
		}
		level = upper
		levels = append(levels, level)
	}
	return levels
}

// expected computes the public key of a secret and all its seals of a message, by their indices.
func expected(t *testing.T, secret string, height int, message string) (string, []api.Seal) {
	t.Helper()
	levels := levelsOf(keysOf(secret, height))
	var seals []api.Seal
	for i := range levels[0] {
		s := api.Seal{Index: i}
		for k, d := range digitsOf(t, message) {
			s.Sig = append(s.Sig, after(startOf(secret, i, k), d))
		}
		for n := range height {
			s.Path = append(s.Path, levels[n][i>>n^1])
		}
		seals = append(seals, s)
	}
	return levels[height][0], seals
}

// fittingKey computes the public key for which a seal with its Index, its Sig and its Path would be accepted if they were allowed: chains go on to their ends for each element of Sig, and the digits of Index say on which side the elements of Path are.
func fittingKey(t *testing.T, message string, s api.Seal) string {
	t.Helper()
	l := digitsOf(t, message)
	var ends []string
	for k, text := range s.Sig {
		if k < 18 {
			text = after(text, 15-l[k])
		}
		ends = append(ends, text)
	}
	root := digest.List([]string{"leaf", digest.List(ends)})
	for n, p := range s.Path {
		if s.Index>>n&1 == 1 {
			root = digest.List([]string{"node", p, root})
		} else {
			root = digest.List([]string{"node", root, p})
		}
	}
	return root
}

// fakes returns so many digests, which depend on a name.
func fakes(name string, n int) []string {
	var l []string
	for i := range n {
		l = append(l, digest.Sum(name+" "+strconv.Itoa(i)))
	}
	return l
}

// same reports whether two seals are equal.
func same(a, b api.Seal) bool {
	return a.Index == b.Index && slices.Equal(a.Sig, b.Sig) && slices.Equal(a.Path, b.Path)
}

// cloned returns a seal that shares no memory with another one.
func cloned(s api.Seal) api.Seal {
	return api.Seal{Index: s.Index, Sig: slices.Clone(s.Sig), Path: slices.Clone(s.Path)}
}

// unmixed is the inverse of what digests do with the number of a block.
func unmixed(x uint64) uint64 {
	inverse := func(odd uint64) uint64 {
		y := odd
		for range 6 {
			y *= 2 - odd*y
		}
		return y
	}
	x ^= x>>29 ^ x>>58
	x *= inverse(3935559000370003845)
	x ^= x >> 32
	return x * inverse(2862933555777941757)
}

// messageWith returns the message of 8 bytes that has a given digest.
func messageWith(t *testing.T, sum string) string {
	t.Helper()
	number, err := strconv.ParseUint(sum, 16, 64)
	if err != nil {
		t.Fatal(err)
	}
	number = unmixed(unmixed(number)) ^ 2611923443488327891 ^ 8
	var block [8]byte
	for i := range 8 {
		block[7-i] = byte(number >> (8 * i))
	}
	message := string(block[:])
	if digest.Sum(message) != sum {
		t.Fatalf("the digest of %q is not %s", message, sum)
	}
	return message
}

// withChecksum returns a digest whose digits have a checksum from 0 to 240: as many digits as possible are 0, the others, but one, are f.
func withChecksum(sum int) string {
	text := strings.Repeat("0", sum/15)
	if len(text) < 16 {
		text += strconv.FormatInt(int64(15-sum%15), 16)
	}
	return text + strings.Repeat("f", 16-len(text))
}

// messages are empty, short and long ones, and such as contain bytes that are no text.
func messages() []string {
	return []string{"", "message", "Message", "message ", "\x00", "\x00\x00", "\xff\xfe\x80", "0123456789abcdef", "7:message", strings.Repeat("long ", 5000)}
}

// secrets are such as begin with one another, contain digits like those of indices, or are empty.
func secrets() []string {
	return []string{"secret", "", "secret1", "secret11", "Secret", "1:a", "\x00", "\xff\xfe\x80", "0", strings.Repeat("long ", 50)}
}

// signed returns the seal of a message and the public key, which must be there.
func signed(t *testing.T, secret string, height, index int, message string) (string, api.Seal) {
	t.Helper()
	public, err := Public(secret, height)
	s, signErr := Sign(secret, height, index, message)
	if err != api.OK || signErr != api.OK {
		t.Fatalf("height %d and index %d: %d, %d", height, index, err, signErr)
	}
	return public, s
}

// P3.1, C1: what another program has computed.
func TestPublicOfKnownSecrets(t *testing.T) {
	for _, test := range []struct {
		secret string
		height int
		want   string
	}{
		{"secret", 0, "426194200289f60e"},
		{"secret", 1, "4b41aad51ff88652"},
		{"secret", 2, "5c92970b583da844"},
		{"secret", 7, "d5265fbb08a3cdf6"},
		{"secret", 8, "1e37f98f12628bfa"},
		{"", 0, "b0759cb44f672c2f"},
		{"", 8, "498c4f3de700bdd1"},
		{"\xff\x00", 3, "0882550235d9d0d1"},
		{"1:a", 3, "202ec4cfde4c9e19"},
	} {
		if got, err := Public(test.secret, test.height); got != test.want || err != api.OK {
			t.Errorf("Public(%q, %d) = %s, %d, want %s", test.secret, test.height, got, err, test.want)
		}
	}
}

// P3.1, C1.
func TestPublicIsWhatTheWordsSay(t *testing.T) {
	for _, secret := range secrets() {
		levels := levelsOf(keysOf(secret, 8))
		for height := range 9 {
			if got, err := Public(secret, height); got != levels[height][0] || err != api.OK {
				t.Errorf("Public(%.20q, %d) = %s, %d, want %s", secret, height, got, err, levels[height][0])
			}
		}
	}
}

// P3.1, C1.
func TestPublicWithHeightsOutOfTheirLimits(t *testing.T) {
	for _, height := range []int{-1, -2, -64, math.MinInt, 9, 10, 63, 64, 65, 1 << 32, math.MaxInt} {
		for _, secret := range []string{"", "secret"} {
			if got, err := Public(secret, height); got != "" || err != api.ErrArg {
				t.Errorf("Public(%q, %d) = %q, %d", secret, height, got, err)
			}
		}
	}
}

// P3.1, C2: what another program has computed.
func TestSignOfKnownMessages(t *testing.T) {
	for _, test := range []struct {
		secret        string
		height, index int
		message       string
		sig, path     string
	}{
		{"secret", 2, 1, "message",
			"f3257be4389d6d48 4d376bd9a9563268 d6b17507f1c7368d 91534382ad589d98 adc30ae367ed9ae9 c3fe2ce5cb3faff9 c88143bec804d614 3abcdd171b5fe475 c415c594a38f6d85 c6023cd55dafe72d 5a85b7ccf426f82d 3db8b527916ce726 93a1447b7b92e8c8 2893d6bcf32389f0 94e8d15a7c4b3647 847057508d38d4b0 40d9b92fdbd5a99f 6cca2052e215bd24",
			"426194200289f60e e4372e9d43e23f93"},
		{"", 0, 0, "",
			"fc1ec2fa12daedf7 b11b35c993bfdfee 271c6f88ba91d2b1 f28fdd020d9344a4 c684df13e67a578d 26dfb7e5fe30bcb6 d5f46efa97c4ce8c 3e0343d2fa8b424b 4724c1fb043ac736 372542d09cc470f7 d98b832103d5b036 0d80e19076e467e0 ffea1b5b3b36ca9f f9064d2593649b4a fc337b9933ed8977 55b401f8dfd95123 01cd22675177e503 5ee902892767fb2b",
			""},
		{"secret", 8, 200, "\xff",
			"2f0ea2b3078d47f8 9b910b53bbf43bd4 b81955dbf7c7ffda aa9f0e6c355c6338 ce72507ab5edf065 aa2a42640e100dcb 31925115c1363661 d48ca1b79e65f3c4 f36144c67eac788b 800d14bd5185c60d 7afd800749681ce7 17ed193e86bf0483 9953050d956387ee d2b847047d0306e0 f537402f41dd740d 0d440ce3bd36dd71 409618aa537e898c d11b3c6440b7346f",
			"e6156230a55b9342 4f7d9be75803597f 2bc84a7ad863fe63 821aa93cd8d8e9e2 da9a496dd42be446 fccea3d6d25badc9 ed118e1f2d61cc6a d5265fbb08a3cdf6"},
	} {
		want := api.Seal{Index: test.index, Sig: strings.Fields(test.sig), Path: strings.Fields(test.path)}
		got, err := Sign(test.secret, test.height, test.index, test.message)
		if err != api.OK || !same(got, want) {
			t.Errorf("Sign(%q, %d, %d, %q) = %v, %d, want %v", test.secret, test.height, test.index, test.message, got, err, want)
		}
	}
}

// P3.1, C2, and P3.2: all keys of small trees, some of the greatest one, for all kinds of messages and secrets.
func TestSealsAreWhatTheWordsSayAndAreAccepted(t *testing.T) {
	check := func(secret string, height int, message string, indices []int) {
		t.Helper()
		public, seals := expected(t, secret, height, message)
		for _, i := range indices {
			got, err := Sign(secret, height, i, message)
			if err != api.OK || !same(got, seals[i]) {
				t.Errorf("Sign(%.20q, %d, %d, %.20q) = %v, %d, want %v", secret, height, i, message, got, err, seals[i])
			}
			if !Verify(public, message, got) {
				t.Errorf("the seal of %.20q by the key %d of %.20q with height %d is not accepted", message, i, secret, height)
			}
		}
	}
	all := []int{}
	for i := range 256 {
		all = append(all, i)
	}
	for height := range 6 {
		for i, message := range messages() {
			check(secrets()[i], height, message, all[:1<<height])
			check("secret", height, message, all[:1<<height])
		}
	}
	for height := 6; height <= 8; height++ {
		last := 1<<height - 1
		for _, message := range messages()[:2] {
			check("secret", height, message, []int{0, 1, 9, 10, last / 2, last/2 + 1, last - 1, last})
		}
	}
}

// P3.1, C2: each combination of a height and an index, one of which is out of its limits.
func TestSignWithNumbersOutOfTheirLimits(t *testing.T) {
	check := func(height, index int) {
		t.Helper()
		got, err := Sign("secret", height, index, "message")
		if err != api.ErrArg || got.Index != 0 || got.Sig != nil || got.Path != nil {
			t.Errorf("Sign with height %d and index %d: %v, %d", height, index, got, err)
		}
	}
	for _, height := range []int{-1, -64, math.MinInt, 9, 10, 63, 64, 65, math.MaxInt} {
		for _, index := range []int{0, 1, -1, 255, 256, math.MinInt, math.MaxInt} {
			check(height, index)
		}
	}
	for height := range 9 {
		for _, index := range []int{-1, -2, -1 << height, math.MinInt, 1 << height, 1<<height + 1, 2 << height, 1 << 32, math.MaxInt} {
			check(height, index)
		}
	}
}

// P3.1: the digests of the chapter's examples, those with the least and the greatest digits, and such as show the order of the digits.
func TestDigitsOfKnownDigests(t *testing.T) {
	for _, test := range []struct {
		sum  string
		want [18]int
	}{
		{"0000000000000000", [18]int{16: 15, 17: 0}},
		{"ffffffffffffffff", [18]int{15, 15, 15, 15, 15, 15, 15, 15, 15, 15, 15, 15, 15, 15, 15, 15, 0, 0}},
		{"fffffffffffffffe", [18]int{15, 15, 15, 15, 15, 15, 15, 15, 15, 15, 15, 15, 15, 15, 15, 14, 0, 1}},
		{"efffffffffffffff", [18]int{14, 15, 15, 15, 15, 15, 15, 15, 15, 15, 15, 15, 15, 15, 15, 15, 0, 1}},
		{"0123456789abcdef", [18]int{0, 1, 2, 3, 4, 5, 6, 7, 8, 9, 10, 11, 12, 13, 14, 15, 7, 8}},
		{"fedcba9876543210", [18]int{15, 14, 13, 12, 11, 10, 9, 8, 7, 6, 5, 4, 3, 2, 1, 0, 7, 8}},
		{"0fffffffffffffff", [18]int{0, 15, 15, 15, 15, 15, 15, 15, 15, 15, 15, 15, 15, 15, 15, 15, 0, 15}},
		{"0efffffffffffff0", [18]int{0, 14, 15, 15, 15, 15, 15, 15, 15, 15, 15, 15, 15, 15, 15, 0, 1, 15}},
		{"0efffffffffffffe", [18]int{0, 14, 15, 15, 15, 15, 15, 15, 15, 15, 15, 15, 15, 15, 15, 14, 1, 1}},
	} {
		message := messageWith(t, test.sum)
		public, got := signed(t, "secret", 0, 0, message)
		for k, d := range test.want {
			if want := after(startOf("secret", 0, k), d); got.Sig[k] != want {
				t.Errorf("the element %d for the digest %s is %s, want %s", k, test.sum, got.Sig[k], want)
			}
		}
		if !Verify(public, message, got) {
			t.Errorf("the seal for the digest %s is not accepted", test.sum)
		}
	}
}

// P3.1 and P3.2: each value of each digit of the checksum, and of each digit of a digest.
func TestEachDigit(t *testing.T) {
	seen := map[[2]int]bool{}
	check := func(sum string, want ...int) {
		t.Helper()
		message := messageWith(t, sum)
		for k, d := range digitsOf(t, message) {
			seen[[2]int{k, d}] = true
		}
		public, seals := expected(t, "secret", 0, message)
		got, err := Sign("secret", 0, 0, message)
		if err != api.OK || !same(got, seals[0]) || !Verify(public, message, got) {
			t.Errorf("the seal for the digest %s: %v, %d, want %v", sum, got, err, seals[0])
		}
		for k, d := range want {
			if got.Sig[16+k] != after(startOf("secret", 0, 16+k), d) {
				t.Errorf("the digit %d of the checksum of %s is not %d", k, sum, d)
			}
		}
	}
	for sum := range 241 {
		check(withChecksum(sum), sum/16, sum%16)
	}
	for k := range 16 {
		for d := range 16 {
			text := []byte("0123456789abcdef")
			text[k] = text[d]
			check(string(text))
		}
	}
	for k := range 18 {
		for d := range 16 {
			if !seen[[2]int{k, d}] {
				t.Errorf("no digest has the digit %d at %d", d, k)
			}
		}
	}
}

// P1: who ranges over the digits may stop at each of them.
func TestDigitsStopWhenTheyAreToldTo(t *testing.T) {
	want := digitsOf(t, "message")
	for count := 1; count <= 18; count++ {
		var got []int
		for k, d := range digits("message") {
			if k != len(got) {
				t.Fatalf("the digit after %d has the number %d", len(got), k)
			}
			got = append(got, d)
			if len(got) == count {
				break
			}
		}
		if !slices.Equal(got, want[:count]) {
			t.Errorf("%d digits: %v, want %v", count, got, want[:count])
		}
	}
}

// P3.1, C3: a public key can be computed for each seal, whether a secret has made it or not. The side of each digest of the path decides whether an index is accepted.
func TestVerifyOfSealsThatFit(t *testing.T) {
	for height := range 9 {
		for i, message := range messages() {
			name := strconv.Itoa(height) + message
			s := api.Seal{Index: (i * 37) % (1 << height), Sig: fakes("sig "+name, 18), Path: fakes("path "+name, height)}
			public := fittingKey(t, message, s)
			for index := range 1 << height {
				other := cloned(s)
				other.Index = index
				if got := Verify(public, message, other); got != (index == s.Index) {
					t.Errorf("height %d, index %d: %t for the index %d", height, s.Index, got, index)
				}
				if public := fittingKey(t, message, other); !Verify(public, message, other) {
					t.Errorf("height %d, index %d: not accepted", height, index)
				}
			}
		}
	}
}

// P3.1, C3: equal digests at all places are no reason to refuse a seal.
func TestVerifyOfEqualDigests(t *testing.T) {
	for _, sum := range []string{"0000000000000000", "ffffffffffffffff", digest.Sum("x")} {
		for height := range 9 {
			s := api.Seal{Index: 1<<height - 1, Sig: slices.Repeat([]string{sum}, 18), Path: slices.Repeat([]string{sum}, height)}
			if !Verify(fittingKey(t, "message", s), "message", s) {
				t.Errorf("height %d: not accepted", height)
			}
		}
	}
}

// P3.1, C3: the public key fits, but something is not allowed.
func TestVerifyRefusesWhatFitsButIsNotAllowed(t *testing.T) {
	fit := func(index, sig, path int) api.Seal {
		return api.Seal{Index: index, Sig: fakes("sig", sig), Path: fakes("path", path)}
	}
	refused := func(what string, s api.Seal) {
		t.Helper()
		for _, message := range []string{"message", "", messageWith(t, withChecksum(0)), messageWith(t, withChecksum(240))} {
			if Verify(fittingKey(t, message, s), message, s) {
				t.Errorf("%s: accepted for %q", what, message)
			}
		}
	}
	for height := range 9 {
		for _, count := range []int{0, 1, 16, 17, 19, 20, 36} {
			refused(strconv.Itoa(count)+" elements of Sig", fit(0, count, height))
		}
		for _, index := range []int{0, 1<<height - 1} {
			for _, other := range []int{index - 1<<height, index + 1<<height, index + 1<<32, index + math.MinInt} {
				refused("the index "+strconv.Itoa(other), fit(other, 18, height))
			}
		}
	}
	for _, count := range []int{9, 10, 19, 20, 62, 63, 64, 65, 100} {
		refused(strconv.Itoa(count)+" elements of Path", fit(0, 18, count))
		refused(strconv.Itoa(count)+" elements of Path", fit(300, 18, count))
	}
	for _, text := range []string{"", "x", "0123456789abcdeF", "0123456789ABCDEF", "0123456789abcde", "0123456789abcdef0", " 123456789abcdef", "0x23456789abcdef", "0123456789abcde\x00", strings.Repeat("\u00e9", 8)} {
		for k := range 18 {
			s := fit(1, 18, 2)
			s.Sig[k] = text
			refused("the element "+text+" of Sig", s)
		}
		for n := range 8 {
			s := fit(1, 18, 8)
			s.Path[n] = text
			refused("the element "+text+" of Path", s)
		}
	}
}

// P3.1, C3.
func TestVerifyWithOtherPublicKeys(t *testing.T) {
	for height := range 9 {
		for index := range min(1<<height, 4) {
			public, s := signed(t, "secret", height, index, "message")
			others := append(fakes("public", 4), "", public[:15], public+"0", "0"+public, " "+public, strings.ToUpper(public), "0000000000000000")
			others = append(append(others, s.Sig...), s.Path...)
			for other := range 9 {
				if other != height {
					key, _ := Public("secret", other)
					others = append(others, key)
				}
			}
			for _, other := range others {
				if Verify(other, "message", s) != (other == public) {
					t.Errorf("height %d, index %d: wrong for the public key %q", height, index, other)
				}
			}
			if !Verify(public, "message", s) {
				t.Errorf("height %d, index %d: not accepted", height, index)
			}
		}
	}
}

// known returns all texts of the chains of some one-time keys, and the roots of parts of the tree.
func known(secret string, height int, indices ...int) []string {
	l := []string{digest.Sum("unknown")}
	for _, i := range indices {
		for k := range 18 {
			for d := range 17 {
				l = append(l, after(startOf(secret, i, k), d))
			}
		}
	}
	keys := keysOf(secret, height)
	return slices.Concat(append(levelsOf(keys), l, keys)...)
}

// P3.3: each element is replaced by each digest that is known, and by those of other places.
func TestOnlyTheSealOfTheKeyIsAccepted(t *testing.T) {
	for height := range 3 {
		for index := range 1 << height {
			public, s := signed(t, "secret", height, index, "message")
			candidates := known("secret", height, index, index^1)
			replace := func(l []string, what string) {
				for k, own := range l {
					accepted := 0
					for _, text := range candidates {
						l[k] = text
						if Verify(public, "message", s) {
							accepted++
							if text != own {
								t.Errorf("height %d, index %d, element %d of %s: %s is accepted", height, index, k, what, text)
							}
						}
					}
					if accepted == 0 {
						t.Errorf("height %d, index %d, element %d of %s: nothing is accepted", height, index, k, what)
					}
					l[k] = own
				}
			}
			replace(s.Sig, "Sig")
			replace(s.Path, "Path")
		}
	}
}

// P3.3: seals whose elements are exchanged, moved, taken from other seals, left out or added, and those with another index.
func TestChangedSealsAreNotAccepted(t *testing.T) {
	source := rand.New(rand.NewPCG(3, 3))
	for height := range 5 {
		public, seals := expected(t, "secret", height, "message")
		for _, s := range seals {
			_, other := signed(t, "secret", height, source.IntN(1<<height), "other")
			check := func(change func(s *api.Seal)) {
				t.Helper()
				changed := cloned(s)
				change(&changed)
				right := changed.Index >= 0 && changed.Index < len(seals) && same(changed, seals[changed.Index])
				if got := Verify(public, "message", changed); got != right {
					t.Errorf("height %d: %t for %v", height, got, changed)
				}
			}
			check(func(s *api.Seal) {})
			check(func(s *api.Seal) { s.Sig = nil })
			check(func(s *api.Seal) { s.Path = nil })
			check(func(s *api.Seal) { s.Sig = s.Sig[1:] })
			check(func(s *api.Seal) { s.Sig = s.Sig[:17] })
			check(func(s *api.Seal) { s.Sig = append(s.Sig, other.Sig[0]) })
			check(func(s *api.Seal) { s.Path = append(s.Path, other.Sig[0]) })
			check(func(s *api.Seal) { s.Path = append([]string{other.Sig[0]}, s.Path...) })
			check(func(s *api.Seal) { s.Path = s.Path[:len(s.Path)/2] })
			check(func(s *api.Seal) { s.Path = s.Path[len(s.Path)/2:] })
			check(func(s *api.Seal) { slices.Reverse(s.Sig) })
			check(func(s *api.Seal) { slices.Reverse(s.Path) })
			check(func(s *api.Seal) { s.Sig = other.Sig })
			check(func(s *api.Seal) { s.Path = other.Path })
			check(func(s *api.Seal) { s.Index = other.Index })
			check(func(s *api.Seal) { s.Index, s.Path = other.Index, other.Path })
			for n := range height + 2 {
				check(func(s *api.Seal) { s.Index ^= 1 << n })
				check(func(s *api.Seal) { s.Index = -1 - s.Index ^ 1<<n })
			}
			for range 10 {
				a, b, c := source.IntN(18), source.IntN(18), source.IntN(18)
				check(func(s *api.Seal) { s.Sig[a], s.Sig[b] = s.Sig[b], s.Sig[a] })
				check(func(s *api.Seal) { s.Sig[a] = digest.Sum(s.Sig[a]) })
				check(func(s *api.Seal) { s.Sig[a], s.Sig[c] = other.Sig[b], other.Sig[c] })
			}
		}
	}
}

// P3.3: different texts with one digest, which were searched for, are steps of chains of the key 0 of this secret. What is accepted with them is not what Sign returns: it depends on digests only.
func TestAnotherSealShowsOneDigestOfTwo(t *testing.T) {
	for _, test := range []struct {
		chain, digit int
		own, twin    string
	}{
		{0, 14, "a0bdac91d81bbbfd", "0392347d64e2f4a7"},
		{1, 0, "8c23a967553556f9", "0108990ac7347506"},
		{5, 7, "4252ab5a7838a78c", "04d03349a79434af"},
		{14, 10, "2223520ef89984cd", "00c36661076cb843"},
	} {
		if digest.Sum(test.own) != digest.Sum(test.twin) || after(startOf("secret", 0, test.chain), test.digit) != test.own {
			t.Fatalf("%s and %s", test.own, test.twin)
		}
		for digit := range 16 {
			text := []byte("0123456789abcdef")
			text[test.chain] = text[digit]
			message := messageWith(t, string(text))
			for height := range 4 {
				public, s := signed(t, "secret", height, 0, message)
				if (s.Sig[test.chain] == test.own) != (digit == test.digit) {
					t.Errorf("the digit %d has the element %s", digit, s.Sig[test.chain])
				}
				s.Sig[test.chain] = test.twin
				if Verify(public, message, s) != (digit == test.digit) {
					t.Errorf("%s for the digit %d: wrong", test.twin, digit)
				}
			}
		}
	}
}

// P3.4: all pairs of some messages. Among them are digests that differ in one digit, that have the same digits in another order, and so the same checksum, and those whose checksums have one digit in common.
func TestSealsAreNotAcceptedForOtherMessages(t *testing.T) {
	l := messages()
	for _, sum := range []string{
		"0000000000000000", "ffffffffffffffff", "0123456789abcdef", "1123456789abcdef", "0023456789abcdef", "0123456789abcdee", "0123456789abcded",
		"1023456789abcdef", "fedcba9876543210", "0123456798abcdef", "123456789abcdef0",
		"7777777777777777", "8888888888888888", "6877777777777777", "7777777777777768",
		withChecksum(16), withChecksum(32), withChecksum(15), withChecksum(17), withChecksum(239), withChecksum(224),
	} {
		l = append(l, messageWith(t, sum))
	}
	for height := range 2 {
		for _, message := range l {
			public, s := signed(t, "secret", height, height, message)
			for _, other := range l {
				if Verify(public, other, s) != (other == message) {
					t.Errorf("the seal of %.20q: wrong for %.20q", message, other)
				}
				if other != message && Verify(public, other, advanced(t, s, message, other)) {
					t.Errorf("the seal of %.20q, whose chains were continued, is accepted for %.20q", message, other)
				}
			}
		}
	}
}

// advanced returns the seal of a message in which each chain is continued to the digit of another one, where this is greater.
func advanced(t *testing.T, s api.Seal, message, other string) api.Seal {
	t.Helper()
	own, wanted := digitsOf(t, message), digitsOf(t, other)
	s = cloned(s)
	for k := range s.Sig {
		s.Sig[k] = after(s.Sig[k], wanted[k]-own[k])
	}
	return s
}

// P3.4: each digit of a digest is raised, and lowered. What is raised can be computed from the seal, if the checksum did not fall.
func TestChecksumsKeepChainsFromBeingContinued(t *testing.T) {
	for k := range 16 {
		for _, base := range []string{"3333333333333333", "0123456789abcdef", "8888888888888888"} {
			message := messageWith(t, base)
			public, s := signed(t, "secret", 1, 1, message)
			for _, digit := range "0123456789abcdef" {
				text := []byte(base)
				text[k] = byte(digit)
				other := messageWith(t, string(text))
				if Verify(public, other, advanced(t, s, message, other)) != (string(text) == base) {
					t.Errorf("the seal of %s: wrong for %s", base, text)
				}
			}
		}
	}
}

// P3.1 and P3.4: messages are told apart by their digests only.
func TestMessagesWithOneDigestHaveOneSeal(t *testing.T) {
	for _, message := range messages() {
		twin := messageWith(t, digest.Sum(message))
		public, s := signed(t, "secret", 2, 3, message)
		_, other := signed(t, "secret", 2, 3, twin)
		if len(message) != 8 && twin == message || !same(s, other) || !Verify(public, twin, s) || !Verify(public, message, other) {
			t.Errorf("%.20q and %q", message, twin)
		}
	}
}

// P3.5: all pairs of some secrets, with all pairs of heights of at most 2.
func TestSealsAreNotAcceptedForOtherSecrets(t *testing.T) {
	type public struct {
		secret string
		height int
	}
	keys := map[public]string{}
	for _, secret := range secrets() {
		for height := range 3 {
			keys[public{secret, height}], _ = Public(secret, height)
		}
	}
	for _, secret := range secrets() {
		for height := range 3 {
			for index := range 1 << height {
				_, s := signed(t, secret, height, index, "message")
				for p, key := range keys {
					if Verify(key, "message", s) != (p == public{secret, height}) {
						t.Errorf("the seal of %.20q with height %d: wrong for %.20q with height %d", secret, height, p.secret, p.height)
					}
				}
			}
		}
	}
}

// P3.5: no start of a chain of one secret is that of another one, or of another chain or key.
func TestDifferentChainsHaveDifferentStarts(t *testing.T) {
	message := messageWith(t, withChecksum(240))
	of := map[string]string{}
	for _, secret := range secrets() {
		for _, index := range []int{0, 1, 2, 9, 10, 11, 100, 101, 110, 111, 255} {
			_, s := signed(t, secret, 8, index, message)
			for k, text := range s.Sig[:16] {
				where := secret + " " + strconv.Itoa(index) + " " + strconv.Itoa(k)
				if other, found := of[text]; found {
					t.Errorf("%.30q and %.30q have one start", other, where)
				}
				of[text] = where
			}
		}
	}
}

// P3.6.
func TestFormOfPublicKeysAndSeals(t *testing.T) {
	for _, secret := range secrets()[:4] {
		for height := range 9 {
			for _, index := range []int{0, 1<<height - 1} {
				public, s := signed(t, secret, height, index, secret+" signs")
				_, again := signed(t, strings.Clone(secret), height, index, secret+" signs")
				if !digest.Is(public) {
					t.Errorf("the public key %q", public)
				}
				if s.Index != index || len(s.Sig) != 18 || len(s.Path) != height {
					t.Errorf("height %d, index %d: a seal of the key %d with %d and %d digests", height, index, s.Index, len(s.Sig), len(s.Path))
				}
				for _, text := range slices.Concat(s.Sig, s.Path) {
					if !digest.Is(text) {
						t.Errorf("the element %q", text)
					}
				}
				if !same(s, again) {
					t.Errorf("height %d, index %d: %v and %v", height, index, s, again)
				}
			}
		}
	}
}

// P3.6: the seals of a key differ only in how far their paths go, and a tree is the first half of the next one.
func TestHeightsHaveTheSameOneTimeKeys(t *testing.T) {
	for height := range 8 {
		lower, _ := Public("secret", height)
		for _, index := range []int{0, 1<<height - 1, 1 << height >> 1} {
			_, s := signed(t, "secret", height, index, "message")
			_, higher := signed(t, "secret", height+1, index, "message")
			if !slices.Equal(s.Sig, higher.Sig) || !slices.Equal(s.Path, higher.Path[:height]) {
				t.Errorf("height %d, index %d: %v and %v", height, index, s, higher)
			}
			_, second := signed(t, "secret", height+1, index+1<<height, "message")
			if second.Path[height] != lower {
				t.Errorf("the first half of height %d is %s, want %s", height+1, second.Path[height], lower)
			}
		}
	}
}

// P1: all functions end, also with long arguments and with what is no seal.
func TestLongArguments(t *testing.T) {
	long := strings.Repeat("\xff\x00", 1<<18)
	public, s := signed(t, long, 1, 1, long)
	if !Verify(public, long, s) || Verify(long, long, s) {
		t.Error("a long secret and a long message")
	}
	many := slices.Repeat([]string{digest.Sum("")}, 1<<18)
	texts := slices.Repeat([]string{long}, 18)
	for _, s := range []api.Seal{{}, {Sig: many}, {Path: many}, {Sig: many, Path: many}, {Sig: many[:18], Path: many}, {Sig: many[:18], Path: many[:8]}, {Sig: texts, Path: texts}, {Sig: texts, Path: texts[:8]}, {Sig: many[:18], Path: texts[:8]}} {
		for _, index := range []int{0, 1, -1, math.MinInt, math.MaxInt} {
			s.Index = index
			if Verify(public, "message", s) || Verify("", "", s) || Verify(long, long, s) {
				t.Errorf("%d and %d elements, index %d", len(s.Sig), len(s.Path), index)
			}
		}
	}
}

// P3, and the rules that arguments are not modified, and that nil and empty are equivalent.
func TestEqualArgumentsYieldEqualResults(t *testing.T) {
	public, s := signed(t, "secret", 3, 5, "message")
	copied := cloned(s)
	for range 3 {
		again, sealAgain := signed(t, strings.Clone("secret"), 3, 5, strings.Clone("message"))
		if again != public || !same(sealAgain, s) {
			t.Errorf("%s and %v, %s and %v", public, s, again, sealAgain)
		}
		if !Verify(public, "message", s) || Verify(public, "other", s) || !Verify(strings.Clone(public), "message", copied) {
			t.Error("not accepted again")
		}
		if !same(s, copied) {
			t.Errorf("the seal is modified: %v", s)
		}
	}
	public, s = signed(t, "secret", 0, 0, "message")
	for _, path := range [][]string{nil, {}} {
		if s.Path = path; !Verify(public, "message", s) {
			t.Errorf("not accepted with the path %v", path)
		}
	}
}

// The rule that results do not share memory with one another, and that arguments are not kept.
func TestResultsAreNewMemory(t *testing.T) {
	public, first := signed(t, "secret", 3, 5, "message")
	want := cloned(first)
	_, second := signed(t, "secret", 3, 5, "message")
	second.Sig, second.Path = append(second.Sig, "more"), append(second.Path, "more")
	for _, l := range [][]string{second.Sig, second.Path} {
		for k := range l {
			l[k] = "changed"
		}
	}
	first.Sig = append(first.Sig, "more")[:18]
	if !same(first, want) || Verify(public, "message", second) || !Verify(public, "message", first) {
		t.Errorf("%v, want %v", first, want)
	}
	if _, third := signed(t, "secret", 3, 5, "message"); !same(third, want) {
		t.Errorf("%v, want %v", third, want)
	}
}
