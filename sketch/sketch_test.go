package sketch_test

import (
	"fmt"
	"math"
	"math/big"
	"slices"
	"strings"
	"testing"

	"cleanse/api"
	"cleanse/ratio"
	"cleanse/sketch"
)

// p is the prime modulo which hashes are computed.
const p = 2147483647

// modulo returns the number from 0 to p - 1 that is equal to a number modulo p, worked out apart from the program.
func modulo(number *big.Int) *big.Int {
	return new(big.Int).Mod(number, big.NewInt(p))
}

// hashModel is Hash, worked out apart from the program.
func hashModel(text string, seed int) int {
	s := modulo(big.NewInt(int64(seed)))
	m := new(big.Int).Mod(s, big.NewInt(1000003))
	m.Add(m, big.NewInt(16807))
	h := new(big.Int).Set(s)
	for _, b := range []byte(text) {
		h.Mul(h, m)
		h = modulo(h.Add(h, big.NewInt(int64(b)+1)))
	}
	h.Mul(h, big.NewInt(48271))
	return int(modulo(h.Add(h, big.NewInt(11))).Int64())
}

// makeModel is Make, worked out apart from the program.
func makeModel(tokens []string, n int) ([]int, api.Errno) {
	if n <= 0 || n >= 65 {
		return nil, api.ErrArg
	}
	var out []int
	for seed := range n {
		hashes := []int{}
		for _, token := range tokens {
			hashes = append(hashes, hashModel(token, seed))
		}
		slices.Sort(hashes)
		out = append(out, append(hashes, -1)[0])
	}
	return out, api.OK
}

// isSketchModel reports whether a list is a sketch, worked out apart from the program.
func isSketchModel(list []int) bool {
	hashes, missing := 0, 0
	for _, n := range list {
		if n == -1 {
			missing++
		}
		if 0 <= n && n <= p-1 {
			hashes++
		}
	}
	return len(list) >= 1 && len(list) <= 64 && (hashes == len(list) || missing == len(list))
}

// unionModel is Union, worked out apart from the program.
func unionModel(a, b []int) ([]int, api.Errno) {
	if !isSketchModel(a) || !isSketchModel(b) || len(a) != len(b) {
		return nil, api.ErrArg
	}
	var out []int
	for i := range a {
		switch {
		case a[i] == -1:
			out = append(out, b[i])
		case b[i] == -1 || a[i] < b[i]:
			out = append(out, a[i])
		default:
			out = append(out, b[i])
		}
	}
	return out, api.OK
}

// estimateModel is Estimate, worked out apart from the program.
func estimateModel(a, b []int) (api.Ratio, api.Errno) {
	if !isSketchModel(a) || !isSketchModel(b) || len(a) != len(b) {
		return api.Ratio{}, api.ErrArg
	}
	share := new(big.Rat)
	for i := range a {
		if a[i] == b[i] {
			share.Add(share, big.NewRat(1, int64(len(a))))
		}
	}
	return of(int(share.Num().Int64()), int(share.Denom().Int64())), api.OK
}

// bandsModel is Bands, worked out apart from the program.
func bandsModel(list []int, rows int) ([]string, api.Errno) {
	if !isSketchModel(list) || rows < 1 || rows > len(list) || len(list)%rows > 0 {
		return nil, api.ErrArg
	}
	if list[0] == -1 {
		return nil, api.OK
	}
	var out []string
	for i, n := range list {
		if i%rows == 0 {
			out = append(out, fmt.Sprintf("%d:%d", i/rows, n))
		} else {
			out[len(out)-1] += fmt.Sprintf(".%d", n)
		}
	}
	return out, api.OK
}

// of returns a ratio as it stands.
func of(num, den int) api.Ratio { return api.Ratio{Num: num, Den: den} }

// numbers returns a function that returns numbers below a bound, always the same ones in the same order.
func numbers() func(bound int) int {
	state := uint64(12345)
	return func(bound int) int {
		state = state*6364136223846793005 + 1442695040888963407
		return int(state>>33) % bound
	}
}

// edgeSeeds returns seeds of all kinds: small ones, ones around the numbers of the chapter and their multiples, and the least and the greatest integers, with both signs.
func edgeSeeds() []int {
	out := []int{math.MinInt, math.MinInt + 1, math.MinInt + 2, math.MaxInt - 2, math.MaxInt - 1, math.MaxInt}
	for _, around := range []int{0, 11, 64, 16807, 48271, 1000003, 2000006, 1 << 30, p - 1000003, p, 2 * p, 1 << 32, 1000003 * 5000, p * 1000003, p * p, 1 << 62, p << 32} {
		for distance := -2; distance <= 2; distance++ {
			out = append(out, around+distance, -around+distance)
		}
	}
	return out
}

// edgeTexts returns texts of many kinds: the empty one, each single byte, each byte between others, ones that differ in the order of bytes or at one end, and long ones.
func edgeTexts() []string {
	out := []string{"", "\x00\x00", "\x00\x00\x00", "ab", "ba", "abc", "acb", "cba", "ann", "lee", "two words", " two words", "two words ", "Two Words", "\xff\xff\xff", "\xff\x00", "\x00\xff", "é", "日本", "0", "00", "10", "01", "-1"}
	for c := range 256 {
		out = append(out, string([]byte{byte(c)}), string([]byte{'x', byte(c), 'y'}))
	}
	for _, unit := range []string{"a", "\x00", "\xff", "ab ", "0123456789"} {
		out = append(out, strings.Repeat(unit, 70), strings.Repeat(unit, 201))
	}
	return out
}

// edgeLists returns lists of tokens of many kinds: no tokens, one, all sets of some tokens, tokens that are there twice, and many.
func edgeLists() [][]string {
	tokens := []string{"", "a", "b", "ab", "\xff"}
	out := [][]string{nil, {"", ""}, {"a", "a"}, {"b", "a", "b"}, {"lee", "ann"}, {"ann", "lee"}, {"ann lee"}, {"A"}}
	for chosen := range 1 << len(tokens) {
		list := []string{}
		for i, token := range tokens {
			if chosen>>i&1 == 1 {
				list = append(list, token)
			}
		}
		out = append(out, list)
	}
	var many []string
	for i := range 150 {
		many = append(many, fmt.Sprint("t", i))
	}
	return append(out, many, many[:60], many[40:])
}

// edgeIntegers returns integers of all sizes: small ones, those around the limits, and those around the ends.
func edgeIntegers() []int {
	out := []int{math.MinInt, math.MinInt + 1, -1 << 32, -p, 1 << 31, 1 << 32, 1<<32 + 1, 1 << 62, math.MaxInt - 1, math.MaxInt, 100, 128, 200, 256, 257, 320}
	for n := -5; n <= 70; n++ {
		out = append(out, n)
	}
	return out
}

// madeSketches returns the sketches of lists of tokens with a number of elements.
func madeSketches(t *testing.T, n int) [][]int {
	t.Helper()
	var out [][]int
	for _, tokens := range edgeLists() {
		made, err := sketch.Make(tokens, n)
		if err != api.OK || len(made) != n {
			t.Fatalf("Make(%q, %d): %v %d", tokens, n, made, err)
		}
		out = append(out, made)
	}
	return out
}

// filled returns a list of one number.
func filled(n, length int) []int {
	return slices.Repeat([]int{n}, length)
}

// edgeSketches returns sketches with a number of elements that are written out: the empty one, ones at the limits, and ones of few different numbers, which are equal at some indices.
func edgeSketches(n int) [][]int {
	out := [][]int{filled(-1, n), filled(0, n), filled(p-1, n), filled(1, n)}
	next := numbers()
	for _, bound := range []int{2, 2, 3, 12, 120, p} {
		list := make([]int, n)
		for i := range list {
			list[i] = next(bound)
		}
		other := slices.Clone(list)
		other[next(n)] = p - 1
		out = append(out, list, other)
	}
	return out
}

// sketches returns sketches with a number of elements, made ones and others.
func sketches(t *testing.T, n int) [][]int {
	t.Helper()
	return append(madeSketches(t, n), edgeSketches(n)...)
}

// noSketches returns lists that are no sketches: too short or too long ones, and ones with a number at the beginning, in the middle or at the end that is not permitted, or not beside the others.
func noSketches() [][]int {
	out := [][]int{nil, {}, filled(0, 65), filled(-1, 65), filled(5, 128), filled(7, 1000), filled(p, 65)}
	for _, length := range []int{1, 2, 3, 4, 64} {
		for at := range length {
			for _, bad := range []int{-2, -3, p, p + 1, 1 << 32, -p, 1 << 62, math.MinInt, math.MaxInt} {
				for _, rest := range []int{-1, 0, 9, p - 1} {
					list := filled(rest, length)
					list[at] = bad
					out = append(out, list)
				}
			}
			for _, rest := range []int{0, 1, p - 1} {
				list, other := filled(rest, length), filled(-1, length)
				list[at], other[at] = -1, rest
				if length > 1 {
					out = append(out, list, other)
				}
			}
		}
	}
	return append(out, filled(-2, 2), filled(p, 2), filled(p, 64), []int{-1, p}, []int{-2, 0}, []int{-1, -1, 0, -1}, []int{5, -1, 5, 5})
}

// P5.1, E1: the hashes of the chapter's examples, and edges that are worked out by hand.
func TestHashExamples(t *testing.T) {
	for _, test := range []struct {
		text string
		seed int
		want int
	}{
		{"", 0, 11}, {"", 1, 48282}, {"a", 0, 4730569},
		{"\x00", 0, 48282}, {"\xff", 0, 256*48271 + 11}, {"\x00", 1, 811387250}, {"\x00\x00", 0, 811338979},
		{"", 2, 96553}, {"", -1, p - 48271 + 11}, {"", p - 1, p - 48271 + 11}, {"", p, 11}, {"", p + 1, 48282}, {"", -p, 11}, {"", 1 - p, 48282}, {"", 2 * p, 11}, {"", 44488, 2147480259}, {"", 44489, 44883},
		{"", 824497409, p - 1}, {"", 576832321, 0}, {"", 329167233, 1}, {"", 247665088, 10}, {"", 576832321 - p, 0},
		{"", math.MaxInt, 48282}, {"", math.MinInt, p - 2*48271 + 11}, {"a", math.MaxInt - 1, 4730569}, {"a", math.MinInt + 2, 4730569},
	} {
		if got := sketch.Hash(test.text, test.seed); got != test.want {
			t.Errorf("Hash(%q, %d): %d", test.text, test.seed, got)
		}
	}
}

// P5.1, E1: seeds that are equal modulo 1000003 have the same factor, but begin with other numbers; the order of bytes makes a difference.
func TestHashDiffers(t *testing.T) {
	for _, seed := range []int{0, 1, 5, 77, 1000002} {
		for _, text := range []string{"", "x", "ann", "\x00"} {
			if sketch.Hash(text, seed) == sketch.Hash(text, seed+1000003) {
				t.Errorf("Hash(%q, %d) is that of the seed %d", text, seed, seed+1000003)
			}
		}
		if sketch.Hash("ab", seed) == sketch.Hash("ba", seed) || sketch.Hash("", seed) == sketch.Hash("\x00", seed) || sketch.Hash("a", seed) == sketch.Hash("A", seed) {
			t.Errorf("the seed %d: other texts have equal hashes", seed)
		}
	}
}

// P5.1, P5.6, E1: hashes agree with the model, and are from 0 to p - 1.
func TestHashAgrees(t *testing.T) {
	for _, text := range edgeTexts() {
		for _, seed := range edgeSeeds() {
			got := sketch.Hash(text, seed)
			if got != hashModel(text, seed) {
				t.Fatalf("Hash(%q, %d): %d", text, seed, got)
			}
			if got < 0 || got > p-1 {
				t.Fatalf("Hash(%q, %d): %d is no hash", text, seed, got)
			}
		}
	}
}

// P5.6: seeds that are equal modulo p have equal hashes; so have the least and the greatest integers and the numbers that are equal to them.
func TestHashOfEqualSeeds(t *testing.T) {
	for _, text := range []string{"", "a", "\x00", "\xff", "two words", strings.Repeat("xyz", 50)} {
		for _, seed := range edgeSeeds() {
			rest := int(modulo(big.NewInt(int64(seed))).Int64())
			want := sketch.Hash(text, rest)
			for _, times := range []int{0, 1, 2, 1000003, p, -1, -2, -1000003, -p} {
				if got := sketch.Hash(text, rest+times*p); got != want {
					t.Fatalf("Hash(%q, %d): %d, but %d for %d", text, rest+times*p, got, want, rest)
				}
			}
			if got := sketch.Hash(text, seed); got != want {
				t.Fatalf("Hash(%q, %d): %d, but %d for %d", text, seed, got, want, rest)
			}
		}
	}
}

// P5.6: texts in which every number from the beginning on is as great as can be have hashes, too: no product runs over.
func TestHashOfGreatNumbers(t *testing.T) {
	for _, seed := range []int{p - 1, p - 2, 2147*1000003 + 1000002, 2146*1000003 + 1000002, 1000002} {
		for length := range 300 {
			text := strings.Repeat("\xff", length)
			if got := sketch.Hash(text, seed); got != hashModel(text, seed) || got < 0 || got >= p {
				t.Fatalf("Hash of %d bytes with %d: %d", length, seed, got)
			}
		}
	}
}

// P5.1, E1: the sketches of the chapter's example, and edges: no tokens, the empty text as a token, tokens that are there twice, and each index with a seed of its own.
func TestMakeExamples(t *testing.T) {
	for _, test := range []struct {
		tokens []string
		n      int
		want   []int
	}{
		{nil, 3, []int{-1, -1, -1}}, {[]string{}, 1, []int{-1}}, {nil, 64, filled(-1, 64)},
		{[]string{""}, 1, []int{11}}, {[]string{""}, 3, []int{11, 48282, 96553}}, {[]string{"", ""}, 2, []int{11, 48282}},
		{[]string{"a"}, 1, []int{4730569}}, {[]string{"a", ""}, 1, []int{11}}, {[]string{"", "a"}, 1, []int{11}}, {[]string{"a", "\x00", "\xff"}, 1, []int{48282}},
		{[]string{"\x00"}, 2, []int{48282, 811387250}}, {[]string{"\x00", ""}, 2, []int{11, 48282}},
	} {
		if got, err := sketch.Make(test.tokens, test.n); !slices.Equal(got, test.want) || err != api.OK {
			t.Errorf("Make(%q, %d): %v %d", test.tokens, test.n, got, err)
		}
	}
}

// P5.1, E1: Make agrees with the model for all numbers of elements, and gives ErrArg and no sketch for those that are not permitted, whatever the tokens are.
func TestMakeAgrees(t *testing.T) {
	for _, tokens := range edgeLists()[:30] {
		for _, n := range edgeIntegers() {
			got, err := sketch.Make(tokens, n)
			want, wantErr := makeModel(tokens, n)
			if !slices.Equal(got, want) || err != wantErr {
				t.Fatalf("Make(%q, %d): %v %d", tokens, n, got, err)
			}
		}
	}
}

// P5.1, E1: what Make returns is a sketch; it is the empty one exactly if there are no tokens.
func TestMakeMakesSketches(t *testing.T) {
	for n := 1; n <= 64; n++ {
		for i, made := range madeSketches(t, n) {
			tokens := edgeLists()[i]
			if !isSketchModel(made) || (made[0] == -1) != (len(tokens) == 0) {
				t.Fatalf("Make(%q, %d): %v", tokens, n, made)
			}
			for seed, got := range made {
				isHash := func(token string) bool { return sketch.Hash(token, seed) == got }
				isLess := func(token string) bool { return sketch.Hash(token, seed) < got }
				if len(tokens) > 0 && (!slices.ContainsFunc(tokens, isHash) || slices.ContainsFunc(tokens, isLess)) {
					t.Fatalf("Make(%q, %d): %d at %d is not the least hash", tokens, n, got, seed)
				}
			}
		}
	}
}

// orders returns a list in all orders.
func orders(list []string) [][]string {
	if len(list) == 0 {
		return [][]string{nil}
	}
	var out [][]string
	for i := range list {
		rest := slices.Concat(list[:i], list[i+1:])
		for _, order := range orders(rest) {
			out = append(out, append(order, list[i]))
		}
	}
	return out
}

// P5.2: all orders of tokens, with tokens that are there twice at any place, have the same sketch.
func TestMakeOfOrders(t *testing.T) {
	tokens := []string{"ann", "", "lee", "b", "\xff2"}
	want, err := sketch.Make(tokens, 64)
	if err != api.OK {
		t.Fatal(err)
	}
	for _, order := range orders(tokens) {
		lists := [][]string{order, slices.Concat(order, order), slices.Repeat(order, 3)}
		for i := range order {
			lists = append(lists, slices.Insert(slices.Clone(order), i, order[0]), slices.Insert(slices.Clone(order), i, order[4], order[4], order[2]))
		}
		for _, list := range lists {
			if got, err := sketch.Make(list, 64); !slices.Equal(got, want) || err != api.OK {
				t.Fatalf("Make(%q, 64): %v %d", list, got, err)
			}
		}
	}
}

// P5.2: the same for lists of all kinds.
func TestMakeOfReversed(t *testing.T) {
	for _, tokens := range edgeLists() {
		reversed := slices.Clone(tokens)
		slices.Reverse(reversed)
		sorted := slices.Compact(slices.Sorted(slices.Values(tokens)))
		for _, n := range []int{1, 2, 17, 64} {
			want, _ := sketch.Make(tokens, n)
			for _, list := range [][]string{reversed, sorted, slices.Concat(tokens, reversed)} {
				if got, err := sketch.Make(list, n); !slices.Equal(got, want) || err != api.OK {
					t.Fatalf("Make(%q, %d): %v %d", list, n, got, err)
				}
			}
		}
	}
}

// P5.1, E2: unions and estimates that are worked out by hand, among them the chapter's example, in both orders.
func TestUnionAndEstimateExamples(t *testing.T) {
	for _, test := range []struct {
		a, b, union []int
		share       api.Ratio
	}{
		{[]int{1, 2, 3, 4}, []int{1, 5, 3, 4}, []int{1, 2, 3, 4}, of(3, 4)},
		{[]int{1, 2, 3, 4}, []int{1, 5, 2, 4}, []int{1, 2, 2, 4}, of(1, 2)}, {[]int{1, 9}, []int{5, 2}, []int{1, 2}, of(0, 1)}, {[]int{1, 2, 3}, []int{2, 3, 1}, []int{1, 2, 1}, of(0, 1)}, {[]int{1, 2, 3}, []int{1, 2, 3}, []int{1, 2, 3}, of(1, 1)}, {[]int{4, 4, 4}, []int{4, 5, 6}, []int{4, 4, 4}, of(1, 3)}, {[]int{1, 2, 3}, []int{3, 2, 1}, []int{1, 2, 1}, of(1, 3)},
		{[]int{7}, []int{7}, []int{7}, of(1, 1)}, {[]int{7}, []int{8}, []int{7}, of(0, 1)}, {[]int{0}, []int{p - 1}, []int{0}, of(0, 1)}, {[]int{p - 1}, []int{p - 1}, []int{p - 1}, of(1, 1)}, {[]int{p - 1}, []int{p - 2}, []int{p - 2}, of(0, 1)}, {[]int{0, p - 1}, []int{p - 1, 0}, []int{0, 0}, of(0, 1)},
		{[]int{-1}, []int{-1}, []int{-1}, of(1, 1)}, {[]int{-1, -1}, []int{0, 3}, []int{0, 3}, of(0, 1)}, {[]int{-1, -1, -1}, []int{-1, -1, -1}, []int{-1, -1, -1}, of(1, 1)}, {[]int{-1}, []int{p - 1}, []int{p - 1}, of(0, 1)}, {[]int{-1}, []int{0}, []int{0}, of(0, 1)},
		{filled(-1, 64), filled(p-1, 64), filled(p-1, 64), of(0, 1)}, {filled(3, 64), filled(2, 64), filled(2, 64), of(0, 1)}, {filled(-1, 64), filled(-1, 64), filled(-1, 64), of(1, 1)},
	} {
		for range 2 {
			if got, err := sketch.Union(test.a, test.b); !slices.Equal(got, test.union) || err != api.OK {
				t.Errorf("Union(%v, %v): %v %d", test.a, test.b, got, err)
			}
			if got, err := sketch.Estimate(test.a, test.b); got != test.share || err != api.OK {
				t.Errorf("Estimate(%v, %v): %v %d", test.a, test.b, got, err)
			}
			test.a, test.b = test.b, test.a
		}
	}
}

// P5.1, E2: Union and Estimate agree with the models for sketches of all lengths.
func TestUnionAndEstimateAgree(t *testing.T) {
	for n := 1; n <= 64; n++ {
		all := sketches(t, n)
		for _, a := range all {
			for _, b := range all {
				union, err := sketch.Union(a, b)
				if want, wantErr := unionModel(a, b); !slices.Equal(union, want) || err != wantErr {
					t.Fatalf("Union(%v, %v): %v %d", a, b, union, err)
				}
				share, err := sketch.Estimate(a, b)
				if want, wantErr := estimateModel(a, b); share != want || err != wantErr {
					t.Fatalf("Estimate(%v, %v): %v %d", a, b, share, err)
				}
			}
		}
	}
}

// P5.1, E2: the estimate of sketches that are equal at each possible number of indices is in lowest terms.
func TestEstimateOfEachNumber(t *testing.T) {
	for n := 1; n <= 64; n++ {
		for equal := range n + 1 {
			a, b := filled(5, n), append(filled(5, equal), filled(6, n-equal)...)
			want := big.NewRat(int64(equal), int64(n))
			got, err := sketch.Estimate(a, b)
			if got != of(int(want.Num().Int64()), int(want.Denom().Int64())) || err != api.OK {
				t.Errorf("%d of %d are equal: %v %d", equal, n, got, err)
			}
		}
	}
}

// checkNoUnion checks that two lists have neither a union nor an estimate, in both orders.
func checkNoUnion(t *testing.T, a, b []int) {
	t.Helper()
	for range 2 {
		if got, err := sketch.Union(a, b); len(got) != 0 || err != api.ErrArg {
			t.Fatalf("Union(%v, %v): %v %d", a, b, got, err)
		}
		if got, err := sketch.Estimate(a, b); got != (api.Ratio{}) || err != api.ErrArg {
			t.Fatalf("Estimate(%v, %v): %v %d", a, b, got, err)
		}
		a, b = b, a
	}
}

// E2: a list that is no sketch has no union and no estimate, with a sketch of its length, with another one, with the empty one or with itself.
func TestUnionOfNoSketches(t *testing.T) {
	for _, a := range noSketches() {
		checkNoUnion(t, a, slices.Clone(a))
		checkNoUnion(t, a, []int{0, 3})
		for _, n := range []int{-1, 0, 9, p - 1} {
			checkNoUnion(t, a, filled(n, max(1, min(64, len(a)))))
			checkNoUnion(t, a, filled(n, len(a)))
		}
	}
}

// E2: two sketches with different numbers of elements have no union and no estimate, even if one of them or both are empty.
func TestUnionOfOtherLengths(t *testing.T) {
	for length := 1; length <= 64; length++ {
		for other := 1; other <= 64; other++ {
			if length == other {
				continue
			}
			for _, n := range []int{-1, 0, 8} {
				for _, m := range []int{-1, 0, 8} {
					checkNoUnion(t, filled(n, length), filled(m, other))
				}
			}
		}
	}
}

// P5.3: the union of the sketches of two lists is the sketch of the tokens of both.
func TestUnionOfLists(t *testing.T) {
	lists := edgeLists()
	for _, n := range []int{1, 2, 7, 64} {
		made := madeSketches(t, n)
		for i, a := range made {
			for k, b := range made {
				together, _ := sketch.Make(slices.Concat(lists[i], lists[k]), n)
				if got, err := sketch.Union(a, b); !slices.Equal(got, together) || err != api.OK {
					t.Fatalf("the union of %q and %q with %d numbers: %v %d", lists[i], lists[k], n, got, err)
				}
			}
		}
	}
}

// union returns the union of two sketches, which has no error.
func union(t *testing.T, a, b []int) []int {
	t.Helper()
	got, err := sketch.Union(a, b)
	if err != api.OK {
		t.Fatalf("Union(%v, %v): %d", a, b, err)
	}
	return got
}

// P5.3: Union is commutative, associative and idempotent, and the empty sketch changes nothing.
func TestUnionLaws(t *testing.T) {
	for _, n := range []int{1, 2, 5, 64} {
		all := append(edgeSketches(n), madeSketches(t, n)[:16]...)
		empty := filled(-1, n)
		for _, a := range all {
			if !slices.Equal(union(t, a, slices.Clone(a)), a) || !slices.Equal(union(t, a, empty), a) || !slices.Equal(union(t, empty, a), a) {
				t.Fatalf("the unions of %v with itself and with nothing", a)
			}
			for _, b := range all {
				both := union(t, a, b)
				if !slices.Equal(both, union(t, b, a)) || !isSketchModel(both) {
					t.Fatalf("Union(%v, %v): %v", a, b, both)
				}
				for _, c := range all {
					if !slices.Equal(union(t, both, c), union(t, a, union(t, b, c))) {
						t.Fatalf("the unions of %v, %v and %v", a, b, c)
					}
				}
			}
		}
	}
}

// P5.4: the estimate is symmetric, valid, from 0 to 1, and 1 exactly for equal sketches.
func TestEstimateLaws(t *testing.T) {
	for n := 1; n <= 64; n++ {
		all := sketches(t, n)
		for _, a := range all {
			for _, b := range all {
				got, err := sketch.Estimate(a, b)
				back, backErr := sketch.Estimate(b, a)
				if got != back || err != api.OK || backErr != api.OK {
					t.Fatalf("Estimate(%v, %v): %v %d and %v %d", a, b, got, err, back, backErr)
				}
				if !ratio.Valid(got) || got.Num < 0 || got.Num > got.Den {
					t.Fatalf("Estimate(%v, %v): %v", a, b, got)
				}
				if (got == of(1, 1)) != slices.Equal(a, b) {
					t.Fatalf("Estimate(%v, %v): %v", a, b, got)
				}
			}
		}
	}
}

// P5.4: sketches that differ at a single index, whichever it is, are not estimated as equal.
func TestEstimateOfOneDifference(t *testing.T) {
	for n := 1; n <= 64; n++ {
		for at := range n {
			a, b := filled(4, n), filled(4, n)
			b[at] = 3
			want, _ := ratio.Make(n-1, n)
			if got, err := sketch.Estimate(a, b); got != want || err != api.OK {
				t.Fatalf("%d numbers, another one at %d: %v %d", n, at, got, err)
			}
		}
	}
}

// P5.1, E3: the keys of the chapter's example, and edges: one row, as many rows as numbers, the limits of numbers, indices with two digits, and the empty sketch.
func TestBandsExamples(t *testing.T) {
	for _, test := range []struct {
		list []int
		rows int
		want []string
	}{
		{[]int{7, 8, 9, 10}, 2, []string{"0:7.8", "1:9.10"}},
		{[]int{7, 8, 9, 10}, 1, []string{"0:7", "1:8", "2:9", "3:10"}}, {[]int{7, 8, 9, 10}, 4, []string{"0:7.8.9.10"}}, {[]int{7}, 1, []string{"0:7"}}, {[]int{0}, 1, []string{"0:0"}},
		{[]int{0, p - 1}, 2, []string{"0:0.2147483646"}}, {[]int{0, p - 1}, 1, []string{"0:0", "1:2147483646"}}, {[]int{1, 2, 3, 4, 5, 6}, 3, []string{"0:1.2.3", "1:4.5.6"}}, {[]int{1, 2, 3, 4, 5, 6}, 2, []string{"0:1.2", "1:3.4", "2:5.6"}}, {[]int{3, 3, 3, 3}, 2, []string{"0:3.3", "1:3.3"}},
		{filled(5, 12), 1, []string{"0:5", "1:5", "2:5", "3:5", "4:5", "5:5", "6:5", "7:5", "8:5", "9:5", "10:5", "11:5"}},
		{[]int{-1}, 1, nil}, {[]int{-1, -1}, 1, nil}, {[]int{-1, -1}, 2, nil}, {filled(-1, 64), 8, nil}, {filled(-1, 64), 64, nil},
	} {
		if got, err := sketch.Bands(test.list, test.rows); !slices.Equal(got, test.want) || err != api.OK {
			t.Errorf("Bands(%v, %d): %q %d", test.list, test.rows, got, err)
		}
	}
}

// P5.1, E3: Bands agrees with the model for sketches of all lengths and all numbers of rows, those that are not permitted and those that do not divide the number of elements among them.
func TestBandsAgree(t *testing.T) {
	for n := 1; n <= 64; n++ {
		for _, list := range append(edgeSketches(n), madeSketches(t, n)[8:12]...) {
			for _, rows := range edgeIntegers() {
				got, err := sketch.Bands(list, rows)
				if want, wantErr := bandsModel(list, rows); !slices.Equal(got, want) || err != wantErr {
					t.Fatalf("Bands(%v, %d): %q %d", list, rows, got, err)
				}
			}
		}
	}
}

// E3: rows that are not permitted give ErrArg and no keys, also for the empty sketch.
func TestBandsOfWrongRows(t *testing.T) {
	for _, list := range [][]int{{7, 8, 9, 10, 11, 12}, filled(-1, 6)} {
		for _, rows := range []int{0, -1, -2, -3, -6, 4, 5, 7, 12, 64, math.MinInt, math.MaxInt, 1 << 32} {
			if got, err := sketch.Bands(list, rows); len(got) != 0 || err != api.ErrArg {
				t.Errorf("Bands(%v, %d): %q %d", list, rows, got, err)
			}
		}
	}
}

// E3: a list that is no sketch has no keys, with any number of rows.
func TestBandsOfNoSketches(t *testing.T) {
	for _, list := range noSketches() {
		for _, rows := range []int{1, 2, 4, 5, 13, 64, 65, len(list), 0, -1, math.MinInt, math.MaxInt} {
			if got, err := sketch.Bands(list, rows); len(got) != 0 || err != api.ErrArg {
				t.Fatalf("Bands(%v, %d): %q %d", list, rows, got, err)
			}
		}
	}
}

// divisors returns the numbers of rows that a sketch can have.
func divisors(n int) []int {
	var out []int
	for rows := 1; rows <= n; rows++ {
		if n%rows == 0 {
			out = append(out, rows)
		}
	}
	return out
}

// bands returns the keys of a sketch, which have no error.
func bands(t *testing.T, list []int, rows int) []string {
	t.Helper()
	keys, err := sketch.Bands(list, rows)
	if err != api.OK {
		t.Fatalf("Bands(%v, %d): %d", list, rows, err)
	}
	return keys
}

// P5.5: there are as many keys as bands, all different, for each number of rows.
func TestBandsAreDifferent(t *testing.T) {
	for n := 1; n <= 64; n++ {
		for _, list := range sketches(t, n) {
			for _, rows := range divisors(n) {
				keys := bands(t, list, rows)
				if list[0] == -1 && len(keys) != 0 || list[0] != -1 && len(keys) != n/rows {
					t.Fatalf("Bands(%v, %d): %d keys", list, rows, len(keys))
				}
				if once := slices.Compact(slices.Sorted(slices.Values(keys))); len(once) != len(keys) {
					t.Fatalf("Bands(%v, %d): %q", list, rows, keys)
				}
			}
		}
	}
}

// P5.5: two sketches that are not empty have the key of a band in common exactly if they are equal in this band, and never the keys of different bands.
func TestBandsInCommon(t *testing.T) {
	for _, n := range []int{1, 2, 3, 4, 6, 12, 24, 36, 60, 64} {
		all := slices.DeleteFunc(sketches(t, n), func(list []int) bool { return list[0] == -1 })
		for _, rows := range divisors(n) {
			for _, a := range all {
				keys := bands(t, a, rows)
				for _, b := range all {
					others := bands(t, b, rows)
					for band, key := range keys {
						isEqual := slices.Equal(a[band*rows:(band+1)*rows], b[band*rows:(band+1)*rows])
						if got := slices.Index(others, key); isEqual && got != band || !isEqual && got != -1 {
							t.Fatalf("band %d of %v and %v with %d rows", band, a, b, rows)
						}
					}
				}
			}
		}
	}
}

// P5.5: numbers whose digits are the same ones in another grouping, and equal numbers in another band, have other keys.
func TestBandsOfDigits(t *testing.T) {
	for _, lists := range [][2][]int{{{1, 23}, {12, 3}}, {{11, 1}, {1, 11}}, {{0, 10}, {1, 0}}, {{0, 0}, {0, 1}}, {{100, 0}, {10, 0}}, {{10, 0}, {1, 0}}, {{12, 0}, {1, 20}}, {{21, 2}, {2, 12}}} {
		if a, b := bands(t, lists[0], 2), bands(t, lists[1], 2); slices.Equal(a, b) {
			t.Errorf("%v and %v: %q", lists[0], lists[1], a)
		}
	}
	var keys []string
	for n := range 300 {
		keys = append(keys, bands(t, slices.Repeat([]int{n}, 24), 2)...)
	}
	if once := slices.Compact(slices.Sorted(slices.Values(keys))); len(once) != 300*12 {
		t.Errorf("%d different keys", len(once))
	}
}

// P5.7: a sketch with fewer numbers is the beginning of the one with more.
func TestShorterSketches(t *testing.T) {
	for _, tokens := range edgeLists() {
		longest, err := sketch.Make(tokens, 64)
		if err != api.OK {
			t.Fatal(err)
		}
		for n := 1; n <= 64; n++ {
			if got, err := sketch.Make(tokens, n); !slices.Equal(got, longest[:n]) || err != api.OK {
				t.Fatalf("Make(%q, %d): %v %d", tokens, n, got, err)
			}
		}
	}
}

// P1: the functions end for large texts and many tokens, too.
func TestLarge(t *testing.T) {
	large := strings.Repeat("abcde", 1000000)
	if got := sketch.Hash(large, math.MinInt); got < 0 || got >= p || got == sketch.Hash(large[1:], math.MinInt) {
		t.Errorf("the hash of a large text: %d", got)
	}
	var tokens []string
	for i := range 200000 {
		tokens = append(tokens, fmt.Sprint(i))
	}
	all, err := sketch.Make(tokens, 64)
	if err != api.OK || !isSketchModel(all) {
		t.Fatalf("the sketch of many tokens: %v %d", all, err)
	}
	a, _ := sketch.Make(tokens[:70000], 64)
	b, _ := sketch.Make(tokens[60000:], 64)
	if !slices.Equal(union(t, a, b), all) {
		t.Error("the union of many tokens")
	}
}

// P1: for lists of any integers and any rows the functions return, an error alone, or without an error what agrees with the models.
func TestAnyIntegers(t *testing.T) {
	next := numbers()
	integers := append(edgeIntegers(), -1, -1, -1, 0, 0, 1, p-1, p-1, p)
	for range 20000 {
		a, b := make([]int, next(4)), make([]int, next(4))
		for i := range a {
			a[i] = integers[next(len(integers))]
		}
		for i := range b {
			b[i] = integers[next(len(integers))]
		}
		rows := integers[next(len(integers))]
		union, err := sketch.Union(a, b)
		if want, wantErr := unionModel(a, b); !slices.Equal(union, want) || err != wantErr {
			t.Fatalf("Union(%v, %v): %v %d", a, b, union, err)
		}
		share, err := sketch.Estimate(a, b)
		if want, wantErr := estimateModel(a, b); share != want || err != wantErr {
			t.Fatalf("Estimate(%v, %v): %v %d", a, b, share, err)
		}
		keys, err := sketch.Bands(a, rows)
		if want, wantErr := bandsModel(a, rows); !slices.Equal(keys, want) || err != wantErr {
			t.Fatalf("Bands(%v, %d): %q %d", a, rows, keys, err)
		}
	}
}

// results returns what all functions return for many arguments.
func results(t *testing.T) []string {
	t.Helper()
	var out []string
	for i, text := range edgeTexts()[:100] {
		out = append(out, fmt.Sprint(sketch.Hash(text, i*i)))
	}
	for _, n := range []int{0, 1, 6, 64, 65} {
		for _, tokens := range edgeLists() {
			made, err := sketch.Make(tokens, n)
			out = append(out, fmt.Sprint(made, err))
		}
	}
	all := append(sketches(t, 6), noSketches()[:40]...)
	for i, a := range all {
		b := all[i*7%len(all)]
		union, unionErr := sketch.Union(a, b)
		share, shareErr := sketch.Estimate(a, b)
		keys, keysErr := sketch.Bands(a, i%4)
		out = append(out, fmt.Sprint(union, unionErr, share, shareErr, keys, keysErr))
	}
	return out
}

// P3: calls with equal arguments have equal results, whatever was called in between.
func TestIndependence(t *testing.T) {
	first := results(t)
	for range 3 {
		if !slices.Equal(results(t), first) {
			t.Fatal("the results change")
		}
	}
}

// DOC.md, Rules: the lists that are given stay as they are, also beyond their lengths.
func TestListsAreKept(t *testing.T) {
	for _, tokens := range edgeLists() {
		given := append(slices.Clone(tokens), "more", "and more")
		sketch.Make(given[:len(tokens)], 5)
		if !slices.Equal(given, append(slices.Clone(tokens), "more", "and more")) {
			t.Fatalf("Make(%q, 5) changes the list", tokens)
		}
	}
	for _, list := range append(sketches(t, 4), noSketches()...) {
		for _, other := range sketches(t, 4) {
			a, b := append(slices.Clone(list), 77, 78), append(slices.Clone(other), 79, 80)
			sketch.Union(a[:len(list)], b[:len(other)])
			sketch.Union(b[:len(other)], a[:len(list)])
			sketch.Estimate(a[:len(list)], b[:len(other)])
			sketch.Bands(a[:len(list)], 2)
			if !slices.Equal(a, append(slices.Clone(list), 77, 78)) || !slices.Equal(b, append(slices.Clone(other), 79, 80)) {
				t.Fatalf("%v or %v is changed", list, other)
			}
		}
	}
}

// DOC.md, Rules: a union is new memory, also if it is equal to one of the sketches, so that changing or extending it leaves them as they are.
func TestUnionIsNew(t *testing.T) {
	for _, pair := range [][2][]int{{{-1, -1}, {3, 4}}, {{3, 4}, {-1, -1}}, {{-1, -1}, {-1, -1}}, {{1, 2}, {3, 4}}, {{3, 4}, {1, 2}}, {{5, 6}, {5, 6}}} {
		a, b := append(slices.Clone(pair[0]), 77), append(slices.Clone(pair[1]), 78)
		got := union(t, a[:2], b[:2])
		got[0], got[1] = 90, 91
		got = append(got, 92)
		if len(got) != 3 || !slices.Equal(a, append(slices.Clone(pair[0]), 77)) || !slices.Equal(b, append(slices.Clone(pair[1]), 78)) {
			t.Errorf("the union of %v and %v shares their memory", pair[0], pair[1])
		}
		same := slices.Clone(pair[0])
		twice := union(t, same, same)
		twice[0] = 93
		if !slices.Equal(same, pair[0]) {
			t.Errorf("the union of %v with itself shares its memory", pair[0])
		}
	}
}
