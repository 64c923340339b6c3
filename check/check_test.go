package check_test

import (
	"math"
	"strings"
	"testing"

	"cloakroom/check"
)

const all = 1<<16 - 1

// drawn returns n bytes that depend on nothing but the seed.
func drawn(seed uint32, n int) string {
	b := make([]byte, n)
	for i := range b {
		seed = seed*1664525 + 1013904223
		b[i] = byte(seed >> 24)
	}
	return string(b)
}

// pair returns the two bytes of a word.
func pair(w int) string { return string([]byte{byte(w >> 8), byte(w)}) }

// at returns the word of s at an even offset, 0 standing for a byte behind s.
func at(s string, i int) int {
	s += "\x00"
	return int(s[i])*256 + int(s[i+1])
}

// residue returns what a total comes to when its upper part is added again and
// again: the remainder of 65535, but 65535 for what is a multiple of it.
func residue(total int) int {
	if total == 0 {
		return 0
	}
	return (total-1)%all + 1
}

// sum returns the sum of the words of s, computed from single bytes.
func sum(s string) int {
	total := 0
	for i := range len(s) {
		if i%2 == 0 {
			total += 256 * int(s[i])
		} else {
			total += int(s[i])
		}
	}
	return residue(total)
}

// edges are words at which a sum passes 65535.
func edges() []int {
	return []int{0, 1, 2, 255, 256, 0x5555, 0x7fff, 0x8000, 0xdd2f, 0xfffd, 0xfffe, all}
}

// noWords are numbers that are no words.
func noWords() []int {
	return []int{-1, -2, -all, math.MinInt, math.MinInt + 1, all + 1, all + 2, 1 << 17, 1 << 32, 1<<32 + 1, math.MaxInt}
}

// P3.1: the sum, the checksum and rightness of ordinary bytes and at the edges.
func TestSum(t *testing.T) {
	rows := []struct {
		s    string
		want int
	}{
		{"", 0},
		{"\x00", 0},
		{"\x00\x00", 0},
		{"\x00\x00\x00", 0},
		{"\x01", 0x0100},
		{"\xff", 0xff00},
		{"\x12\x34", 0x1234},
		{"\x12\x34\x56", 0x6834},
		{"\x00\x01\xf2\x03", 0xf204},
		{"\x00\x01\xf2\x03\xf4\xf5\xf6\xf7", 0xddf2},
		{"\xff\xff", all},
		{"\x00\x00\xff\xff\x00\x00", all},
		{"\xff\xfe\x00\x01", all},
		{"\xff\xff\x00\x01", 1},
		{"\xff\xff\x00\x00\x01", 0x0100},
		{"\xff\x00\xff", 0xfe01},
		{"\xff\xff\xff\xff", all},
		{"\xff\xff\xff\xff\x00\x01", 1}, // 1ffff, 10000, 1
		{strings.Repeat("\xff", 1<<17), all},
		{strings.Repeat("\xff\xfe", 1<<17), 0xfffd}, // more than 2^32
		{strings.Repeat("\x00\x01", 1<<16), 1},
	}
	for _, r := range rows {
		if got := check.Sum(r.s); got != r.want {
			t.Errorf("Sum of %d bytes %.8x = %x, want %x", len(r.s), r.s, got, r.want)
		}
		if got := check.Of(r.s); got != all-r.want {
			t.Errorf("Of %d bytes %.8x = %x, want %x", len(r.s), r.s, got, all-r.want)
		}
		if got := check.Right(r.s); got != (r.want == all) {
			t.Errorf("Right of %d bytes %.8x = %v", len(r.s), r.s, got)
		}
	}
}

// P3.1: the same for drawn bytes of each length, odd ones among them.
func TestSumOfEachLength(t *testing.T) {
	for length := range 600 {
		s := drawn(uint32(length), length)
		want := sum(s)
		if got := check.Sum(s); got != want {
			t.Errorf("Sum(%x) = %x, want %x", s, got, want)
		}
		if got := check.Of(s); got != all-want {
			t.Errorf("Of(%x) = %x, want %x", s, got, all-want)
		}
		if got := check.Right(s); got != (want == all) {
			t.Errorf("Right(%x) = %v", s, got)
		}
	}
}

// P3.1: the sum of all pairs of words at the edges, of which few are right.
func TestSumOfTwoWords(t *testing.T) {
	for _, a := range edges() {
		for _, b := range edges() {
			s, want := pair(a)+pair(b), residue(a+b)
			if got := check.Sum(s); got != want {
				t.Errorf("Sum(%x) = %x, want %x", s, got, want)
			}
			if got := check.Right(s); got != (want == all) {
				t.Errorf("Right(%x) = %v", s, got)
			}
		}
	}
}

// P3.1: the checksum of a real IPv4 header, and the header with it.
func TestHeader(t *testing.T) {
	const before, behind = "\x45\x00\x00\x73\x00\x00\x40\x00\x40\x11", "\xc0\xa8\x00\x01\xc0\xa8\x00\xc7"
	if got := check.Of(before + "\x00\x00" + behind); got != 0xb861 {
		t.Errorf("Of = %x, want b861", got)
	}
	if !check.Right(before + "\xb8\x61" + behind) {
		t.Error("the header with its checksum is not right")
	}
	if check.Right(before + "\xb8\x60" + behind) {
		t.Error("the header with another checksum is right")
	}
}

// P3.1: Turn of ordinary words and at the edges.
func TestTurn(t *testing.T) {
	rows := []struct{ check, from, to, want int }{
		{0xdd2f, 0x5555, 0x3285, 0x0000}, // the example of RFC 1624
		{0x1234, 0x0001, 0x0002, 0x1233},
		{0x1234, 0x0002, 0x0001, 0x1235},
		{0x1234, 0x1234, 0x1234, 0x1234},
		{0, 0, 0, 0},
		{0, 0, 1, 0xfffe},
		{0, 1, 0, 1},
		{0, all, 0, 0},
		{0, 0, all, 0},
		{all, 0, 0, 0},
		{all, all, all, 0},
		{all, 1, 1, 0},
		{all, all, 0, all}, // the only way to 65535
		{all - 1, all, 0, all - 1},
		{all, all, 1, all - 1},
		{1, 0, 1, 0},
	}
	for _, r := range rows {
		if got := check.Turn(r.check, r.from, r.to); got != r.want {
			t.Errorf("Turn(%x, %x, %x) = %x, want %x", r.check, r.from, r.to, got, r.want)
		}
	}
}

// P3.1: Turn of all words at the edges is 65535 minus the sum of three words.
func TestTurnIsASum(t *testing.T) {
	for _, c := range edges() {
		for _, from := range edges() {
			for _, to := range edges() {
				want := all - sum(pair(all-c)+pair(all-from)+pair(to))
				if got := check.Turn(c, from, to); got != want {
					t.Errorf("Turn(%x, %x, %x) = %x, want %x", c, from, to, got, want)
				}
			}
		}
	}
}

// P3.1: Turn is 0 if one of the numbers is no word.
func TestTurnWrong(t *testing.T) {
	for _, n := range noWords() {
		for _, a := range append(edges(), n) {
			for _, b := range append(edges(), n) {
				for _, got := range []int{check.Turn(n, a, b), check.Turn(a, n, b), check.Turn(a, b, n)} {
					if got != 0 {
						t.Errorf("Turn of %d, %d and %d = %x, want 0", n, a, b, got)
					}
				}
			}
		}
	}
}

// P3.2: Turned of ordinary words and at the edges.
func TestTurned(t *testing.T) {
	rows := []struct {
		check    int
		from, to string
		want     int
	}{
		{0xdd2f, "\x55\x55", "\x32\x85", 0},
		{0x1234, "\x00\x01\x00\x02", "\x00\x03\x00\x05", 0x122f},
		{0x1234, "\x00\x01\x01\x00", "\x01\x00\x00\x01", 0x1234},
		{0x1234, "abcdef", "abcdef", 0x1234},
		{all, "ab", "ab", 0},
		{all, "\xff\xff", "\x00\x00", all},
		{all, "\xff\xff\x00\x00", "\x00\x00\x00\x00", 0},
		{all, "\xff\xff\xff\xff", "\x00\x00\x00\x00", all},
		{0x1234, "", "", 0x1234},
		{all, "", "", all},
		{0, "", "", 0},
	}
	for _, r := range rows {
		if got := check.Turned(r.check, r.from, r.to); got != r.want {
			t.Errorf("Turned(%x, %x, %x) = %x, want %x", r.check, r.from, r.to, got, r.want)
		}
	}
}

// P3.2: Turned applies Turn word by word, from the first one to the last.
func TestTurnedIsTurns(t *testing.T) {
	for length := 0; length <= 60; length += 2 {
		from, to := drawn(uint32(length), length), drawn(uint32(length)+1000, length)
		for _, c := range edges() {
			want := c
			for i := 0; i < length; i += 2 {
				want = check.Turn(want, at(from, i), at(to, i))
			}
			if got := check.Turned(c, from, to); got != want {
				t.Errorf("Turned(%x, %x, %x) = %x, want %x", c, from, to, got, want)
			}
		}
	}
}

// P3.2: Turned returns check, whatever it is, for texts of two lengths or an odd one.
func TestTurnedWrong(t *testing.T) {
	rows := []struct{ from, to string }{
		{"a", "b"}, {"abc", "def"}, {"a", ""}, {"", "a"}, {"ab", ""}, {"", "ab"},
		{"ab", "a"}, {"a", "ab"}, {"ab", "abc"}, {"abc", "ab"}, {"abcd", "ef"}, {"ef", "abcd"},
		{"abcde", "fghij"}, {drawn(1, 99), drawn(2, 99)}, {drawn(1, 98), drawn(2, 100)},
	}
	for _, r := range rows {
		for _, c := range append(edges(), noWords()...) {
			if got := check.Turned(c, r.from, r.to); got != c {
				t.Errorf("Turned(%d, %q, %q) = %d", c, r.from, r.to, got)
			}
		}
	}
}

// P3.2: of a check that is no word, the first pair of words makes 0, and no pair leaves it.
func TestTurnedOfNoWord(t *testing.T) {
	for _, c := range noWords() {
		if got := check.Turned(c, "", ""); got != c {
			t.Errorf("Turned(%d) of nothing = %d", c, got)
		}
		if got := check.Turned(c, "ab", "cd"); got != 0 {
			t.Errorf("Turned(%d) of a pair = %x, want 0", c, got)
		}
		want := check.Turn(0, at("cd", 0), at("gh", 0))
		if got := check.Turned(c, "a\x00cd", "eFgh"); got != want {
			t.Errorf("Turned(%d) of two pairs = %x, want %x", c, got, want)
		}
	}
}

// P3.2: Set of ordinary numbers and at the edges.
func TestSet(t *testing.T) {
	rows := []struct {
		s     string
		at, k int
		n     uint64
		want  string
	}{
		{"abc", 1, 1, 65, "aAc"},
		{"abc", 0, 1, 65, "Abc"},
		{"abc", 2, 1, 65, "abA"},
		{"a", 0, 1, 65, "A"},
		{"abcd", 1, 2, 258, "a\x01\x02d"},
		{"abcd", 0, 4, 258, "\x00\x00\x01\x02"},
		{"abcd", 1, 1, 0x4142, "aBcd"}, // only the lowest byte
		{"abcd", 2, 2, math.MaxUint64, "ab\xff\xff"},
		{"abcdefgh", 0, 8, 0x0102030405060708, "\x01\x02\x03\x04\x05\x06\x07\x08"},
		{"abcdefghi", 1, 8, 0, "a\x00\x00\x00\x00\x00\x00\x00\x00"},
		{"abcdefghi", 1, 7, 1, "a\x00\x00\x00\x00\x00\x00\x01i"},
		{"é", 1, 1, 0xaa, "\xc3\xaa"},
	}
	for _, r := range rows {
		if got := check.Set(r.s, r.at, r.k, r.n); got != r.want {
			t.Errorf("Set(%q, %d, %d, %x) = %q, want %q", r.s, r.at, r.k, r.n, got, r.want)
		}
	}
}

// P3.2: Set at each place of a text, for each k.
func TestSetEverywhere(t *testing.T) {
	const n, bytes = 0xf1f2f3f4f5f6f7f8, "\xf1\xf2\xf3\xf4\xf5\xf6\xf7\xf8"
	s := "the bytes of a text"
	for k := 1; k <= 8; k++ {
		for i := -1; i <= len(s)+1; i++ {
			want := s
			if i >= 0 && i+k <= len(s) {
				want = s[:i] + bytes[8-k:] + s[i+k:]
			}
			if got := check.Set(s, i, k, n); got != want {
				t.Errorf("Set(%q, %d, %d) = %q, want %q", s, i, k, got, want)
			}
		}
	}
}

// P3.2: Set returns s if it does not contain the bytes or k is out of range.
func TestSetWrong(t *testing.T) {
	for _, s := range []string{"", "a", "abc", "abcdefgh", strings.Repeat("x", 300)} {
		for _, k := range []int{1, 2, 7, 8} {
			for _, i := range []int{-1, -k, -len(s) - 1, math.MinInt, len(s) - k + 1, len(s), len(s) + 1, math.MaxInt - k, math.MaxInt - k + 1, math.MaxInt} {
				if i >= 0 && i <= len(s)-k {
					continue
				}
				if got := check.Set(s, i, k, 65); got != s {
					t.Errorf("Set(%q, %d, %d) = %q", s, i, k, got)
				}
			}
		}
		for _, k := range []int{0, -1, -8, 9, 10, 16, 64, 256, 257, 1<<32 + 1, math.MinInt, math.MaxInt} {
			for _, i := range []int{0, 1, len(s), -1, math.MinInt, math.MaxInt} {
				if got := check.Set(s, i, k, 65); got != s {
					t.Errorf("Set(%q, %d, %d) = %q", s, i, k, got)
				}
			}
		}
	}
}

// P3.3: bytes are right with their checksum in a word of them that was 0.
func TestRightWithChecksum(t *testing.T) {
	for length := 2; length < 50; length++ {
		for _, s := range []string{drawn(uint32(length), length), strings.Repeat("\xff", length), strings.Repeat("\x00", length)} {
			for i := 0; i+2 <= length; i += 2 {
				s := check.Set(s, i, 2, 0)
				if got := check.Set(s, i, 2, uint64(check.Of(s))); !check.Right(got) {
					t.Errorf("%x, with the checksum of %x, is not right", got, s)
				}
			}
		}
	}
}

// P3.3: they remain right if words are replaced and the checksum is updated,
// unless all bytes are 0 afterwards.
func TestRightAfterTurned(t *testing.T) {
	const place = 4
	zeros := strings.Repeat("\x00", 40)
	news := []string{"\x00\x00\x00\x00", "\xff\xff\xff\xff", "\x00\x00\xff\xff", "\x00\x01\x00\x00", drawn(7, 4)}
	for length := 6; length < 40; length++ {
		s := check.Set(drawn(uint32(length), length), place, 2, 0)
		s = check.Set(s, place, 2, uint64(check.Of(s)))
		for i := 0; i+4 <= length; i += 2 {
			if i == place-2 || i == place {
				continue
			}
			for _, to := range news {
				c := check.Turned(at(s, place), s[i:i+4], to)
				s = check.Set(s[:i]+to+s[i+4:], place, 2, uint64(c))
				if want := s != zeros[:length]; check.Right(s) != want {
					t.Errorf("Right(%x), with %x at %d, is %v", s, to, i, !want)
				}
			}
		}
	}
}

// P3.3: a checksum turns into 0 with the last other word, and only zeros are left.
func TestAllZeroIsNotRight(t *testing.T) {
	for _, w := range edges() {
		c := check.Of("\x00\x00" + pair(w))
		if s := pair(c) + pair(w); !check.Right(s) {
			t.Errorf("%x is not right", s)
		}
		c = check.Turned(c, pair(w), "\x00\x00")
		if s := pair(c) + "\x00\x00"; c != 0 || check.Right(s) {
			t.Errorf("the checksum of %x turns into %x, Right(%x) = %v", w, c, s, check.Right(s))
		}
	}
}
