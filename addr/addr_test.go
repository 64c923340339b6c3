package addr_test

import (
	"fmt"
	"math"
	"net/netip"
	"slices"
	"strings"
	"testing"

	"cloakroom/addr"
	"cloakroom/api"
)

const (
	max32 = math.MaxUint32
	max64 = math.MaxUint64
)

// four and six make addresses, valid ones and others.
func four(hi, lo uint64) api.Addr { return api.Addr{Hi: hi, Lo: lo} }
func six(hi, lo uint64) api.Addr  { return api.Addr{V6: true, Hi: hi, Lo: lo} }

// row is an address with its bytes and its text.
type row struct {
	a           api.Addr
	bytes, text string
}

// rows are ordinary addresses and those at the edges.
func rows() []row {
	const zeros, ones = "\x00\x00\x00\x00\x00\x00\x00\x00", "\xff\xff\xff\xff\xff\xff\xff\xff"
	return []row{
		{four(0, 0), "\x00\x00\x00\x00", "0.0.0.0"},
		{four(0, 1), "\x00\x00\x00\x01", "0.0.0.1"},
		{four(0, 16909060), "\x01\x02\x03\x04", "1.2.3.4"},
		{four(0, 0x7f000001), "\x7f\x00\x00\x01", "127.0.0.1"},
		{four(0, 0x090a6364), "\x09\x0a\x63\x64", "9.10.99.100"},
		{four(0, 0xc7c8f9fa), "\xc7\xc8\xf9\xfa", "199.200.249.250"},
		{four(0, 0x80000000), "\x80\x00\x00\x00", "128.0.0.0"},
		{four(0, max32-1), "\xff\xff\xff\xfe", "255.255.255.254"},
		{four(0, max32), "\xff\xff\xff\xff", "255.255.255.255"},
		{six(0, 0), zeros + zeros, "0000:0000:0000:0000:0000:0000:0000:0000"},
		{six(0, 1), zeros + "\x00\x00\x00\x00\x00\x00\x00\x01", "0000:0000:0000:0000:0000:0000:0000:0001"},
		{six(1, 0), "\x00\x00\x00\x00\x00\x00\x00\x01" + zeros, "0000:0000:0000:0001:0000:0000:0000:0000"},
		{six(0, max32), zeros + "\x00\x00\x00\x00\xff\xff\xff\xff", "0000:0000:0000:0000:0000:0000:ffff:ffff"},
		{six(0, 1<<32), zeros + "\x00\x00\x00\x01\x00\x00\x00\x00", "0000:0000:0000:0000:0000:0001:0000:0000"},
		{six(0x20010db8000a00b0, 0xc000000d0e0f1234), "\x20\x01\x0d\xb8\x00\x0a\x00\xb0\xc0\x00\x00\x0d\x0e\x0f\x12\x34", "2001:0db8:000a:00b0:c000:000d:0e0f:1234"},
		{six(0, max64), zeros + ones, "0000:0000:0000:0000:ffff:ffff:ffff:ffff"},
		{six(max64, 0), ones + zeros, "ffff:ffff:ffff:ffff:0000:0000:0000:0000"},
		{six(max64, max64), ones + ones, "ffff:ffff:ffff:ffff:ffff:ffff:ffff:ffff"},
	}
}

// wrong are addresses that are not valid.
func wrong() []api.Addr {
	return []api.Addr{
		four(0, max32+1), four(0, max32+2), four(0, 1<<33), four(0, 1<<63), four(0, max64),
		four(1, 0), four(1, 1), four(1, max32), four(1, max32+1), four(1<<32, 0), four(1<<63, 1), four(max64, 0), four(max64, max64),
	}
}

// drawn returns n numbers that depend on nothing but the seed.
func drawn(seed uint64, n int) []uint64 {
	numbers := make([]uint64, n)
	for i := range numbers {
		seed = seed*6364136223846793005 + 1442695040888963407
		numbers[i] = seed ^ seed>>29
	}
	return numbers
}

// P4.1: the addresses that are valid, and those that are not.
func TestRight(t *testing.T) {
	for _, r := range rows() {
		if !addr.Right(r.a) {
			t.Errorf("Right(%v) = false", r.a)
		}
	}
	for _, a := range wrong() {
		if addr.Right(a) {
			t.Errorf("Right(%v) = true", a)
		}
		if a.V6 = true; !addr.Right(a) {
			t.Errorf("Right(%v) = false", a)
		}
	}
}

// P4.1: the bytes and the text of ordinary addresses and at the edges, and the
// addresses that they make.
func TestBytesAndText(t *testing.T) {
	for _, r := range rows() {
		if got := addr.Put(r.a); got != r.bytes {
			t.Errorf("Put(%v) = %x, want %x", r.a, got, r.bytes)
		}
		if got := addr.Text(r.a); got != r.text {
			t.Errorf("Text(%v) = %q, want %q", r.a, got, r.text)
		}
		if got, ok := addr.Get(r.bytes); got != r.a || !ok {
			t.Errorf("Get(%x) = %v, %v, want %v", r.bytes, got, ok, r.a)
		}
		if got, ok := addr.Read(r.text); got != r.a || !ok {
			t.Errorf("Read(%q) = %v, %v, want %v", r.text, got, ok, r.a)
		}
	}
}

// P4.1: there are neither bytes nor a text of an address that is not valid.
func TestBytesAndTextWrong(t *testing.T) {
	for _, a := range wrong() {
		if got := addr.Put(a); got != "" {
			t.Errorf("Put(%v) = %x", a, got)
		}
		if got := addr.Text(a); got != "" {
			t.Errorf("Text(%v) = %q", a, got)
		}
	}
}

// P4.1: only 4 and 16 bytes are those of an address.
func TestGetWrong(t *testing.T) {
	for length := range 300 {
		s := strings.Repeat("\x01", length)
		got, ok := addr.Get(s)
		if want := length == 4 || length == 16; ok != want {
			t.Errorf("Get of %d bytes: %v", length, ok)
		}
		if !ok && got != (api.Addr{}) {
			t.Errorf("Get of %d bytes = %v", length, got)
		}
	}
}

// P4.1: each number of a group, in each place of an address of version 4.
func TestGroupsOfFour(t *testing.T) {
	for i := range 4 {
		for n := range 1100 {
			groups := [4]int{1, 20, 30, 255}
			groups[i] = n
			s := fmt.Sprintf("%d.%d.%d.%d", groups[0], groups[1], groups[2], groups[3])
			want := api.Addr{}
			if n < 256 {
				for _, g := range groups {
					want.Lo = want.Lo*256 + uint64(g)
				}
			}
			if got, ok := addr.Read(s); got != want || ok != (n < 256) {
				t.Errorf("Read(%q) = %v, %v", s, got, ok)
			}
		}
	}
}

// P4.1: what is no text of an address of version 4.
func TestReadFourWrong(t *testing.T) {
	groups := []string{
		"", "00", "01", "001", "000", "010", "0001", "256", "260", "300", "999", "1000", "00000000000", "4294967297", "18446744073709551617",
		"-0", "-1", "+1", " 1", "1 ", "1_0", "0x1", "a", "f", "1e1", "1/", "1:", "/", ":", "*", "\x00", "1\x00", "\n", "1\n", "\xff", "\xb1", "\xb2", "٣", "１", "²", "3\u0301", "\U00010031",
		strings.Repeat("1", 5000), strings.Repeat("0", 5000),
	}
	for i := range 4 {
		for _, g := range groups {
			parts := []string{"1", "2", "3", "4"}
			parts[i] = g
			isNoText(t, strings.Join(parts, "."))
		}
	}
	for _, s := range []string{
		"", ".", "..", "...", "....", "1", "1.2", "1.2.3", "1.2.3.4.5", "1.2.3.4.", ".1.2.3.4", "1..2.3", "1.2.3.", ".2.3.4", "1.2..4",
		"1.2.3.4.1.2.3.4", "1,2,3,4", "1:2:3:4", "1 2 3 4", "1.2.3:4", "1.2.3.4:5", "1.2.3.4/8", "\x01\x02\x03\x04", "01020304", "16909060",
		"1。2。3。4", strings.Repeat(".", 5000), strings.Repeat("1.", 5000),
	} {
		isNoText(t, s)
	}
}

// P4.1: what is no text of an address of version 6.
func TestReadSixWrong(t *testing.T) {
	groups := []string{
		"", "0", "1", "12", "123", "12345", "00001", "00000", "000A", "A000", "FFFF", "aBcd", "000g", "/000", "000:", "0x01", "-001", "+001", " 001", "001 ",
		"\x00\x00\x00\x00", "000\n", "é00", "00é", "éé", "\xff\xff\xff\xff", "٣٣", "１0", "𝟎", strings.Repeat("0", 5000), "000.", "1.2.3.4",
	}
	for i := range 8 {
		for _, g := range groups {
			parts := strings.Split("2001:0db8:0000:00b0:0000:000d:0e0f:1234", ":")
			parts[i] = g
			isNoText(t, strings.Join(parts, ":"))
		}
	}
	for _, s := range []string{
		":", "::", "::1", "1::", ":::::::", "0:0:0:0:0:0:0:1", "2001:db8::1", "::ffff:1.2.3.4", "[::1]",
		"0000:0000:0000:0000:0000:0000:0000", "0000:0000:0000:0000:0000:0000:0000:0000:0000", "0000:0000:0000:0000:0000:0000:0000:0000:",
		":0000:0000:0000:0000:0000:0000:0000:0000", "0000:0000:0000:0000:0000:0000:0000:", ":0000:0000:0000:0000:0000:0000:0000",
		"0000.0000.0000.0000.0000.0000.0000.0000", "0000:0000:0000:0000:0000:0000:0000.0000", "00000000000000000000000000000000",
		"00000:000:0000:0000:0000:0000:0000:0000", "0000:0000:0000:0000:0000:0000:000:00000", "0000:0000:0000:0000:0000:0000:0000:0000%1",
		"0000:0000:0000:0000:0000:0000:0000:0000 ", " 0000:0000:0000:0000:0000:0000:0000:0000", strings.Repeat("\x01", 16), strings.Repeat(":", 5000), strings.Repeat("0000:", 5000),
	} {
		isNoText(t, s)
	}
}

// isNoText reports that s is read as an address.
func isNoText(t *testing.T, s string) {
	t.Helper()
	if got, ok := addr.Read(s); ok || got != (api.Addr{}) {
		t.Errorf("Read(%.60q) = %v, %v", s, got, ok)
	}
}

// P4.1: a text in which one byte is another one, is missing or is there twice is
// read as the address whose text it is, or not at all.
func TestReadOfChangedTexts(t *testing.T) {
	for _, r := range rows() {
		for i := range len(r.text) {
			changed := []string{r.text[:i] + r.text[i+1:], r.text[:i+1] + r.text[i:]}
			for b := range 256 {
				changed = append(changed, r.text[:i]+string([]byte{byte(b)})+r.text[i+1:])
			}
			for _, s := range changed {
				want, is := byLibrary(s)
				if got, ok := addr.Read(s); got != want || ok != is {
					t.Errorf("Read(%q) = %v, %v, want %v, %v", s, got, ok, want, is)
				}
			}
		}
	}
}

// byLibrary returns the address whose text is s, as the library finds it.
func byLibrary(s string) (api.Addr, bool) {
	a, err := netip.ParseAddr(s)
	if err != nil || a.StringExpanded() != s || a.Zone() != "" || a.Is4In6() && strings.Contains(s, ".") {
		return api.Addr{}, false
	}
	got := api.Addr{V6: a.Is6()}
	for i, b := range a.AsSlice() {
		if got.V6 && i < 8 {
			got.Hi = got.Hi<<8 | uint64(b)
		} else {
			got.Lo = got.Lo<<8 | uint64(b)
		}
	}
	return got, true
}

// P4.1: Four makes an address of version 4 of each number.
func TestFour(t *testing.T) {
	numbers := []uint32{0, 1, 5, 255, 256, 16909060, 1<<31 - 1, 1 << 31, max32 - 1, max32}
	for _, n := range drawn(1, 100) {
		numbers = append(numbers, uint32(n))
	}
	for _, n := range numbers {
		if got, want := addr.Four(n), four(0, uint64(n)); got != want || !addr.Right(got) {
			t.Errorf("Four(%d) = %v", n, got)
		}
	}
}

// P4.2: addresses in their order: by the version, by Hi, by Lo, whether they are
// valid or not.
func TestLess(t *testing.T) {
	var ordered []api.Addr
	numbers := []uint64{0, 1, 2, max32 - 1, max32, max32 + 1, 1<<63 - 1, 1 << 63, max64 - 1, max64}
	for _, v6 := range []bool{false, true} {
		for _, hi := range numbers {
			for _, lo := range numbers {
				ordered = append(ordered, api.Addr{V6: v6, Hi: hi, Lo: lo})
			}
		}
	}
	for i, a := range ordered {
		for j, b := range ordered {
			if got := addr.Less(a, b); got != (i < j) {
				t.Errorf("Less(%v, %v) = %v", a, b, got)
			}
		}
	}
}

// P4.3: Get is the inverse of Put, and Read that of Text.
func TestInverses(t *testing.T) {
	numbers := drawn(2, 400)
	for i := 0; i < len(numbers); i += 2 {
		hi, lo := numbers[i], numbers[i+1]
		for _, a := range []api.Addr{six(hi, lo), six(lo>>48, hi>>40), four(0, lo>>32), four(0, lo>>48), four(0, lo>>40&0xff00ff)} {
			if got, ok := addr.Get(addr.Put(a)); got != a || !ok {
				t.Errorf("Get(Put(%v)) = %v, %v", a, got, ok)
			}
			if got, ok := addr.Read(addr.Text(a)); got != a || !ok {
				t.Errorf("Read(Text(%v)) = %v, %v", a, got, ok)
			}
			if got, is := byLibrary(addr.Text(a)); got != a || !is {
				t.Errorf("the library reads Text(%v) = %q as %v, %v", a, addr.Text(a), got, is)
			}
		}
	}
	for _, r := range rows() {
		if a, _ := addr.Get(r.bytes); addr.Put(a) != r.bytes {
			t.Errorf("Put(Get(%x)) = %x", r.bytes, addr.Put(a))
		}
		if a, _ := addr.Read(r.text); addr.Text(a) != r.text {
			t.Errorf("Text(Read(%q)) = %q", r.text, addr.Text(a))
		}
	}
}

// P4.3: of two different addresses exactly one is less than the other, and none
// is less than itself: sorted, they stand in one order.
func TestLessIsAnOrder(t *testing.T) {
	all := wrong()
	for _, r := range rows() {
		all = append(all, r.a)
	}
	for _, n := range drawn(3, 30) {
		all = append(all, six(n, n>>7), six(n, n>>9), six(n>>60, n), four(0, n>>32), four(n>>60, n))
	}
	for _, a := range all {
		for _, b := range all {
			if less, more := addr.Less(a, b), addr.Less(b, a); (less != more) != (a != b) {
				t.Errorf("Less of %v and %v = %v and %v", a, b, less, more)
			}
		}
	}
	slices.SortFunc(all, func(a, b api.Addr) int {
		switch {
		case addr.Less(a, b):
			return -1
		case addr.Less(b, a):
			return 1
		}
		return 0
	})
	for i, a := range all {
		for _, b := range all[i:] {
			if addr.Less(b, a) {
				t.Errorf("%v stands before %v", a, b)
			}
		}
	}
}
