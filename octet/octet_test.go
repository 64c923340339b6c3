package octet_test

import (
	"encoding/binary"
	"encoding/hex"
	"math"
	"strings"
	"testing"

	"cloakroom/octet"
)

// mixer draws the same numbers in every run.
type mixer struct{ state uint64 }

func (m *mixer) next() uint64 {
	m.state += 0x9E3779B97F4A7C15
	z := m.state
	z = (z ^ z>>30) * 0xBF58476D1CE4E5B9
	z = (z ^ z>>27) * 0x94D049BB133111EB
	return z ^ z>>31
}

// text draws n bytes.
func (m *mixer) text(n int) string {
	b := make([]byte, n)
	for i := range b {
		b[i] = byte(m.next())
	}
	return string(b)
}

// wrongCounts are numbers of bytes that no number has.
func wrongCounts() []int {
	return []int{0, -1, -2, -8, math.MinInt, math.MinInt + 1, 9, 10, 16, 64, 256, 257, 1<<32 + 1, math.MaxInt - 1, math.MaxInt}
}

// bytesOf returns the k bytes of n by the library.
func bytesOf(n uint64, k int) string {
	return string(binary.BigEndian.AppendUint64(nil, n)[8-k:])
}

// lowest returns the lowest k bytes of n as a number.
func lowest(n uint64, k int) uint64 {
	if k == 8 {
		return n
	}
	return n % (1 << (8 * k))
}

// P2.1: Put of ordinary numbers and at its bounds.
func TestPut(t *testing.T) {
	const all = math.MaxUint64
	rows := []struct {
		n    uint64
		k    int
		want string
	}{
		{258, 2, "\x01\x02"},
		{258, 1, "\x02"},
		{258, 4, "\x00\x00\x01\x02"},
		{0, 1, "\x00"},
		{0, 8, "\x00\x00\x00\x00\x00\x00\x00\x00"},
		{255, 1, "\xff"},
		{256, 1, "\x00"},
		{0x0102030405060708, 8, "\x01\x02\x03\x04\x05\x06\x07\x08"},
		{0x0102030405060708, 7, "\x02\x03\x04\x05\x06\x07\x08"},
		{0x0102030405060708, 3, "\x06\x07\x08"},
		{1 << 63, 8, "\x80\x00\x00\x00\x00\x00\x00\x00"},
		{1 << 63, 7, "\x00\x00\x00\x00\x00\x00\x00"},
		{all, 8, "\xff\xff\xff\xff\xff\xff\xff\xff"},
		{all, 1, "\xff"},
	}
	for _, r := range rows {
		if got := octet.Put(r.n, r.k); got != r.want {
			t.Errorf("Put(%x, %d) = %x, want %x", r.n, r.k, got, r.want)
		}
	}
}

// P2.1: Put against the library, for each k.
func TestPutAgainstLibrary(t *testing.T) {
	m := &mixer{state: 1}
	for range 2000 {
		n := m.next() >> (m.next() % 64)
		for k := 1; k <= 8; k++ {
			if got, want := octet.Put(n, k), bytesOf(n, k); got != want {
				t.Errorf("Put(%x, %d) = %x, want %x", n, k, got, want)
			}
		}
	}
}

// P2.1: Put of a k that is not in 1..8 is empty.
func TestPutWrong(t *testing.T) {
	for _, k := range wrongCounts() {
		for _, n := range []uint64{0, 1, 258, math.MaxUint64} {
			if got := octet.Put(n, k); got != "" {
				t.Errorf("Put(%d, %d) = %x, want nothing", n, k, got)
			}
		}
	}
}

// P2.1: Get at each place of a text, for each k.
func TestGet(t *testing.T) {
	const s = "\x01\x02\x03\x04\x05\x06\x07\x08\x09\xfe\xff\x80\x00"
	for k := 1; k <= 8; k++ {
		for at := 0; at+k <= len(s); at++ {
			want := binary.BigEndian.Uint64([]byte("\x00\x00\x00\x00\x00\x00\x00\x00" + s[at:at+k])[k:])
			if got, ok := octet.Get(s, at, k); got != want || !ok {
				t.Errorf("Get(%x, %d, %d) = %x, %v, want %x, true", s, at, k, got, ok, want)
			}
		}
	}
	if n, ok := octet.Get("\x01\x02", 0, 2); n != 258 || !ok {
		t.Errorf("Get of the bytes 1, 2 = %d, %v", n, ok)
	}
	if n, ok := octet.Get(strings.Repeat("\xff", 8), 0, 8); n != math.MaxUint64 || !ok {
		t.Errorf("Get of eight bytes 255 = %x, %v", n, ok)
	}
	if n, ok := octet.Get("\x00", 0, 1); n != 0 || !ok {
		t.Errorf("Get of a byte 0 = %d, %v", n, ok)
	}
}

// P2.1: Get of bytes that s does not contain is 0 and false.
func TestGetOutside(t *testing.T) {
	for length := range 10 {
		s := strings.Repeat("\xff", length)
		for k := 1; k <= 8; k++ {
			for _, at := range []int{
				length - k + 1, length, length + 1, length + 1000, math.MaxInt - k, math.MaxInt - k + 1, math.MaxInt,
				-1, -k, -length, -length - 1, math.MinInt, math.MinInt + 1, math.MinInt + k,
			} {
				if at >= 0 && at+k > 0 && at+k <= length {
					continue
				}
				if got, ok := octet.Get(s, at, k); got != 0 || ok {
					t.Errorf("Get(%x, %d, %d) = %x, %v, want 0, false", s, at, k, got, ok)
				}
			}
		}
	}
}

// P2.1: Get of a k that is not in 1..8 is 0 and false.
func TestGetWrong(t *testing.T) {
	s := strings.Repeat("\x01", 600)
	for _, k := range wrongCounts() {
		for _, at := range []int{0, 1, 8, 300, 599, 600, -1, math.MinInt, math.MaxInt} {
			if got, ok := octet.Get(s, at, k); got != 0 || ok {
				t.Errorf("Get(s, %d, %d) = %x, %v, want 0, false", at, k, got, ok)
			}
		}
	}
}

// checkBad fails unless r is bad and stays so, whatever is read.
func checkBad(t *testing.T, r *octet.Reader) {
	t.Helper()
	for range 2 {
		if !r.Bad() {
			t.Error("Bad is false")
		}
		for _, k := range []int{1, 2, 7, 0, 8, -1, math.MinInt, math.MaxInt} {
			if n := r.Num(k); n != 0 {
				t.Errorf("Num(%d) of a bad reader = %d", k, n)
			}
			if s := r.Text(k); s != "" {
				t.Errorf("Text(%d) of a bad reader = %x", k, s)
			}
		}
		if s := r.Rest(); s != "" {
			t.Errorf("Rest of a bad reader = %x", s)
		}
		if !r.Bad() {
			t.Error("Bad is false after further reads")
		}
	}
}

// P2.2: a reader goes through its bytes in order.
func TestReader(t *testing.T) {
	r := octet.New("\x01\x02\x03abc\xff\xff\xff\xff\xff\xff\xffrest")
	if n := r.Num(2); n != 258 {
		t.Errorf("Num(2) = %d, want 258", n)
	}
	if n := r.Num(1); n != 3 {
		t.Errorf("Num(1) = %d, want 3", n)
	}
	if s := r.Text(0); s != "" {
		t.Errorf("Text(0) = %q", s)
	}
	if s := r.Text(3); s != "abc" {
		t.Errorf("Text(3) = %q, want abc", s)
	}
	if n := r.Num(7); n != 1<<56-1 {
		t.Errorf("Num(7) = %x, want %x", n, 1<<56-1)
	}
	if s := r.Rest(); s != "rest" {
		t.Errorf("Rest() = %q, want rest", s)
	}
	if r.Bad() {
		t.Error("Bad after reads of all bytes")
	}
}

// P2.2: at its end, a reader gives empty texts and is not bad until more is asked for.
func TestReaderAtEnd(t *testing.T) {
	for _, s := range []string{"", "\x05", "several bytes"} {
		r := octet.New(s)
		if got := r.Text(len(s)); got != s {
			t.Errorf("Text(%d) = %q, want %q", len(s), got, s)
		}
		for range 2 {
			if r.Text(0) != "" || r.Rest() != "" || r.Bad() {
				t.Errorf("the reader of %q is bad at its end", s)
			}
		}
		if n := r.Num(1); n != 0 {
			t.Errorf("Num(1) at the end = %d", n)
		}
		checkBad(t, r)
	}
}

// P2.2: Rest takes all bytes, so that none is left.
func TestRestAdvances(t *testing.T) {
	r := octet.New("\x01abc")
	r.Num(1)
	if s := r.Rest(); s != "abc" {
		t.Errorf("Rest() = %q, want abc", s)
	}
	if s := r.Rest(); s != "" || r.Bad() {
		t.Errorf("the second Rest() = %q, bad %v", s, r.Bad())
	}
	if s := r.Text(1); s != "" {
		t.Errorf("Text(1) after Rest = %q", s)
	}
	checkBad(t, r)
}

// P2.2: Num reads 1 to 7 bytes, against the library.
func TestReaderNum(t *testing.T) {
	m := &mixer{state: 2}
	for range 500 {
		s := m.text(40)
		r := octet.New(s)
		at := 0
		for {
			k := 1 + int(m.next()%7)
			if at+k > len(s) {
				break
			}
			want := int(binary.BigEndian.Uint64([]byte("\x00\x00\x00\x00\x00\x00\x00\x00" + s[at:at+k])[k:]))
			if got := r.Num(k); got != want {
				t.Errorf("Num(%d) at %d of %x = %x, want %x", k, at, s, got, want)
			}
			at += k
		}
		if got := r.Rest(); got != s[at:] || r.Bad() {
			t.Errorf("Rest at %d of %x = %x, bad %v", at, s, got, r.Bad())
		}
	}
}

// P2.2: a read of more bytes than remain makes the reader bad.
func TestReaderShort(t *testing.T) {
	for length := range 8 {
		s := strings.Repeat("\xff", length)
		for k := length + 1; k <= 7; k++ {
			r := octet.New(s)
			if n := r.Num(k); n != 0 {
				t.Errorf("Num(%d) of %d bytes = %x", k, length, n)
			}
			checkBad(t, r)
		}
		for _, n := range []int{length + 1, length + 2, 1 << 32, 1<<32 + length, math.MaxInt} {
			r := octet.New(s)
			if got := r.Text(n); got != "" {
				t.Errorf("Text(%d) of %d bytes = %x", n, length, got)
			}
			checkBad(t, r)
		}
	}
	r := octet.New("abc")
	r.Text(2)
	if n := r.Num(2); n != 0 {
		t.Errorf("Num(2) with one byte left = %d", n)
	}
	checkBad(t, r)
}

// P2.2: a k or n that is out of range makes the reader bad.
func TestReaderWrong(t *testing.T) {
	s := strings.Repeat("\x01", 600)
	for _, k := range append(wrongCounts(), 8) {
		r := octet.New(s)
		if n := r.Num(k); n != 0 {
			t.Errorf("Num(%d) = %x", k, n)
		}
		checkBad(t, r)
	}
	for _, n := range []int{-1, -2, -600, math.MinInt, math.MinInt + 1} {
		r := octet.New(s)
		if got := r.Text(n); got != "" {
			t.Errorf("Text(%d) = %x", n, got)
		}
		checkBad(t, r)
	}
}

// P2.2: a nil Reader and one that New did not return are bad.
func TestReaderNotByNew(t *testing.T) {
	checkBad(t, nil)
	checkBad(t, new(octet.Reader))
	var held struct{ octet.Reader }
	checkBad(t, &held.Reader)
}

// P2.2: readers of one text do not disturb each other.
func TestReadersApart(t *testing.T) {
	const s = "abcd"
	one, two := octet.New(s), octet.New(s)
	one.Text(3)
	if got := two.Text(2); got != "ab" {
		t.Errorf("Text(2) of the second reader = %q", got)
	}
	one.Text(9)
	if two.Bad() || two.Rest() != "cd" {
		t.Error("the second reader is bad, or another one, after the first one became bad")
	}
	if !one.Bad() {
		t.Error("the first reader is not bad")
	}
}

// P2.3: Hex of ordinary bytes and of each byte.
func TestHex(t *testing.T) {
	rows := []struct{ s, want string }{
		{"", ""}, {"ff", "6666"}, {"\x00", "00"}, {"\x0a\xa0", "0aa0"},
		{"\x01\x23\x45\x67\x89\xab\xcd\xef", "0123456789abcdef"},
		{"é", "c3a9"}, {"\xff\xfe", "fffe"},
	}
	for _, r := range rows {
		if got := octet.Hex(r.s); got != r.want {
			t.Errorf("Hex(%q) = %q, want %q", r.s, got, r.want)
		}
	}
	for b := range 256 {
		s := string([]byte{byte(b), byte(255 - b)})
		if got, want := octet.Hex(s), hex.EncodeToString([]byte(s)); got != want {
			t.Errorf("Hex(%x) = %q, want %q", s, got, want)
		}
	}
}

// P2.3: Unhex of digits.
func TestUnhex(t *testing.T) {
	rows := []struct{ s, want string }{
		{"", ""}, {"6666", "ff"}, {"00", "\x00"}, {"0aa0", "\x0a\xa0"},
		{"0123456789abcdef", "\x01\x23\x45\x67\x89\xab\xcd\xef"},
		{"fffe", "\xff\xfe"}, {"c3a9", "é"},
	}
	for _, r := range rows {
		if got, ok := octet.Unhex(r.s); got != r.want || !ok {
			t.Errorf("Unhex(%q) = %q, %v, want %q, true", r.s, got, ok, r.want)
		}
	}
}

// P2.3: Unhex of what is no Hex of bytes is empty and false.
func TestUnhexWrong(t *testing.T) {
	for _, s := range []string{
		"0", "f", "666", "00000", // an odd number of digits
		"0G", "0g", "G0", "FF", "0A", "A0", "6F", // other letters
		"0x", "0x00", "-1", "+1", " 1", "1 ", "00 ", " 00 ", "0_", "0\n", "\x00\x00",
		"é", "0é", "é0", "0é0", "aé", "ﬀ", "٠٠", "０", "０0", // other runes
		"\xff", "\xff\xff", "0\xff", "00\xff\xff", "\xef\xbf\xbd", "0\xef\xbf\xbd", // no runes
		strings.Repeat("6", 99), strings.Repeat("6", 99) + "g", "g" + strings.Repeat("6", 99),
	} {
		if got, ok := octet.Unhex(s); got != "" || ok {
			t.Errorf("Unhex(%q) = %q, %v, want nothing, false", s, got, ok)
		}
	}
}

// P2.3: of all texts of two bytes, exactly the 256 that Hex gives are accepted.
func TestUnhexTwoBytes(t *testing.T) {
	count := 0
	for n := range 1 << 16 {
		s := string([]byte{byte(n >> 8), byte(n)})
		want, err := hex.DecodeString(s)
		if err != nil || strings.ToLower(s) != s {
			want = nil
		}
		got, ok := octet.Unhex(s)
		if ok != (want != nil) || got != string(want) {
			t.Errorf("Unhex(%q) = %q, %v, want %q", s, got, ok, want)
		}
		if ok {
			count++
		}
	}
	if count != 256 {
		t.Errorf("%d texts are accepted, want 256", count)
	}
}

// P2.4: Get is the inverse of Put.
func TestGetOfPut(t *testing.T) {
	m := &mixer{state: 3}
	for range 2000 {
		n := m.next() >> (m.next() % 64)
		for k := 1; k <= 8; k++ {
			s := octet.Put(n, k)
			if got, ok := octet.Get(s, 0, k); got != lowest(n, k) || !ok {
				t.Errorf("Get(Put(%x, %d)) = %x, %v", n, k, got, ok)
			}
			before := m.text(int(m.next() % 5))
			if got, ok := octet.Get(before+s+"\xff", len(before), k); got != lowest(n, k) || !ok {
				t.Errorf("Get(Put(%x, %d)) within a text = %x, %v", n, k, got, ok)
			}
			text := m.text(k)
			if got, ok := octet.Get(text, 0, k); !ok || octet.Put(got, k) != text {
				t.Errorf("Put(Get(%x)) = %x", text, octet.Put(got, k))
			}
		}
	}
}

// P2.4: Unhex is the inverse of Hex.
func TestUnhexOfHex(t *testing.T) {
	m := &mixer{state: 4}
	for length := range 300 {
		s := m.text(length)
		h := octet.Hex(s)
		if got, ok := octet.Unhex(h); got != s || !ok {
			t.Errorf("Unhex(Hex(%x)) = %x, %v", s, got, ok)
		}
		if len(h) != 2*length {
			t.Errorf("Hex of %d bytes has %d digits", length, len(h))
		}
		b, _ := octet.Unhex(h)
		if octet.Hex(b) != h {
			t.Errorf("Hex(Unhex(%q)) = %q", h, octet.Hex(b))
		}
	}
}
