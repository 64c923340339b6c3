package gue_test

import (
	"encoding/binary"
	"math"
	"strings"
	"testing"

	"cloakroom/api"
	"cloakroom/gue"
)

const (
	size      = 18   // bytes of a cover
	maxPacket = 9000 // bytes of an inner packet
	max64     = math.MaxUint64
)

// source draws numbers that depend on nothing but its seed.
type source uint64

func (s *source) number(n int) int {
	*s = *s*6364136223846793005 + 1442695040888963407
	return int(uint64(*s>>33) % uint64(n))
}

func (s *source) bytes(n int) string {
	b := make([]byte, n)
	for i := range b {
		b[i] = byte(s.number(256))
	}
	return string(b)
}

func (s *source) word() uint64 { return uint64(s.number(1<<16))<<16 | uint64(s.number(1<<16)) }

// cover draws a valid cover.
func (s *source) cover() api.Cover {
	return api.Cover{
		V6:       s.number(2) == 0,
		Backend:  s.number(65536),
		Cookie:   s.word()<<32 | s.word(),
		First:    s.number(2) == 0,
		Instance: s.number(256),
	}
}

// sum returns the sum of the words of s.
func sum(s string) int {
	total := 0
	for i := range len(s) {
		total += int(s[i]) << (8 - i%2*8)
	}
	for total > 65535 {
		total = total/65536 + total%65536
	}
	return total
}

// withByte returns s with a byte at an offset.
func withByte(s string, at, n int) string {
	b := []byte(s)
	b[at] = byte(n)
	return string(b)
}

// withSum returns s with a checksum of its cover.
func withSum(s string, n int) string {
	return withByte(withByte(s, 8, n/256), 9, n%256)
}

// summed returns s with the right checksum of its cover.
func summed(s string) string {
	return withSum(s, 65535-sum(withSum(s, 0)[:size]))
}

// document returns the bytes of a valid cover and an inner packet, as the
// chapter describes them.
func document(c api.Cover, inner string) string {
	b := []byte{71, 85, 1, 4}
	if c.V6 {
		b[3] = 41
	}
	b = binary.BigEndian.AppendUint16(b, uint16(c.Backend))
	if c.First {
		b = append(b, 1)
	} else {
		b = append(b, 0)
	}
	b = append(b, byte(c.Instance), 0, 0)
	b = binary.BigEndian.AppendUint64(b, c.Cookie)
	return summed(string(b) + inner)
}

// verdict returns the first error that the chapter names for s.
func verdict(s string) api.Errno {
	switch {
	case len(s) < size:
		return api.ErrShort
	case s[0] != 71 || s[1] != 85 || s[2] != 1 || s[3] != 4 && s[3] != 41 || s[6] > 1:
		return api.ErrForm
	case len(s) > size+maxPacket:
		return api.ErrLong
	case sum(s[:size]) != 65535:
		return api.ErrSum
	}
	return api.OK
}

// isPut reports that Put does not return these bytes.
func isPut(t *testing.T, c api.Cover, inner, want string) {
	t.Helper()
	if got, e := gue.Put(c, inner); got != want || e != api.OK {
		t.Errorf("Put(%+v, %d bytes) = %d bytes %.40x, %d, want %d bytes %.40x", c, len(inner), len(got), got, e, len(want), want)
	}
}

// isUnfit reports that Put does not return this error and nothing else.
func isUnfit(t *testing.T, c api.Cover, inner string, want api.Errno) {
	t.Helper()
	if got, e := gue.Put(c, inner); got != "" || e != want {
		t.Errorf("Put(%+v, %d bytes) = %d bytes, %d, want %d", c, len(inner), len(got), e, want)
	}
}

// isRead reports that Get does not return what it should.
func isRead(t *testing.T, s string, c api.Cover, inner string) {
	t.Helper()
	got, rest, e := gue.Get(s)
	if got != c || rest != inner || e != api.OK {
		t.Errorf("Get(%.40x) = %+v, %d bytes %.20x, %d, want %+v, %d bytes %.20x", s, got, len(rest), rest, e, c, len(inner), inner)
	}
}

// isRefused reports that Get does not return this error and nothing else.
func isRefused(t *testing.T, s string, want api.Errno) {
	t.Helper()
	got, rest, e := gue.Get(s)
	if got != (api.Cover{}) || rest != "" || e != want {
		t.Errorf("Get of %d bytes %.40x = %+v, %d bytes, %d, want %d", len(s), s, got, len(rest), e, want)
	}
}

// plain is an ordinary cover.
func plain() api.Cover {
	return api.Cover{V6: true, Backend: 0x0102, Cookie: 0x1122334455667788, First: true, Instance: 7}
}

// changed returns the ordinary cover after a change.
func changed(change func(*api.Cover)) api.Cover {
	c := plain()
	change(&c)
	return c
}

// covers are covers whose numbers are at their edges.
func covers() []api.Cover {
	all := []api.Cover{{}, plain(), {V6: true}, {First: true},
		{V6: true, Backend: 65535, Cookie: max64, First: true, Instance: 255}}
	for _, n := range []int{0, 1, 127, 128, 255, 256, 32767, 32768, 65534, 65535} {
		all = append(all, changed(func(c *api.Cover) { c.Backend = n }), api.Cover{Backend: n})
	}
	for n := range 256 {
		all = append(all, changed(func(c *api.Cover) { c.Instance = n }), api.Cover{Instance: n})
	}
	for bit := range 64 {
		all = append(all, changed(func(c *api.Cover) { c.Cookie = 1 << bit }), api.Cover{Cookie: max64 << bit})
	}
	return all
}

// outside are numbers out of range, however many bits of them are looked at.
func outside(most int) []int {
	return []int{-1, -2, -most, -most - 1, math.MinInt, math.MinInt + 1,
		most + 1, most + 2, 2 * (most + 1), 1 << 32, 1<<32 + 1, 1 << 62, math.MaxInt}
}

// P10.1: the number of bytes of a cover is a constant.
func TestSize(t *testing.T) {
	const n int = gue.Size
	if n != size {
		t.Errorf("Size is %d, want %d", n, size)
	}
}

// P10.1: the example of the chapter, and bytes of covers that another program
// has computed.
func TestKnownBytes(t *testing.T) {
	rows := []struct {
		c     api.Cover
		bytes string
	}{
		{api.Cover{}, "GU\x01\x04\x00\x00\x00\x00\xb7\xa6\x00\x00\x00\x00\x00\x00\x00\x00"},
		{api.Cover{V6: true, Backend: 1, Cookie: 0x1234, First: true, Instance: 2},
			"GU\x01\x29\x00\x01\x01\x02\xa4\x4a\x00\x00\x00\x00\x00\x00\x12\x34"},
		{api.Cover{V6: true, Backend: 0x0102, Cookie: 0x1122334455667788, Instance: 7},
			"GU\x01\x29\x01\x02\x00\x07\xa5\x23\x11\x22\x33\x44\x55\x66\x77\x88"},
		{api.Cover{Backend: 256, Cookie: 1 << 63, Instance: 128},
			"GU\x01\x04\x01\x00\x00\x80\x36\x26\x80\x00\x00\x00\x00\x00\x00\x00"},
		{api.Cover{Backend: 65535, Cookie: max64, First: true, Instance: 255},
			"GU\x01\x04\xff\xff\x01\xff\xb5\xa7\xff\xff\xff\xff\xff\xff\xff\xff"},
		{api.Cover{V6: true, Backend: 65535, Cookie: max64, First: true, Instance: 255},
			"GU\x01\x29\xff\xff\x01\xff\xb5\x82\xff\xff\xff\xff\xff\xff\xff\xff"},
		{api.Cover{Cookie: 0xb7a6}, "GU\x01\x04\x00\x00\x00\x00\x00\x00\x00\x00\x00\x00\x00\x00\xb7\xa6"}, // 0, not 65535
	}
	for _, r := range rows {
		isPut(t, r.c, "", r.bytes)
		isRead(t, r.bytes, r.c, "")
		isPut(t, r.c, "packet", r.bytes+"packet")
		isRead(t, r.bytes+"packet", r.c, "packet")
	}
}

// P10.1: numbers at their edges, before inner packets of several lengths, which
// need not be packets.
func TestPut(t *testing.T) {
	for _, c := range covers() {
		for _, inner := range []string{"", "\x00", "\xff", "ab", "E\x00\x00\x14", "GU\x01\x04", strings.Repeat("x", 1500)} {
			want := document(c, inner)
			isPut(t, c, inner, want)
			isRead(t, want, c, inner)
		}
	}
}

// P10.1: each backend is written and read.
func TestBackends(t *testing.T) {
	for n := range 65536 {
		c := changed(func(c *api.Cover) { c.Backend = n })
		want := document(c, "")
		isPut(t, c, "", want)
		isRead(t, want, c, "")
	}
}

// P10.1: a backend or an instance out of range is ErrArg, also where ErrLong
// applies.
func TestPutOutside(t *testing.T) {
	for _, inner := range []string{"", "packet", strings.Repeat("x", maxPacket), strings.Repeat("x", maxPacket+1)} {
		for _, n := range outside(65535) {
			isUnfit(t, changed(func(c *api.Cover) { c.Backend = n }), inner, api.ErrArg)
			isUnfit(t, api.Cover{Backend: n}, inner, api.ErrArg)
		}
		for _, n := range outside(255) {
			isUnfit(t, changed(func(c *api.Cover) { c.Instance = n }), inner, api.ErrArg)
			isUnfit(t, api.Cover{Instance: n}, inner, api.ErrArg)
			isUnfit(t, api.Cover{Backend: n << 8, Instance: n}, inner, api.ErrArg)
		}
	}
}

// P10.1: an inner packet of 9000 bytes is the longest.
func TestLong(t *testing.T) {
	for _, c := range []api.Cover{{}, plain()} {
		for _, n := range []int{maxPacket - size, maxPacket - 1, maxPacket} {
			inner := strings.Repeat("\xa5", n)
			want := document(c, inner)
			isPut(t, c, inner, want)
			isRead(t, want, c, inner)
		}
		for _, n := range []int{maxPacket + 1, maxPacket + 2, maxPacket + size, 65535, 65536, 65536 + 1, 1 << 20} {
			inner := strings.Repeat("\xa5", n)
			isUnfit(t, c, inner, api.ErrLong)
			isRefused(t, document(c, inner), api.ErrLong)
		}
	}
}

// P10.1: fewer than 18 bytes are short, whatever they are.
func TestGetShort(t *testing.T) {
	for n := range size {
		isRefused(t, strings.Repeat("\x00", n), api.ErrShort)
		isRefused(t, strings.Repeat("\xff", n), api.ErrShort)
		for _, c := range covers() {
			isRefused(t, document(c, "packet")[:n], api.ErrShort)
		}
	}
}

// P10.1: each value of each byte that may not have all values, with a right
// checksum and a wrong one.
func TestGetForm(t *testing.T) {
	s := document(plain(), "packet")
	for n := range 256 {
		for at, right := range []int{71, 85, 1} {
			if n != right {
				isRefused(t, summed(withByte(s, at, n)), api.ErrForm)
				isRefused(t, withByte(s, at, n), api.ErrForm)
			}
		}
		if n != 4 && n != 41 {
			isRefused(t, summed(withByte(s, 3, n)), api.ErrForm)
			isRefused(t, withByte(s, 3, n), api.ErrForm)
		} else {
			isRead(t, summed(withByte(s, 3, n)), changed(func(c *api.Cover) { c.V6 = n == 41 }), "packet")
		}
		if n > 1 {
			isRefused(t, summed(withByte(s, 6, n)), api.ErrForm)
			isRefused(t, withByte(s, 6, n), api.ErrForm)
		} else {
			isRead(t, summed(withByte(s, 6, n)), changed(func(c *api.Cover) { c.First = n == 1 }), "packet")
		}
	}
}

// P10.1: each byte that may have all values has its place.
func TestGetFields(t *testing.T) {
	s := document(api.Cover{}, "packet")
	for n := range 256 {
		isRead(t, summed(withByte(s, 4, n)), api.Cover{Backend: n << 8}, "packet")
		isRead(t, summed(withByte(s, 5, n)), api.Cover{Backend: n}, "packet")
		isRead(t, summed(withByte(s, 7, n)), api.Cover{Instance: n}, "packet")
		for i := range 8 {
			isRead(t, summed(withByte(s, 10+i, n)), api.Cover{Cookie: uint64(n) << (56 - 8*i)}, "packet")
		}
	}
}

// P10.1: each checksum of a cover: those that make the bytes right are read,
// which are two if the sum of all others is 65535, and no others.
func TestGetSum(t *testing.T) {
	for _, c := range []api.Cover{{}, plain(), {Cookie: 0xb7a6}} {
		s := document(c, "packet")
		for n := range 65536 {
			if other := withSum(s, n); sum(other[:size]) == 65535 {
				isRead(t, other, c, "packet")
			} else {
				isRefused(t, other, api.ErrSum)
			}
		}
	}
	both := document(api.Cover{Cookie: 0xb7a6}, "")
	isRead(t, withSum(both, 65535), api.Cover{Cookie: 0xb7a6}, "")
	isRead(t, withSum(both, 0), api.Cover{Cookie: 0xb7a6}, "")
}

// P10.1: the inner packet is not summed.
func TestGetInner(t *testing.T) {
	s := document(plain(), "")
	for n := range 256 {
		inner := string([]byte{byte(n), 0, byte(255 - n)})
		isRead(t, s+inner, plain(), inner)
		isRead(t, s+inner[:1], plain(), inner[:1])
	}
}

// P10.1: missing bytes come before a wrong form, this before too many bytes,
// and these before a wrong checksum.
func TestGetOrder(t *testing.T) {
	long := strings.Repeat("x", maxPacket+1)
	s := document(plain(), "")
	wrong := withSum(s, 0)
	isRefused(t, wrong, api.ErrSum)
	isRefused(t, wrong+long[1:], api.ErrSum)
	isRefused(t, wrong+long, api.ErrLong)
	isRefused(t, s+long, api.ErrLong)
	for _, at := range []int{0, 1, 2, 3, 6} {
		isRefused(t, withByte(wrong, at, 2)+long, api.ErrForm)
		isRefused(t, withByte(wrong, at, 2), api.ErrForm)
		isRefused(t, withByte(wrong, at, 2)[:size-1], api.ErrShort)
		isRefused(t, summed(withByte(s, at, 2))+long, api.ErrForm)
	}
}

// P10.2: Get returns what Put was called with.
func TestRoundTrip(t *testing.T) {
	drawn := source(1)
	for range 20000 {
		c, inner := drawn.cover(), drawn.bytes(drawn.number(60))
		s, e := gue.Put(c, inner)
		if e != api.OK {
			t.Errorf("Put(%+v, %x) = %d", c, inner, e)
		}
		isPut(t, c, inner, document(c, inner))
		isRead(t, s, c, inner)
	}
}

// P10.2: a cover with one bit flipped is refused, whichever it is.
func TestFlippedBit(t *testing.T) {
	drawn := source(2)
	all := covers()
	for range 200 {
		all = append(all, drawn.cover())
	}
	for _, c := range all {
		s, _ := gue.Put(c, "packet")
		for bit := range size * 8 {
			flipped := withByte(s, bit/8, int(s[bit/8])^1<<(bit%8))
			want := verdict(flipped)
			if want == api.OK {
				t.Fatalf("no verdict on %x", flipped)
			}
			isRefused(t, flipped, want)
		}
	}
}

// P10.1, P10.2: of drawn and of changed bytes, Get returns the first error, or
// the cover that is put as they are.
func TestAnyBytes(t *testing.T) {
	drawn := source(3)
	counts := map[api.Errno]int{}
	for range 60000 {
		s := anyBytes(&drawn)
		want := verdict(s)
		counts[want]++
		if want != api.OK {
			isRefused(t, s, want)
			continue
		}
		c, inner, _ := gue.Get(s)
		isRead(t, s, c, s[size:])
		isPut(t, c, inner, summed(s))
	}
	for _, e := range []api.Errno{api.OK, api.ErrShort, api.ErrForm, api.ErrSum} {
		if counts[e] < 1000 {
			t.Errorf("only %d rows end with %d", counts[e], e)
		}
	}
}

// anyBytes draws bytes that look like a cover, more or less.
func anyBytes(drawn *source) string {
	s := drawn.bytes(drawn.number(40))
	if drawn.number(8) == 0 {
		return s
	}
	s = document(drawn.cover(), s)
	for range drawn.number(3) {
		s = withByte(s, drawn.number(size), drawn.number(256))
	}
	switch drawn.number(4) {
	case 0:
		return s[:drawn.number(len(s)+1)]
	case 1:
		return s
	}
	return summed(s)
}
