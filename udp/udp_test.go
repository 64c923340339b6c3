package udp_test

import (
	"encoding/binary"
	"math"
	"strings"
	"testing"

	"cloakroom/api"
	"cloakroom/udp"
)

const (
	maxTotal = 65535
	max32    = math.MaxUint32
	max64    = math.MaxUint64
)

// four and six make addresses, valid ones and others.
func four(hi, lo uint64) api.Addr { return api.Addr{Hi: hi, Lo: lo} }
func six(hi, lo uint64) api.Addr  { return api.Addr{V6: true, Hi: hi, Lo: lo} }

// pair is the addresses of a packet.
type pair struct{ src, dst api.Addr }

// pairs are valid addresses of both versions.
func pairs() []pair {
	return []pair{
		{four(0, 0xc0a80001), four(0, 0xc0a800c7)},
		{six(0x20010db800000001, 2), six(0xfe80000000000000, max64)},
		{four(0, 0), four(0, 0)},
		{four(0, max32), four(0, max32)},
		{six(0, 0), six(0, 0)},
		{six(max64, max64), six(0, max32+1)},
	}
}

// strangers are addresses that have no pseudo header.
func strangers() []pair {
	a, b := four(0, 1), six(0, 1)
	all := []pair{{a, b}, {b, a}}
	for _, c := range []api.Addr{four(0, max32+1), four(0, 1<<63), four(1, 0), four(1, 1), four(max64, max64)} {
		all = append(all, pair{a, c}, pair{c, a}, pair{b, c}, pair{c, b}, pair{c, c})
	}
	return all
}

// source draws numbers that depend on nothing but its seed.
type source uint64

func (s *source) number(n int) int {
	*s = *s*6364136223846793005 + 1442695040888963407
	return int(uint64(*s>>33) % uint64(n))
}

func (s *source) bytes(n int) string {
	b := make([]byte, n)
	for i := range b {
		b[i] = byte(s.number(256))
	}
	return string(b)
}

func (s *source) wide() uint64 { return uint64(s.number(1<<16))<<16 | uint64(s.number(1<<16)) }

// pair draws valid addresses.
func (s *source) pair() pair {
	if s.number(2) == 0 {
		return pair{four(0, s.wide()), four(0, s.wide())}
	}
	word := func() uint64 { return s.wide()<<32 | s.wide() }
	return pair{six(word(), word()), six(word(), word())}
}

// head draws ports.
func (s *source) head() udp.Head {
	return udp.Head{SPort: s.number(65536), DPort: s.number(65536)}
}

// pseudo returns the bytes that precede a datagram of n bytes in its checksum.
func (p pair) pseudo(n int) []byte {
	var b []byte
	if p.src.V6 {
		for _, word := range []uint64{p.src.Hi, p.src.Lo, p.dst.Hi, p.dst.Lo} {
			b = binary.BigEndian.AppendUint64(b, word)
		}
		return append(binary.BigEndian.AppendUint32(b, uint32(n)), 0, 0, 0, 17)
	}
	b = binary.BigEndian.AppendUint32(b, uint32(p.src.Lo))
	b = binary.BigEndian.AppendUint32(b, uint32(p.dst.Lo))
	return binary.BigEndian.AppendUint16(append(b, 0, 17), uint16(n))
}

// valid tells whether there is a pseudo header.
func (p pair) valid() bool {
	right := func(a api.Addr) bool { return a.V6 || a.Hi == 0 && a.Lo <= max32 }
	return p.src.V6 == p.dst.V6 && right(p.src) && right(p.dst)
}

// sum returns the sum of the words of the pseudo header and s.
func (p pair) sum(s string) int {
	total := 0
	for i, b := range append(p.pseudo(len(s)), s...) {
		total += int(b) << (8 - i%2*8)
	}
	for total > 65535 {
		total = total/65536 + total%65536
	}
	return total
}

// withWord returns s with a number of two bytes at an offset.
func withWord(s string, at, n int) string {
	b := []byte(s)
	binary.BigEndian.PutUint16(b[at:], uint16(n))
	return string(b)
}

// summed returns s, of which the first n bytes are a datagram, with its
// checksum.
func (p pair) summed(s string, n int) string {
	sum := 65535 - p.sum(withWord(s[:n], 6, 0))
	if sum == 0 {
		sum = 65535
	}
	return withWord(s, 6, sum)
}

// document returns the bytes of a datagram, as the chapter describes them.
func document(h udp.Head, p pair, payload string) string {
	s := withWord("\x00\x00\x00\x00\x00\x00\x00\x00"+payload, 0, h.SPort)
	s = withWord(withWord(s, 2, h.DPort), 4, len(s))
	return p.summed(s, len(s))
}

// lengthOf returns the length that the eight first bytes of s tell.
func lengthOf(s string) int { return int(s[4])*256 + int(s[5]) }

// verdict returns the first error that the chapter names for s.
func verdict(s string, p pair) api.Errno {
	if len(s) < 8 {
		return api.ErrShort
	}
	total := lengthOf(s)
	if total < 8 {
		return api.ErrForm
	}
	if len(s) < total {
		return api.ErrShort
	}
	if !p.valid() {
		return api.ErrArg
	}
	if s[6:8] == "\x00\x00" {
		if p.src.V6 {
			return api.ErrSum
		}
		return api.OK
	}
	if p.sum(s[:total]) != 65535 {
		return api.ErrSum
	}
	return api.OK
}

// isPut reports that Put does not return these bytes.
func isPut(t *testing.T, h udp.Head, p pair, payload, want string) {
	t.Helper()
	if got, e := udp.Put(h, p.src, p.dst, payload); got != want || e != api.OK {
		t.Errorf("Put(%+v, %+v, %d bytes) = %d bytes %.40x, %d, want %d bytes %.40x", h, p, len(payload), len(got), got, e, len(want), want)
	}
}

// isUnfit reports that Put does not return this error and nothing else.
func isUnfit(t *testing.T, h udp.Head, p pair, payload string, want api.Errno) {
	t.Helper()
	if got, e := udp.Put(h, p.src, p.dst, payload); got != "" || e != want {
		t.Errorf("Put(%+v, %+v, %d bytes) = %d bytes, %d, want %d", h, p, len(payload), len(got), e, want)
	}
}

// isRead reports that Get does not return what it should.
func isRead(t *testing.T, s string, p pair, h udp.Head, payload string) {
	t.Helper()
	got, rest, e := udp.Get(s, p.src, p.dst)
	if got != h || rest != payload || e != api.OK {
		t.Errorf("Get(%.40x, %+v) = %+v, %d bytes %.20x, %d, want %+v, %d bytes %.20x", s, p, got, len(rest), rest, e, h, len(payload), payload)
	}
}

// isRefused reports that Get does not return this error and nothing else.
func isRefused(t *testing.T, s string, p pair, want api.Errno) {
	t.Helper()
	got, rest, e := udp.Get(s, p.src, p.dst)
	if got != (udp.Head{}) || rest != "" || e != want {
		t.Errorf("Get of %d bytes %.40x, %+v = %+v, %d bytes, %d, want %d", len(s), s, p, got, len(rest), e, want)
	}
}

// plain is ordinary ports.
func plain() udp.Head { return udp.Head{SPort: 0xc350, DPort: 443} }

// heads are ports at their edges.
func heads() []udp.Head {
	var all []udp.Head
	for _, n := range []int{0, 1, 255, 256, 32767, 32768, 65534, 65535} {
		all = append(all, udp.Head{SPort: n, DPort: 443}, udp.Head{SPort: 443, DPort: n}, udp.Head{SPort: n, DPort: n})
	}
	return all
}

// P8.1: the example of the chapter, and bytes of datagrams that another program
// has computed.
func TestKnownBytes(t *testing.T) {
	p, q, zero, zeroSix := pairs()[0], pairs()[1], pairs()[2], pairs()[4]
	rows := []struct {
		h              udp.Head
		p              pair
		payload, bytes string
	}{
		{udp.Head{SPort: 1, DPort: 2}, pair{four(0, 1), four(0, 2)}, "a", "\x00\x01\x00\x02\x00\x09\x9e\xd6a"},
		{udp.Head{SPort: 0x1234, DPort: 53}, p, "", "\x12\x34\x00\x35\x00\x08\x6b\x5c"},
		{udp.Head{SPort: 65535}, p, "abc", "\xff\xff\x00\x00\x00\x0b\xb9\x5cabc"},
		{udp.Head{SPort: 443, DPort: 50000}, q, "", "\x01\xbb\xc3\x50\x00\x08\x0e\x96"},
		{udp.Head{SPort: 1, DPort: 2}, q, "\xff", "\x00\x01\x00\x02\x00\x09\xd4\x9b\xff"},
		{udp.Head{}, zero, "", "\x00\x00\x00\x00\x00\x08\xff\xde"},
		{udp.Head{}, zeroSix, "", "\x00\x00\x00\x00\x00\x08\xff\xde"},
		{udp.Head{DPort: 0xffde}, zero, "", "\x00\x00\xff\xde\x00\x08\xff\xff"}, // 65535, not 0
		{udp.Head{DPort: 0xffde}, zeroSix, "", "\x00\x00\xff\xde\x00\x08\xff\xff"},
	}
	for _, r := range rows {
		isPut(t, r.h, r.p, r.payload, r.bytes)
		isRead(t, r.bytes, r.p, r.h, r.payload)
	}
}

// P8.1: ports at their edges, with addresses of both versions and payloads of
// several lengths.
func TestPut(t *testing.T) {
	for _, h := range heads() {
		for _, p := range pairs() {
			for _, payload := range []string{"", "\x00", "\xff", "ab", "abc", strings.Repeat("x", 247), strings.Repeat("x", 248), strings.Repeat("y", 1460)} {
				want := document(h, p, payload)
				isPut(t, h, p, payload, want)
				isRead(t, want, p, h, payload)
			}
		}
	}
}

// P8.1: a port out of range is ErrArg, also where ErrLong applies.
func TestPutPorts(t *testing.T) {
	for _, n := range []int{-1, -2, -255, -65535, -65536, math.MinInt, math.MinInt + 1, 65536, 65537, 1 << 17, 1 << 32, 1<<32 + 1, 1 << 62, math.MaxInt} {
		for _, h := range []udp.Head{{SPort: n, DPort: 443}, {SPort: 443, DPort: n}, {SPort: n, DPort: n}} {
			for _, p := range append(pairs(), strangers()[0]) {
				for _, payload := range []string{"", "abc", strings.Repeat("x", maxTotal)} {
					isUnfit(t, h, p, payload, api.ErrArg)
				}
			}
		}
	}
}

// P8.1: addresses without a pseudo header are ErrArg, also where ErrLong
// applies.
func TestPutStrangers(t *testing.T) {
	for _, p := range strangers() {
		for _, h := range []udp.Head{plain(), {}} {
			for _, payload := range []string{"", "abc", strings.Repeat("x", maxTotal), strings.Repeat("x", maxTotal+1)} {
				isUnfit(t, h, p, payload, api.ErrArg)
			}
		}
	}
}

// P8.1: a datagram of 65535 bytes is the longest, in both versions.
func TestPutLong(t *testing.T) {
	const most = maxTotal - 8
	for _, p := range pairs() {
		for _, n := range []int{most - 1, most} {
			payload := strings.Repeat("\xa5", n)
			want := document(plain(), p, payload)
			isPut(t, plain(), p, payload, want)
			isRead(t, want, p, plain(), payload)
			isRead(t, want+"more", p, plain(), payload)
		}
		for _, n := range []int{most + 1, most + 2, most + 8, most + 9, 65536 + 1, 2 * 65536, 1 << 20} {
			isUnfit(t, plain(), p, strings.Repeat("\xa5", n), api.ErrLong)
		}
	}
}

// P8.1: fewer than eight bytes are short, whatever they are.
func TestGetShort(t *testing.T) {
	for _, p := range append(pairs(), strangers()...) {
		for n := range 8 {
			isRefused(t, strings.Repeat("\x00", n), p, api.ErrShort)
			isRefused(t, strings.Repeat("\xff", n), p, api.ErrShort)
			isRefused(t, document(plain(), pairs()[0], "")[:n], p, api.ErrShort)
		}
	}
}

// P8.1: each length, before more and fewer bytes than it says.
func TestGetLength(t *testing.T) {
	const behind = 40 // bytes behind the first eight
	for _, p := range []pair{pairs()[0], pairs()[1], strangers()[0]} {
		for total := range 1 << 16 {
			bare := withWord("\x12\x34\x56\x78\x00\x00\x00\x01"+strings.Repeat("z", behind), 4, total)
			switch {
			case total < 8:
				isRefused(t, bare, p, api.ErrForm)
				isRefused(t, bare[:8], p, api.ErrForm)
				isRefused(t, withWord(bare, 6, 0), p, api.ErrForm)
			case total > len(bare):
				isRefused(t, bare, p, api.ErrShort)
				isRefused(t, withWord(bare, 6, 0), p, api.ErrShort)
			case !p.valid():
				isRefused(t, bare, p, api.ErrArg)
			default:
				isRefused(t, bare, p, api.ErrSum)
				isRead(t, p.summed(bare, total), p, udp.Head{SPort: 0x1234, DPort: 0x5678}, bare[8:total])
				isRead(t, p.summed(bare, total)[:total], p, udp.Head{SPort: 0x1234, DPort: 0x5678}, bare[8:total])
			}
		}
	}
}

// P8.1: a datagram that ends early is short, wherever it ends.
func TestGetCut(t *testing.T) {
	for _, p := range append(pairs(), strangers()...) {
		s := document(plain(), pairs()[0], "payload")
		for n := range len(s) {
			isRefused(t, s[:n], p, api.ErrShort)
			isRefused(t, withWord(s, 6, 0)[:n], p, api.ErrShort)
		}
	}
}

// P8.1: addresses without a pseudo header are ErrArg; with others than those of
// Put, the checksum tells.
func TestGetAddresses(t *testing.T) {
	s := document(plain(), pairs()[0], "payload")
	for _, p := range strangers() {
		isRefused(t, s, p, api.ErrArg)
		isRefused(t, document(plain(), p, "payload"), p, api.ErrArg)
		isRefused(t, withWord(s, 6, 0), p, api.ErrArg)
	}
	for _, p := range pairs()[1:] {
		isRefused(t, s, p, api.ErrSum)
	}
	for bit := range 32 {
		p := pairs()[0]
		p.src.Lo ^= 1 << bit
		isRefused(t, s, p, api.ErrSum)
		p = pairs()[0]
		p.dst.Lo ^= 1 << bit
		isRefused(t, s, p, api.ErrSum)
	}
}

// P8.1: a wrong length comes before missing bytes, these before addresses, and
// addresses before the checksum.
func TestGetOrder(t *testing.T) {
	p, strange := pairs()[1], strangers()[1]
	s := document(plain(), p, "payload")
	wrong, none := withWord(s, 6, 1), withWord(s, 6, 0)
	isRefused(t, wrong, p, api.ErrSum)
	isRefused(t, none, p, api.ErrSum)
	isRefused(t, s, strange, api.ErrArg)
	isRefused(t, wrong, strange, api.ErrArg)
	isRefused(t, none, strange, api.ErrArg)
	isRefused(t, withWord(wrong, 4, 16), strange, api.ErrShort)
	isRefused(t, withWord(none, 4, 16), p, api.ErrShort)
	isRefused(t, p.summed(withWord(s, 4, 7), 15), p, api.ErrForm)
	isRefused(t, withWord(wrong, 4, 7), strange, api.ErrForm)
	isRefused(t, withWord(none, 4, 0), strange, api.ErrForm)
	isRefused(t, withWord(none, 4, 0)[:7], strange, api.ErrShort)
}

// P8.1: each checksum: none but the right one is read, and 0 with addresses of
// version 4.
func TestGetSum(t *testing.T) {
	for _, p := range pairs() {
		for _, payload := range []string{"", "\x01", "payload!"} {
			s := document(plain(), p, payload)
			for n := range 1 << 16 {
				other := withWord(s, 6, n)
				if other == s || n == 0 && !p.src.V6 {
					isRead(t, other, p, plain(), payload)
				} else {
					isRefused(t, other, p, api.ErrSum)
				}
			}
		}
	}
}

// P8.1: a checksum of 0 with addresses of version 4 is none: whatever the bytes
// are, they are read; with those of version 6, nothing is, even if the bytes
// are right.
func TestGetNoSum(t *testing.T) {
	drawn := source(1)
	for range 2000 {
		h, payload := drawn.head(), drawn.bytes(drawn.number(40))
		p := drawn.pair()
		s := withWord(document(h, p, payload), 6, 0)
		// The last word of an even payload makes the bytes right.
		right := withWord(document(h, p, payload+payload+"\x00\x00"), 6, 0)
		right = withWord(right, len(right)-2, 65535-p.sum(right))
		if p.sum(right) != 65535 {
			t.Fatalf("%x is not right", right)
		}
		if p.src.V6 {
			isRefused(t, s, p, api.ErrSum)
			isRefused(t, right, p, api.ErrSum)
			continue
		}
		isRead(t, s, p, h, payload)
		isRead(t, s+"more", p, h, payload)
		isRead(t, right, p, h, right[8:])
	}
}

// P8.2: Get returns what Put was called with, whatever follows.
func TestRoundTrip(t *testing.T) {
	drawn := source(2)
	for range 5000 {
		h, p := drawn.head(), drawn.pair()
		payload := drawn.bytes(drawn.number(100))
		s, e := udp.Put(h, p.src, p.dst, payload)
		if s != document(h, p, payload) || e != api.OK {
			t.Fatalf("Put(%+v, %+v, %x) = %x, %d", h, p, payload, s, e)
		}
		isRead(t, s, p, h, payload)
		isRead(t, s+drawn.bytes(1+drawn.number(100)), p, h, payload)
		isRead(t, s+s, p, h, payload)
	}
}

// P8.2: Put never writes a checksum of 0, whatever number stands in the place
// of the source port: for one of them the checksum would be 0.
func TestNeverZero(t *testing.T) {
	for _, p := range pairs() {
		for _, payload := range []string{"", "\x80", "payload!"} {
			greatest := 0
			for n := range 1 << 16 {
				h := udp.Head{SPort: n, DPort: 443}
				s, e := udp.Put(h, p.src, p.dst, payload)
				if e != api.OK || len(s) < 8 || s[6:8] == "\x00\x00" || p.sum(s) != 65535 {
					t.Fatalf("Put(%+v, %+v, %q) = %x, %d", h, p, payload, s, e)
				}
				if s[6:8] == "\xff\xff" {
					greatest++
					isRead(t, s, p, h, payload)
				}
			}
			if greatest == 0 {
				t.Errorf("no source port makes a checksum of 65535, %+v, %q", p, payload)
			}
		}
	}
}

// P8.2: with any one bit of the ports or of the payload flipped, the checksum
// is wrong; with one of the length or of the checksum, the first error that
// applies is returned, if any.
func TestFlip(t *testing.T) {
	drawn := source(3)
	for range 500 {
		h, p := drawn.head(), drawn.pair()
		if drawn.number(4) == 0 {
			h = udp.Head{}
		}
		s, _ := udp.Put(h, p.src, p.dst, drawn.bytes(drawn.number(30)))
		for bit := range 8 * len(s) {
			b := []byte(s)
			b[bit/8] ^= 1 << (bit % 8)
			other := string(b)
			want := verdict(other, p)
			if at := bit / 8; at < 4 || at >= 8 {
				want = api.ErrSum
			}
			if want == api.OK {
				isRead(t, other, p, h, s[8:])
				continue
			}
			isRefused(t, other, p, want)
		}
	}
}

// P8.2: the same where the checksum is 65535, or has one bit, which flipped
// makes it none.
func TestFlipEdge(t *testing.T) {
	p := pairs()[0]
	for _, sum := range []int{65535, 1, 1 << 15} {
		h := udp.Head{DPort: 443}
		bare := withWord(document(h, p, "ab"), 6, sum)
		h.SPort = 65535 - p.sum(bare)
		s, e := udp.Put(h, p.src, p.dst, "ab")
		if e != api.OK || s != withWord(s, 6, sum) {
			t.Fatalf("Put(%+v) = %x, %d, want a checksum of %d", h, s, e, sum)
		}
		for _, at := range []int{0, 1, 2, 3, 8, 9} {
			for bit := range 8 {
				b := []byte(s)
				b[at] ^= 1 << bit
				isRefused(t, string(b), p, api.ErrSum)
			}
		}
		isRead(t, withWord(s, 6, 0), p, h, "ab")
	}
}

// P8.1, P8.2: of drawn and of changed bytes, Get returns the first error, or
// what makes Put return the bytes up to the length, with their checksum.
func TestAnyBytes(t *testing.T) {
	drawn := source(4)
	counts := map[api.Errno]int{}
	for range 60000 {
		s, p := anyBytes(&drawn)
		want := verdict(s, p)
		counts[want]++
		if want != api.OK {
			isRefused(t, s, p, want)
			continue
		}
		h, payload, e := udp.Get(s, p.src, p.dst)
		back, f := udp.Put(h, p.src, p.dst, payload)
		if e != api.OK || f != api.OK || back != p.summed(s, lengthOf(s))[:lengthOf(s)] {
			t.Errorf("Put of Get(%x) = %x, %d, %d", s, back, e, f)
		}
	}
	for _, e := range []api.Errno{api.OK, api.ErrShort, api.ErrForm, api.ErrArg, api.ErrSum} {
		if counts[e] < 300 {
			t.Errorf("only %d rows end with %d", counts[e], e)
		}
	}
}

// anyBytes draws bytes that look like a datagram, more or less, and addresses.
func anyBytes(drawn *source) (string, pair) {
	p := drawn.pair()
	s := drawn.bytes(drawn.number(60))
	if drawn.number(4) > 0 {
		s = document(drawn.head(), p, s) + drawn.bytes(drawn.number(5))
		b := []byte(s)
		for range drawn.number(3) {
			b[drawn.number(len(b))] = byte(drawn.number(256))
		}
		s = string(b)
	}
	if len(s) >= 8 && drawn.number(4) == 0 {
		s = withWord(s, 4, drawn.number(len(s)+2))
	}
	if drawn.number(4) == 0 {
		s = s[:drawn.number(len(s)+1)]
	}
	switch drawn.number(6) {
	case 0:
		if len(s) >= 8 {
			s = withWord(s, 6, 0)
		}
	case 1, 2:
		if len(s) >= 8 && lengthOf(s) >= 8 && lengthOf(s) <= len(s) {
			s = p.summed(s, lengthOf(s))
		}
	}
	if drawn.number(10) == 0 {
		all := strangers()
		p = all[drawn.number(len(all))]
	}
	return s, p
}
