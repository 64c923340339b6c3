package ipfour_test

import (
	"encoding/binary"
	"math"
	"strings"
	"testing"

	"cloakroom/api"
	"cloakroom/ipfour"
)

const (
	maxTotal = 65535
	max32    = math.MaxUint32
	max64    = math.MaxUint64
)

// four and six make addresses, valid ones and others.
func four(hi, lo uint64) api.Addr { return api.Addr{Hi: hi, Lo: lo} }
func six(hi, lo uint64) api.Addr  { return api.Addr{V6: true, Hi: hi, Lo: lo} }

// source draws numbers that depend on nothing but its seed.
type source uint64

func (s *source) number(n int) int {
	*s = *s*6364136223846793005 + 1442695040888963407
	return int(uint64(*s>>33) % uint64(n))
}

func (s *source) bytes(n int) string {
	b := make([]byte, n)
	for i := range b {
		b[i] = byte(s.number(256))
	}
	return string(b)
}

// head draws a valid header.
func (s *source) head() ipfour.Head {
	return ipfour.Head{
		Class: s.number(256), Mark: s.number(65536), Whole: s.number(2) == 1,
		TTL: s.number(256), Proto: s.number(256),
		Src: four(0, uint64(s.number(1<<31))<<1|1), Dst: four(0, uint64(s.number(1<<31))),
		Options: s.bytes(4 * s.number(11)),
	}
}

// sum returns the sum of the words of an even number of bytes.
func sum(b []byte) int {
	total := 0
	for i := 0; i < len(b); i += 2 {
		total += int(b[i])<<8 | int(b[i+1])
		if total > 65535 {
			total -= 65535
		}
	}
	return total
}

// summed returns header bytes with their checksum, and what follows them.
func summed(header []byte, rest string) string {
	header[10], header[11] = 0, 0
	binary.BigEndian.PutUint16(header[10:], uint16(65535-sum(header)))
	return string(header) + rest
}

// resummed returns s with the checksum of its first n bytes.
func resummed(s string, n int) string { return summed([]byte(s[:n]), s[n:]) }

// document returns the bytes of a valid header and its payload, as the chapter
// describes them.
func document(h ipfour.Head, payload string) string {
	b := make([]byte, 20, 60)
	b[0] = byte(4*16 + (20+len(h.Options))/4)
	b[1] = byte(h.Class)
	binary.BigEndian.PutUint16(b[2:], uint16(20+len(h.Options)+len(payload)))
	binary.BigEndian.PutUint16(b[4:], uint16(h.Mark))
	if h.Whole {
		b[6] = 64
	}
	b[8], b[9] = byte(h.TTL), byte(h.Proto)
	binary.BigEndian.PutUint32(b[12:], uint32(h.Src.Lo))
	binary.BigEndian.PutUint32(b[16:], uint32(h.Dst.Lo))
	return summed(append(b, h.Options...), payload)
}

// verdict returns the first error that the chapter names for s.
func verdict(s string) api.Errno {
	if len(s) < 20 {
		return api.ErrShort
	}
	size, total := int(s[0]%16)*4, int(s[2])*256+int(s[3])
	if s[0]/16 != 4 || s[0]%16 < 5 || total < size {
		return api.ErrForm
	}
	if len(s) < total {
		return api.ErrShort
	}
	if sum([]byte(s[:size])) != 65535 {
		return api.ErrSum
	}
	if s[6] != 0 && s[6] != 64 || s[7] != 0 {
		return api.ErrFrag
	}
	return api.OK
}

// isRead reports that Get does not return what it should.
func isRead(t *testing.T, s string, h ipfour.Head, payload string) {
	t.Helper()
	got, rest, e := ipfour.Get(s)
	if got != h || rest != payload || e != api.OK {
		t.Errorf("Get(%.60x) = %+v, %d bytes %.20x, %d, want %+v, %d bytes %.20x", s, got, len(rest), rest, e, h, len(payload), payload)
	}
}

// isRefused reports that Get does not return this error and nothing else.
func isRefused(t *testing.T, s string, want api.Errno) {
	t.Helper()
	got, rest, e := ipfour.Get(s)
	if got != (ipfour.Head{}) || rest != "" || e != want {
		t.Errorf("Get of %d bytes %.60x = %+v, %d bytes, %d, want %d", len(s), s, got, len(rest), e, want)
	}
}

// plain is an ordinary header.
func plain() ipfour.Head {
	return ipfour.Head{Class: 1, Mark: 0x0203, Whole: true, TTL: 64, Proto: 17, Src: four(0, 0xc0a80001), Dst: four(0, 0xc0a800c7)}
}

// heads are headers each of which is at an edge of one of the fields.
func heads() []ipfour.Head {
	var all []ipfour.Head
	add := func(change func(h *ipfour.Head)) {
		h := plain()
		change(&h)
		all = append(all, h)
	}
	for _, n := range []int{0, 1, 127, 128, 254, 255} {
		add(func(h *ipfour.Head) { h.Class = n })
		add(func(h *ipfour.Head) { h.TTL = n })
		add(func(h *ipfour.Head) { h.Proto = n })
	}
	for _, n := range []int{0, 1, 255, 256, 32767, 32768, 65534, 65535} {
		add(func(h *ipfour.Head) { h.Mark = n })
	}
	for _, n := range []uint64{0, 1, 255, 256, 1<<31 - 1, 1 << 31, max32 - 1, max32} {
		add(func(h *ipfour.Head) { h.Src = four(0, n) })
		add(func(h *ipfour.Head) { h.Dst = four(0, n) })
	}
	for _, whole := range []bool{false, true} {
		add(func(h *ipfour.Head) { h.Whole = whole })
	}
	for n := 0; n <= 40; n += 4 {
		add(func(h *ipfour.Head) { h.Options = "\x01\x82\xff\x00abcdefghijklmnopqrstuvwxyzABCDEFGHIJ"[:n] })
	}
	add(func(h *ipfour.Head) { *h = ipfour.Head{} })
	return all
}

// P5.1: the bytes of headers that are known from elsewhere.
func TestKnownBytes(t *testing.T) {
	rows := []struct {
		h              ipfour.Head
		payload, bytes string
	}{
		{
			ipfour.Head{Whole: true, TTL: 64, Proto: 17, Src: four(0, 0xc0a80001), Dst: four(0, 0xc0a800c7)}, strings.Repeat("p", 95),
			"\x45\x00\x00\x73\x00\x00\x40\x00\x40\x11\xb8\x61\xc0\xa8\x00\x01\xc0\xa8\x00\xc7",
		},
		{
			ipfour.Head{Mark: 0x1c46, Whole: true, TTL: 64, Proto: 6, Src: four(0, 0xac100a63), Dst: four(0, 0xac100a0c)}, strings.Repeat("q", 40),
			"\x45\x00\x00\x3c\x1c\x46\x40\x00\x40\x06\xb1\xe6\xac\x10\x0a\x63\xac\x10\x0a\x0c",
		},
		{
			ipfour.Head{}, "",
			"\x45\x00\x00\x14\x00\x00\x00\x00\x00\x00\xba\xeb\x00\x00\x00\x00\x00\x00\x00\x00",
		},
		{
			ipfour.Head{Class: 0x12, Mark: 0x3456, TTL: 0x78, Proto: 0x9a, Src: four(0, 0x01020304), Dst: four(0, 0x05060708), Options: "\x94\x04\x00\x00"}, "\x00",
			"\x46\x12\x00\x19\x34\x56\x00\x00\x78\x9a\x68\xcb\x01\x02\x03\x04\x05\x06\x07\x08\x94\x04\x00\x00",
		},
	}
	for _, r := range rows {
		if got, e := ipfour.Put(r.h, r.payload); got != r.bytes+r.payload || e != api.OK {
			t.Errorf("Put(%+v) = %x, %d, want %x", r.h, got, e, r.bytes)
		}
		isRead(t, r.bytes+r.payload, r.h, r.payload)
	}
}

// P5.1: each field at its edges, with payloads of several lengths.
func TestPut(t *testing.T) {
	for _, h := range heads() {
		for _, payload := range []string{"", "\x00", "\xff", "abc", strings.Repeat("\x45", 235), strings.Repeat("x", 236), strings.Repeat("y", 1480)} {
			want := document(h, payload)
			if got, e := ipfour.Put(h, payload); got != want || e != api.OK {
				t.Errorf("Put(%+v, %d bytes) = %x, %d, want %x", h, len(payload), got, e, want)
			}
			isRead(t, want, h, payload)
		}
	}
}

// P5.1: the example of the chapter: 20 bytes, the first of which is 69.
func TestExample(t *testing.T) {
	got, e := ipfour.Put(plain(), "")
	if len(got) != 20 || got[0] != 69 || e != api.OK {
		t.Errorf("Put = %x, %d", got, e)
	}
}

// wrong are headers in each of which one condition does not hold.
func wrong() []ipfour.Head {
	var all []ipfour.Head
	add := func(change func(h *ipfour.Head)) {
		h := plain()
		change(&h)
		all = append(all, h)
	}
	for _, n := range []int{-1, -2, -255, -256, -65536, math.MinInt, math.MinInt + 1, 65536, 65537, 1 << 17, 1 << 32, 1<<32 + 1, math.MaxInt} {
		add(func(h *ipfour.Head) { h.Class = n })
		add(func(h *ipfour.Head) { h.TTL = n })
		add(func(h *ipfour.Head) { h.Proto = n })
		add(func(h *ipfour.Head) { h.Mark = n })
	}
	for _, n := range []int{256, 257, 511, 512, 65535} {
		add(func(h *ipfour.Head) { h.Class = n })
		add(func(h *ipfour.Head) { h.TTL = n })
		add(func(h *ipfour.Head) { h.Proto = n })
	}
	for _, a := range []api.Addr{
		four(0, max32+1), four(0, 1<<63), four(0, max64), four(1, 0), four(1, 1), four(max64, max64),
		six(0, 0), six(0, 1), six(0, max32), six(1, 0), six(max64, max64),
	} {
		add(func(h *ipfour.Head) { h.Src = a })
		add(func(h *ipfour.Head) { h.Dst = a })
		add(func(h *ipfour.Head) { h.Src, h.Dst = a, a })
	}
	for n := range 300 {
		if n%4 != 0 || n > 40 {
			add(func(h *ipfour.Head) { h.Options = strings.Repeat("\x01", n) })
		}
	}
	add(func(h *ipfour.Head) { h.Options = strings.Repeat("\x01", 1<<16) })
	return all
}

// P5.1: a header that is not valid is ErrArg, also where ErrLong applies.
func TestPutWrong(t *testing.T) {
	for _, h := range wrong() {
		for _, payload := range []string{"", "abc", strings.Repeat("x", maxTotal), strings.Repeat("x", maxTotal+1)} {
			if got, e := ipfour.Put(h, payload); got != "" || e != api.ErrArg {
				t.Errorf("Put(%+v, %d bytes) = %d bytes, %d", h, len(payload), len(got), e)
			}
		}
	}
}

// P5.1: at most 65535 bytes of header and payload together.
func TestPutLong(t *testing.T) {
	for _, options := range []int{0, 4, 36, 40} {
		h := plain()
		h.Options = strings.Repeat("\x01", options)
		most := maxTotal - 20 - options
		for _, n := range []int{most - 1, most} {
			payload := strings.Repeat("\xa5", n)
			got, e := ipfour.Put(h, payload)
			if got != document(h, payload) || e != api.OK {
				t.Errorf("Put of %d options and %d bytes = %d bytes, %d", options, n, len(got), e)
			}
			isRead(t, got, h, payload)
		}
		for _, n := range []int{most + 1, most + 2, maxTotal, maxTotal + 1, 2 * maxTotal, 1 << 20} {
			if got, e := ipfour.Put(h, strings.Repeat("\xa5", n)); got != "" || e != api.ErrLong {
				t.Errorf("Put of %d options and %d bytes = %d bytes, %d", options, n, len(got), e)
			}
		}
	}
}

// P5.1: fewer than 20 bytes are short, whatever they are.
func TestGetShort(t *testing.T) {
	whole := document(plain(), "")
	for n := range 20 {
		for _, s := range []string{whole[:n], strings.Repeat("\x00", n), strings.Repeat("\xff", n), strings.Repeat("\x60", n)} {
			isRefused(t, s, api.ErrShort)
		}
	}
	isRead(t, whole, plain(), "")
}

// P5.1: each first byte, with the checksum of the header that it announces.
func TestGetFirstByte(t *testing.T) {
	for first := range 256 {
		s := string([]byte{byte(first)}) + "\x00\x00\x64" + strings.Repeat("\x00", 96)
		size := first % 16 * 4
		if first/16 != 4 || size < 20 {
			isRefused(t, resummed(s, max(size, 20)), api.ErrForm)
			isRefused(t, s, api.ErrForm)
			continue
		}
		isRead(t, resummed(s, size), ipfour.Head{Options: strings.Repeat("\x00", size-20)}, s[size:])
		isRefused(t, s, api.ErrSum)
	}
}

// P5.1: each total length, with headers of each length, before 100 bytes.
func TestGetTotal(t *testing.T) {
	for size := 20; size <= 60; size += 4 {
		h := plain()
		h.Options = strings.Repeat("\x01", size-20)
		for total := range maxTotal + 1 {
			if total > 300 && total%251 != 0 && total < maxTotal-2 {
				continue
			}
			b := []byte(document(h, strings.Repeat("abcdefgh", 5))[:size])
			binary.BigEndian.PutUint16(b[2:], uint16(total))
			s := summed(b, strings.Repeat("0123456789", 10))
			switch {
			case total < size:
				isRefused(t, s, api.ErrForm)
			case total > len(s):
				isRefused(t, s, api.ErrShort)
			default:
				isRead(t, s, h, s[size:total])
			}
		}
	}
}

// P5.1: bytes that end before the total length, in the header or in the
// payload, are short.
func TestGetCut(t *testing.T) {
	for _, options := range []int{0, 4, 40} {
		h := plain()
		h.Options = strings.Repeat("\x01", options)
		s := document(h, "payload")
		for n := range len(s) {
			isRefused(t, s[:n], api.ErrShort)
		}
		isRead(t, s, h, "payload")
	}
}

// P5.1: a wrong form comes before missing bytes, these before a wrong checksum,
// and this before a part of a packet.
func TestGetOrder(t *testing.T) {
	base := document(plain(), "payload")
	set := func(s string, at int, b byte) string { return s[:at] + string([]byte{b}) + s[at+1:] }
	part := set(base, 7, 1)
	isRefused(t, resummed(part, 20), api.ErrFrag)
	isRefused(t, part, api.ErrSum)
	isRefused(t, part[:26], api.ErrShort)
	isRefused(t, resummed(part, 20)[:26], api.ErrShort)
	for _, first := range []byte{0x44, 0x40, 0x55, 0x65, 0x05, 0x48} { // 0x48: 32 bytes of 27
		isRefused(t, set(part, 0, first)[:26], api.ErrForm)
		isRefused(t, resummed(set(part, 0, first), 20), api.ErrForm)
		isRefused(t, set(part, 0, first)[:19], api.ErrShort)
	}
	isRefused(t, set(part, 3, 19), api.ErrForm)
	isRefused(t, resummed(set(part, 3, 19), 20), api.ErrForm)
	isRefused(t, set(part, 3, 28), api.ErrShort)
	isRefused(t, set(part, 2, 1), api.ErrShort)
}

// P5.1: each value of the seventh and the eighth byte: neither an offset nor
// any bit but 64 is accepted.
func TestGetPart(t *testing.T) {
	h := plain()
	h.Options = "\x01\x01\x01\x00"
	for part := range 1 << 16 {
		b := []byte(document(h, "")[:24])
		binary.BigEndian.PutUint16(b[2:], 26)
		binary.BigEndian.PutUint16(b[6:], uint16(part))
		s := summed(b, "ab")
		switch part {
		case 0, 64 * 256:
			h.Whole = part != 0
			isRead(t, s, h, "ab")
		default:
			isRefused(t, s, api.ErrFrag)
		}
	}
}

// P5.1: a header with each other checksum is refused, options included.
func TestGetSum(t *testing.T) {
	for _, h := range heads() {
		s := document(h, "payload")
		size := 20 + len(h.Options)
		for n := range 1 << 16 {
			if n%97 != 0 {
				continue
			}
			b := []byte(s)
			binary.BigEndian.PutUint16(b[10:], uint16(n))
			if sum(b[:size]) != 65535 {
				isRefused(t, string(b), api.ErrSum)
			}
		}
		for i := range size {
			for bit := range 8 {
				b := []byte(s)
				b[i] ^= 1 << bit
				if want := verdict(string(b)); want == api.OK {
					t.Errorf("%x with another bit is right", s)
				} else {
					isRefused(t, string(b), want)
				}
			}
		}
	}
}

// P5.1: the payload is not checked, and what follows it is not returned.
func TestGetPayload(t *testing.T) {
	s := document(plain(), "payload")
	isRead(t, s[:20]+"PAYLOAD", plain(), "PAYLOAD")
	isRead(t, s+s, plain(), "payload")
	isRead(t, s+"\x00", plain(), "payload")
	isRead(t, document(plain(), "")+"payload", plain(), "")
}

// P5.2: the pseudo headers of ordinary addresses and numbers, and of numbers of
// which only the lowest bytes stand there.
func TestPseudo(t *testing.T) {
	a, b := four(0, 0x01020304), four(0, 0xfffefdfc)
	c, d := six(0x20010db800000001, 2), six(0, max64)
	const fours = "\x01\x02\x03\x04\xff\xfe\xfd\xfc"
	const sixes = "\x20\x01\x0d\xb8\x00\x00\x00\x01\x00\x00\x00\x00\x00\x00\x00\x02" +
		"\x00\x00\x00\x00\x00\x00\x00\x00\xff\xff\xff\xff\xff\xff\xff\xff"
	rows := []struct {
		proto, n          int
		protoByte, number string // the lowest four bytes of n
	}{
		{6, 20, "\x06", "\x00\x00\x00\x14"},
		{17, 8, "\x11", "\x00\x00\x00\x08"},
		{58, 1240, "\x3a", "\x00\x00\x04\xd8"},
		{0, 0, "\x00", "\x00\x00\x00\x00"},
		{255, 65535, "\xff", "\x00\x00\xff\xff"},
		{256, 65536, "\x00", "\x00\x01\x00\x00"},
		{0x1234, 0x12345678, "\x34", "\x12\x34\x56\x78"},
		{1<<40 | 7, 1<<32 | 0x01020304, "\x07", "\x01\x02\x03\x04"},
		{-1, -1, "\xff", "\xff\xff\xff\xff"},
		{-2, -256, "\xfe", "\xff\xff\xff\x00"},
		{math.MaxInt, math.MaxInt, "\xff", "\xff\xff\xff\xff"},
		{math.MinInt, math.MinInt, "\x00", "\x00\x00\x00\x00"},
	}
	for _, r := range rows {
		want := fours + "\x00" + r.protoByte + r.number[2:]
		if got := ipfour.Pseudo(a, b, r.proto, r.n); got != want {
			t.Errorf("Pseudo of version 4, %d, %d = %x, want %x", r.proto, r.n, got, want)
		}
		want = sixes + r.number + "\x00\x00\x00" + r.protoByte
		if got := ipfour.Pseudo(c, d, r.proto, r.n); got != want {
			t.Errorf("Pseudo of version 6, %d, %d = %x, want %x", r.proto, r.n, got, want)
		}
	}
}

// P5.2: each pair of addresses: only two valid ones of the same version have a
// pseudo header.
func TestPseudoWrong(t *testing.T) {
	rows := []struct {
		a    api.Addr
		size int // of a pseudo header with this address; 0 if it is not valid
	}{
		{four(0, 0), 12}, {four(0, 1), 12}, {four(0, max32), 12},
		{six(0, 0), 40}, {six(0, 1), 40}, {six(0, max32+1), 40}, {six(1, 0), 40}, {six(max64, max64), 40},
		{four(0, max32+1), 0}, {four(0, 1<<63), 0}, {four(0, max64), 0}, {four(1, 0), 0}, {four(1, 1), 0}, {four(max64, max64), 0},
	}
	for _, src := range rows {
		for _, dst := range rows {
			want := 0
			if src.size == dst.size {
				want = src.size
			}
			if got := ipfour.Pseudo(src.a, dst.a, 6, 20); len(got) != want {
				t.Errorf("Pseudo(%v, %v) = %x, want %d bytes", src.a, dst.a, got, want)
			}
		}
	}
}

// P5.3: Get returns what Put was called with, whatever follows, and Put of this
// the bytes that were read.
func TestRoundTrip(t *testing.T) {
	drawn := source(1)
	for range 3000 {
		h := drawn.head()
		payload := drawn.bytes(drawn.number(100))
		s, e := ipfour.Put(h, payload)
		if s != document(h, payload) || e != api.OK {
			t.Fatalf("Put(%+v, %x) = %x, %d", h, payload, s, e)
		}
		isRead(t, s, h, payload)
		isRead(t, s+drawn.bytes(1+drawn.number(100)), h, payload)
		if back, e := ipfour.Put(h, payload); back != s || e != api.OK {
			t.Errorf("Put of the result of Get = %x, %d, want %x", back, e, s)
		}
	}
}

// P5.3: a checksum of 65535 is read like 0, and written as 0.
func TestOtherZero(t *testing.T) {
	drawn := source(2)
	for range 200 {
		h := drawn.head()
		h.Mark = 0
		b := []byte(document(h, "abc"))
		// The mark takes the place of the checksum, which then is 0.
		h.Mark = int(b[10])<<8 | int(b[11])
		s, e := ipfour.Put(h, "abc")
		if e != api.OK || s[10:12] != "\x00\x00" {
			t.Fatalf("Put(%+v) = %x, %d, want a checksum of 0", h, s, e)
		}
		isRead(t, s, h, "abc")
		isRead(t, s[:10]+"\xff\xff"+s[12:], h, "abc")
		got, payload, _ := ipfour.Get(s[:10] + "\xff\xff" + s[12:])
		if back, e := ipfour.Put(got, payload); back != s || e != api.OK {
			t.Errorf("Put of the result of Get = %x, %d, want %x", back, e, s)
		}
	}
}

// P5.1, P5.3: of drawn and of changed bytes, Get returns the first error, or
// what makes Put return the bytes up to the total length.
func TestAnyBytes(t *testing.T) {
	drawn := source(3)
	counts := map[api.Errno]int{}
	for range 60000 {
		s := anyBytes(&drawn)
		want := verdict(s)
		counts[want]++
		if want != api.OK {
			isRefused(t, s, want)
			continue
		}
		h, payload, e := ipfour.Get(s)
		total := int(s[2])*256 + int(s[3])
		back, f := ipfour.Put(h, payload)
		if e != api.OK || f != api.OK || back != resummed(s, int(s[0]%16)*4)[:total] {
			t.Errorf("Put of Get(%x) = %x, %d, %d", s, back, e, f)
		}
	}
	for _, e := range []api.Errno{api.OK, api.ErrShort, api.ErrForm, api.ErrSum, api.ErrFrag} {
		if counts[e] < 100 {
			t.Errorf("only %d rows end with %d", counts[e], e)
		}
	}
}

// anyBytes draws bytes that look like a header, more or less.
func anyBytes(drawn *source) string {
	s := drawn.bytes(drawn.number(90))
	if drawn.number(4) == 0 || len(s) < 20 {
		return s
	}
	b := []byte(document(drawn.head(), drawn.bytes(drawn.number(20))) + s)
	for range drawn.number(3) {
		b[drawn.number(20)] = byte(drawn.number(256))
	}
	size := max(int(b[0]%16)*4, 20)
	if drawn.number(3) > 0 && size <= len(b) {
		return resummed(string(b), size)
	}
	return string(b[:drawn.number(len(b)+1)])
}
