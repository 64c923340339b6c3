package ipsix_test

import (
	"encoding/binary"
	"math"
	"strings"
	"testing"

	"cloakroom/api"
	"cloakroom/ipsix"
)

const (
	headBytes  = 40
	maxPayload = 65535
	maxLabel   = 1<<20 - 1
	max32      = math.MaxUint32
	max64      = math.MaxUint64
)

// four and six make addresses, valid ones and others.
func four(hi, lo uint64) api.Addr { return api.Addr{Hi: hi, Lo: lo} }
func six(hi, lo uint64) api.Addr  { return api.Addr{V6: true, Hi: hi, Lo: lo} }

// source draws numbers that depend on nothing but its seed.
type source uint64

func (s *source) number(n int) int {
	*s = *s*6364136223846793005 + 1442695040888963407
	return int(uint64(*s>>33) % uint64(n))
}

func (s *source) bytes(n int) string {
	b := make([]byte, n)
	for i := range b {
		b[i] = byte(s.number(256))
	}
	return string(b)
}

// half draws the half of an address.
func (s *source) half() uint64 { return binary.BigEndian.Uint64([]byte(s.bytes(8))) }

// head draws a valid header.
func (s *source) head() ipsix.Head {
	return ipsix.Head{
		Class: s.number(256), Label: s.number(1 << 20), Next: s.number(256), Hop: s.number(256),
		Src: six(s.half(), s.half()), Dst: six(s.half(), s.half()),
	}
}

// header returns the bytes of a valid header that announces n bytes of payload,
// as the chapter describes them.
func header(h ipsix.Head, n int) string {
	b := make([]byte, headBytes)
	binary.BigEndian.PutUint32(b, uint32(6*1<<28+h.Class*1<<20+h.Label))
	binary.BigEndian.PutUint16(b[4:], uint16(n))
	b[6], b[7] = byte(h.Next), byte(h.Hop)
	for i, half := range []uint64{h.Src.Hi, h.Src.Lo, h.Dst.Hi, h.Dst.Lo} {
		binary.BigEndian.PutUint64(b[8+8*i:], half)
	}
	return string(b)
}

// document returns the bytes of a valid header and its payload.
func document(h ipsix.Head, payload string) string { return header(h, len(payload)) + payload }

// announced returns the payload length that a header contains.
func announced(s string) int { return int(s[4])*256 + int(s[5]) }

// verdict returns the first error that the chapter names for s.
func verdict(s string) api.Errno {
	switch {
	case len(s) < headBytes:
		return api.ErrShort
	case s[0]/16 != 6:
		return api.ErrForm
	case len(s)-headBytes < announced(s):
		return api.ErrShort
	}
	return api.OK
}

// isPut reports that Put does not return these bytes.
func isPut(t *testing.T, h ipsix.Head, payload, want string) {
	t.Helper()
	if got, e := ipsix.Put(h, payload); got != want || e != api.OK {
		t.Errorf("Put(%+v, %d bytes) = %d bytes %.60x, %d, want %d bytes %.60x", h, len(payload), len(got), got, e, len(want), want)
	}
}

// isUnfit reports that Put does not return this error and nothing else.
func isUnfit(t *testing.T, h ipsix.Head, payload string, want api.Errno) {
	t.Helper()
	if got, e := ipsix.Put(h, payload); got != "" || e != want {
		t.Errorf("Put(%+v, %d bytes) = %d bytes, %d, want %d", h, len(payload), len(got), e, want)
	}
}

// isRead reports that Get does not return what it should.
func isRead(t *testing.T, s string, h ipsix.Head, payload string) {
	t.Helper()
	got, rest, e := ipsix.Get(s)
	if got != h || rest != payload || e != api.OK {
		t.Errorf("Get(%.60x) = %+v, %d bytes %.20x, %d, want %+v, %d bytes %.20x", s, got, len(rest), rest, e, h, len(payload), payload)
	}
}

// isRefused reports that Get does not return this error and nothing else.
func isRefused(t *testing.T, s string, want api.Errno) {
	t.Helper()
	got, rest, e := ipsix.Get(s)
	if got != (ipsix.Head{}) || rest != "" || e != want {
		t.Errorf("Get of %d bytes %.60x = %+v, %d bytes, %d, want %d", len(s), s, got, len(rest), e, want)
	}
}

// plain is an ordinary header.
func plain() ipsix.Head {
	return ipsix.Head{Class: 1, Label: 0x20304, Next: 17, Hop: 64, Src: six(0x20010db800000000, 1), Dst: six(0x20010db8000000ff, 2)}
}

// changed returns the plain header with a change.
func changed(change func(h *ipsix.Head)) ipsix.Head {
	h := plain()
	change(&h)
	return h
}

// heads are headers each of which is at an edge of one of the fields.
func heads() []ipsix.Head {
	all := []ipsix.Head{{Src: six(0, 0), Dst: six(0, 0)}, {
		Class: 255, Label: maxLabel, Next: 255, Hop: 255, Src: six(max64, max64), Dst: six(max64, max64),
	}}
	for _, n := range []int{0, 1, 15, 16, 127, 128, 254, 255} {
		all = append(all,
			changed(func(h *ipsix.Head) { h.Class = n }),
			changed(func(h *ipsix.Head) { h.Next = n }),
			changed(func(h *ipsix.Head) { h.Hop = n }))
	}
	for _, n := range []int{0, 1, 255, 256, 65535, 65536, 1<<19 - 1, 1 << 19, maxLabel - 1, maxLabel} {
		all = append(all, changed(func(h *ipsix.Head) { h.Label = n }))
	}
	for _, n := range []uint64{0, 1, 255, 256, max32, max32 + 1, 1<<63 - 1, 1 << 63, max64 - 1, max64} {
		all = append(all,
			changed(func(h *ipsix.Head) { h.Src = six(n, 5) }),
			changed(func(h *ipsix.Head) { h.Src = six(5, n) }),
			changed(func(h *ipsix.Head) { h.Dst = six(n, 5) }),
			changed(func(h *ipsix.Head) { h.Dst = six(5, n) }))
	}
	return all
}

// P6.1: headers whose bytes are written out.
func TestKnownBytes(t *testing.T) {
	rows := []struct {
		h              ipsix.Head
		payload, bytes string
	}{
		{
			ipsix.Head{Next: 6, Hop: 64, Src: six(0, 1), Dst: six(0, 1)}, strings.Repeat("p", 40),
			"\x60\x00\x00\x00\x00\x28\x06\x40" +
				"\x00\x00\x00\x00\x00\x00\x00\x00\x00\x00\x00\x00\x00\x00\x00\x01" +
				"\x00\x00\x00\x00\x00\x00\x00\x00\x00\x00\x00\x00\x00\x00\x00\x01",
		},
		{
			ipsix.Head{Class: 0x12, Label: 0x34567, Next: 0x89, Hop: 0xab, Src: six(0x0102030405060708, 0x090a0b0c0d0e0f10), Dst: six(0xf1f2f3f4f5f6f7f8, 0xf9fafbfcfdfeff00)},
			strings.Repeat("q", 0x1234),
			"\x61\x23\x45\x67\x12\x34\x89\xab" +
				"\x01\x02\x03\x04\x05\x06\x07\x08\x09\x0a\x0b\x0c\x0d\x0e\x0f\x10" +
				"\xf1\xf2\xf3\xf4\xf5\xf6\xf7\xf8\xf9\xfa\xfb\xfc\xfd\xfe\xff\x00",
		},
		{
			ipsix.Head{Class: 255, Label: maxLabel, Next: 255, Hop: 255, Src: six(max64, max64), Dst: six(max64, max64)}, strings.Repeat("r", maxPayload),
			"\x6f" + strings.Repeat("\xff", 39),
		},
		{
			ipsix.Head{Src: six(0, 0), Dst: six(0, 0)}, "",
			"\x60" + strings.Repeat("\x00", 39),
		},
	}
	for _, r := range rows {
		isPut(t, r.h, r.payload, r.bytes+r.payload)
		isRead(t, r.bytes+r.payload, r.h, r.payload)
	}
}

// P6.1: each field at its edges, with payloads of several lengths.
func TestPut(t *testing.T) {
	for _, h := range heads() {
		for _, payload := range []string{"", "\x00", "\xff", "abc", strings.Repeat("\x60", 255), strings.Repeat("x", 256), strings.Repeat("y", 1480)} {
			isPut(t, h, payload, document(h, payload))
			isRead(t, document(h, payload), h, payload)
		}
	}
}

// P6.1: the example of the chapter: 41 bytes with a payload of one byte.
func TestExample(t *testing.T) {
	if got, e := ipsix.Put(plain(), "a"); len(got) != 41 || e != api.OK {
		t.Errorf("Put = %x, %d", got, e)
	}
}

// wrong are headers in each of which one condition, or one of each address,
// does not hold.
func wrong() []ipsix.Head {
	var all []ipsix.Head
	for _, n := range []int{
		math.MinInt, math.MinInt + 1, -1 << 32, -1 << 20, -65536, -256, -255, -2, -1,
		1 << 20, 1<<20 + 1, 1<<20 + 255, 1 << 24, 1 << 28, 1<<32 - 1, 1 << 32, 1<<32 + 1, math.MaxInt,
	} {
		all = append(all,
			changed(func(h *ipsix.Head) { h.Class = n }),
			changed(func(h *ipsix.Head) { h.Label = n }),
			changed(func(h *ipsix.Head) { h.Next = n }),
			changed(func(h *ipsix.Head) { h.Hop = n }))
	}
	for _, n := range []int{256, 257, 511, 512, 65535, 65536, maxLabel} {
		all = append(all,
			changed(func(h *ipsix.Head) { h.Class = n }),
			changed(func(h *ipsix.Head) { h.Next = n }),
			changed(func(h *ipsix.Head) { h.Hop = n }))
	}
	for _, a := range []api.Addr{
		four(0, 0), four(0, 1), four(0, max32), // valid, of version 4
		four(0, max32+1), four(0, max64), four(1, 0), four(max64, max64),
	} {
		all = append(all,
			changed(func(h *ipsix.Head) { h.Src = a }),
			changed(func(h *ipsix.Head) { h.Dst = a }),
			changed(func(h *ipsix.Head) { h.Src, h.Dst = a, a }))
	}
	return append(all, ipsix.Head{})
}

// P6.1: a header that is not valid is ErrArg, also where ErrLong applies.
func TestPutWrong(t *testing.T) {
	for _, h := range wrong() {
		for _, payload := range []string{"", "abc", strings.Repeat("x", maxPayload), strings.Repeat("x", maxPayload+1)} {
			isUnfit(t, h, payload, api.ErrArg)
		}
	}
}

// P6.1: at most 65535 bytes of payload.
func TestPutLong(t *testing.T) {
	for _, n := range []int{maxPayload - headBytes, maxPayload - headBytes + 1, maxPayload - 1, maxPayload} {
		payload := strings.Repeat("\xa5", n)
		isPut(t, plain(), payload, document(plain(), payload))
		isRead(t, document(plain(), payload), plain(), payload)
	}
	for _, n := range []int{maxPayload + 1, maxPayload + 2, maxPayload + headBytes, 2 * maxPayload, 1 << 20} {
		isUnfit(t, plain(), strings.Repeat("\xa5", n), api.ErrLong)
	}
}

// P6.1: fewer than 40 bytes are short, whatever they are.
func TestGetShort(t *testing.T) {
	whole := document(plain(), "")
	for n := range headBytes {
		for _, s := range []string{whole[:n], strings.Repeat("\x00", n), strings.Repeat("\xff", n), strings.Repeat("\x45", n)} {
			isRefused(t, s, api.ErrShort)
		}
	}
	isRead(t, whole, plain(), "")
}

// P6.1: each first byte: its upper half is 6, its lower half belongs to Class.
func TestGetFirstByte(t *testing.T) {
	for first := range 256 {
		s := string([]byte{byte(first)}) + header(plain(), 3)[1:] + "abcd"
		if first/16 != 6 {
			isRefused(t, s, api.ErrForm)
			continue
		}
		isRead(t, s, changed(func(h *ipsix.Head) { h.Class = first%16*16 + plain().Class%16 }), "abc")
	}
}

// P6.1: each payload length, before 300 bytes.
func TestGetLength(t *testing.T) {
	rest := strings.Repeat("0123456789", 30)
	for n := range maxPayload + 1 {
		s := header(plain(), n) + rest
		if n > len(rest) {
			isRefused(t, s, api.ErrShort)
			continue
		}
		isRead(t, s, plain(), rest[:n])
	}
}

// P6.1: bytes that end before the payload does are short.
func TestGetCut(t *testing.T) {
	for _, payload := range []string{"", "p", "payload", strings.Repeat("x", 300), strings.Repeat("y", maxPayload)} {
		s := document(plain(), payload)
		for n := range min(len(s), headBytes+300) {
			isRefused(t, s[:n], api.ErrShort)
		}
		if payload != "" {
			isRefused(t, s[:len(s)-1], api.ErrShort)
		}
		isRead(t, s, plain(), payload)
	}
}

// P6.1: a short header comes before a wrong form, and this before a short
// payload.
func TestGetOrder(t *testing.T) {
	for _, first := range []string{"\x00", "\x45", "\x50", "\x70", "\xe0", "\xff"} {
		s := first + header(plain(), 7)[1:] + "payload"
		isRefused(t, s, api.ErrForm)
		for n := headBytes; n < len(s); n++ {
			isRefused(t, s[:n], api.ErrForm)
		}
		isRefused(t, s[:headBytes-1], api.ErrShort)
		isRefused(t, s[:1], api.ErrShort)
	}
}

// P6.1: the payload is not examined, and what follows it is not returned.
func TestGetPayload(t *testing.T) {
	s := document(plain(), "payload")
	isRead(t, s[:headBytes]+"PAYLOAD", plain(), "PAYLOAD")
	isRead(t, s+s, plain(), "payload")
	isRead(t, s+"\x00", plain(), "payload")
	isRead(t, document(plain(), "")+"payload", plain(), "")
	isRead(t, document(plain(), s), plain(), s)
}

// P6.1: each bit of a header is part of one field.
func TestGetBits(t *testing.T) {
	h := ipsix.Head{Src: six(0, 0), Dst: six(0, 0)}
	for i := range headBytes {
		for bit := range 8 {
			b := []byte(header(h, 0))
			b[i] ^= 1 << bit
			got, _, e := ipsix.Get(string(b))
			if want := verdict(string(b)); want != api.OK {
				isRefused(t, string(b), want)
			} else if e != api.OK || got == h || header(got, 0) != string(b) {
				t.Errorf("Get(%x) = %+v, %d", b, got, e)
			}
		}
	}
}

// P6.2: Get returns what Put was called with, whatever follows, and Put of this
// the bytes that were read.
func TestRoundTrip(t *testing.T) {
	drawn := source(1)
	for range 3000 {
		h, payload := drawn.head(), drawn.bytes(drawn.number(100))
		isPut(t, h, payload, document(h, payload))
		s, _ := ipsix.Put(h, payload)
		isRead(t, s, h, payload)
		isRead(t, s+drawn.bytes(1+drawn.number(100)), h, payload)
		isRead(t, s+s, h, payload)
	}
}

// P6.1, P6.2: of drawn and of changed bytes, Get returns the first error, or
// what makes Put return the bytes up to the end of the payload.
func TestAnyBytes(t *testing.T) {
	drawn := source(2)
	counts := map[api.Errno]int{}
	for range 60000 {
		s := anyBytes(&drawn)
		want := verdict(s)
		counts[want]++
		if want != api.OK {
			isRefused(t, s, want)
			continue
		}
		h, payload, e := ipsix.Get(s)
		back, f := ipsix.Put(h, payload)
		if e != api.OK || f != api.OK || back != s[:headBytes+announced(s)] {
			t.Errorf("Put of Get(%x) = %x, %d, %d", s, back, e, f)
		}
	}
	for _, e := range []api.Errno{api.OK, api.ErrShort, api.ErrForm} {
		if counts[e] < 1000 {
			t.Errorf("only %d rows end with %d", counts[e], e)
		}
	}
}

// anyBytes draws bytes that look like a header, more or less.
func anyBytes(drawn *source) string {
	s := drawn.bytes(drawn.number(90))
	if drawn.number(4) == 0 {
		return s
	}
	b := []byte(document(drawn.head(), drawn.bytes(drawn.number(20))) + s)
	for range drawn.number(3) {
		b[drawn.number(8)] = byte(drawn.number(256))
	}
	if drawn.number(3) > 0 {
		return string(b)
	}
	return string(b[:drawn.number(len(b)+1)])
}
