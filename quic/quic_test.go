package quic_test

import (
	"encoding/binary"
	"fmt"
	"math"
	"strings"
	"testing"

	"cloakroom/api"
	"cloakroom/quic"
)

const (
	wide  = 8  // bytes of the connection ID of a short header
	maxID = 20 // bytes of a connection ID of a long header
	max32 = math.MaxUint32
)

// source draws numbers that depend on nothing but its seed.
type source uint64

func (s *source) number(n int) int {
	*s = *s*6364136223846793005 + 1442695040888963407
	return int(uint64(*s>>33) % uint64(n))
}

func (s *source) bytes(n int) string {
	b := make([]byte, n)
	for i := range b {
		b[i] = byte(s.number(256))
	}
	return string(b)
}

// head draws a valid header.
func (s *source) head() quic.Head {
	h := quic.Head{Bits: s.number(64), Rest: s.bytes(s.number(40))}
	if s.number(2) == 0 {
		h.DCID = s.bytes(wide)
		return h
	}
	h.Long = true
	h.Version = uint32(s.number(1<<16))<<16 | uint32(s.number(1<<16))
	h.DCID, h.SCID = s.bytes(s.number(maxID+1)), s.bytes(s.number(maxID+1))
	return h
}

// document returns the bytes of a valid header, as the chapter describes them.
func document(h quic.Head) string {
	if !h.Long {
		return string([]byte{byte(64 + h.Bits)}) + h.DCID + h.Rest
	}
	b := binary.BigEndian.AppendUint32([]byte{byte(128 + 64 + h.Bits)}, h.Version)
	b = append(append(b, byte(len(h.DCID))), h.DCID...)
	b = append(append(b, byte(len(h.SCID))), h.SCID...)
	return string(b) + h.Rest
}

// verdict returns the first error that the chapter names for s.
func verdict(s string) api.Errno {
	switch {
	case s == "":
		return api.ErrShort
	case s[0]/64%2 == 0:
		return api.ErrForm
	case s[0] < 128:
		if len(s) < 1+wide {
			return api.ErrShort
		}
		return api.OK
	}
	at := 5
	for range 2 {
		if len(s) <= at {
			return api.ErrShort
		}
		if s[at] > maxID {
			return api.ErrForm
		}
		at += 1 + int(s[at])
	}
	if len(s) < at {
		return api.ErrShort
	}
	return api.OK
}

// isPut reports that Put does not return these bytes.
func isPut(t *testing.T, h quic.Head, want string) {
	t.Helper()
	if got, e := quic.Put(h); got != want || e != api.OK {
		t.Errorf("Put(%s) = %d bytes %.60x, %d, want %d bytes %.60x", text(h), len(got), got, e, len(want), want)
	}
}

// isUnfit reports that Put does not return ErrArg and nothing else.
func isUnfit(t *testing.T, h quic.Head) {
	t.Helper()
	if got, e := quic.Put(h); got != "" || e != api.ErrArg {
		t.Errorf("Put(%s) = %d bytes, %d, want %d", text(h), len(got), e, api.ErrArg)
	}
}

// isRead reports that Get does not return this header.
func isRead(t *testing.T, s string, want quic.Head) {
	t.Helper()
	if got, e := quic.Get(s); got != want || e != api.OK {
		t.Errorf("Get(%.60x) = %s, %d, want %s", s, text(got), e, text(want))
	}
}

// isRefused reports that Get, and With a right or a wrong connection ID, do not
// return this error and nothing else.
func isRefused(t *testing.T, s string, want api.Errno) {
	t.Helper()
	if got, e := quic.Get(s); got != (quic.Head{}) || e != want {
		t.Errorf("Get of %d bytes %.60x = %s, %d, want %d", len(s), s, text(got), e, want)
	}
	for _, cid := range []string{"12345678", "", "1234567", "123456789"} {
		isNotReplaced(t, s, cid, want)
	}
}

// isWith reports that With does not return these bytes.
func isWith(t *testing.T, s, cid, want string) {
	t.Helper()
	if got, e := quic.With(s, cid); got != want || e != api.OK {
		t.Errorf("With(%.60x, %x) = %d bytes %.60x, %d, want %d bytes %.60x", s, cid, len(got), got, e, len(want), want)
	}
}

// isNotReplaced reports that With does not return this error and nothing else.
func isNotReplaced(t *testing.T, s, cid string, want api.Errno) {
	t.Helper()
	if got, e := quic.With(s, cid); got != "" || e != want {
		t.Errorf("With(%d bytes %.60x, %d bytes) = %d bytes %.60x, %d, want %d", len(s), s, len(cid), len(got), got, e, want)
	}
}

// text returns a header for a report, with the beginnings of long fields.
func text(h quic.Head) string {
	return fmt.Sprintf("{%v %d %#x, %d bytes %.40q, %d bytes %.40q, %d bytes %.40q}",
		h.Long, h.Bits, h.Version, len(h.DCID), h.DCID, len(h.SCID), h.SCID, len(h.Rest), h.Rest)
}

// short and long are ordinary headers.
func short() quic.Head { return quic.Head{Bits: 5, DCID: "abcdefgh", Rest: "rest"} }
func long() quic.Head {
	return quic.Head{Long: true, Bits: 5, Version: 0x01020304, DCID: "dst", SCID: "source", Rest: "rest"}
}

// changed returns a header with a change.
func changed(h quic.Head, change func(h *quic.Head)) quic.Head {
	change(&h)
	return h
}

// heads are valid headers at the edges of their fields.
func heads() []quic.Head {
	var all []quic.Head
	for bits := range 64 {
		for _, h := range []quic.Head{short(), long()} {
			all = append(all, changed(h, func(h *quic.Head) { h.Bits = bits }))
		}
	}
	for _, id := range []string{"\x00\x00\x00\x00\x00\x00\x00\x00", "\xff\xff\xff\xff\xff\xff\xff\xff", "\x15\x14@\xc0\x00\xff\x00a"} {
		all = append(all, changed(short(), func(h *quic.Head) { h.DCID = id }))
	}
	for _, n := range []uint32{0, 1, 255, 256, 65535, 65536, 1<<24 - 1, 1 << 24, 1<<31 - 1, 1 << 31, max32 - 1, max32} {
		all = append(all, changed(long(), func(h *quic.Head) { h.Version = n }))
	}
	for n := range maxID + 1 {
		for m := range maxID + 1 {
			all = append(all, changed(long(), func(h *quic.Head) {
				h.DCID, h.SCID = strings.Repeat("\x15", n), strings.Repeat("\xff", m)
			}))
		}
	}
	for _, rest := range []string{"", "\x00", "\xff", "@abcdefgh", strings.Repeat("x", 1200), strings.Repeat("y", 9000), strings.Repeat("z", 1<<17)} {
		for _, h := range []quic.Head{short(), long()} {
			all = append(all, changed(h, func(h *quic.Head) { h.Rest = rest }))
		}
	}
	return all
}

// P9.1: the example of the chapter, and headers whose bytes are written out.
func TestKnownBytes(t *testing.T) {
	rows := []struct {
		h     quic.Head
		bytes string
	}{
		{quic.Head{DCID: "abcdefgh"}, "@abcdefgh"},
		{quic.Head{Bits: 63, DCID: "12345678", Rest: "9"}, "\x7f123456789"},
		{quic.Head{Bits: 1, DCID: "\x00\x00\x00\x00\x00\x00\x00\x00"}, "A\x00\x00\x00\x00\x00\x00\x00\x00"},
		{quic.Head{Long: true}, "\xc0\x00\x00\x00\x00\x00\x00"},
		{
			quic.Head{Long: true, Bits: 63, Version: max32, DCID: "d", SCID: "sc", Rest: "rest"},
			"\xff\xff\xff\xff\xff\x01d\x02screst",
		},
		{
			quic.Head{Long: true, Bits: 3, Version: 0x01020304, DCID: "0123456789abcdefghij", SCID: "ABCDEFGHIJKLMNOPQRST"},
			"\xc3\x01\x02\x03\x04\x140123456789abcdefghij\x14ABCDEFGHIJKLMNOPQRST",
		},
		{quic.Head{Long: true, Version: 1, DCID: "abcdefgh", Rest: "\x00"}, "\xc0\x00\x00\x00\x01\x08abcdefgh\x00\x00"},
		{quic.Head{Long: true, Version: 1, SCID: "abcdefgh", Rest: "\x00"}, "\xc0\x00\x00\x00\x01\x00\x08abcdefgh\x00"},
	}
	for _, r := range rows {
		isPut(t, r.h, r.bytes)
		isRead(t, r.bytes, r.h)
	}
	if quic.Wide != wide {
		t.Errorf("Wide = %d", quic.Wide)
	}
}

// P9.1: each field at its edges.
func TestPut(t *testing.T) {
	for _, h := range heads() {
		isPut(t, h, document(h))
		isRead(t, document(h), h)
	}
}

// P9.1: Bits out of range are ErrArg.
func TestPutBits(t *testing.T) {
	for _, n := range []int{math.MinInt, math.MinInt + 1, -1 << 32, -256, -255, -192, -128, -64, -63, -2, -1, 64, 65, 127, 128, 192, 255, 256, 257, 1 << 16, 1 << 32, 1<<32 + 1, 1 << 62, math.MaxInt} {
		for _, h := range []quic.Head{short(), long()} {
			isUnfit(t, changed(h, func(h *quic.Head) { h.Bits = n }))
		}
	}
}

// P9.1: a connection ID of a long header has at most 20 bytes.
func TestPutLong(t *testing.T) {
	for _, n := range []int{maxID + 1, maxID + 2, 40, 63, 64, 255, 256, 257, 256 + maxID, 512, 65536, 65536 + 1} {
		id := strings.Repeat("x", n)
		for _, other := range []string{"", "a", "abcdefgh", strings.Repeat("y", maxID)} {
			isUnfit(t, changed(long(), func(h *quic.Head) { h.DCID, h.SCID = id, other }))
			isUnfit(t, changed(long(), func(h *quic.Head) { h.DCID, h.SCID = other, id }))
		}
		isUnfit(t, changed(long(), func(h *quic.Head) { h.DCID, h.SCID = id, id }))
	}
}

// P9.1: the connection ID of a short header has eight bytes, and there is
// neither another one nor a version.
func TestPutShort(t *testing.T) {
	for n := range 300 {
		if n != wide {
			isUnfit(t, changed(short(), func(h *quic.Head) { h.DCID = strings.Repeat("x", n) }))
		}
	}
	for _, id := range []string{"\x00", "a", "abcdefgh", strings.Repeat("x", maxID), strings.Repeat("x", maxID+1), strings.Repeat("x", 256)} {
		isUnfit(t, changed(short(), func(h *quic.Head) { h.SCID = id }))
		isUnfit(t, changed(short(), func(h *quic.Head) { h.DCID, h.SCID = "", id }))
	}
	for _, n := range []uint32{1, 2, 255, 256, 1 << 16, 1 << 24, 1 << 31, max32} {
		isUnfit(t, changed(short(), func(h *quic.Head) { h.Version = n }))
	}
	isUnfit(t, quic.Head{})
	isUnfit(t, quic.Head{Rest: "abcdefgh"})
	isUnfit(t, changed(long(), func(h *quic.Head) { h.Long = false }))
}

// P9.1: each first byte: its two upper bits are the kind, the others are Bits.
func TestGetFirstByte(t *testing.T) {
	isRefused(t, "", api.ErrShort)
	for first := range 256 {
		b := string([]byte{byte(first)})
		asShort, asLong := b+"abcdefghrest", b+"\x01\x02\x03\x04\x03dst\x06sourcerest"
		switch {
		case first/64%2 == 0:
			isRefused(t, b, api.ErrForm)
			isRefused(t, asShort, api.ErrForm)
			isRefused(t, asLong, api.ErrForm)
		case first < 128:
			isRefused(t, b, api.ErrShort)
			isRead(t, asShort, changed(short(), func(h *quic.Head) { h.Bits = first % 64 }))
		default:
			isRefused(t, b, api.ErrShort)
			isRead(t, asLong, changed(long(), func(h *quic.Head) { h.Bits = first % 64 }))
		}
	}
}

// P9.1: a header that ends early is short, wherever it ends.
func TestGetCut(t *testing.T) {
	for _, h := range heads() {
		h.Rest = ""
		s := document(h)
		for n := range len(s) {
			isRefused(t, s[:n], api.ErrShort)
		}
		isRead(t, s, h)
	}
}

// P9.1: each length of both connection IDs, before more and fewer bytes than it
// says.
func TestGetLength(t *testing.T) {
	rest := strings.Repeat("0123456789", 30)
	for n := range 256 {
		length := string([]byte{byte(n)})
		before := "\xc5\x01\x02\x03\x04"
		for _, s := range []string{before + length, before + "\x03dst" + length} {
			switch {
			case n > maxID:
				isRefused(t, s, api.ErrForm)
				isRefused(t, s+rest, api.ErrForm)
				isRefused(t, s+"\x00"+rest, api.ErrForm)
				continue
			case n > 0:
				isRefused(t, s, api.ErrShort)
				isRefused(t, s+rest[:n-1], api.ErrShort)
			}
		}
		if n > maxID {
			continue
		}
		isRead(t, before+length+rest[:n]+"\x06sourcerest", changed(long(), func(h *quic.Head) { h.DCID = rest[:n] }))
		isRead(t, before+"\x03dst"+length+rest[:n]+"rest", changed(long(), func(h *quic.Head) { h.SCID = rest[:n] }))
	}
}

// P9.1: the errors are found from left to right: what is missing before a wrong
// length is short, what is missing behind it is not.
func TestGetOrder(t *testing.T) {
	rows := []struct {
		s    string
		want api.Errno
	}{
		{"", api.ErrShort},
		{"\x00", api.ErrForm},
		{"\x80", api.ErrForm},
		{"\x80\x00\x00\x00\x00\x15", api.ErrForm},
		{"@", api.ErrShort},
		{"@\x15\x15\x15\x15\x15\x15\x15", api.ErrShort},
		{"\xc0\x15\x15\x15\x15", api.ErrShort},
		{"\xc0\x15\x15\x15\x15\x15", api.ErrForm},
		{"\xc0\x00\x00\x00\x01\xff", api.ErrForm},
		{"\xc0\x00\x00\x00\x01\x15" + strings.Repeat("\x15", 21), api.ErrForm},
		{"\xc0\x00\x00\x00\x01\x15" + strings.Repeat("\x00", 30), api.ErrForm},
		{"\xc0\x00\x00\x00\x01\x14" + strings.Repeat("\x15", 19), api.ErrShort},
		{"\xc0\x00\x00\x00\x01\x14" + strings.Repeat("\x15", 20), api.ErrShort},
		{"\xc0\x00\x00\x00\x01\x14" + strings.Repeat("\x15", 21), api.ErrForm},
		{"\xc0\x00\x00\x00\x01\x00", api.ErrShort},
		{"\xc0\x00\x00\x00\x01\x00\x15", api.ErrForm},
		{"\xc0\x00\x00\x00\x01\x00\x14", api.ErrShort},
		{"\xc0\x00\x00\x00\x01\x00\x14" + strings.Repeat("\x15", 19), api.ErrShort},
		{"\xc0\x00\x00\x00\x01\x02\x15", api.ErrShort},
		{"\xc0\x00\x00\x00\x01\x02\x15\x15", api.ErrShort},
		{"\xc0\x00\x00\x00\x01\x02\x15\x15\x15", api.ErrForm},
		{"\xc0\x00\x00\x00\x01\x15\x15", api.ErrForm},
		{"\xc0\x00\x00\x00\x01\x15\x01", api.ErrForm},
	}
	for _, r := range rows {
		isRefused(t, r.s, r.want)
		if got := verdict(r.s); got != r.want {
			t.Errorf("the verdict on %x is %d, want %d", r.s, got, r.want)
		}
	}
}

// P9.2: the connection ID of a short header, and the SCID of a long one, is
// replaced, whatever stands there.
func TestWith(t *testing.T) {
	isWith(t, "@abcdefgh", "12345678", "@12345678")
	isWith(t, "\x7fabcdefghi", "\x00\x00\x00\x00\x00\x00\x00\x00", "\x7f\x00\x00\x00\x00\x00\x00\x00\x00i")
	isWith(t, "\xc5\x01\x02\x03\x04\x03dst\x06sourcerest", "12345678", "\xc5\x01\x02\x03\x04\x03dst\x0812345678rest")
	isWith(t, "\xc0\x00\x00\x00\x00\x00\x00", "12345678", "\xc0\x00\x00\x00\x00\x00\x0812345678")
	isWith(t, "\xff\x00\x00\x00\x01\x00\x14ABCDEFGHIJKLMNOPQRSTrest", "12345678", "\xff\x00\x00\x00\x01\x00\x0812345678rest")
	isWith(t, "\xc0\x00\x00\x00\x01\x08abcdefgh\x08ABCDEFGH", "12345678", "\xc0\x00\x00\x00\x01\x08abcdefgh\x0812345678")
	for _, h := range heads() {
		for _, cid := range []string{"12345678", "\x00\x00\x00\x00\x00\x00\x00\x00", "\xff\xff\xff\xff\xff\xff\xff\xff", h.DCID} {
			if len(cid) != wide {
				continue
			}
			want := h
			if h.Long {
				want.SCID = cid
			} else {
				want.DCID = cid
			}
			isWith(t, document(h), cid, document(want))
		}
	}
}

// P9.2: a connection ID that does not have eight bytes is ErrArg, even if it is
// the one that stands there; but the error of Get comes first (isRefused).
func TestWithWrong(t *testing.T) {
	for _, h := range []quic.Head{short(), long(), {DCID: "abcdefgh"}, {Long: true}} {
		for n := range 300 {
			if n != wide {
				isNotReplaced(t, document(h), strings.Repeat("x", n), api.ErrArg)
			}
		}
		if h.Long {
			isNotReplaced(t, document(h), h.SCID, api.ErrArg)
		}
	}
}

// P9.3: Get returns what Put was called with, and Put of this the same bytes.
func TestRoundTrip(t *testing.T) {
	drawn := source(1)
	for range 20000 {
		h := drawn.head()
		isPut(t, h, document(h))
		s, _ := quic.Put(h)
		isRead(t, s, h)
	}
}

// P9.1, P9.3: of drawn and of changed bytes, Get returns the first error, or
// what makes Put return them.
func TestAnyBytes(t *testing.T) {
	drawn := source(2)
	counts := map[api.Errno]int{}
	for range 60000 {
		s := anyBytes(&drawn)
		want := verdict(s)
		counts[want]++
		if want != api.OK {
			isRefused(t, s, want)
			continue
		}
		h, e := quic.Get(s)
		back, f := quic.Put(h)
		if e != api.OK || f != api.OK || back != s {
			t.Errorf("Put of Get(%x) = %x, %d, %d", s, back, e, f)
		}
		isRead(t, document(h), h)
	}
	for _, e := range []api.Errno{api.OK, api.ErrShort, api.ErrForm} {
		if counts[e] < 1000 {
			t.Errorf("only %d rows end with %d", counts[e], e)
		}
	}
}

// anyBytes draws bytes that look like a header, more or less.
func anyBytes(drawn *source) string {
	s := drawn.bytes(drawn.number(40))
	if drawn.number(4) == 0 {
		return s
	}
	b := []byte(document(drawn.head()) + s)
	for range drawn.number(3) {
		b[drawn.number(min(len(b), 12))] = byte(drawn.number(256))
	}
	if drawn.number(2) > 0 {
		return string(b)
	}
	return string(b[:drawn.number(len(b)+1)])
}

// P9.3: With changes the connection ID and nothing else; a second one takes the
// place of the first, and the one that stood there, if it had eight bytes, makes
// the bytes what they were.
func TestWithChangesNothingElse(t *testing.T) {
	drawn := source(3)
	for range 20000 {
		s, cid, other := document(drawn.head()), drawn.bytes(wide), drawn.bytes(wide)
		was, _ := quic.Get(s)
		stamped, e := quic.With(s, cid)
		now, f := quic.Get(stamped)
		want := was
		place := &was.DCID
		if was.Long {
			place = &was.SCID
			want.SCID = cid
		} else {
			want.DCID = cid
		}
		if e != api.OK || f != api.OK || now != want {
			t.Fatalf("With(%x, %x) = %x, %d", s, cid, stamped, e)
		}
		again, _ := quic.With(s, other)
		isWith(t, stamped, other, again)
		isWith(t, stamped, cid, stamped)
		if len(*place) == wide {
			isWith(t, stamped, *place, s)
		}
	}
}
