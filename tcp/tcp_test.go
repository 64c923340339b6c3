package tcp_test

import (
	"encoding/binary"
	"math"
	"slices"
	"strings"
	"testing"

	"cloakroom/api"
	"cloakroom/tcp"
)

const (
	maxTotal = 65535
	max32    = math.MaxUint32
	max64    = math.MaxUint64
)

// four and six make addresses, valid ones and others.
func four(hi, lo uint64) api.Addr { return api.Addr{Hi: hi, Lo: lo} }
func six(hi, lo uint64) api.Addr  { return api.Addr{V6: true, Hi: hi, Lo: lo} }

// pair is the addresses of a packet.
type pair struct{ src, dst api.Addr }

// pairs are valid addresses of both versions.
func pairs() []pair {
	return []pair{
		{four(0, 0xc0a80001), four(0, 0xc0a800c7)},
		{six(0x20010db800000001, 2), six(0xfe80000000000000, max64)},
		{four(0, 0), four(0, 0)},
		{four(0, max32), four(0, max32)},
		{six(0, 0), six(0, 0)},
		{six(max64, max64), six(0, max32+1)},
	}
}

// strangers are addresses that have no pseudo header.
func strangers() []pair {
	a, b := four(0, 1), six(0, 1)
	all := []pair{{a, b}, {b, a}}
	for _, c := range []api.Addr{four(0, max32+1), four(0, 1<<63), four(1, 0), four(1, 1), four(max64, max64)} {
		all = append(all, pair{a, c}, pair{c, a}, pair{b, c}, pair{c, b}, pair{c, c})
	}
	return all
}

// source draws numbers that depend on nothing but its seed.
type source uint64

func (s *source) number(n int) int {
	*s = *s*6364136223846793005 + 1442695040888963407
	return int(uint64(*s>>33) % uint64(n))
}

func (s *source) bytes(n int) string {
	b := make([]byte, n)
	for i := range b {
		b[i] = byte(s.number(256))
	}
	return string(b)
}

func (s *source) wide() uint32 { return uint32(s.number(1<<16))<<16 | uint32(s.number(1<<16)) }

// pair draws valid addresses.
func (s *source) pair() pair {
	if s.number(2) == 0 {
		return pair{four(0, uint64(s.wide())), four(0, uint64(s.wide()))}
	}
	word := func() uint64 { return uint64(s.wide())<<32 | uint64(s.wide()) }
	return pair{six(word(), word()), six(word(), word())}
}

// options draws a list of options of 0, 4, 8, ... or 40 bytes.
func (s *source) options() string {
	size := 4 * s.number(11)
	var b strings.Builder
	for room := size; room > 0; room = size - b.Len() {
		switch n := 2 + s.number(9); {
		case n <= room && s.number(4) > 0:
			kind := 2 + s.number(254)
			if s.number(3) == 0 {
				kind = 8
			}
			b.Write([]byte{byte(kind), byte(n)})
			b.WriteString(s.bytes(n - 2))
		case s.number(10) == 0:
			b.WriteString("\x00" + s.bytes(room-1))
		default:
			b.WriteByte(1)
		}
	}
	return b.String()
}

// head draws a valid header whose options are a list.
func (s *source) head() tcp.Head {
	return tcp.Head{
		SPort: s.number(65536), DPort: s.number(65536),
		Seq: s.wide(), Ack: s.wide(),
		Flags: s.number(256), Window: s.number(65536), Urgent: s.number(65536),
		Options: s.options(),
	}
}

// pseudo returns the bytes that precede n bytes in their checksum.
func (p pair) pseudo(n int) []byte {
	var b []byte
	if p.src.V6 {
		for _, word := range []uint64{p.src.Hi, p.src.Lo, p.dst.Hi, p.dst.Lo} {
			b = binary.BigEndian.AppendUint64(b, word)
		}
		return append(binary.BigEndian.AppendUint32(b, uint32(n)), 0, 0, 0, 6)
	}
	b = binary.BigEndian.AppendUint32(b, uint32(p.src.Lo))
	b = binary.BigEndian.AppendUint32(b, uint32(p.dst.Lo))
	return binary.BigEndian.AppendUint16(append(b, 0, 6), uint16(n))
}

// valid tells whether there is a pseudo header.
func (p pair) valid() bool {
	right := func(a api.Addr) bool { return a.V6 || a.Hi == 0 && a.Lo <= max32 }
	return p.src.V6 == p.dst.V6 && right(p.src) && right(p.dst)
}

// sum returns the sum of the words of the pseudo header and s.
func (p pair) sum(s string) int {
	total := 0
	for i, b := range append(p.pseudo(len(s)), s...) {
		total += int(b) << (8 - i%2*8)
	}
	for total > 65535 {
		total = total/65536 + total%65536
	}
	return total
}

// summed returns s with its checksum.
func (p pair) summed(s string) string {
	b := []byte(s)
	b[16], b[17] = 0, 0
	binary.BigEndian.PutUint16(b[16:], uint16(65535-p.sum(string(b))))
	return string(b)
}

// document returns the bytes of a valid header and its payload, as the chapter
// describes them.
func document(h tcp.Head, p pair, payload string) string {
	b := make([]byte, 20, 60)
	binary.BigEndian.PutUint16(b[0:], uint16(h.SPort))
	binary.BigEndian.PutUint16(b[2:], uint16(h.DPort))
	binary.BigEndian.PutUint32(b[4:], h.Seq)
	binary.BigEndian.PutUint32(b[8:], h.Ack)
	b[12] = byte((20 + len(h.Options)) / 4 * 16)
	b[13] = byte(h.Flags)
	binary.BigEndian.PutUint16(b[14:], uint16(h.Window))
	binary.BigEndian.PutUint16(b[18:], uint16(h.Urgent))
	return p.summed(string(append(b, h.Options...)) + payload)
}

// listed returns the options with the offsets of their data, and whether they
// are a list.
func listed(options string) ([]tcp.Opt, []int, bool) {
	var list []tcp.Opt
	var ats []int
	for rest := options; rest != ""; {
		switch {
		case rest[0] == 0:
			return list, ats, true
		case rest[0] == 1:
			rest = rest[1:]
		case len(rest) < 2 || rest[1] < 2 || int(rest[1]) > len(rest):
			return nil, nil, false
		default:
			list = append(list, tcp.Opt{Kind: int(rest[0]), Data: rest[2:rest[1]]})
			ats = append(ats, len(options)-len(rest)+2)
			rest = rest[rest[1]:]
		}
	}
	return list, ats, true
}

// verdict returns the first error that the chapter names for s.
func verdict(s string, p pair) api.Errno {
	if len(s) < 20 {
		return api.ErrShort
	}
	size := int(s[12]/16) * 4
	if size < 20 || s[12]%16 != 0 {
		return api.ErrForm
	}
	if len(s) < size {
		return api.ErrShort
	}
	if !p.valid() {
		return api.ErrArg
	}
	if p.sum(s) != 65535 {
		return api.ErrSum
	}
	if _, _, ok := listed(s[20:size]); !ok {
		return api.ErrForm
	}
	return api.OK
}

// isPut reports that Put does not return these bytes.
func isPut(t *testing.T, h tcp.Head, p pair, payload, want string) {
	t.Helper()
	if got, e := tcp.Put(h, p.src, p.dst, payload); got != want || e != api.OK {
		t.Errorf("Put(%+v, %+v, %d bytes) = %d bytes %.60x, %d, want %d bytes %.60x", h, p, len(payload), len(got), got, e, len(want), want)
	}
}

// isUnfit reports that Put does not return this error and nothing else.
func isUnfit(t *testing.T, h tcp.Head, p pair, payload string, want api.Errno) {
	t.Helper()
	if got, e := tcp.Put(h, p.src, p.dst, payload); got != "" || e != want {
		t.Errorf("Put(%+v, %+v, %d bytes) = %d bytes, %d, want %d", h, p, len(payload), len(got), e, want)
	}
}

// isRead reports that Get does not return what it should.
func isRead(t *testing.T, s string, p pair, h tcp.Head, payload string) {
	t.Helper()
	got, rest, e := tcp.Get(s, p.src, p.dst)
	if got != h || rest != payload || e != api.OK {
		t.Errorf("Get(%.60x, %+v) = %+v, %d bytes %.20x, %d, want %+v, %d bytes %.20x", s, p, got, len(rest), rest, e, h, len(payload), payload)
	}
}

// isRefused reports that Get does not return this error and nothing else.
func isRefused(t *testing.T, s string, p pair, want api.Errno) {
	t.Helper()
	got, rest, e := tcp.Get(s, p.src, p.dst)
	if got != (tcp.Head{}) || rest != "" || e != want {
		t.Errorf("Get of %d bytes %.60x, %+v = %+v, %d bytes, %d, want %d", len(s), s, p, got, len(rest), e, want)
	}
}

// isListed reports that List does not return what it should.
func isListed(t *testing.T, options string) {
	t.Helper()
	want, _, ok := listed(options)
	got, e := tcp.List(options)
	if ok != (e == api.OK) || !ok && (e != api.ErrForm || len(got) > 0) || !slices.Equal(got, want) {
		t.Errorf("List(%.60x) = %+v, %d, want %+v, %t", options, got, e, want, ok)
	}
}

// isStamp reports that Stamp does not return what it should.
func isStamp(t *testing.T, options string) {
	t.Helper()
	wantVal, wantEcho, wantAt := uint32(0), uint32(0), -1
	list, ats, _ := listed(options)
	i := slices.IndexFunc(list, func(o tcp.Opt) bool { return o.Kind == 8 })
	if i >= 0 && len(list[i].Data) == 8 {
		wantVal = binary.BigEndian.Uint32([]byte(list[i].Data))
		wantEcho = binary.BigEndian.Uint32([]byte(list[i].Data[4:]))
		wantAt = ats[i]
	}
	val, echo, at := tcp.Stamp(options)
	if val != wantVal || echo != wantEcho || at != wantAt {
		t.Errorf("Stamp(%.60x) = %d, %d, %d, want %d, %d, %d", options, val, echo, at, wantVal, wantEcho, wantAt)
	}
}

// plain is an ordinary header.
func plain() tcp.Head {
	return tcp.Head{
		SPort: 0xc350, DPort: 443, Seq: 0x01020304, Ack: 0x05060708,
		Flags: api.Psh | api.Ack, Window: 0x2030, Urgent: 0x0405,
		Options: "\x01\x01\x08\x0aabcdefgh",
	}
}

// heads are headers each of which is at an edge of one of the fields.
func heads() []tcp.Head {
	var all []tcp.Head
	add := func(change func(h *tcp.Head)) {
		h := plain()
		change(&h)
		all = append(all, h)
	}
	for _, n := range []int{0, 1, 255, 256, 32767, 32768, 65534, 65535} {
		add(func(h *tcp.Head) { h.SPort = n })
		add(func(h *tcp.Head) { h.DPort = n })
		add(func(h *tcp.Head) { h.Window = n })
		add(func(h *tcp.Head) { h.Urgent = n })
	}
	for n := range 8 {
		add(func(h *tcp.Head) { h.Flags = 1 << n })
		add(func(h *tcp.Head) { h.Flags = 255 - 1<<n })
	}
	add(func(h *tcp.Head) { h.Flags = 0 })
	add(func(h *tcp.Head) { h.Flags = 255 })
	for _, n := range []uint32{0, 1, 255, 256, 65535, 65536, 1<<31 - 1, 1 << 31, max32 - 1, max32} {
		add(func(h *tcp.Head) { h.Seq = n })
		add(func(h *tcp.Head) { h.Ack = n })
	}
	for n := 0; n <= 40; n += 4 {
		add(func(h *tcp.Head) { h.Options = strings.Repeat("\x01", n) })
		add(func(h *tcp.Head) { h.Options = strings.Repeat("\x00", n) })
		add(func(h *tcp.Head) { h.Options = strings.Repeat("\xfe\x04\x00\xff", n/4) })
	}
	add(func(h *tcp.Head) { *h = tcp.Head{} })
	return all
}

// P7.1: the bytes of segments that another program has computed.
func TestKnownBytes(t *testing.T) {
	p, q, zero := pairs()[0], pairs()[1], pairs()[2]
	rows := []struct {
		h              tcp.Head
		p              pair
		payload, bytes string
	}{
		{
			tcp.Head{SPort: 0x1234, DPort: 0x50, Seq: 0x01020304, Ack: 0x05060708, Flags: 2, Window: 0x9abc, Urgent: 0xdef0}, p, "",
			"\x12\x34\x00\x50\x01\x02\x03\x04\x05\x06\x07\x08\x50\x02\x9a\xbc\x91\x84\xde\xf0",
		},
		{
			tcp.Head{SPort: 65535, Seq: max32, Flags: 0x18, Options: "\x01\x01\x08\x0a\x00\x00\x00\x05\x00\x00\x00\x06"}, p, "abc",
			"\xff\xff\x00\x00\xff\xff\xff\xff\x00\x00\x00\x00\x80\x18\x00\x00\x30\x2c\x00\x00\x01\x01\x08\x0a\x00\x00\x00\x05\x00\x00\x00\x06abc",
		},
		{
			tcp.Head{SPort: 443, DPort: 50000, Ack: max32 - 1, Flags: 255, Window: 65535, Urgent: 1, Options: "\x02\x04\x05\xb4\x01\x03\x03\x07"}, q, "",
			"\x01\xbb\xc3\x50\x00\x00\x00\x00\xff\xff\xff\xfe\x70\xff\xff\xff\x91\xd3\x00\x01\x02\x04\x05\xb4\x01\x03\x03\x07",
		},
		{
			tcp.Head{}, zero, "",
			"\x00\x00\x00\x00\x00\x00\x00\x00\x00\x00\x00\x00\x50\x00\x00\x00\xaf\xe5\x00\x00",
		},
		{
			tcp.Head{SPort: 1, DPort: 2, Seq: 3, Ack: 4, Flags: 16, Window: 5, Urgent: 6}, q, "\xff",
			"\x00\x01\x00\x02\x00\x00\x00\x03\x00\x00\x00\x04\x50\x10\x00\x05\x84\x81\x00\x06\xff",
		},
	}
	for _, r := range rows {
		isPut(t, r.h, r.p, r.payload, r.bytes)
		isRead(t, r.bytes, r.p, r.h, r.payload)
	}
}

// P7.1: each field at its edges, with addresses of both versions and payloads
// of several lengths.
func TestPut(t *testing.T) {
	for _, h := range heads() {
		for _, p := range pairs() {
			for _, payload := range []string{"", "\x00", "\xff", "ab", "abc", strings.Repeat("x", 235), strings.Repeat("y", 1460)} {
				want := document(h, p, payload)
				isPut(t, h, p, payload, want)
				isRead(t, want, p, h, payload)
			}
		}
	}
}

// wrong are headers in each of which one condition does not hold.
func wrong() []tcp.Head {
	var all []tcp.Head
	add := func(change func(h *tcp.Head)) {
		h := plain()
		change(&h)
		all = append(all, h)
	}
	for _, n := range []int{-1, -2, -255, -256, -65536, math.MinInt, math.MinInt + 1, 65536, 65537, 1 << 17, 1 << 32, 1<<32 + 1, math.MaxInt} {
		add(func(h *tcp.Head) { h.SPort = n })
		add(func(h *tcp.Head) { h.DPort = n })
		add(func(h *tcp.Head) { h.Flags = n })
		add(func(h *tcp.Head) { h.Window = n })
		add(func(h *tcp.Head) { h.Urgent = n })
	}
	for _, n := range []int{256, 257, 511, 512, 65535} {
		add(func(h *tcp.Head) { h.Flags = n })
	}
	for n := range 300 {
		if n%4 != 0 || n > 40 {
			add(func(h *tcp.Head) { h.Options = strings.Repeat("\x01", n) })
		}
	}
	add(func(h *tcp.Head) { h.Options = strings.Repeat("\x01", 1<<16) })
	return all
}

// P7.1: a header that is not valid is ErrArg, also where ErrLong applies.
func TestPutWrong(t *testing.T) {
	for _, h := range wrong() {
		for _, p := range append(pairs()[:2], strangers()[0]) {
			for _, payload := range []string{"", "abc", strings.Repeat("x", maxTotal), strings.Repeat("x", maxTotal+1)} {
				isUnfit(t, h, p, payload, api.ErrArg)
			}
		}
	}
}

// P7.1: addresses without a pseudo header are ErrArg, also where ErrLong
// applies.
func TestPutStrangers(t *testing.T) {
	for _, p := range strangers() {
		for _, h := range []tcp.Head{plain(), {}} {
			for _, payload := range []string{"", "abc", strings.Repeat("x", maxTotal), strings.Repeat("x", maxTotal+1)} {
				isUnfit(t, h, p, payload, api.ErrArg)
			}
		}
	}
}

// P7.1: at most 65535 bytes of header and payload together, in both versions.
func TestPutLong(t *testing.T) {
	for _, p := range pairs() {
		for _, options := range []int{0, 4, 36, 40} {
			h := plain()
			h.Options = strings.Repeat("\x01", options)
			most := maxTotal - 20 - options
			for _, n := range []int{most - 1, most} {
				payload := strings.Repeat("\xa5", n)
				want := document(h, p, payload)
				isPut(t, h, p, payload, want)
				isRead(t, want, p, h, payload)
			}
			for _, n := range []int{most + 1, most + 2, maxTotal, maxTotal + 1, 2 * maxTotal, 1 << 20} {
				isUnfit(t, h, p, strings.Repeat("\xa5", n), api.ErrLong)
			}
		}
	}
}

// P7.1: Put takes Options that are no list; Get refuses them.
func TestUnlisted(t *testing.T) {
	for _, options := range []string{
		"\x01\x01\x01\x05", "\x02\x00\x00\x00", "\x02\x01\x00\x00", "\x02\x05\x00\x00", "\xff\xff\xff\xff",
		"\x01\x01\x08\x0aabcdefgh\x08\x01\x01\x01", strings.Repeat("\x01", 39) + "\x08",
	} {
		h := plain()
		h.Options = options
		for _, p := range pairs() {
			for _, payload := range []string{"", "payload"} {
				s := document(h, p, payload)
				isPut(t, h, p, payload, s)
				isRefused(t, s, p, api.ErrForm)
			}
		}
	}
}

// P7.1: fewer than 20 bytes are short, whatever they and the addresses are.
func TestGetShort(t *testing.T) {
	h := plain()
	h.Options = ""
	for _, p := range append(pairs(), strangers()...) {
		whole := document(h, p, "")
		for n := range 20 {
			for _, s := range []string{whole[:n], strings.Repeat("\x00", n), strings.Repeat("\xff", n), strings.Repeat("\x50", n)} {
				isRefused(t, s, p, api.ErrShort)
			}
		}
	}
	isRead(t, document(h, pairs()[0], ""), pairs()[0], h, "")
}

// P7.1: each value of the byte with the header's length, before many and few
// bytes, right and wrong ones.
func TestGetLength(t *testing.T) {
	p := pairs()[0]
	for length := range 256 {
		bare := strings.Repeat("\x00", 12) + string([]byte{byte(length)}) + strings.Repeat("\x00", 87)
		size := length / 16 * 4
		if size < 20 || length%16 != 0 {
			for _, q := range append(pairs(), strangers()...) {
				isRefused(t, q.summed(bare), q, api.ErrForm)
				isRefused(t, q.summed(bare[:20]), q, api.ErrForm)
				isRefused(t, bare, q, api.ErrForm)
			}
			continue
		}
		isRead(t, p.summed(bare), p, tcp.Head{Options: strings.Repeat("\x00", size-20)}, bare[size:])
		isRead(t, p.summed(bare[:size]), p, tcp.Head{Options: strings.Repeat("\x00", size-20)}, "")
		for n := 20; n < size; n++ {
			isRefused(t, p.summed(bare[:n]), p, api.ErrShort)
			isRefused(t, bare[:n], p, api.ErrShort)
			isRefused(t, p.summed(bare[:n]), strangers()[0], api.ErrShort)
		}
		isRefused(t, bare, p, api.ErrSum)
	}
}

// P7.1: bytes that end in the header are short; those that end in the payload
// have another checksum.
func TestGetCut(t *testing.T) {
	for _, p := range pairs() {
		s := document(plain(), p, "payload")
		for n := range len(s) {
			want := api.ErrSum
			if n < 32 {
				want = api.ErrShort
			}
			isRefused(t, s[:n], p, want)
		}
		isRefused(t, s+"\x00", p, api.ErrSum)
		isRead(t, s, p, plain(), "payload")
	}
}

// P7.1: addresses without a pseudo header are ErrArg; with others than those of
// Put, the checksum tells.
func TestGetAddresses(t *testing.T) {
	s := document(plain(), pairs()[0], "payload")
	for _, p := range strangers() {
		isRefused(t, s, p, api.ErrArg)
		isRefused(t, document(plain(), p, "payload"), p, api.ErrArg)
	}
	for _, p := range pairs()[1:] {
		isRefused(t, s, p, verdict(s, p))
	}
	for bit := range 32 {
		p := pairs()[0]
		p.src.Lo ^= 1 << bit
		isRefused(t, s, p, api.ErrSum)
		p = pairs()[0]
		p.dst.Lo ^= 1 << bit
		isRefused(t, s, p, api.ErrSum)
	}
}

// P7.1: a wrong length comes before missing bytes, these before addresses,
// addresses before the checksum, and this before options that are no list.
func TestGetOrder(t *testing.T) {
	p, strange := pairs()[0], strangers()[0]
	h := plain()
	h.Options = "\x02\x01\x00\x00"
	right := document(h, p, "payload")
	set := func(at int, b byte) string { return right[:at] + string([]byte{b}) + right[at+1:] }
	isRefused(t, right, p, api.ErrForm)
	isRefused(t, set(16, right[16]^1), p, api.ErrSum)
	isRefused(t, right, strange, api.ErrArg)
	isRefused(t, set(16, right[16]^1), strange, api.ErrArg)
	isRefused(t, set(12, 0x90), strange, api.ErrShort)
	isRefused(t, p.summed(set(12, 0x90)), p, api.ErrShort)
	isRefused(t, set(12, 0x91), strange, api.ErrForm)
	isRefused(t, p.summed(set(12, 0x98)), p, api.ErrForm)
	isRefused(t, p.summed(set(12, 0x40)), p, api.ErrForm)
	isRefused(t, set(12, 0x40)[:19], strange, api.ErrShort)
}

// P7.1: bytes with each other checksum are refused.
func TestGetSum(t *testing.T) {
	for _, p := range pairs() {
		for _, payload := range []string{"", "\x01", "payload!"} {
			s := document(plain(), p, payload)
			for n := range 1 << 16 {
				if n%61 != 0 {
					continue
				}
				b := []byte(s)
				binary.BigEndian.PutUint16(b[16:], uint16(n))
				if p.sum(string(b)) != 65535 {
					isRefused(t, string(b), p, api.ErrSum)
				}
			}
		}
	}
}

// P7.1: Get names no greatest length: the pseudo header has the lowest bytes of
// a greater one.
func TestGetLong(t *testing.T) {
	for _, p := range pairs() {
		for _, n := range []int{65536 - 32, 65537 - 32, 100000, 140001} {
			payload := strings.Repeat("\x12\x34\x56", n/3+1)[:n]
			s := document(plain(), p, payload)
			isRead(t, s, p, plain(), payload)
			isRefused(t, s+"\x00", p, api.ErrSum)
			isUnfit(t, plain(), p, payload, api.ErrLong)
		}
	}
}

// P7.2: options of every kind and form that the chapter names.
func TestList(t *testing.T) {
	rows := []struct {
		options string
		list    []tcp.Opt
		e       api.Errno
	}{
		{"", nil, api.OK},
		{"\x00", nil, api.OK},
		{"\x01", nil, api.OK},
		{"\x01\x01\x01\x01", nil, api.OK},
		{"\x02\x04\x05\xb4", []tcp.Opt{{2, "\x05\xb4"}}, api.OK},
		{"\x04\x02", []tcp.Opt{{4, ""}}, api.OK},
		{"\x04\x02\x04\x02", []tcp.Opt{{4, ""}, {4, ""}}, api.OK},
		{"\x02\x04\x05\xb4\x04\x02\x08\x0a\x00\x00\x00\x05\x00\x00\x00\x06\x01\x03\x03\x07", []tcp.Opt{{2, "\x05\xb4"}, {4, ""}, {8, "\x00\x00\x00\x05\x00\x00\x00\x06"}, {3, "\x07"}}, api.OK},
		{"\x04\x02\x00\x05\x01\xff", []tcp.Opt{{4, ""}}, api.OK}, // nothing counts behind the end
		{"\x00\x04\x02", nil, api.OK},
		{"\x05\x06\x00\x01\x02\x03\x07\x02", []tcp.Opt{{5, "\x00\x01\x02\x03"}, {7, ""}}, api.OK}, // 0 and 1 in data
		{"\xff\x03a\xfe\x02", []tcp.Opt{{255, "a"}, {254, ""}}, api.OK},
		{"\x80\xff" + strings.Repeat("z", 253), []tcp.Opt{{128, strings.Repeat("z", 253)}}, api.OK},
		{"\x05", nil, api.ErrForm},
		{"\x05\x00", nil, api.ErrForm},
		{"\x05\x01", nil, api.ErrForm},
		{"\x05\x03", nil, api.ErrForm},
		{"\x05\x04a", nil, api.ErrForm},
		{"\x01\x05\x03", nil, api.ErrForm},
		{"\x04\x02\x05", nil, api.ErrForm},
		{"\x04\x02\x05\x01\x00\x00", nil, api.ErrForm},
		{"\x04\x02\x08\x0a\x00\x00\x00\x05\x00\x00\x00", nil, api.ErrForm},
		{"\x80\xff" + strings.Repeat("z", 252), nil, api.ErrForm},
	}
	for _, r := range rows {
		got, e := tcp.List(r.options)
		if !slices.Equal(got, r.list) || e != r.e {
			t.Errorf("List(%.60x) = %+v, %d, want %+v, %d", r.options, got, e, r.list, r.e)
		}
	}
}

// P7.2: each kind with each length before several numbers of bytes, behind
// other options and alone.
func TestListLengths(t *testing.T) {
	for kind := range 256 {
		for length := range 256 {
			for _, rest := range []int{0, 1, 2, 8, 9, 40, 253, 254} {
				tail := strings.Repeat("\x01", rest)
				option := string([]byte{byte(kind), byte(length)})
				isListed(t, option+tail)
				isStamp(t, option+tail)
				isListed(t, "\x01\x02\x03a"+option+tail)
				isStamp(t, "\x01\x02\x03a"+option+tail)
			}
		}
	}
}

// P7.2: all options of up to six bytes with the numbers that tell them apart.
func TestListAll(t *testing.T) {
	numbers := []byte{0, 1, 2, 3, 4, 8, 255}
	var visit func(s string, left int)
	visit = func(s string, left int) {
		isListed(t, s)
		isStamp(t, s)
		for _, b := range numbers {
			if left > 0 {
				visit(s+string([]byte{b}), left-1)
			}
		}
	}
	visit("", 6)
}

// P7.2: a list of very many options.
func TestListMany(t *testing.T) {
	isListed(t, strings.Repeat("\x04\x02\x01", 100000))
	isListed(t, strings.Repeat("\x04\x02\x01", 100000)+"\x04")
	isStamp(t, strings.Repeat("\x04\x02\x01", 100000)+tcp.Stamped(7, 8))
	isListed(t, strings.Repeat("\x01", 1<<20))
}

// P7.2: the example of the chapter, the edges of both numbers, the place of the
// timestamp, and options without one.
func TestStamp(t *testing.T) {
	const stamp = "\x08\x0a\x01\x02\x03\x04\xfc\xfd\xfe\xff"
	rows := []struct {
		options   string
		val, echo uint32
		at        int
	}{
		{tcp.Stamped(5, 6), 5, 6, 4},
		{tcp.Stamped(0, 0), 0, 0, 4},
		{tcp.Stamped(max32, max32-1), max32, max32 - 1, 4},
		{stamp, 0x01020304, 0xfcfdfeff, 2},
		{"\x01" + stamp, 0x01020304, 0xfcfdfeff, 3},
		{"\x02\x04\x05\xb4\x04\x02" + stamp + "\x01\x03\x03\x07", 0x01020304, 0xfcfdfeff, 8},
		{"\xfd\x0c" + stamp + stamp, 0x01020304, 0xfcfdfeff, 14}, // not the one within data
		{stamp + tcp.Stamped(5, 6), 0x01020304, 0xfcfdfeff, 2},
		{tcp.Stamped(5, 6) + stamp, 5, 6, 4},
		{stamp + "\x00\x05\x00\x00", 0x01020304, 0xfcfdfeff, 2},
		{"", 0, 0, -1},
		{"\x01\x01\x01\x01", 0, 0, -1},
		{"\x02\x04\x05\xb4", 0, 0, -1},
		{"\x00" + stamp, 0, 0, -1},
		{"\x08\x02\x01\x01", 0, 0, -1},
		{"\x08\x09abcdefg", 0, 0, -1},
		{"\x08\x0babcdefghi", 0, 0, -1},
		{"\x08\x12abcdefghijklmnop", 0, 0, -1},
		{"\x08\x02" + stamp, 0, 0, -1}, // the first of its kind has other data
		{"\x08\x0babcdefghi" + stamp, 0, 0, -1},
		{"\x08\x0aabcdefg", 0, 0, -1},
		{stamp + "\x05", 0, 0, -1}, // no list
		{stamp + "\x05\x01", 0, 0, -1},
		{stamp + "\x05\x03", 0, 0, -1},
		{"\x05\x00" + stamp, 0, 0, -1},
	}
	for _, r := range rows {
		val, echo, at := tcp.Stamp(r.options)
		if val != r.val || echo != r.echo || at != r.at {
			t.Errorf("Stamp(%x) = %d, %d, %d, want %d, %d, %d", r.options, val, echo, at, r.val, r.echo, r.at)
		}
	}
}

// P7.2: the twelve bytes of numbers at their edges.
func TestStamped(t *testing.T) {
	numbers := []uint32{0, 1, 255, 256, 65535, 65536, 0x01020304, 1<<31 - 1, 1 << 31, max32 - 1, max32}
	for _, val := range numbers {
		for _, echo := range numbers {
			want := "\x01\x01\x08\x0a" + string(binary.BigEndian.AppendUint32(binary.BigEndian.AppendUint32(nil, val), echo))
			if got := tcp.Stamped(val, echo); got != want {
				t.Errorf("Stamped(%d, %d) = %x, want %x", val, echo, got, want)
			}
			isStamp(t, want)
		}
	}
}

// P7.3: Get returns what Put was called with, and Put of this the bytes that
// were read.
func TestRoundTrip(t *testing.T) {
	drawn := source(1)
	for range 5000 {
		h, p := drawn.head(), drawn.pair()
		payload := drawn.bytes(drawn.number(100))
		s, e := tcp.Put(h, p.src, p.dst, payload)
		if s != document(h, p, payload) || e != api.OK {
			t.Fatalf("Put(%+v, %+v, %x) = %x, %d", h, p, payload, s, e)
		}
		isRead(t, s, p, h, payload)
		got, rest, _ := tcp.Get(s, p.src, p.dst)
		isPut(t, got, p, rest, s)
		isListed(t, h.Options)
		isStamp(t, h.Options)
	}
}

// P7.3: a checksum of 65535 is read like 0, and written as 0.
func TestOtherZero(t *testing.T) {
	drawn := source(2)
	for range 500 {
		h, p := drawn.head(), drawn.pair()
		payload := drawn.bytes(drawn.number(9))
		h.Urgent = 0
		s := document(h, p, payload)
		// The pointer takes the place of the checksum, which then is 0.
		h.Urgent = int(s[16])<<8 | int(s[17])
		s, e := tcp.Put(h, p.src, p.dst, payload)
		if e != api.OK || s[16:18] != "\x00\x00" {
			t.Fatalf("Put(%+v) = %x, %d, want a checksum of 0", h, s, e)
		}
		other := s[:16] + "\xff\xff" + s[18:]
		isRead(t, s, p, h, payload)
		isRead(t, other, p, h, payload)
		got, rest, _ := tcp.Get(other, p.src, p.dst)
		isPut(t, got, p, rest, s)
	}
}

// P7.3: with any one bit flipped from the byte at offset 14 on, the checksum is
// wrong; with one before it, the first error that applies is returned.
func TestFlip(t *testing.T) {
	drawn := source(3)
	for range 300 {
		h, p := drawn.head(), drawn.pair()
		if drawn.number(4) == 0 {
			h.Urgent, h.Window, h.Options = 0, 0, ""
		}
		s, _ := tcp.Put(h, p.src, p.dst, drawn.bytes(drawn.number(30)))
		for at := range len(s) {
			for bit := range 8 {
				b := []byte(s)
				b[at] ^= 1 << bit
				want := verdict(string(b), p)
				if at >= 14 {
					want = api.ErrSum
				}
				isRefused(t, string(b), p, want)
			}
		}
	}
}

// P7.1, P7.3: of drawn and of changed bytes, Get returns the first error, or
// what makes Put return the bytes.
func TestAnyBytes(t *testing.T) {
	drawn := source(4)
	counts := map[api.Errno]int{}
	for range 60000 {
		s, p := anyBytes(&drawn)
		want := verdict(s, p)
		counts[want]++
		if want != api.OK {
			isRefused(t, s, p, want)
			continue
		}
		h, payload, e := tcp.Get(s, p.src, p.dst)
		back, f := tcp.Put(h, p.src, p.dst, payload)
		if e != api.OK || f != api.OK || back != p.summed(s) {
			t.Errorf("Put of Get(%x) = %x, %d, %d", s, back, e, f)
		}
	}
	for _, e := range []api.Errno{api.OK, api.ErrShort, api.ErrForm, api.ErrArg, api.ErrSum} {
		if counts[e] < 300 {
			t.Errorf("only %d rows end with %d", counts[e], e)
		}
	}
}

// anyBytes draws bytes that look like a segment, more or less, and addresses.
func anyBytes(drawn *source) (string, pair) {
	p := drawn.pair()
	s := drawn.bytes(drawn.number(90))
	if drawn.number(4) > 0 {
		s = document(drawn.head(), p, s)
		b := []byte(s)
		for range drawn.number(3) {
			b[drawn.number(min(len(b), 40))] = byte(drawn.number(256))
		}
		s = string(b)
	}
	if drawn.number(3) == 0 {
		s = s[:drawn.number(len(s)+1)]
	}
	if drawn.number(3) > 0 && len(s) >= 20 {
		s = p.summed(s)
	}
	if drawn.number(10) == 0 {
		all := strangers()
		p = all[drawn.number(len(all))]
	}
	return s, p
}

// P7.1, P7.2: options of drawn bytes, most of them of the numbers that tell
// options apart.
func TestAnyOptions(t *testing.T) {
	drawn := source(5)
	lists := 0
	for range 60000 {
		b := []byte(drawn.bytes(drawn.number(60)))
		for i := range b {
			if drawn.number(4) > 0 {
				b[i] = "\x00\x01\x02\x03\x08\x0a\x08\x0a"[drawn.number(8)]
			}
		}
		isListed(t, string(b))
		isStamp(t, string(b))
		if _, _, ok := listed(string(b)); ok {
			lists++
		}
	}
	if lists < 5000 || lists > 55000 {
		t.Errorf("%d of the drawn options are a list", lists)
	}
}
