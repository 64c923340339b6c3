package packet_test

import (
	"encoding/binary"
	"encoding/hex"
	"math"
	"strings"
	"testing"

	"cloakroom/api"
	"cloakroom/packet"
)

const (
	maxPacket = 9000
	max32     = math.MaxUint32
	max64     = math.MaxUint64

	tcpProto = 6
	udpProto = 17

	stampHead = "\x01\x01\x08\x0a"
)

// four and six make addresses, valid ones and others.
func four(hi, lo uint64) api.Addr { return api.Addr{Hi: hi, Lo: lo} }
func six(hi, lo uint64) api.Addr  { return api.Addr{V6: true, Hi: hi, Lo: lo} }

// source draws numbers that depend on nothing but its seed.
type source uint64

func (s *source) number(n int) int {
	*s = *s*6364136223846793005 + 1442695040888963407
	return int(uint64(*s>>33) % uint64(n))
}

func (s *source) bytes(n int) string {
	b := make([]byte, n)
	for i := range b {
		b[i] = byte(s.number(256))
	}
	return string(b)
}

func (s *source) wide() uint64 { return uint64(s.number(1<<16))<<16 | uint64(s.number(1<<16)) }

// tuple draws a tuple of packets of a protocol.
func (s *source) tuple(proto int) api.Tuple {
	t := api.Tuple{Proto: proto, SPort: s.number(65536), DPort: s.number(65536)}
	if s.number(2) == 0 {
		t.Src, t.Dst = four(0, s.wide()), four(0, s.wide())
		return t
	}
	word := func() uint64 { return s.wide()<<32 | s.wide() }
	t.Src, t.Dst = six(word(), word()), six(word(), word())
	return t
}

// options draws options that are a list.
func (s *source) options() string {
	rows := []string{"", "\x01\x01\x01\x01", "\x02\x04\x05\xb4", "\x00\xff\xff\xff",
		stampHead + s.bytes(8), "\x08\x0a" + s.bytes(8) + "\x00\x00", "\x08\x02\x01\x01" + stampHead + s.bytes(8),
		"\x03\x03\x07\x01" + stampHead + s.bytes(8), stampHead + s.bytes(8) + stampHead + s.bytes(8)}
	return rows[s.number(len(rows))]
}

// name draws a payload of a datagram that begins with a header, or does not.
func (s *source) name() string {
	switch s.number(4) {
	case 0:
		return short(s.number(64), s.bytes(8)) + s.bytes(s.number(9))
	case 1:
		return long(s.number(64), s.bytes(s.number(21)), s.bytes(s.number(21))) + s.bytes(s.number(9))
	case 2:
		return long(s.number(64), s.bytes(s.number(26)), s.bytes(s.number(26)))
	}
	return s.bytes(s.number(20))
}

// short and long are headers of datagrams' payloads.
func short(bits int, id string) string { return string([]byte{byte(64 | bits)}) + id }

func long(bits int, dcid, scid string) string {
	return string([]byte{byte(192 | bits), 0, 0, 0, 1, byte(len(dcid))}) + dcid + string([]byte{byte(len(scid))}) + scid
}

// sum returns the sum of the words of s.
func sum(s string) int {
	total := 0
	for i := range len(s) {
		total += int(s[i]) << (8 - i%2*8)
	}
	for total > 65535 {
		total = total/65536 + total%65536
	}
	return total
}

// word returns the number of two bytes at an offset.
func word(s string, at int) int { return int(s[at])*256 + int(s[at+1]) }

// withByte and withWord return s with a number at an offset.
func withByte(s string, at, n int) string {
	b := []byte(s)
	b[at] = byte(n)
	return string(b)
}

func withWord(s string, at, n int) string { return withByte(withByte(s, at, n>>8), at+1, n) }

// flipped returns s with one bit flipped.
func flipped(s string, bit int) string {
	return withByte(s, bit/8, int(s[bit/8])^1<<(bit%8))
}

// rawAddr returns the bytes of a valid address.
func rawAddr(a api.Addr) string {
	if a.V6 {
		return string(binary.BigEndian.AppendUint64(binary.BigEndian.AppendUint64(nil, a.Hi), a.Lo))
	}
	return string(binary.BigEndian.AppendUint32(nil, uint32(a.Lo)))
}

// pseudo returns the bytes that precede n bytes in their checksum.
func pseudo(t api.Tuple, n int) string {
	b := []byte(rawAddr(t.Src) + rawAddr(t.Dst))
	if t.Src.V6 {
		return string(append(binary.BigEndian.AppendUint32(b, uint32(n)), 0, 0, 0, byte(t.Proto)))
	}
	return string(binary.BigEndian.AppendUint16(append(b, 0, byte(t.Proto)), uint16(n)))
}

// sealed returns a segment or datagram with its checksum.
func sealed(t api.Tuple, body string) string {
	at := 16
	if t.Proto == udpProto {
		at = 6
	}
	body = withWord(body, at, 0)
	n := 65535 - sum(pseudo(t, len(body))+body)
	if n == 0 && t.Proto == udpProto {
		n = 65535
	}
	return withWord(body, at, n)
}

// rawSegment returns the segment that the chapter describes.
func rawSegment(t api.Tuple, flags int, options, payload string) string {
	b := strings.Repeat("\x00", 20) + options + payload
	b = withWord(withWord(b, 0, t.SPort), 2, t.DPort)
	b = withWord(withByte(withByte(b, 12, (20+len(options))*4), 13, flags), 14, 65535)
	return sealed(t, b)
}

// rawDatagram returns the datagram of a payload.
func rawDatagram(t api.Tuple, payload string) string {
	b := "\x00\x00\x00\x00\x00\x00\x00\x00" + payload
	b = withWord(withWord(b, 0, t.SPort), 2, t.DPort)
	return sealed(t, withWord(b, 4, len(b)))
}

// rawPacket returns the packet that the chapter describes, for any protocol of
// a byte.
func rawPacket(t api.Tuple, body string) string {
	if t.Src.V6 {
		b := "\x60\x00\x00\x00\x00\x00\x00\x40" + rawAddr(t.Src) + rawAddr(t.Dst) + body
		return withByte(withWord(b, 4, len(body)), 6, t.Proto)
	}
	return optioned(t, "", body)
}

// optioned returns a packet of version 4 with Options in its header.
func optioned(t api.Tuple, options, body string) string {
	h := "\x45\x00\x00\x00\x00\x00\x40\x00\x40\x00\x00\x00" + rawAddr(t.Src) + rawAddr(t.Dst) + options
	h = withByte(withWord(h, 2, len(h)+len(body)), 0, 4*16+len(h)/4)
	return resummed(withByte(h, 9, t.Proto) + body)
}

// resummed returns a packet with the checksum of its header of version 4.
func resummed(s string) string {
	n := int(s[0]) % 16 * 4
	s = withWord(s, 10, 0)
	return withWord(s, 10, 65535-sum(s[:n]))
}

// found is what the chapter says of some bytes.
type found struct {
	p           api.Packet
	at, payload int
	e           api.Errno
}

// verdict returns what the chapter says of s.
func verdict(s string) found {
	v := network(s)
	if v.e == api.OK {
		v = transport(s, v)
	}
	if v.e != api.OK {
		return found{e: v.e}
	}
	v.p.Size = len(s)
	return v
}

// network reads the IP header.
func network(s string) found {
	switch {
	case len(s) > maxPacket:
		return found{e: api.ErrLong}
	case s == "":
		return found{e: api.ErrShort}
	case s[0]/16 == 4:
		return networkFour(s)
	case s[0]/16 == 6:
		return networkSix(s)
	}
	return found{e: api.ErrForm}
}

func networkFour(s string) found {
	if len(s) < 20 {
		return found{e: api.ErrShort}
	}
	size, total := int(s[0])%16*4, word(s, 2)
	switch {
	case size < 20 || total < size:
		return found{e: api.ErrForm}
	case len(s) < total:
		return found{e: api.ErrShort}
	case sum(s[:size]) != 65535:
		return found{e: api.ErrSum}
	case s[6]&0xbf != 0 || s[7] != 0:
		return found{e: api.ErrFrag}
	case len(s) > total:
		return found{e: api.ErrLong}
	}
	t := api.Tuple{Proto: int(s[9])}
	t.Src = four(0, uint64(binary.BigEndian.Uint32([]byte(s[12:16]))))
	t.Dst = four(0, uint64(binary.BigEndian.Uint32([]byte(s[16:20]))))
	return found{p: api.Packet{Tuple: t}, at: size}
}

func networkSix(s string) found {
	if len(s) < 40 {
		return found{e: api.ErrShort}
	}
	switch n := word(s, 4); {
	case len(s)-40 < n:
		return found{e: api.ErrShort}
	case len(s)-40 > n:
		return found{e: api.ErrLong}
	}
	half := func(at int) uint64 { return binary.BigEndian.Uint64([]byte(s[at : at+8])) }
	t := api.Tuple{Proto: int(s[6]), Src: six(half(8), half(16)), Dst: six(half(24), half(32))}
	return found{p: api.Packet{Tuple: t}, at: 40}
}

// transport reads the segment or datagram.
func transport(s string, v found) found {
	body := s[v.at:]
	switch v.p.Tuple.Proto {
	case tcpProto:
		return segment(body, v)
	case udpProto:
		return datagram(body, v)
	}
	return found{e: api.ErrProto}
}

func segment(body string, v found) found {
	if len(body) < 20 {
		return found{e: api.ErrShort}
	}
	size := int(body[12]) / 16 * 4
	switch {
	case size < 20 || body[12]%16 != 0:
		return found{e: api.ErrForm}
	case len(body) < size:
		return found{e: api.ErrShort}
	case sum(pseudo(v.p.Tuple, len(body))+body) != 65535:
		return found{e: api.ErrSum}
	}
	v.payload = v.at + size
	v.p.Tuple.SPort, v.p.Tuple.DPort = word(body, 0), word(body, 2)
	v.p.Flags = int(body[13])
	seen := false
	for o := body[20:size]; o != "" && o[0] != 0; {
		if o[0] == 1 {
			o = o[1:]
			continue
		}
		if len(o) < 2 || o[1] < 2 || int(o[1]) > len(o) {
			return found{e: api.ErrForm}
		}
		if o[0] == 8 && !seen {
			seen = true
			if o[1] == 10 {
				v.p.Stamped = true
				v.p.Val = binary.BigEndian.Uint32([]byte(o[2:6]))
				v.p.Echo = binary.BigEndian.Uint32([]byte(o[6:10]))
			}
		}
		o = o[o[1]:]
	}
	return v
}

func datagram(body string, v found) found {
	if len(body) < 8 {
		return found{e: api.ErrShort}
	}
	total := word(body, 4)
	switch {
	case total < 8:
		return found{e: api.ErrForm}
	case len(body) < total:
		return found{e: api.ErrShort}
	case word(body, 6) == 0 && v.p.Tuple.Src.V6:
		return found{e: api.ErrSum}
	case word(body, 6) != 0 && sum(pseudo(v.p.Tuple, total)+body[:total]) != 65535:
		return found{e: api.ErrSum}
	case len(body) > total:
		return found{e: api.ErrLong}
	}
	v.payload = v.at + 8
	v.p.Tuple.SPort, v.p.Tuple.DPort = word(body, 0), word(body, 2)
	v.p.Long, v.p.CID = named(body[8:])
	return v
}

// named returns Long and the CID of a datagram's payload.
func named(s string) (bool, string) {
	switch {
	case s == "" || s[0]&64 == 0:
		return false, ""
	case s[0]&128 == 0:
		if len(s) < 9 {
			return false, ""
		}
		return false, s[1:9]
	case len(s) < 6 || s[5] > 20 || len(s) < 6+int(s[5])+1:
		return false, ""
	}
	end := 6 + int(s[5])
	if s[end] > 20 || len(s) < end+1+int(s[end]) {
		return false, ""
	}
	return true, s[6:end]
}

// isTold reports that Parse or Where does not tell what the chapter says.
func isTold(t *testing.T, s string) found {
	t.Helper()
	v := verdict(s)
	if p, e := packet.Parse(s); p != v.p || e != v.e {
		t.Errorf("Parse of %d bytes %.60x = %#v, %d, want %#v, %d", len(s), s, p, e, v.p, v.e)
	}
	if at, payload, e := packet.Where(s); at != v.at || payload != v.payload || e != v.e {
		t.Errorf("Where of %d bytes %.60x = %d, %d, %d, want %d, %d, %d", len(s), s, at, payload, e, v.at, v.payload, v.e)
	}
	return v
}

// isParsed reports that Parse does not return this description.
func isParsed(t *testing.T, s string, want api.Packet) {
	t.Helper()
	isTold(t, s)
	if p, e := packet.Parse(s); p != want || e != api.OK {
		t.Errorf("Parse of %d bytes %.60x = %#v, %d, want %#v", len(s), s, p, e, want)
	}
}

// isRefused reports that Parse or Where does not return this error and nothing
// else.
func isRefused(t *testing.T, s string, want api.Errno) {
	t.Helper()
	if p, e := packet.Parse(s); p != (api.Packet{}) || e != want {
		t.Errorf("Parse of %d bytes %.60x = %#v, %d, want %d", len(s), s, p, e, want)
	}
	if at, payload, e := packet.Where(s); at != 0 || payload != 0 || e != want {
		t.Errorf("Where of %d bytes %.60x = %d, %d, %d, want %d", len(s), s, at, payload, e, want)
	}
}

// isBuilt reports that a function does not return these bytes.
func isBuilt(t *testing.T, name string, got string, e api.Errno, want string) {
	t.Helper()
	if got != want || e != api.OK {
		t.Errorf("%s = %d bytes %.80x, %d, want %d bytes %.80x", name, len(got), got, e, len(want), want)
	}
}

// isUnfit reports that a function does not return this error and nothing else.
func isUnfit(t *testing.T, name string, got string, e, want api.Errno) {
	t.Helper()
	if got != "" || e != want {
		t.Errorf("%s = %d bytes %.80x, %d, want %d", name, len(got), got, e, want)
	}
}

// tuples are tuples of packets of a protocol, ordinary ones and with numbers at
// their edges.
func tuples(proto int) []api.Tuple {
	ends := [][2]api.Addr{
		{four(0, 0xc0a80001), four(0, 0x0a000002)},
		{six(0x20010db800000000, 1), six(0x20010db800000000, 2)},
		{four(0, 0), four(0, 0)},
		{four(0, max32), four(0, max32)},
		{four(0, 1), four(0, max32)},
		{six(0, 0), six(0, 0)},
		{six(max64, max64), six(max64, max64)},
		{six(0, 1), six(1<<63, max32+1)},
	}
	var all []api.Tuple
	for _, pair := range ends {
		for _, ports := range [][2]int{{50000, 443}, {0, 0}, {65535, 65535}, {0, 65535}, {256, 255}} {
			all = append(all, api.Tuple{Proto: proto, Src: pair[0], Dst: pair[1], SPort: ports[0], DPort: ports[1]})
		}
	}
	return all
}

// strangers are tuples of a protocol whose addresses no packet has together.
func strangers(proto int) []api.Tuple {
	a, b := four(0, 1), six(0, 1)
	ends := [][2]api.Addr{{a, b}, {b, a}}
	for _, c := range []api.Addr{four(0, max32+1), four(0, 1<<63), four(1, 0), four(1, 1), four(max64, max64)} {
		ends = append(ends, [2]api.Addr{a, c}, [2]api.Addr{c, a}, [2]api.Addr{b, c}, [2]api.Addr{c, b}, [2]api.Addr{c, c})
	}
	var all []api.Tuple
	for _, pair := range ends {
		all = append(all, api.Tuple{Proto: proto, Src: pair[0], Dst: pair[1], SPort: 3, DPort: 4})
	}
	return all
}

// ordinary returns a tuple of each version.
func ordinary(proto int) [2]api.Tuple {
	all := tuples(proto)
	return [2]api.Tuple{all[0], all[5]}
}

// outside are numbers that two bytes do not hold.
func outside() []int {
	return []int{-1, -2, -65535, -65536, math.MinInt, math.MinInt + 1,
		65536, 65537, 1 << 17, 1 << 32, 1<<32 + 1, 1 << 62, math.MaxInt}
}

// foreign are the numbers that are no protocol of a packet.
func foreign(protos ...int) []int {
	all := outside()
	for n := -300; n <= 300; n++ {
		all = append(all, n)
	}
	all = append(all, 256+tcpProto, 256+udpProto, 65536+tcpProto, 65536+udpProto, 1<<32+tcpProto, 1<<32+udpProto)
	var rest []int
	for _, n := range all {
		if n != protos[0] && n != protos[len(protos)-1] {
			rest = append(rest, n)
		}
	}
	return rest
}

// unhex returns the bytes of hexadecimal digits.
func unhex(t *testing.T, s string) string {
	t.Helper()
	b, err := hex.DecodeString(s)
	if err != nil {
		t.Fatal(err)
	}
	return string(b)
}

// P11.1: the example of the chapter.
func TestEmpty(t *testing.T) {
	isRefused(t, "", api.ErrShort)
}

// P11.1, P11.2: segments that another program has computed.
func TestKnownSegments(t *testing.T) {
	v4 := api.Tuple{Proto: tcpProto, Src: four(0, 0xc0a80001), Dst: four(0, 0x0a000002), SPort: 50000, DPort: 443}
	v6 := api.Tuple{Proto: tcpProto, Src: six(0x20010db800000000, 1), Dst: six(0x20010db800000000, 2), SPort: 50000, DPort: 443}
	stamp := stampHead + "\x01\x02\x03\x04\x05\x06\x07\x08"
	rows := []struct {
		p                api.Packet
		options, payload string
		at, payloadAt    int
		bytes            string
	}{
		{p: api.Packet{Tuple: api.Tuple{Proto: 6, Src: four(0, 1), Dst: four(0, 2), SPort: 3, DPort: 4}, Flags: api.Syn, Size: 42},
			payload: "hi", at: 20, payloadAt: 40,
			bytes: "4500002a0000400040063acc00000001000000020003000400000000000000005002ffff476e00006869"},
		{p: api.Packet{Tuple: v4, Flags: api.Ack | api.Psh, Stamped: true, Val: 0x01020304, Echo: 0x05060708, Size: 55},
			options: stamp, payload: "abc", at: 20, payloadAt: 52,
			bytes: "450000370000400040067016c0a800010a000002c35001bb00000000000000008018ffff128500000101080a0102030405060708616263"},
		{p: api.Packet{Tuple: v6, Flags: api.Syn, Stamped: true, Val: 0x01020304, Echo: 0x05060708, Size: 72},
			options: stamp, at: 40, payloadAt: 72,
			bytes: "600000000020064020010db800000000000000000000000120010db8000000000000000000000002c35001bb00000000000000008002ffff463700000101080a0102030405060708"},
	}
	for _, r := range rows {
		s := unhex(t, r.bytes)
		got, e := packet.Segment(r.p.Tuple, r.p.Flags, r.options, r.payload)
		isBuilt(t, "Segment", got, e, s)
		isParsed(t, s, r.p)
		if at, payloadAt, e := packet.Where(s); at != r.at || payloadAt != r.payloadAt || e != api.OK {
			t.Errorf("Where(%x) = %d, %d, %d, want %d, %d", s, at, payloadAt, e, r.at, r.payloadAt)
		}
	}
}

// P11.1, P11.2: datagrams that another program has computed.
func TestKnownDatagrams(t *testing.T) {
	v4 := api.Tuple{Proto: udpProto, Src: four(0, 0xc0a80001), Dst: four(0, 0x0a000002), SPort: 50000, DPort: 443}
	v6 := api.Tuple{Proto: udpProto, Src: six(0x20010db800000000, 1), Dst: six(0x20010db800000000, 2), SPort: 50000, DPort: 443}
	rows := []struct {
		p             api.Packet
		payload       string
		at, payloadAt int
		bytes         string
	}{
		{api.Packet{Tuple: api.Tuple{Proto: 17, Src: four(0, 1), Dst: four(0, 2), SPort: 3, DPort: 4}, Size: 28},
			"", 20, 28, "4500001c0000400040113acf0000000100000002000300040008ffd4"},
		{api.Packet{Tuple: v4, CID: "abcdefgh", Size: 40},
			"@abcdefghxyz", 20, 28, "45000028000040004011701ac0a800010a000002c35001bb0014208b40616263646566676878797a"},
		{api.Packet{Tuple: v6, Long: true, CID: "dcid", Size: 65},
			"\xc3\x00\x00\x00\x01\x04dcid\x02screst", 40, 48,
			"600000000019114020010db800000000000000000000000120010db8000000000000000000000002c35001bb00190e16c300000001046463696402736372657374"},
	}
	for _, r := range rows {
		s := unhex(t, r.bytes)
		got, e := packet.Datagram(r.p.Tuple, r.payload)
		isBuilt(t, "Datagram", got, e, s)
		isParsed(t, s, r.p)
		if at, payloadAt, e := packet.Where(s); at != r.at || payloadAt != r.payloadAt || e != api.OK {
			t.Errorf("Where(%x) = %d, %d, %d, want %d, %d", s, at, payloadAt, e, r.at, r.payloadAt)
		}
	}
}

// P11.2: Put wraps any body, whatever the ports are.
func TestPut(t *testing.T) {
	for _, proto := range []int{tcpProto, udpProto} {
		for _, tuple := range tuples(proto) {
			for _, body := range []string{"", "\x00", "\xff", "body", strings.Repeat("x", 1480)} {
				got, e := packet.Put(tuple, body)
				isBuilt(t, "Put", got, e, rawPacket(tuple, body))
			}
			for _, n := range outside() {
				other := tuple
				other.SPort, other.DPort = n, -n
				got, e := packet.Put(other, "body")
				isBuilt(t, "Put", got, e, rawPacket(tuple, "body"))
			}
		}
	}
}

// P11.2: Put returns ErrArg for other addresses and protocols, also where
// ErrLong applies.
func TestPutArg(t *testing.T) {
	for _, n := range []int{0, 4, maxPacket, 65535, 65536, 1 << 20} {
		body := strings.Repeat("x", n)
		for _, proto := range []int{tcpProto, udpProto} {
			for _, tuple := range strangers(proto) {
				got, e := packet.Put(tuple, body)
				isUnfit(t, "Put", got, e, api.ErrArg)
			}
		}
		for _, proto := range foreign(tcpProto, udpProto) {
			for _, tuple := range ordinary(proto) {
				got, e := packet.Put(tuple, body)
				isUnfit(t, "Put", got, e, api.ErrArg)
			}
		}
	}
}

// P11.2: packets of 9000 bytes are the longest that are built.
func TestBuildLong(t *testing.T) {
	for version, head := range []int{20, 40} {
		tuple, name := ordinary(tcpProto)[version], ordinary(udpProto)[version]
		stamp := stampHead + "abcdefgh"
		for _, less := range []int{0, 1, 2, 100} {
			body := strings.Repeat("\xa5", maxPacket-head-less)
			got, e := packet.Put(tuple, body)
			isBuilt(t, "Put", got, e, rawPacket(tuple, body))
			payload := body[32:]
			got, e = packet.Segment(tuple, api.Ack, stamp, payload)
			isBuilt(t, "Segment", got, e, rawPacket(tuple, rawSegment(tuple, api.Ack, stamp, payload)))
			payload = body[8:]
			got, e = packet.Datagram(name, payload)
			isBuilt(t, "Datagram", got, e, rawPacket(name, rawDatagram(name, payload)))
		}
		for _, more := range []int{1, 2, 20, 40, 100, 56000, 65535, 65536, 1 << 20} {
			body := strings.Repeat("\xa5", maxPacket-head+more)
			got, e := packet.Put(tuple, body)
			isUnfit(t, "Put", got, e, api.ErrLong)
			got, e = packet.Segment(tuple, api.Ack, stamp, body[32:])
			isUnfit(t, "Segment", got, e, api.ErrLong)
			got, e = packet.Datagram(name, body[8:])
			isUnfit(t, "Datagram", got, e, api.ErrLong)
		}
	}
}

// P11.2: segments of all flags, and of several options and payloads.
func TestSegment(t *testing.T) {
	stamp := stampHead + "\xff\xff\xff\xff\x80\x00\x00\x01"
	for _, tuple := range tuples(tcpProto) {
		for flags := range 256 {
			s := rawPacket(tuple, rawSegment(tuple, flags, "", ""))
			got, e := packet.Segment(tuple, flags, "", "")
			isBuilt(t, "Segment", got, e, s)
			isParsed(t, s, api.Packet{Tuple: tuple, Flags: flags, Size: len(s)})
		}
		for _, payload := range []string{"", "\x00", "x", "\xff\xff", strings.Repeat("payload", 200)} {
			for n := 0; n <= 40; n += 4 {
				options := strings.Repeat("\x01", n)
				s := rawPacket(tuple, rawSegment(tuple, api.Psh, options, payload))
				got, e := packet.Segment(tuple, api.Psh, options, payload)
				isBuilt(t, "Segment", got, e, s)
				isParsed(t, s, api.Packet{Tuple: tuple, Flags: api.Psh, Size: len(s)})
			}
			s := rawPacket(tuple, rawSegment(tuple, api.Ack, stamp, payload))
			got, e := packet.Segment(tuple, api.Ack, stamp, payload)
			isBuilt(t, "Segment", got, e, s)
			isParsed(t, s, api.Packet{Tuple: tuple, Flags: api.Ack, Stamped: true, Val: max32, Echo: 1<<31 + 1, Size: len(s)})
		}
	}
}

// P11.2: what no segment can have is ErrArg, also where ErrLong applies.
func TestSegmentArg(t *testing.T) {
	for _, payload := range []string{"", "payload", strings.Repeat("x", maxPacket), strings.Repeat("x", 65536)} {
		refuse := func(tuple api.Tuple, flags int, options string) {
			t.Helper()
			got, e := packet.Segment(tuple, flags, options, payload)
			isUnfit(t, "Segment", got, e, api.ErrArg)
		}
		for _, proto := range foreign(tcpProto) {
			for _, tuple := range ordinary(proto) {
				refuse(tuple, api.Syn, "")
			}
		}
		for _, tuple := range strangers(tcpProto) {
			refuse(tuple, api.Syn, "")
		}
		for _, tuple := range ordinary(tcpProto) {
			for _, flags := range append(outside(), 256, 257, 512, -256) {
				refuse(tuple, flags, "")
			}
			for _, n := range []int{1, 2, 3, 5, 39, 41, 42, 44, 48, 60, 256, 65536} {
				refuse(tuple, api.Syn, strings.Repeat("\x01", n))
			}
			for _, n := range outside() {
				other := tuple
				other.SPort = n
				refuse(other, api.Syn, "")
				other.SPort, other.DPort = tuple.SPort, n
				refuse(other, api.Syn, "")
			}
		}
	}
}

// P11.1, P11.2: Options that are not a list are written, but not parsed.
func TestSegmentOptions(t *testing.T) {
	for _, tuple := range ordinary(tcpProto) {
		for _, options := range []string{"\x02\x00\x00\x00", "\x02\x01\x01\x01", "\x02\x05\x00\x00", "\x01\x01\x01\x02",
			"\xff\xff\xff\xff", stampHead + "abcdefgh\x02\x05\x00\x00"} {
			s := rawPacket(tuple, rawSegment(tuple, api.Syn, options, "payload"))
			got, e := packet.Segment(tuple, api.Syn, options, "payload")
			isBuilt(t, "Segment", got, e, s)
			isRefused(t, s, api.ErrForm)
		}
	}
}

// P11.1: a timestamp is that of tcp.Stamp: the first option of its kind, if
// this has eight bytes of data.
func TestStamped(t *testing.T) {
	rows := []struct {
		options   string
		stamped   bool
		val, echo uint32
	}{
		{"", false, 0, 0},
		{"\x01\x01\x01\x01", false, 0, 0},
		{"\x02\x04\x08\x0a", false, 0, 0},
		{stampHead + "\x00\x00\x00\x00\x00\x00\x00\x00", true, 0, 0},
		{stampHead + "\x00\x00\x00\x01\x00\x00\x00\x02", true, 1, 2},
		{stampHead + "\x80\x00\x00\x00\xff\xff\xff\xff", true, 1 << 31, max32},
		{"\x08\x0a\x00\x00\x00\x01\x00\x00\x00\x02\x01\x01", true, 1, 2},
		{"\x02\x04\x05\xb4" + stampHead + "\x00\x00\x00\x03\x00\x00\x00\x04", true, 3, 4},
		{"\x00\x00\x00\x00" + stampHead + "\x00\x00\x00\x03\x00\x00\x00\x04", false, 0, 0},
		{"\x08\x02\x01\x01" + stampHead + "\x00\x00\x00\x03\x00\x00\x00\x04", false, 0, 0},
		{"\x08\x0b\x00\x00\x00\x01\x00\x00\x00\x02\x00\x01", false, 0, 0},
		{stampHead + "\x00\x00\x00\x01\x00\x00\x00\x02" + stampHead + "\x00\x00\x00\x03\x00\x00\x00\x04", true, 1, 2},
	}
	for _, tuple := range ordinary(tcpProto) {
		for _, r := range rows {
			s := rawPacket(tuple, rawSegment(tuple, api.Ack, r.options, "@abcdefgh"))
			isParsed(t, s, api.Packet{Tuple: tuple, Flags: api.Ack, Stamped: r.stamped, Val: r.val, Echo: r.echo, Size: len(s)})
		}
	}
}

// P11.2: datagrams of several payloads.
func TestDatagram(t *testing.T) {
	for _, tuple := range tuples(udpProto) {
		for _, payload := range []string{"", "\x00", "x", "\x00\x00", "\xff\xff", "payload", strings.Repeat("\x01", 1400)} {
			s := rawPacket(tuple, rawDatagram(tuple, payload))
			got, e := packet.Datagram(tuple, payload)
			isBuilt(t, "Datagram", got, e, s)
			isTold(t, s)
		}
	}
}

// P11.2: what no datagram can have is ErrArg, also where ErrLong applies.
func TestDatagramArg(t *testing.T) {
	for _, payload := range []string{"", "payload", strings.Repeat("x", maxPacket), strings.Repeat("x", 65536)} {
		refuse := func(tuple api.Tuple) {
			t.Helper()
			got, e := packet.Datagram(tuple, payload)
			isUnfit(t, "Datagram", got, e, api.ErrArg)
		}
		for _, proto := range foreign(udpProto) {
			for _, tuple := range ordinary(proto) {
				refuse(tuple)
			}
		}
		for _, tuple := range strangers(udpProto) {
			refuse(tuple)
		}
		for _, tuple := range ordinary(udpProto) {
			for _, n := range outside() {
				other := tuple
				other.SPort = n
				refuse(other)
				other.SPort, other.DPort = tuple.SPort, n
				refuse(other)
			}
		}
	}
}

// P11.1: Long and CID are those of the header with which a payload begins, if
// it begins with one.
func TestNames(t *testing.T) {
	id := "0123456789abcdefghij"
	rows := []struct {
		payload string
		long    bool
		cid     string
	}{
		{"", false, ""},
		{"\x00abcdefgh", false, ""},
		{"\x3fabcdefgh", false, ""},
		{"\x80\x00\x00\x00\x01\x04dcid\x04scid", false, ""},
		{"@", false, ""},
		{"@abcdefg", false, ""},
		{"@abcdefgh", false, "abcdefgh"},
		{"\x7fabcdefghi", false, "abcdefgh"},
		{"@\x00\x00\x00\x00\x00\x00\x00\x00", false, "\x00\x00\x00\x00\x00\x00\x00\x00"},
		{long(0, "", ""), true, ""},
		{long(63, "", "scid"), true, ""},
		{long(1, "dcid", ""), true, "dcid"},
		{long(1, "dcid", "scid") + "rest", true, "dcid"},
		{long(1, id, id), true, id},
		{long(1, id, id)[:46], false, ""},
		{long(1, id+"k", "scid"), false, ""},
		{long(1, "dcid", id+"k"), false, ""},
		{long(1, "dcid", "scid")[:5], false, ""},
		{long(1, "dcid", "scid")[:9], false, ""},
		{long(1, "dcid", "scid")[:10], false, ""},
		{long(1, "dcid", "scid")[:14], false, ""},
	}
	for _, tuple := range ordinary(udpProto) {
		for _, r := range rows {
			s := rawPacket(tuple, rawDatagram(tuple, r.payload))
			isParsed(t, s, api.Packet{Tuple: tuple, Long: r.long, CID: r.cid, Size: len(s)})
		}
	}
}

// P11.1: more than 9000 bytes are too long, whatever they are.
func TestParseLong(t *testing.T) {
	for _, n := range []int{maxPacket + 1, maxPacket + 2, 65535, 65536, 1 << 20} {
		for _, first := range []string{"\x00", "\x45", "\x60", "\xff", "\x40"} {
			isRefused(t, first+strings.Repeat("\x00", n-1), api.ErrLong)
		}
		for _, tuple := range ordinary(tcpProto) {
			isRefused(t, rawPacket(tuple, rawSegment(tuple, 2, "", strings.Repeat("x", n-40))), api.ErrLong)
		}
	}
	for version, head := range []int{20, 40} {
		tuple := ordinary(tcpProto)[version]
		s := rawPacket(tuple, rawSegment(tuple, 2, "", strings.Repeat("x", maxPacket-head-20)))
		isParsed(t, s, api.Packet{Tuple: tuple, Flags: 2, Size: maxPacket})
		isRefused(t, s+"x", api.ErrLong)
		tuple = ordinary(udpProto)[version]
		s = rawPacket(tuple, rawDatagram(tuple, strings.Repeat("x", maxPacket-head-8)))
		isParsed(t, s, api.Packet{Tuple: tuple, CID: "xxxxxxxx", Size: maxPacket})
		isRefused(t, s+"x", api.ErrLong)
	}
}

// P11.1: the upper half of the first byte is 4 or 6, however few bytes follow.
func TestVersion(t *testing.T) {
	whole := rawPacket(ordinary(tcpProto)[0], rawSegment(ordinary(tcpProto)[0], 2, "", ""))
	for n := range 256 {
		want := api.ErrForm
		if n/16 == 4 || n/16 == 6 {
			want = api.ErrShort
		}
		isRefused(t, string([]byte{byte(n)}), want)
		if want == api.ErrForm {
			isRefused(t, withByte(whole, 0, n), want)
			isRefused(t, withByte(strings.Repeat("\x00", maxPacket), 0, n), want)
			isRefused(t, withByte(strings.Repeat("\x00", maxPacket+1), 0, n), api.ErrLong)
		}
	}
}

// bodies are a right segment and a right datagram of each version, with their
// tuples.
func bodies() map[api.Tuple]string {
	all := map[api.Tuple]string{}
	for _, tuple := range ordinary(tcpProto) {
		all[tuple] = rawSegment(tuple, api.Syn, stampHead+"abcdefgh", "payload")
	}
	for _, tuple := range ordinary(udpProto) {
		all[tuple] = rawDatagram(tuple, "@abcdefghpayload")
	}
	return all
}

// P11.1: a packet of which bytes are missing is refused, and so is one that
// other bytes follow.
func TestParseCut(t *testing.T) {
	for tuple, body := range bodies() {
		s := rawPacket(tuple, body)
		for n := range len(s) {
			isRefused(t, s[:n], api.ErrShort)
		}
		for _, more := range []string{"\x00", "x", "\x00\x00", strings.Repeat("x", maxPacket-len(s))} {
			isRefused(t, s+more, api.ErrLong)
		}
		for n := range len(body) {
			got := isTold(t, rawPacket(tuple, body[:n]))
			if got.e == api.OK {
				t.Errorf("a body of %d of %d bytes has no verdict", n, len(body))
			}
		}
	}
}

// P11.1: the errors of IPv4 headers are those of ipfour.Get, and they come
// before bytes that follow, another protocol, and wrong contents.
func TestParseFour(t *testing.T) {
	for _, proto := range []int{tcpProto, udpProto, 1, 255} {
		tuple := ordinary(proto)[0]
		s := rawPacket(tuple, "no body")
		for _, more := range []string{"", "more"} {
			isRefused(t, resummed(withByte(s, 0, 0x45-1))+more, api.ErrForm)
			isRefused(t, resummed(withWord(s, 2, 19))+more, api.ErrForm)
			isRefused(t, resummed(withWord(s, 2, len(s)+5))+more, api.ErrShort)
			isRefused(t, withByte(s, 1, 1)+more, api.ErrSum)
			isRefused(t, withWord(withByte(s, 6, 0x20), 10, 0)+more, api.ErrSum)
			for _, part := range []int{0x8000, 0x2000, 0x1000, 0x0100, 0x0080, 0x0001, 0x6000, 0x4001} {
				isRefused(t, resummed(withWord(s, 6, part))+more, api.ErrFrag)
			}
		}
		isRefused(t, s+"more", api.ErrLong)
	}
}

// P11.1: the errors of IPv6 headers are those of ipsix.Get, and they come
// before bytes that follow, another protocol, and wrong contents.
func TestParseSix(t *testing.T) {
	for _, proto := range []int{tcpProto, udpProto, 58, 44, 0, 255} {
		tuple := ordinary(proto)[1]
		s := rawPacket(tuple, "no body")
		isRefused(t, withWord(s, 4, 8), api.ErrShort)
		isRefused(t, withWord(s, 4, 65535), api.ErrShort)
		isRefused(t, withWord(s, 4, 6), api.ErrLong)
		isRefused(t, withWord(s, 4, 0), api.ErrLong)
		isRefused(t, s+"more", api.ErrLong)
	}
}

// P11.1: other protocols are ErrProto, whatever they contain.
func TestParseProto(t *testing.T) {
	for inside, body := range bodies() {
		for proto := range 256 {
			tuple := inside
			tuple.Proto = proto
			if proto == tcpProto || proto == udpProto {
				continue
			}
			isRefused(t, rawPacket(tuple, body), api.ErrProto)
			isRefused(t, rawPacket(tuple, ""), api.ErrProto)
			isRefused(t, rawPacket(tuple, body)+"x", api.ErrLong)
		}
	}
}

// P11.1: the errors of segments are those of tcp.Get.
func TestParseSegment(t *testing.T) {
	for _, tuple := range ordinary(tcpProto) {
		good := rawSegment(tuple, api.Syn, "\x01\x01\x01\x01", "payload")
		refuse := func(body string, want api.Errno) {
			t.Helper()
			isRefused(t, rawPacket(tuple, body), want)
		}
		for n := range 20 {
			refuse(strings.Repeat("\x00", n), api.ErrShort)
			refuse(good[:n], api.ErrShort)
		}
		for n := range 256 {
			other := withByte(good, 12, n)
			switch {
			case n%16 != 0 || n < 0x50:
				refuse(sealed(tuple, other), api.ErrForm)
				refuse(other, api.ErrForm)
			case n/16*4 > len(good):
				refuse(sealed(tuple, other), api.ErrShort)
				refuse(other, api.ErrShort)
			case n/16*4 != 24:
				refuse(other, api.ErrSum)
			}
		}
		refuse(withWord(good, 16, word(good, 16)^1), api.ErrSum)
		refuse(sealed(tuple, good)+"x", api.ErrSum)
		refuse(withByte(rawSegment(tuple, 2, "\x02\x00\x00\x00", ""), 4, 1), api.ErrSum)
		refuse(rawSegment(tuple, 2, "\x02\x00\x00\x00", ""), api.ErrForm)
		other := tuple
		other.Src.Lo++
		refuse(rawSegment(other, 2, "", ""), api.ErrSum)
	}
}

// P11.1: all numbers of a segment that its description does not name may have
// any value.
func TestParseOther(t *testing.T) {
	for _, tuple := range ordinary(tcpProto) {
		good := rawSegment(tuple, api.Ack, stampHead+"\x00\x00\x00\x05\x00\x00\x00\x06", "payload")
		want := api.Packet{Tuple: tuple, Flags: api.Ack, Stamped: true, Val: 5, Echo: 6}
		for _, at := range []int{4, 6, 8, 10, 14, 18} {
			for _, n := range []int{0, 1, 0x1234, 0x8000, 65535} {
				s := rawPacket(tuple, sealed(tuple, withWord(good, at, n)))
				want.Size = len(s)
				isParsed(t, s, want)
			}
		}
	}
}

// P11.1: a header of version 4 may have any Class, Mark and TTL, and Options;
// one of version 6 any Class, Label and Hop.
func TestParseHeads(t *testing.T) {
	for tuple, body := range bodies() {
		s := rawPacket(tuple, body)
		want := isTold(t, s).p
		if tuple.Src.V6 {
			for n := range 256 {
				isParsed(t, withByte(s, 7, n), want)
				isParsed(t, withByte(withByte(s, 2, n), 3, n), want)
				isParsed(t, withByte(withByte(s, 0, 96+n/16), 1, n), want)
			}
			continue
		}
		for n := range 256 {
			isParsed(t, resummed(withByte(s, 8, n)), want)
			isParsed(t, resummed(withByte(s, 1, n)), want)
			isParsed(t, resummed(withWord(s, 4, n*257)), want)
		}
		isParsed(t, resummed(withByte(s, 6, 0)), want)
		for n := 4; n <= 40; n += 4 {
			longer := optioned(tuple, strings.Repeat("\x07", n), body)
			want.Size = len(longer)
			isParsed(t, longer, want)
			isRefused(t, longer+"x", api.ErrLong)
			if at, _, e := packet.Where(longer); at != 20+n || e != api.OK {
				t.Errorf("Where with %d bytes of Options = %d, %d", n, at, e)
			}
		}
	}
}

// P11.1: the errors of datagrams are those of udp.Get, and bytes behind the
// length are ErrLong after them.
func TestParseDatagram(t *testing.T) {
	for _, tuple := range ordinary(udpProto) {
		good := rawDatagram(tuple, "@abcdefghpayload")
		refuse := func(body string, want api.Errno) {
			t.Helper()
			isRefused(t, rawPacket(tuple, body), want)
		}
		for n := range 8 {
			refuse(strings.Repeat("\x00", n), api.ErrShort)
			refuse(good[:n], api.ErrShort)
			refuse(sealed(tuple, withWord(good, 4, n)), api.ErrForm)
		}
		for _, n := range []int{len(good) + 1, 9000, 65535} {
			refuse(withWord(good, 4, n), api.ErrShort)
			refuse(withWord(withWord(good, 4, n), 6, 0), api.ErrShort)
		}
		for _, more := range []string{"\x00", "x", "\x00\x00", "more"} {
			refuse(good+more, api.ErrLong)
			refuse(withWord(good, 6, word(good, 6)^1)+more, api.ErrSum)
		}
		refuse(withWord(good, 6, word(good, 6)^1), api.ErrSum)
		refuse(rawDatagram(tuple, "")+good, api.ErrLong)
		other := tuple
		other.Dst.Lo++
		refuse(rawDatagram(other, "payload"), api.ErrSum)
	}
}

// P11.1: a datagram without a checksum is one of version 4 only.
func TestParseNoSum(t *testing.T) {
	four, six := ordinary(udpProto)[0], ordinary(udpProto)[1]
	s := rawPacket(four, withWord(rawDatagram(four, "@abcdefgh"), 6, 0))
	isParsed(t, s, api.Packet{Tuple: four, CID: "abcdefgh", Size: len(s)})
	isRefused(t, rawPacket(four, withWord(rawDatagram(four, "@abcdefgh"), 6, 0)+"x"), api.ErrLong)
	isRefused(t, rawPacket(six, withWord(rawDatagram(six, "@abcdefgh"), 6, 0)), api.ErrSum)
}

// P11.3: Parse returns the tuple that a segment or datagram was built for.
func TestRoundTrip(t *testing.T) {
	drawn := source(1)
	for range 5000 {
		tuple, flags, options, payload := drawn.tuple(tcpProto), drawn.number(256), drawn.options(), drawn.bytes(drawn.number(50))
		s, e := packet.Segment(tuple, flags, options, payload)
		isBuilt(t, "Segment", s, e, rawPacket(tuple, rawSegment(tuple, flags, options, payload)))
		if p := isTold(t, s).p; p.Tuple != tuple || p.Flags != flags || p.Size != len(s) {
			t.Errorf("Segment for %+v and %d is parsed as %#v", tuple, flags, p)
		}
		tuple, payload = drawn.tuple(udpProto), drawn.name()
		s, e = packet.Datagram(tuple, payload)
		isBuilt(t, "Datagram", s, e, rawPacket(tuple, rawDatagram(tuple, payload)))
		if p := isTold(t, s).p; p.Tuple != tuple || p.Size != len(s) {
			t.Errorf("Datagram for %+v is parsed as %#v", tuple, p)
		}
	}
}

// P11.4: a segment with one bit flipped is refused, but for the bytes that the
// chapter names, whichever bit it is.
func TestFlippedBit(t *testing.T) {
	drawn := source(2)
	all := tuples(tcpProto)
	for range 200 {
		all = append(all, drawn.tuple(tcpProto))
	}
	for _, tuple := range all {
		s, _ := packet.Segment(tuple, drawn.number(256), drawn.options(), drawn.bytes(drawn.number(30)))
		for bit := range len(s) * 8 {
			at := bit / 8
			other := flipped(s, bit)
			want := isTold(t, other).e
			free := at == 0 || tuple.Src.V6 && (at <= 3 || at == 7)
			if _, e := packet.Parse(other); !free && e == api.OK || e != want {
				t.Fatalf("Parse of %x with the bit %d of the byte %d flipped returns %d", s, bit%8, at, e)
			}
		}
	}
}

// P11.1, P11.3: for drawn and for changed bytes, Parse and Where return the
// first error, or a description.
func TestAnyBytes(t *testing.T) {
	drawn := source(3)
	counts := map[api.Errno]int{}
	for range 100000 {
		counts[isTold(t, anyBytes(&drawn)).e]++
	}
	for _, e := range []api.Errno{api.OK, api.ErrShort, api.ErrForm, api.ErrSum, api.ErrLong, api.ErrProto, api.ErrFrag} {
		if counts[e] < 500 {
			t.Errorf("only %d rows end with %d", counts[e], e)
		}
	}
}

// anyBytes draws bytes that look like a packet, more or less.
func anyBytes(drawn *source) string {
	if drawn.number(8) == 0 {
		return drawn.bytes(drawn.number(90))
	}
	tuple := drawn.tuple(tcpProto)
	var body string
	if drawn.number(2) == 0 {
		body = rawSegment(tuple, drawn.number(256), drawn.options(), drawn.bytes(drawn.number(20)))
	} else {
		tuple.Proto = udpProto
		body = rawDatagram(tuple, drawn.name())
	}
	for range drawn.number(3) {
		body = withByte(body, drawn.number(len(body)), drawn.number(256))
	}
	if drawn.number(2) == 0 {
		body = sealed(tuple, body)
	}
	if drawn.number(8) == 0 {
		body += drawn.bytes(drawn.number(4))
	}
	if drawn.number(8) == 0 {
		tuple.Proto = drawn.number(256)
	}
	s := rawPacket(tuple, body)
	if !tuple.Src.V6 && drawn.number(3) == 0 {
		s = optioned(tuple, drawn.bytes(4*drawn.number(11)), body)
	}
	return spoiled(drawn, s, tuple.Src.V6)
}

// spoiled returns a packet that is changed, cut or followed by other bytes, or
// none of these.
func spoiled(drawn *source, s string, isSix bool) string {
	switch drawn.number(8) {
	case 0:
		return s[:drawn.number(len(s)+1)]
	case 1:
		return s + drawn.bytes(drawn.number(4))
	case 2:
		return flipped(s, drawn.number(len(s)*8))
	case 3:
		if !isSix {
			return resummed(withByte(s, 1+drawn.number(9), drawn.number(256)))
		}
		return withByte(s, drawn.number(8), drawn.number(256))
	}
	return s
}
