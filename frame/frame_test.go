package frame

import (
	"bytes"
	"encoding/binary"
	"hash/crc32"
	"math"
	"math/bits"
	"slices"
	"strings"
	"testing"

	"cambist/api"
)

const (
	lastGen = 1 << 40
	lastNo  = 1<<31 - 1
)

// letters is a payload of n bytes of which neighbours differ.
func letters(n int) []byte {
	b := make([]byte, n)
	for i := range b {
		b[i] = byte(i*i + 7*i + 1)
	}
	return b
}

// payloads are some of all lengths that matter, of bytes that a frame has too.
func payloads() [][]byte {
	l := [][]byte{nil, {}, {0}, {0xc3}, {0xff}, []byte("ab"), make([]byte, 40), bytes.Repeat([]byte{0xff}, 21)}
	for _, n := range []int{3, 4, 5, 20, 21, 22, 41, 62, 255, 256, 257, 4096, api.MaxPayload - 1, api.MaxPayload} {
		l = append(l, letters(n))
	}
	inner := laidOut(7, 8, 3, []byte("abc"))
	return append(l, inner, inner[:len(inner)-1], append(inner, inner...))
}

// laidOut is a frame by the document's words, whatever its numbers are: the
// checksum is right.
func laidOut(gen, no, size uint64, payload []byte) []byte {
	head := binary.BigEndian.AppendUint64(nil, gen)
	head = binary.BigEndian.AppendUint32(head, uint32(no))
	head = binary.BigEndian.AppendUint32(head, uint32(size))
	sum := crc32.ChecksumIEEE(slices.Concat(head, payload))
	b := append([]byte{0xc3}, head...)
	b = binary.BigEndian.AppendUint32(b, sum)
	return append(b, payload...)
}

// sealed is the frame of which no error is expected.
func sealed(t *testing.T, gen, no int, payload []byte) []byte {
	t.Helper()
	b, e := Seal(gen, no, payload)
	if e != api.OK {
		t.Fatalf("Seal(%d, %d, %d bytes): error %d", gen, no, len(payload), e)
	}
	return b
}

// checkFirst holds what First tells against what it should.
func checkFirst(t *testing.T, b []byte, gen, no int, payload []byte) {
	t.Helper()
	g, m, p, n, e := First(b)
	if g != gen || m != no || !bytes.Equal(p, payload) || n != 21+len(payload) || e != api.OK {
		t.Errorf("First: %d, %d, %d bytes, %d, error %d; not %d, %d, %d bytes", g, m, len(p), n, e, gen, no, len(payload))
	}
}

// checkNone is what First tells where no frame is.
func checkNone(t *testing.T, b []byte, what string) {
	t.Helper()
	if g, m, p, n, e := First(b); g != 0 || m != 0 || len(p) != 0 || n != 0 || e != api.ErrPack {
		t.Errorf("%s: First: %d, %d, %d bytes, %d, error %d; not ErrPack", what, g, m, len(p), n, e)
	}
}

// TestKnownSums is P5.1: the document's example, and others that are known.
func TestKnownSums(t *testing.T) {
	for _, x := range []struct {
		s   string
		sum uint32
	}{
		{"", 0},
		{"123456789", 0xcbf43926},
		{"a", 0xe8b7be43},
		{"\x00", 0xd202ef8d},
		{"\xff", 0xff000000},
		{"\xff\xff\xff\xff", 0xffffffff},
		{strings.Repeat("\x00", 32), 0x190a55ad},
		{strings.Repeat("\xff", 32), 0xff6cab0b},
		{"The quick brown fox jumps over the lazy dog", 0x414fa339},
	} {
		if sum := Sum([]byte(x.s)); sum != x.sum {
			t.Errorf("Sum(%q) = %08x, not %08x", x.s, sum, x.sum)
		}
	}
}

// wordByWord is the checksum as the document computes it, a bit at a time.
func wordByWord(b []byte) uint32 {
	register := [32]bool{} // from the least significant bit on
	for i := range register {
		register[i] = true
	}
	for i := range 8 * len(b) {
		bit := b[i/8]>>(i%8)&1 == 1
		sum := register[0] != bit
		copy(register[:31], register[1:])
		register[31] = false
		for j := range register {
			register[j] = register[j] != (sum && uint32(0xedb88320)>>j&1 == 1)
		}
	}
	n := uint32(0)
	for j, is := range register {
		if !is {
			n |= 1 << j
		}
	}
	return n
}

// TestAnySum is P5.1: all bytes up to two, and longer ones, hold against the
// document's words.
func TestAnySum(t *testing.T) {
	check := func(b []byte, want uint32) {
		if sum := Sum(b); sum != want {
			t.Errorf("Sum of %d bytes = %08x, not %08x", len(b), sum, want)
		}
	}
	for i := range 1 << 8 {
		check([]byte{byte(i)}, wordByWord([]byte{byte(i)}))
	}
	for i := range 1 << 16 {
		b := []byte{byte(i >> 8), byte(i)}
		check(b, crc32.ChecksumIEEE(b))
	}
	for _, p := range payloads() {
		check(p, wordByWord(p))
	}
	check(letters(1<<20+1), crc32.ChecksumIEEE(letters(1<<20+1)))
}

// TestSumOfParts is P5.1: it matters what the parts are together, not where
// one ends; of none it is that of nothing.
func TestSumOfParts(t *testing.T) {
	if Sum() != 0 || Sum(nil) != 0 || Sum(nil, []byte{}, nil) != 0 {
		t.Errorf("of nothing: %x, %x", Sum(), Sum(nil, []byte{}, nil))
	}
	b := letters(40)
	want := crc32.ChecksumIEEE(b)
	var each [][]byte
	for i := range b {
		each = append(each, b[i:i+1])
		for j := i; j < len(b); j++ {
			if sum := Sum(b[:i], b[i:j], nil, b[j:]); sum != want {
				t.Errorf("parted at %d and %d: %08x, not %08x", i, j, sum, want)
			}
		}
	}
	if sum := Sum(each...); sum != want {
		t.Errorf("byte by byte: %08x, not %08x", sum, want)
	}
	if Sum(b[20:], b[:20]) == want {
		t.Error("the order of the parts does not matter")
	}
	if !bytes.Equal(b, letters(40)) {
		t.Error("the parts were changed")
	}
}

// TestSealByHand is P5.2: a frame as it lies, all of whose numbers have
// bytes that differ.
func TestSealByHand(t *testing.T) {
	b := sealed(t, 0x0102030405, 0x06070809, []byte("ab"))
	want := "\xc3\x00\x00\x00\x01\x02\x03\x04\x05\x06\x07\x08\x09\x00\x00\x00\x02"
	if string(b[:17]) != want || string(b[21:]) != "ab" {
		t.Errorf("Seal: %x", b)
	}
	if sum := binary.BigEndian.Uint32(b[17:21]); sum != wordByWord([]byte(want[1:]+"ab")) {
		t.Errorf("the checksum is %08x", sum)
	}
	b = sealed(t, 0, 0, nil)
	if string(b) != "\xc3"+strings.Repeat("\x00", 16)+"\xec\xbb\x4b\x55" {
		t.Errorf("the frame of nothing: %x", b)
	}
}

// numbers are generations and numbers that Seal permits, their ends too.
func numbers() [][2]int {
	l := [][2]int{{0, 0}, {lastGen, lastNo}, {lastGen - 1, lastNo - 1}, {0xc3c3c3c3c3, 0x43c3c3c3}}
	for bit := range 40 {
		l = append(l, [2]int{1 << bit, min(1<<bit, lastNo)}, [2]int{1<<bit - 1, (1<<bit - 1) & lastNo})
	}
	return l
}

// TestSealAndFirst is P5.2 and P5.3: each frame is as the document lays it
// out, and First returns what it was made of, whatever follows.
func TestSealAndFirst(t *testing.T) {
	follows := [][]byte{nil, {0}, {0xc3}, []byte("more"), laidOut(1, 2, 1, []byte("x")), letters(100)}
	for _, p := range payloads() {
		for i, x := range numbers() {
			if i > 3 && len(p) > 100 {
				break
			}
			b := sealed(t, x[0], x[1], p)
			if !bytes.Equal(b, laidOut(uint64(x[0]), uint64(x[1]), uint64(len(p)), p)) {
				t.Errorf("Seal(%d, %d, %d bytes): begins with %x", x[0], x[1], len(p), b[:21])
			}
			for _, f := range follows {
				checkFirst(t, slices.Concat(b, f), x[0], x[1], p)
			}
		}
	}
}

// TestSealRefuses is P5.2: its errors at their edges, the first one first.
func TestSealRefuses(t *testing.T) {
	fits, long, longer := letters(api.MaxPayload), letters(api.MaxPayload+1), letters(3*api.MaxPayload)
	for _, x := range []struct {
		gen, no int
		payload []byte
		e       api.Errno
	}{
		{-1, 0, nil, api.ErrArg},
		{lastGen + 1, 0, nil, api.ErrArg},
		{math.MinInt, 0, nil, api.ErrArg},
		{math.MaxInt, 0, nil, api.ErrArg},
		{0, -1, nil, api.ErrArg},
		{0, lastNo + 1, nil, api.ErrArg},
		{0, 1 << 32, nil, api.ErrArg},
		{0, math.MinInt, nil, api.ErrArg},
		{0, math.MaxInt, nil, api.ErrArg},
		{-1, -1, fits, api.ErrArg},
		{-1, 0, long, api.ErrArg},
		{lastGen + 1, 0, long, api.ErrArg},
		{0, -1, long, api.ErrArg},
		{0, lastNo + 1, long, api.ErrArg},
		{0, 0, long, api.ErrLong},
		{lastGen, lastNo, long, api.ErrLong},
		{1, 1, longer, api.ErrLong},
		{lastGen, lastNo, fits, api.OK},
	} {
		b, e := Seal(x.gen, x.no, x.payload)
		if e != x.e || e != api.OK && len(b) != 0 {
			t.Errorf("Seal(%d, %d, %d bytes): %d bytes, error %d, not %d", x.gen, x.no, len(x.payload), len(b), e, x.e)
		}
	}
}

// TestFirstRefusesNumbers is P5.2: numbers beyond their ends are no frame's,
// though the checksum is right and all bytes are there.
func TestFirstRefusesNumbers(t *testing.T) {
	for _, gen := range []uint64{lastGen + 1, lastGen + 2, 1 << 41, 1<<41 - 1, 1 << 62, 1 << 63, 1<<63 + 1, 1<<64 - 1} {
		checkNone(t, laidOut(gen, 0, 1, []byte("a")), "a great generation")
	}
	for _, no := range []uint64{lastNo + 1, lastNo + 2, 1<<32 - 1} {
		checkNone(t, laidOut(0, no, 1, []byte("a")), "a great number")
	}
	for _, n := range []int{api.MaxPayload + 1, api.MaxPayload + 2, 2 * api.MaxPayload} {
		b := laidOut(1, 2, uint64(n), letters(n))
		checkNone(t, b, "a long payload")
		checkNone(t, b[:21], "a long payload that is not there")
	}
	for _, size := range []uint64{1 << 24, 1<<31 - 1, 1 << 31, 1<<32 - 1, 1<<32 - 21} {
		checkNone(t, laidOut(1, 2, size, letters(100)), "a great length")
	}
	checkFirst(t, laidOut(lastGen, lastNo, api.MaxPayload, letters(api.MaxPayload)), lastGen, lastNo, letters(api.MaxPayload))
}

// TestFirstRefusesSizes is P5.2: the checksum is that of as many bytes as the
// length tells, not of those that are there.
func TestFirstRefusesSizes(t *testing.T) {
	for size := range uint64(9) {
		b := laidOut(1, 2, size, []byte("abcd"))
		if size == 4 {
			checkFirst(t, b, 1, 2, []byte("abcd"))
		} else {
			checkNone(t, b, "another length")
		}
	}
}

// TestFirstRefusesBegins is P5.2: of all bytes only one begins a frame, and a
// frame is not looked for further on.
func TestFirstRefusesBegins(t *testing.T) {
	b := sealed(t, 1, 2, []byte("ab"))
	for c := range 1 << 8 {
		if c == 0xc3 {
			continue
		}
		b[0] = byte(c)
		checkNone(t, b, "another first byte")
	}
	b[0] = 0xc3
	checkFirst(t, b, 1, 2, []byte("ab"))
	checkNone(t, append([]byte{0}, b...), "a frame further on")
	checkNone(t, append([]byte{0xc3}, b...), "a frame further on")
	checkNone(t, b[1:], "a frame without its first byte")
	checkNone(t, nil, "nothing")
	checkNone(t, make([]byte, 21), "noughts")
	checkNone(t, append([]byte{0xc3}, make([]byte, 30)...), "noughts behind the first byte")
}

// TestNoPrefixIsAFrame is P5.3: none but the whole, also where the bytes that
// are cut off lie in the spare capacity.
func TestNoPrefixIsAFrame(t *testing.T) {
	for _, p := range payloads() {
		b := sealed(t, 3, 4, p)
		for k := range b {
			if k < 400 || k > len(b)-3 {
				checkNone(t, b[:k], "a prefix")
				checkNone(t, slices.Clone(b[:k]), "a prefix alone")
			}
		}
		checkFirst(t, b, 3, 4, p)
	}
}

// TestAnyBitMatters is P5.3: no bit of a frame may change alone, none of its
// checksum either.
func TestAnyBitMatters(t *testing.T) {
	for _, p := range [][]byte{nil, {0}, []byte("abc"), letters(62)} {
		b := sealed(t, 5, 6, p)
		for bit := range 8 * len(b) {
			b[bit/8] ^= 1 << (bit % 8)
			checkNone(t, b, "a bit changed")
			b[bit/8] ^= 1 << (bit % 8)
		}
		checkFirst(t, b, 5, 6, p)
	}
}

// TestBurstsAreDetected is P5.3: some changes of many bits, within the
// generation and the number or within the payload.
func TestBurstsAreDetected(t *testing.T) {
	patterns := []uint32{1<<32 - 1, 1<<31 + 1, 0xedb88320, 0xdb710641, 0x04c11db7, 0x82608edb, 0xaaaaaaaa, 0x00ffff00}
	for seed := uint32(1); len(patterns) < 100; seed = seed*1664525 + 1013904223 {
		patterns = append(patterns, seed)
	}
	p := letters(30)
	b := sealed(t, 0x8070605040, 0x30201000, p)
	for _, part := range [][2]int{{1, 13}, {21, len(b)}} {
		for at := 8 * part[0]; at+32 <= 8*part[1]; at++ {
			for _, x := range patterns {
				flip(b, at, x)
				checkNone(t, b, "a burst")
				flip(b, at, x)
			}
		}
	}
	checkFirst(t, b, 0x8070605040, 0x30201000, p)
}

// flip changes the bits of x in b, from a bit on, the least significant one of
// each byte first.
func flip(b []byte, at int, x uint32) {
	for i := range 32 {
		if x>>i&1 == 1 {
			b[(at+i)/8] ^= 1 << ((at + i) % 8)
		}
	}
}

// TestEveryBurstIsDetected is P5.3 for all changes at once: what a change
// does to the checksum is the XOR of what its bits do one by one. As long as
// these are independent in each 32 consecutive bits, no change there but that
// of nothing leaves the checksum as it was.
func TestEveryBurstIsDetected(t *testing.T) {
	for _, n := range []int{1, 2, 3, 4, 5, 9, 100} {
		b := sealed(t, 1, 2, letters(n))
		checkIndependent(t, b, 1, 13)
		checkIndependent(t, b, 21, len(b))
	}
	b := sealed(t, lastGen, lastNo, letters(api.MaxPayload))
	checkIndependent(t, b, 1, 5)
	checkIndependent(t, b, len(b)-5, len(b))
	checkIndependent(t, b, 21, 26)
}

// checkIndependent holds it for all 32 consecutive bits of b from a byte on,
// up to another one.
func checkIndependent(t *testing.T, b []byte, from, to int) {
	t.Helper()
	sum := func() uint32 { return Sum(b[1:17], b[21:]) }
	whole := sum()
	var changes []uint32
	for at := 8 * from; at < 8*to; at++ {
		flipBit := byte(1) << (at % 8)
		b[at/8] ^= flipBit
		changes = append(changes, sum()^whole)
		b[at/8] ^= flipBit
	}
	width := min(32, len(changes))
	for at := 0; at+width <= len(changes); at++ {
		if r := rank(changes[at : at+width]); r != width {
			t.Errorf("%d bytes, from bit %d on: the rank is %d, not %d", len(b), 8*from+at, r, width)
		}
	}
}

// rank is how many of the numbers are independent by XOR.
func rank(l []uint32) int {
	var basis [32]uint32 // by the highest bit
	n := 0
	for _, x := range l {
		for x != 0 {
			top := bits.Len32(x) - 1
			if basis[top] == 0 {
				basis[top] = x
				n++
				break
			}
			x ^= basis[top]
		}
	}
	return n
}

// TestFramesOneBehindTheOther is P5.3: n tells where the next one begins.
func TestFramesOneBehindTheOther(t *testing.T) {
	var b []byte
	for no, p := range payloads() {
		b = append(b, sealed(t, 9, no, p)...)
	}
	for no, p := range payloads() {
		checkFirst(t, b, 9, no, p)
		_, _, _, n, _ := First(b)
		b = b[n:]
	}
	if len(b) != 0 {
		t.Errorf("%d bytes are left", len(b))
	}
	checkNone(t, b, "the end")
}

// TestMemoryOfItsOwn is P5.2: arguments stay as they are, spare capacity
// included, and results share memory with nothing.
func TestMemoryOfItsOwn(t *testing.T) {
	whole := []byte("abcdefgh")
	first, second := sealed(t, 1, 2, whole[:2]), sealed(t, 1, 2, whole[:2])
	if string(whole) != "abcdefgh" {
		t.Errorf("the payload is %q afterwards", whole)
	}
	clear(first[:cap(first)])
	checkFirst(t, second, 1, 2, []byte("ab"))
	if string(whole) != "abcdefgh" {
		t.Errorf("the frame shares memory with the payload: %q", whole)
	}
	b := append(sealed(t, 1, 2, []byte("ab")), "behind"...)
	kept := slices.Clone(b)
	_, _, p, _, _ := First(b)
	_, _, q, _, _ := First(b)
	clear(p[:cap(p)])
	if !bytes.Equal(b, kept) || string(q) != "ab" {
		t.Errorf("payloads share memory: %x, %q", b, q)
	}
	clear(b)
	if string(q) != "ab" {
		t.Errorf("the payload shares memory with the frame: %q", q)
	}
}
