package journal

import (
	"bytes"
	"encoding/binary"
	"fmt"
	"hash/crc32"
	"math/rand/v2"
	"slices"
	"strings"
	"testing"

	"cambist/api"
	"cambist/disk"
	"cambist/frame"
)

// letters are n bytes of which neighbours differ.
func letters(n int) []byte {
	b := make([]byte, n)
	for i := range b {
		b[i] = byte(i*i + 7*i + 1)
	}
	return b
}

// made is a new disk, of which no error is expected.
func made(t *testing.T, blocks int) *disk.Disk {
	t.Helper()
	d, e := disk.New(blocks)
	checkError(t, "New", e, api.OK)
	return d
}

// opened is the log of a disk, of which no error is expected.
func opened(t *testing.T, d *disk.Disk) *Log {
	t.Helper()
	l, e := Open(d)
	if l == nil || e != api.OK {
		t.Fatalf("Open: %v, error %d", l, e)
	}
	return l
}

// begun is the log of a new disk, with a snapshot and records, synced.
func begun(t *testing.T, blocks int, snap string, recs ...string) (*disk.Disk, *Log) {
	t.Helper()
	d := made(t, blocks)
	l := opened(t, d)
	checkError(t, "Begin", l.Begin([]byte(snap)), api.OK)
	checkError(t, "Append", l.Append(texts(recs...)...), api.OK)
	checkError(t, "Sync", l.Sync(), api.OK)
	return d, l
}

// texts are the bytes of some texts.
func texts(l ...string) [][]byte {
	var out [][]byte
	for _, s := range l {
		out = append(out, []byte(s))
	}
	return out
}

// checkError holds an error against what it should be.
func checkError(t *testing.T, what string, e, want api.Errno) {
	t.Helper()
	if e != want {
		t.Fatalf("%s: error %d, not %d", what, e, want)
	}
}

// checkLog holds what a log tells against what it should.
func checkLog(t *testing.T, what string, l *Log, want told) {
	t.Helper()
	if got := tell(l); !got.is(want) {
		t.Fatalf("%s: %v, not %v", what, got, want)
	}
}

// told is what a log tells.
type told struct {
	gen  int
	snap []byte
	recs [][]byte
}

// tell is what a log tells.
func tell(l *Log) told { return told{l.Gen(), l.Snap(), l.Recs()} }

// is reports whether both tell the same.
func (a told) is(b told) bool {
	return a.gen == b.gen && bytes.Equal(a.snap, b.snap) && slices.EqualFunc(a.recs, b.recs, bytes.Equal)
}

// text is a log that tells texts.
func text(gen int, snap string, recs ...string) told {
	return told{gen, []byte(snap), texts(recs...)}
}

// content is each block of a disk.
func content(t *testing.T, d *disk.Disk) []block {
	t.Helper()
	out := make([]block, d.Blocks())
	for at := range out {
		b, e := d.Read(at)
		checkError(t, "Read", e, api.OK)
		out[at] = b
	}
	return out
}

// holding is a disk of these blocks, synced.
func holding(t *testing.T, blocks []block) *disk.Disk {
	t.Helper()
	d := made(t, len(blocks))
	for at, b := range blocks {
		checkError(t, "Write", d.Write(at, b), api.OK)
	}
	checkError(t, "Sync", d.Sync(), api.OK)
	return d
}

// laidOut is a frame by the document's words, whatever its numbers are: the
// checksum is right.
func laidOut(gen, no, length int, payload []byte) []byte {
	head := binary.BigEndian.AppendUint64(nil, uint64(gen))
	head = binary.BigEndian.AppendUint32(head, uint32(no))
	head = binary.BigEndian.AppendUint32(head, uint32(length))
	sum := crc32.ChecksumIEEE(slices.Concat(head, payload))
	return slices.Concat([]byte{0xc3}, binary.BigEndian.AppendUint32(head, sum), payload)
}

// cut is bytes in blocks, between marks of a generation.
func cut(gen int, b []byte) []block {
	var out []block
	for part := range slices.Chunk(b, 62) {
		x := block{0: byte(gen%255 + 1), 63: byte(gen%255 + 1)}
		copy(x[1:63], part)
		out = append(out, x)
	}
	return out
}

// rowOf is the row of a frame.
func rowOf(gen, no int, payload []byte) []block {
	return cut(gen, laidOut(gen, no, len(payload), payload))
}

// rows are those of a snapshot and of the records that follow it.
func rows(gen int, snap string, recs ...string) []block {
	l := rowOf(gen, 0, []byte(snap))
	for k, r := range recs {
		l = append(l, rowOf(gen, k+1, []byte(r))...)
	}
	return l
}

// diskOf are the blocks of a disk with these halves, each filled up with
// zeros.
func diskOf(size int, first, second []block) []block {
	l := make([]block, 2*size)
	copy(l[:size], first)
	copy(l[size:], second)
	return l
}

// byWords is what the log of these blocks tells by the document's words.
func byWords(blocks []block) told {
	n := len(blocks) / 2
	a, b := halfByWords(blocks[:n]), halfByWords(blocks[n:2*n])
	if b.gen > a.gen {
		return b
	}
	return a
}

// halfByWords is what a half tells.
func halfByWords(half []block) told {
	gen, no, payload, at := standsAt(half, 0)
	if at == 0 || gen < 1 || no != 0 {
		return told{}
	}
	out := told{gen: gen, snap: payload}
	for {
		g, no, payload, n := standsAt(half, at)
		if n == 0 || g != gen || no != len(out.recs)+1 {
			return out
		}
		out.recs = append(out.recs, payload)
		at += n
	}
}

// standsAt is the row at a block of a half, and the number of its blocks, 0 if
// none stands there.
func standsAt(half []block, at int) (gen, no int, payload []byte, n int) {
	if at == len(half) {
		return 0, 0, nil, 0
	}
	b := half[at][1:63]
	g, m, size := binary.BigEndian.Uint64(b[1:]), binary.BigEndian.Uint32(b[9:]), binary.BigEndian.Uint32(b[13:])
	if b[0] != 0xc3 || g > 1<<40 || m > 1<<31-1 || size > 1<<16 {
		return 0, 0, nil, 0
	}
	for ; n*62 < int(size)+21; n++ {
		if at+n == len(half) || half[at+n][0] != byte(1+g%255) || half[at+n][63] != byte(1+g%255) {
			return 0, 0, nil, 0
		}
	}
	var all []byte
	for _, x := range half[at : at+n] {
		all = append(all, x[1:63]...)
	}
	gen, no, payload, _, e := frame.First(all)
	if e != api.OK {
		return 0, 0, nil, 0
	}
	return gen, no, payload, n
}

// TestOpenErrors is P7.1: ErrOff comes ahead of ErrArg.
func TestOpenErrors(t *testing.T) {
	for blocks := 1; blocks <= 9; blocks++ {
		d := made(t, blocks)
		want := api.OK
		if blocks < 4 {
			want = api.ErrArg
		}
		if l, e := Open(d); e != want || (l == nil) != (want != api.OK) {
			t.Errorf("Open of %d blocks: %v, error %d", blocks, l, e)
		}
		d.Crash()
		if l, e := Open(d); l != nil || e != api.ErrOff {
			t.Errorf("Open of %d blocks with the power off: %v, error %d", blocks, l, e)
		}
	}
}

// TestDocumentsExample is P7.1 to P7.3: the chapter's example.
func TestDocumentsExample(t *testing.T) {
	d := made(t, 8)
	l := opened(t, d)
	checkLog(t, "a new disk", l, told{})
	checkError(t, "Begin", l.Begin([]byte("s")), api.OK)
	checkError(t, "Append", l.Append([]byte("a"), []byte("b")), api.OK)
	checkError(t, "Sync", l.Sync(), api.OK)
	checkLog(t, "opened", opened(t, d), text(1, "s", "a", "b"))
	f := laidOut(1, 0, 1, []byte("s"))
	want := block(slices.Concat([]byte{2}, f, make([]byte, 40), []byte{2}))
	if len(f) != 22 || content(t, d)[0] != want {
		t.Errorf("the first block is %x", content(t, d)[0])
	}
}

// TestWhichHalf is P7.1 and P7.2: the greater generation counts, the first
// half if both are equal, the second one if there is none; the other half is
// the one that Begin takes.
func TestWhichHalf(t *testing.T) {
	for _, x := range []struct{ a, b, want int }{
		{0, 0, 2}, {1, 0, 1}, {0, 1, 2}, {1, 1, 1}, {1, 2, 2}, {2, 1, 1}, {7, 7, 1}, {1, 256, 2}, {256, 1, 1},
		{1 << 39, 1<<39 + 1, 2}, {1<<40 - 1, 1, 1}, {1<<40 - 1, 1<<40 - 2, 1}, {1<<40 - 1, 1<<40 - 1, 1},
	} {
		var a, b []block
		if x.a > 0 {
			a = rows(x.a, "first", "a")
		}
		if x.b > 0 {
			b = rows(x.b, "second", "b", "c")
		}
		before := diskOf(4, a, b)
		d := holding(t, before)
		l := opened(t, d)
		switch {
		case x.a+x.b == 0:
			checkLog(t, "none", l, told{})
		case x.want == 1:
			checkLog(t, "the first", l, text(x.a, "first", "a"))
		default:
			checkLog(t, "the second", l, text(x.b, "second", "b", "c"))
		}
		checkError(t, "Begin", l.Begin([]byte("new")), api.OK)
		gen := max(x.a, x.b) + 1
		want := diskOf(4, before[:4], rows(gen, "new"))
		if x.want == 2 {
			want = diskOf(4, rows(gen, "new"), before[4:])
		}
		if got := content(t, d); !slices.Equal(got, want) {
			t.Errorf("%v: the disk is %x, not %x", x, got, want)
		}
	}
}

// TestNoGeneration is P7.1: a half has one only by a row of one from 1 on,
// with the number 0, at its first block.
func TestNoGeneration(t *testing.T) {
	good := rows(3, "good", "r")
	for what, bad := range map[string][]block{
		"generation 0": rows(0, "s", "r"),
		"number 1":     append(rowOf(9, 1, []byte("s")), rowOf(9, 2, nil)...),
		"later":        append([]block{{}}, rows(9, "s")...),
		"other mark":   cut(8, laidOut(9, 0, 1, []byte("s"))),
		"other sum":    cut(9, append(laidOut(9, 0, 1, []byte("s"))[:21], 'z')),
		"too great":    rows(1<<40+1, "s"),
		"no such":      rowOf(9, 1<<31, nil),
		"negative":     cut(9, laidOut(-1, 0, 0, nil)),
	} {
		checkLog(t, what, opened(t, holding(t, diskOf(5, bad, good))), text(3, "good", "r"))
		checkLog(t, what, opened(t, holding(t, diskOf(5, good, bad))), text(3, "good", "r"))
		d := holding(t, diskOf(5, nil, bad))
		l := opened(t, d)
		checkLog(t, what, l, told{})
		checkError(t, "Begin", l.Begin([]byte("n")), api.OK)
		if got := content(t, d); !slices.Equal(got, diskOf(5, rows(1, "n"), bad)) {
			t.Errorf("%s: begun in the wrong half: %x", what, got)
		}
	}
}

// TestWhichRecords is P7.1: the numbers 1, 2, .. directly one after the other,
// all of the generation of the snapshot.
func TestWhichRecords(t *testing.T) {
	long := letters(200)
	row := func(gen, no int) []block { return rowOf(gen, no, []byte{byte('a' + no)}) }
	for _, x := range []struct {
		what string
		rest [][]block
		want int
	}{
		{"none", nil, 0},
		{"in order", [][]block{row(5, 1), row(5, 2), row(5, 3)}, 3},
		{"a gap", [][]block{row(5, 1), row(5, 3)}, 1},
		{"from 2 on", [][]block{row(5, 2), row(5, 3)}, 0},
		{"twice", [][]block{row(5, 1), row(5, 1), row(5, 2)}, 1},
		{"number 0 again", [][]block{row(5, 0), row(5, 1)}, 0},
		{"a hole", [][]block{row(5, 1), {{}}, row(5, 2)}, 1},
		{"an older one", [][]block{row(5, 1), row(4, 2)}, 1},
		{"a newer one", [][]block{row(5, 1), row(6, 2)}, 1},
		{"one of the same mark", [][]block{row(5, 1), row(260, 2)}, 1},
		{"other marks", [][]block{row(5, 1), cut(6, laidOut(5, 2, 0, nil))}, 1},
		{"behind a long one", [][]block{rowOf(5, 1, long), row(5, 2)}, 2},
		{"half a long one", [][]block{rowOf(5, 1, long)[:3], row(5, 2)}, 0},
		{"a row in a row", [][]block{row(5, 1), rowOf(5, 2, slices.Concat(make([]byte, 41), laidOut(5, 3, 0, nil)))}, 2},
	} {
		half := slices.Concat(rowOf(5, 0, []byte("s")), slices.Concat(x.rest...))
		got := tell(opened(t, holding(t, diskOf(8, nil, half))))
		if len(got.recs) != x.want || !got.is(halfByWords(half)) {
			t.Errorf("%s: %v", x.what, got)
		}
	}
}

// TestFullHalf is P7.1: records up to a half's last block; a row does not
// reach beyond its half, and not into the block that no half has.
func TestFullHalf(t *testing.T) {
	for _, extra := range []int{0, 1} {
		full := rows(7, "s", "a", string(letters(41)), string(letters(103)))
		want := text(7, "s", "a", string(letters(41)), string(letters(103)))
		for _, blocks := range [][]block{diskOf(5, full, nil), diskOf(5, nil, full)} {
			blocks = append(blocks, make([]block, extra)...)
			checkLog(t, "a full half", opened(t, holding(t, blocks)), want)
		}
		more := rows(7, "s", "a", string(letters(41)), string(letters(104)))
		want.recs = want.recs[:2]
		blocks := append(make([]block, 5), more...)
		checkLog(t, "beyond the disk", opened(t, holding(t, blocks)), want)
		blocks = append(more, make([]block, 4+extra)...)
		checkLog(t, "beyond the first half", opened(t, holding(t, blocks)), want)
		snap := rows(8, string(letters(104)))
		for _, at := range []int{0, 2} {
			blocks = append(make([]block, at), append(snap, make([]block, 2+extra-at)...)...)
			checkLog(t, "a snapshot beyond its half", opened(t, holding(t, blocks[:4+extra])), told{})
		}
	}
}

// TestAnyByteTurned is P7.1: wherever a byte of a half is another one, what
// stands is what the document's words say; bytes behind a frame do not matter.
func TestAnyByteTurned(t *testing.T) {
	half := rows(300, "snap", string(letters(60)), "", "last")
	half = append(half, rowOf(301, 4, nil)...)
	intact := halfByWords(half)
	if len(intact.recs) != 3 {
		t.Fatal(intact)
	}
	for at := range half {
		for i := range half[at] {
			for _, turn := range []byte{1, 0x80, 0xff, half[at][i]} {
				turned := slices.Clone(half)
				turned[at][i] ^= turn
				got := tell(opened(t, holding(t, diskOf(6, turned, nil))))
				if !got.is(halfByWords(turned)) {
					t.Errorf("block %d, byte %d: %v", at, i, got)
				}
				isMark := i == 0 || i == 63
				if isMark && turn != 0 && at < 5 && got.is(intact) {
					t.Errorf("block %d, byte %d: the mark does not matter", at, i)
				}
			}
		}
	}
	half[0][30], half[4][62] = 9, 9
	checkLog(t, "bytes behind a frame", opened(t, holding(t, diskOf(6, half, nil))), intact)
}

// TestAgainstTheWords is P7.1: disks of rows that are nearly right, held
// against the document's words.
func TestAgainstTheWords(t *testing.T) {
	kinds := map[int]bool{}
	for seed := range uint64(4000) {
		r := rand.New(rand.NewPCG(seed, 7))
		var blocks []block
		size := 2 + r.IntN(10)
		for range 2 {
			blocks = append(blocks, nearlyRight(r, size)...)
		}
		got := tell(opened(t, holding(t, blocks)))
		if !got.is(byWords(blocks)) {
			t.Fatalf("seed %d: %v, not %v", seed, got, byWords(blocks))
		}
		kinds[len(got.recs)-min(1, got.gen)] = true
	}
	if !kinds[0] || !kinds[-1] || !kinds[2] || !kinds[4] {
		t.Errorf("the disks are too much alike: %v", kinds)
	}
}

// nearlyRight is a half that chance has laid.
func nearlyRight(r *rand.Rand, size int) []block {
	var half []block
	gen := r.IntN(3)
	for no := 0; len(half) < size; no++ {
		g, m := gen, no
		switch r.IntN(16) {
		case 0:
			g += 255
		case 1:
			m = r.IntN(3)
		}
		half = append(half, cut(gen, laidOut(g, m, 0, nil))...)
		if n := r.IntN(150); r.IntN(3) == 0 {
			half = append(half[:len(half)-1], rowOf(g, m, letters(n))...)
		}
	}
	if half = half[:size]; r.IntN(3) == 0 {
		half[r.IntN(size)][r.IntN(64)] ^= byte(r.IntN(3))
	}
	return half
}

// TestGreatestPayload is P7.1 to P7.3: MaxPayload bytes stand, as a snapshot
// and as a record; one more does not, though the checksum is right.
func TestGreatestPayload(t *testing.T) {
	const each = (21 + api.MaxPayload + 61) / 62
	big := letters(api.MaxPayload)
	d := made(t, 2*(2*each+1))
	l := opened(t, d)
	checkError(t, "Begin", l.Begin(big), api.OK)
	checkError(t, "Append", l.Append(big), api.OK)
	if d.Open() != each {
		t.Errorf("%d open writes", d.Open())
	}
	checkError(t, "too much", l.Append(big), api.ErrFull)
	checkError(t, "the last block", l.Append(letters(41)), api.OK)
	want := told{1, big, [][]byte{big, letters(41)}}
	checkLog(t, "big", l, want)
	checkLog(t, "opened", opened(t, d), want)

	for _, size := range []int{api.MaxPayload + 1, 1<<31 - 1, 1 << 31, 1<<32 - 1} {
		long := cut(1, laidOut(1, 0, size, letters(api.MaxPayload+1)))
		checkLog(t, "too long", opened(t, holding(t, diskOf(each+1, long, nil))), told{})
	}
	d = made(t, 2*each)
	checkError(t, "a whole half", opened(t, d).Begin(big), api.OK)
	checkLog(t, "a whole half", opened(t, d), told{1, big, nil})
}

// TestBeginErrors is P7.2: the errors in their order, and nothing is changed.
func TestBeginErrors(t *testing.T) {
	for _, x := range []struct {
		gen, blocks, length int
		off                 bool
		want                api.Errno
	}{
		{1 << 40, 8, api.MaxPayload + 1, true, api.ErrBig},
		{1 << 40, 8, 1, false, api.ErrBig},
		{1<<40 - 1, 8, api.MaxPayload + 1, true, api.ErrLong},
		{1, 8, api.MaxPayload + 1, false, api.ErrLong},
		{1, 8, api.MaxPayload, true, api.ErrFull},
		{1, 8, 4*62 - 20, false, api.ErrFull},
		{1, 9, 4*62 - 20, false, api.ErrFull},
		{1, 8, 4*62 - 21, true, api.ErrOff},
		{1, 8, 0, true, api.ErrOff},
		{1, 4, 2*62 - 21, true, api.ErrOff},
	} {
		blocks := append(diskOf(x.blocks/2, rows(x.gen, "s", "r"), nil), make([]block, x.blocks%2)...)
		d := holding(t, blocks)
		l := opened(t, d)
		if x.off {
			d.Crash()
		}
		checkError(t, "Begin", l.Begin(letters(x.length)), x.want)
		checkLog(t, "after an error", l, text(x.gen, "s", "r"))
		checkError(t, "Append after an error", l.Append(), api.ErrState)
		d.Start()
		if got := content(t, d); !slices.Equal(got, blocks) || d.Open() != 0 {
			t.Errorf("%v: the disk has changed: %x", x, got)
		}
	}
	d := holding(t, diskOf(4, nil, rows(1<<40-1, "s")))
	l := opened(t, d)
	checkError(t, "the last generation", l.Begin([]byte("t")), api.OK)
	checkLog(t, "the last generation", opened(t, d), text(1<<40, "t"))
	checkError(t, "Begin", l.Begin(nil), api.ErrBig)
	checkError(t, "Append", l.Append([]byte("r")), api.OK)
	checkLog(t, "the last generation", opened(t, d), text(1<<40, "t", "r"))
}

// TestBeginStepByStep is P7.2: each Write and Sync of it, in order, and which
// of them a crash can still take back.
func TestBeginStepByStep(t *testing.T) {
	const size = 5
	snap := letters(150)
	stale := make([]block, size)
	for at := range stale {
		stale[at] = block(bytes.Repeat([]byte{byte(at + 1)}, 64))
	}
	row := rowOf(8, 0, snap)
	for n := 1; n <= size+len(row)+3; n++ {
		for _, second := range []bool{false, true} {
			for _, keep := range []int{0, 65} {
				good := rows(7, "s", "r")
				blocks, first := diskOf(size, stale, good), 0
				if second {
					blocks, first = diskOf(size, good, stale), size
				}
				d := holding(t, blocks)
				l := opened(t, d)
				d.Arm(n)
				done := n > size+len(row)+2
				e := l.Begin(snap)
				if e != map[bool]api.Errno{true: api.OK, false: api.ErrOff}[done] {
					t.Fatalf("Begin armed with %d: error %d", n, e)
				}
				if !done {
					checkLog(t, "after an error", l, text(7, "s", "r"))
				}
				picks := slices.Repeat([]int{keep}, size+len(row))
				d.Crash(picks...)
				d.Start()
				written := min(n, size) + max(0, min(n-size-1, len(row)))
				if keep == 0 {
					written = map[bool]int{false: 0, true: size}[n > size+1]
					if done {
						written += len(row)
					}
				}
				for at := range written {
					b := block{}
					if at >= size {
						b = row[at-size]
					}
					blocks[first+at%size] = b
				}
				if got := content(t, d); !slices.Equal(got, blocks) {
					t.Errorf("armed with %d, keep %d: the disk is %x, not %x", n, keep, got, blocks)
				}
			}
		}
	}
}

// TestBeginAgain is P7.2: each generation in the half that had not the last
// one, without records, the marks from 2 to 255 and 1 and 2 again.
func TestBeginAgain(t *testing.T) {
	for _, blocks := range []int{4, 5, 13} {
		d := made(t, blocks)
		l := opened(t, d)
		for gen := 1; gen <= 520; gen++ {
			snap := letters(gen % 60)
			checkError(t, "Begin", l.Begin(snap), api.OK)
			checkLog(t, "begun", l, told{gen, snap, nil})
			if d.Open() != 0 {
				t.Fatal("not synced")
			}
			first := (gen + 1) % 2 * (blocks / 2)
			if got := content(t, d)[first:][:blocks/2]; !slices.Equal(got, diskOf(blocks/2, rows(gen, string(snap)), nil)[:blocks/2]) {
				t.Fatalf("generation %d: %x", gen, got)
			}
			if blocks > 5 {
				checkError(t, "Append", l.Append([]byte("r"), letters(gen)[:min(gen, 60)]), api.OK)
			}
			checkLog(t, "opened", opened(t, d), tell(l))
			if gen%7 == 0 {
				l = opened(t, d)
			}
		}
	}
}

// TestAppendErrors is P7.3: the errors in their order, and nothing is changed.
func TestAppendErrors(t *testing.T) {
	long := letters(api.MaxPayload + 1)
	d, l := begun(t, 9, "s", "a") // 2 of 4 blocks
	before := content(t, d)
	check := func(want api.Errno, recs ...[]byte) {
		t.Helper()
		checkError(t, "Append", l.Append(recs...), want)
		checkLog(t, "after an error", l, text(1, "s", "a"))
	}
	never := opened(t, d)
	checkError(t, "no Begin", never.Append(), api.ErrState)
	checkError(t, "no Begin", never.Append(long), api.ErrState)
	checkError(t, "no Begin", never.Append([]byte("b")), api.ErrState)
	checkError(t, "a Begin that fails", never.Begin(long), api.ErrLong)
	checkError(t, "no Begin", never.Append([]byte("b")), api.ErrState)
	for _, off := range []bool{false, true} {
		if off {
			d.Crash()
		}
		check(api.ErrLong, long)
		check(api.ErrLong, nil, nil, nil, nil, long)
		check(api.ErrLong, long[1:], long)
		check(api.ErrFull, long[1:])
		check(api.ErrFull, letters(2*62-20))
		check(api.ErrFull, nil, nil, nil)
		check(api.ErrFull, nil, letters(62-20))
		checkError(t, "no Begin", never.Append([]byte("b")), api.ErrState)
	}
	check(api.ErrOff)
	check(api.ErrOff, nil)
	check(api.ErrOff, nil, nil)
	check(api.ErrOff, letters(2*62-21))
	checkError(t, "Sync", l.Sync(), api.ErrOff)
	d.Start()
	if !slices.Equal(content(t, d), before) || d.Open() != 0 {
		t.Error("the disk has changed")
	}
}

// TestAppendFills is P7.3: the last block of a half is filled, and not one
// more, whichever half it is.
func TestAppendFills(t *testing.T) {
	for _, blocks := range []int{8, 9} {
		for gen := 1; gen <= 2; gen++ {
			for _, recs := range [][][]byte{
				{letters(3*62 - 21)}, {letters(2*62 - 21), nil}, {nil, letters(62 - 20)}, {letters(41), letters(41), letters(41)},
			} {
				d := made(t, blocks)
				l := opened(t, d)
				for range gen {
					checkError(t, "Begin", l.Begin(letters(41)), api.OK)
				}
				before := content(t, d)
				checkError(t, "Append", l.Append(recs...), api.OK)
				checkError(t, "Append of none", l.Append(), api.OK)
				checkError(t, "Append of one more", l.Append(nil), api.ErrFull)
				want := told{gen, letters(41), recs}
				checkLog(t, "filled", l, want)
				checkLog(t, "opened", opened(t, d), want)
				half := slices.Concat(rowOf(gen, 0, letters(41)))
				for k, r := range recs {
					half = append(half, rowOf(gen, k+1, r)...)
				}
				copy(before[(gen-1)*(blocks/2):], half)
				if got := content(t, d); !slices.Equal(got, before) {
					t.Errorf("generation %d: the disk is %x, not %x", gen, got, before)
				}
			}
		}
	}
}

// TestAppendStepByStep is P7.3: block after block, in order, and no Sync among
// them; the log has the records of an Append that failed neither in whole nor
// in part.
func TestAppendStepByStep(t *testing.T) {
	recs := [][]byte{letters(100), nil, letters(200), letters(41)}
	var row []block
	for k, r := range recs {
		row = append(row, rowOf(1, k+2, r)...)
	}
	for n := 1; n <= len(row)+1; n++ {
		d, l := begun(t, 30, "s", "a")
		blocks := content(t, d)
		d.Arm(n)
		e := l.Append(recs...)
		if e != map[bool]api.Errno{true: api.OK, false: api.ErrOff}[n > len(row)] || d.Open() != min(n, len(row)) {
			t.Fatalf("Append armed with %d: error %d, %d open", n, e, d.Open())
		}
		if e != api.OK {
			checkLog(t, "after an error", l, text(1, "s", "a"))
		}
		d.Crash(slices.Repeat([]int{65}, n)...)
		d.Start()
		copy(blocks[2:], row[:min(n, len(row))])
		if got := content(t, d); !slices.Equal(got, blocks) {
			t.Errorf("armed with %d: the disk is %x, not %x", n, got, blocks)
		}
	}
}

// TestAppendInParts is P7.3: it is all the same by how many calls records
// come.
func TestAppendInParts(t *testing.T) {
	var all [][]byte
	for k := range 40 {
		all = append(all, letters(k*k%90))
	}
	d, l := begun(t, 300, "s")
	checkError(t, "Append", l.Append(all...), api.OK)
	for _, step := range []int{1, 2, 3, 7, 39} {
		other, m := begun(t, 300, "s")
		for part := range slices.Chunk(all, step) {
			checkError(t, "Append", m.Append(part...), api.OK)
			checkError(t, "Append of none", m.Append(), api.OK)
			if step == 3 {
				checkError(t, "Sync", m.Sync(), api.OK)
			}
		}
		checkLog(t, "in parts", m, tell(l))
		if !slices.Equal(content(t, d), content(t, other)) {
			t.Errorf("by %d: the disks differ", step)
		}
	}
}

// TestSync is P7.3: it is the disk's, with or without a Begin.
func TestSync(t *testing.T) {
	d := made(t, 8)
	l := opened(t, d)
	checkError(t, "Write", d.Write(7, block{5}), api.OK)
	checkError(t, "Sync", l.Sync(), api.OK)
	if d.Open() != 0 {
		t.Error("nothing was synced")
	}
	checkError(t, "Begin", l.Begin(nil), api.OK)
	checkError(t, "Append", l.Append(nil, nil), api.OK)
	if d.Open() != 2 {
		t.Errorf("%d open", d.Open())
	}
	d.Arm(1)
	checkError(t, "the last Sync", l.Sync(), api.ErrOff)
	checkError(t, "Sync with the power off", l.Sync(), api.ErrOff)
	d.Start()
	checkLog(t, "not synced", opened(t, d), text(1, ""))
}

// TestEachCombination is P7.4: of each open write nothing, a part or all
// remains, in all combinations; what stands is a prefix of the records.
func TestEachCombination(t *testing.T) {
	long := string(letters(150))
	picks := []int{0, 1, 40, 64, 65}
	recs := []string{"b", long, "c"}
	for i := range 5 * 5 * 5 * 5 * 5 {
		d, l := begun(t, 20, "s", "a")
		checkError(t, "Append", l.Append(texts(recs...)...), api.OK)
		chosen := []int{picks[i%5], picks[i/5%5], picks[i/25%5], picks[i/125%5], picks[i/625]}
		d.Crash(chosen...)
		d.Start()
		want := []string{"a"}
		for k, end := range []int{1, 4, 5} {
			if slices.Equal(chosen[:end], slices.Repeat([]int{65}, end)) {
				want = append(want, recs[k])
			}
		}
		again := opened(t, d)
		checkLog(t, fmt.Sprint("picks ", chosen), again, text(1, "s", want...))
		checkError(t, "Begin", again.Begin([]byte("t")), api.OK)
		checkLog(t, "begun", opened(t, d), text(2, "t"))
	}
}

// TestSameChecksum is P7.4: where what a lost block leaves has the same
// checksum, it is recognized by the marks all the same.
func TestSameChecksum(t *testing.T) {
	unseen := binary.LittleEndian.AppendUint64(nil, 0xedb88320<<1|1)
	for _, tail := range []int{12, 62} {
		record := append(letters(41), make([]byte, tail)...)
		without := slices.Clone(record)
		copy(record[41+3:], unseen)
		if bytes.Equal(record, without) || crc32.ChecksumIEEE(record) != crc32.ChecksumIEEE(without) {
			t.Fatal("the checksums differ")
		}
		for p := range 66 {
			d, l := begun(t, 12, "s")
			checkError(t, "Append", l.Append(record, []byte("b")), api.OK)
			d.Crash(65, p, 65)
			d.Start()
			want := told{1, []byte("s"), nil}
			if p == 65 {
				want.recs = [][]byte{record, []byte("b")}
			}
			checkLog(t, fmt.Sprint("pick ", p), opened(t, d), want)
		}
	}
}

// TestStaleRecords is P7.4: a half is cleared, so that behind a new snapshot
// no record stands that is from a generation with the same mark, nor one of
// the same number from an Append that was cut off.
func TestStaleRecords(t *testing.T) {
	stale := rows(1, "old", "x", "y", "z")
	for _, gen := range []int{255, 256, 511} {
		d := holding(t, diskOf(8, stale, rows(gen, "s")))
		checkError(t, "Begin", opened(t, d).Begin([]byte("new")), api.OK)
		checkLog(t, "begun", opened(t, d), text(gen+1, "new"))
	}
	d, l := begun(t, 16, "s", "a")
	checkError(t, "Append", l.Append([]byte("b"), []byte("c")), api.OK)
	d.Crash(0, 65)
	d.Start()
	l = opened(t, d)
	checkLog(t, "cut off", l, text(1, "s", "a"))
	checkError(t, "Begin", l.Begin([]byte("t")), api.OK)
	checkError(t, "Begin", l.Begin([]byte("u")), api.OK)
	checkError(t, "Append", l.Append([]byte("d"), []byte("e")), api.OK)
	checkLog(t, "again", opened(t, d), text(3, "u", "d", "e"))
}

// past is what may be found after a crash.
type past struct {
	synced told     // what is sure
	open   [][]byte // the records behind it
	begins *told    // the generation that a Begin was cut off in
}

// allows reports whether that is one of those.
func (p past) allows(got told) bool {
	if p.begins != nil && got.is(*p.begins) {
		return true
	}
	for n := range len(p.open) + 1 {
		if got.is(told{p.synced.gen, p.synced.snap, slices.Concat(p.synced.recs, p.open[:n])}) {
			return true
		}
	}
	return false
}

// TestWhereverThePowerFails is P7.4: logs with rows of calls that chance has
// made, crashes at any Write or Sync, whatever remains, again and again.
func TestWhereverThePowerFails(t *testing.T) {
	lost := map[string]int{}
	for seed := range uint64(1500) {
		r := rand.New(rand.NewPCG(seed, 11))
		d := made(t, 6+r.IntN(40))
		var p past
		for range 6 {
			l := opened(t, d)
			if got := tell(l); !p.allows(got) {
				t.Fatalf("seed %d: %v, not %v", seed, got, p)
			} else if p.begins != nil {
				lost[fmt.Sprint("begin ", got.is(*p.begins))]++
			} else if len(p.open) > 0 {
				lost[fmt.Sprint("open ", len(got.recs) < len(p.synced.recs)+len(p.open))]++
			}
			p = past{synced: tell(l)}
			d.Arm(1 + r.IntN(60))
			for !d.Off() && r.IntN(20) > 0 {
				actOn(l, &p, r)
			}
			picks := make([]int, r.IntN(60))
			for k := range picks {
				picks[k] = []int{0, 65, 65, 65, r.IntN(66)}[r.IntN(5)]
			}
			d.Crash(picks...)
			d.Start()
		}
	}
	for _, s := range []string{"begin false", "begin true", "open false", "open true"} {
		if lost[s] < 10 {
			t.Errorf("too seldom: %s: %v", s, lost)
		}
	}
}

// actOn makes a call of a log, and keeps what may be found afterwards.
func actOn(l *Log, p *past, r *rand.Rand) {
	switch r.IntN(8) {
	case 0, 1:
		next := told{gen: l.Gen() + 1, snap: letters(r.IntN(100))}
		switch l.Begin(next.snap) {
		case api.OK:
			*p = past{synced: next}
		case api.ErrOff:
			p.begins = &next
		}
	case 2, 3:
		if l.Sync() == api.OK {
			p.synced.recs, p.open = slices.Concat(p.synced.recs, p.open), nil
		}
	default:
		recs := make([][]byte, r.IntN(4))
		for k := range recs {
			recs[k] = letters(r.IntN(100))
		}
		if e := l.Append(recs...); e == api.OK || e == api.ErrOff {
			p.open = slices.Concat(p.open, recs)
		}
	}
}

// TestPastAllows: what the test above holds a log against is not all there
// is.
func TestPastAllows(t *testing.T) {
	next := text(2, "t")
	p := past{text(1, "s", "a"), texts("b", "c"), &next}
	for _, x := range []struct {
		got  told
		want bool
	}{
		{text(1, "s", "a"), true}, {text(1, "s", "a", "b"), true}, {text(1, "s", "a", "b", "c"), true}, {next, true},
		{text(1, "s"), false}, {text(1, "s", "a", "c"), false}, {text(2, "t", "a"), false}, {text(2, "s", "a"), false},
	} {
		if p.allows(x.got) != x.want {
			t.Errorf("%v: %v", x.got, !x.want)
		}
	}
}

// TestMemoryOfItsOwn: neither what goes in nor what comes out is shared, or
// changed beyond its end.
func TestMemoryOfItsOwn(t *testing.T) {
	d := made(t, 20)
	l := opened(t, d)
	in := []byte("snap, and more")
	recs := [][]byte{[]byte("abc")[:1], []byte("rec")[:2], []byte("more")}
	checkError(t, "Begin", l.Begin(in[:4]), api.OK)
	checkError(t, "Append", l.Append(recs[:2]...), api.OK)
	if string(in) != "snap, and more" || string(recs[0][:3]) != "abc" || string(recs[1][:3]) != "rec" || string(recs[2]) != "more" {
		t.Errorf("changed: %s, %s", in, recs)
	}
	spoil := func(b []byte) {
		for i := range b[:cap(b)] {
			b[:cap(b)][i] = '!'
		}
	}
	spoil(in)
	spoil(recs[0])
	spoil(recs[1])
	recs[0], recs[1] = nil, nil
	want := text(1, "snap", "a", "re")
	again := opened(t, d)
	for _, l := range []*Log{l, again} {
		checkLog(t, "spoilt from without", l, want)
		spoil(l.Snap())
		out := l.Recs()
		spoil(out[0])
		if string(out[1]) != "re" {
			t.Errorf("two records share memory: %s", out[1])
		}
		spoil(out[1])
		out[0] = nil
		_ = append(out, []byte("!"))
		checkLog(t, "spoilt from within", l, want)
	}
	snap := l.Snap()
	checkError(t, "Begin", l.Begin(snap), api.OK)
	spoil(snap)
	checkLog(t, "begun with its own snapshot", l, text(2, "snap"))
	checkLog(t, "the other log", again, want)
}

// TestNothingInCommon: logs of two disks do not touch one another, and a log
// tells what it did, whatever else is written to its disk.
func TestNothingInCommon(t *testing.T) {
	c, k := begun(t, 8, "s", "a")
	d, l := begun(t, 8, "t")
	checkError(t, "Append", l.Append([]byte("b")), api.OK)
	if c.Open() != 0 || d.Open() != 1 {
		t.Errorf("%d, %d open", c.Open(), d.Open())
	}
	checkLog(t, "the first", k, text(1, "s", "a"))
	for at := range 8 {
		checkError(t, "Write", c.Write(at, block{9}), api.OK)
	}
	checkLog(t, "the first", k, text(1, "s", "a"))
	d.Crash()
	checkLog(t, "with the power off", l, text(1, "t", "b"))
}

// TestNoLog: one that Open has not made has no blocks, and does not panic.
func TestNoLog(t *testing.T) {
	var l Log
	checkLog(t, "none", &l, told{})
	checkError(t, "Append", l.Append([]byte("r")), api.ErrState)
	checkError(t, "Begin", l.Begin([]byte(strings.Repeat("s", api.MaxPayload+1))), api.ErrLong)
	checkError(t, "Begin", l.Begin(nil), api.ErrFull)
	checkError(t, "Append", l.Append(), api.ErrState)
	checkError(t, "Sync", l.Sync(), api.ErrOff)
	checkLog(t, "none", &l, told{})
}
