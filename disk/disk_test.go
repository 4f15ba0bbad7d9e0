package disk

import (
	"bytes"
	"math"
	"slices"
	"testing"

	"cambist/api"
)

const size = api.BlockSize

// letters is a block of which neighbours differ, and which differs from that
// of another seed in each byte.
func letters(seed int) block {
	var b block
	for i := range b {
		b[i] = byte(seed + 7*i + 1)
	}
	return b
}

// torn is a block whose first n bytes are those of a, and the others those of
// b.
func torn(n int, a, b block) block {
	return block(slices.Concat(a[:n], b[n:]))
}

// made is a new disk, of which no error is expected.
func made(t *testing.T, blocks int) *Disk {
	t.Helper()
	d, e := New(blocks)
	if d == nil || e != api.OK {
		t.Fatalf("New(%d): %v, error %d", blocks, d, e)
	}
	return d
}

// synced is a disk whose blocks hold the letters of these seeds, synced.
func synced(t *testing.T, seeds ...int) *Disk {
	t.Helper()
	d := made(t, len(seeds))
	for at, seed := range seeds {
		write(t, d, at, letters(seed))
	}
	sync(t, d)
	return d
}

// write is a Write of which no error is expected.
func write(t *testing.T, d *Disk, at int, b block) {
	t.Helper()
	if e := d.Write(at, b); e != api.OK {
		t.Fatalf("Write(%d): error %d", at, e)
	}
}

// sync is a Sync of which no error is expected.
func sync(t *testing.T, d *Disk) {
	t.Helper()
	if e := d.Sync(); e != api.OK {
		t.Fatalf("Sync: error %d", e)
	}
}

// checkRead holds a block against what it should be.
func checkRead(t *testing.T, d *Disk, at int, want block) {
	t.Helper()
	if b, e := d.Read(at); b != want || e != api.OK {
		t.Errorf("Read(%d) = %x, error %d, not %x", at, b, e, want)
	}
}

// checkError holds an error against what it should be.
func checkError(t *testing.T, what string, e, want api.Errno) {
	t.Helper()
	if e != want {
		t.Errorf("%s: error %d, not %d", what, e, want)
	}
}

// checkIs holds what a disk tells of itself against what it should be.
func checkIs(t *testing.T, d *Disk, blocks, open int, off bool) {
	t.Helper()
	if d.Blocks() != blocks || d.Open() != open || d.Off() != off {
		t.Errorf("%d blocks, %d open, off %v, not %d, %d, %v", d.Blocks(), d.Open(), d.Off(), blocks, open, off)
	}
}

// checkRefusesAll is what holds as long as the power is off, wherever at is.
func checkRefusesAll(t *testing.T, d *Disk) {
	t.Helper()
	open := d.Open()
	for _, at := range []int{0, d.Blocks() - 1, d.Blocks(), -1, math.MinInt, math.MaxInt} {
		if b, e := d.Read(at); b != (block{}) || e != api.ErrOff {
			t.Errorf("Read(%d) with the power off: %x, error %d", at, b, e)
		}
		checkError(t, "Write with the power off", d.Write(at, letters(99)), api.ErrOff)
	}
	checkError(t, "Sync with the power off", d.Sync(), api.ErrOff)
	checkIs(t, d, d.Blocks(), open, true)
}

// TestNew is P6.1: a disk of zeros, with the power on, or ErrArg.
func TestNew(t *testing.T) {
	for _, blocks := range []int{1, 2, 3, 4, 5, 64, 65535, 65536} {
		d := made(t, blocks)
		checkIs(t, d, blocks, 0, false)
		for at := range blocks {
			checkRead(t, d, at, block{})
		}
	}
	for _, blocks := range []int{0, -1, 65537, 65538, 1 << 32, 1<<32 + 1, math.MaxInt, math.MinInt} {
		if d, e := New(blocks); d != nil || e != api.ErrArg {
			t.Errorf("New(%d): %v, error %d, not ErrArg", blocks, d, e)
		}
	}
}

// TestReadIsWhatWasWrittenLast is P6.1 and P6.2: synced or not, each block by
// itself.
func TestReadIsWhatWasWrittenLast(t *testing.T) {
	d := made(t, 5)
	for round := range 3 {
		for at := range 5 {
			write(t, d, at, letters(10*round+at))
			checkRead(t, d, at, letters(10*round+at))
		}
		checkIs(t, d, 5, 5*(round+1), false)
	}
	for range 2 {
		for at := range 5 {
			checkRead(t, d, at, letters(20+at))
		}
		sync(t, d)
		checkIs(t, d, 5, 0, false)
	}
	write(t, d, 4, block{})
	checkRead(t, d, 4, block{})
	checkRead(t, d, 3, letters(23))
	checkIs(t, d, 5, 1, false)
}

// TestWrongBlocks is P6.1 and P6.2: there are none but those from 0 on, and
// what is refused changes nothing.
func TestWrongBlocks(t *testing.T) {
	for _, blocks := range []int{1, 2, 7} {
		d := made(t, blocks)
		write(t, d, blocks-1, letters(3))
		for _, at := range []int{-1, -2, -blocks, blocks, blocks + 1, 65536, 1 << 32, -1 << 32, math.MaxInt, math.MinInt} {
			if b, e := d.Read(at); b != (block{}) || e != api.ErrArg {
				t.Errorf("Read(%d) of %d: %x, error %d", at, blocks, b, e)
			}
			checkError(t, "Write to no block", d.Write(at, letters(4)), api.ErrArg)
		}
		checkIs(t, d, blocks, 1, false)
		checkRead(t, d, blocks-1, letters(3))
		if blocks > 1 {
			checkRead(t, d, 0, block{})
		}
	}
	d := made(t, 65536)
	write(t, d, 65535, letters(5))
	checkRead(t, d, 65535, letters(5))
	checkRead(t, d, 0, block{})
}

// TestPowerOff is P6.1 and P6.2: ErrOff comes ahead of ErrArg, and nothing is
// written or synced.
func TestPowerOff(t *testing.T) {
	d := synced(t, 1, 2)
	d.Crash()
	checkRefusesAll(t, d)
	d.Start()
	checkIs(t, d, 2, 0, false)
	checkRead(t, d, 0, letters(1))
	checkRead(t, d, 1, letters(2))

	d.Arm(2)
	write(t, d, 0, letters(3))
	checkError(t, "the last Write", d.Write(1, letters(4)), api.ErrOff)
	checkIs(t, d, 2, 2, true)
	checkRefusesAll(t, d)
	d.Crash(65, 65, 65)
	d.Start()
	checkRead(t, d, 0, letters(3))
	checkRead(t, d, 1, letters(4))
}

// TestArmCounts is P6.2: the n-th Write or Sync is the last one, of whichever
// kind, whether anything is open or not, and whatever is read meanwhile.
func TestArmCounts(t *testing.T) {
	for n := 1; n <= 6; n++ {
		for kinds := range 1 << 6 {
			d := made(t, 2)
			d.Arm(n)
			for k := range 6 {
				checkError(t, "Write to no block", d.Write(2, letters(9)), wantOff(k >= n, api.ErrArg))
				if _, e := d.Read(1); e != wantOff(k >= n, api.OK) {
					t.Errorf("armed with %d: Read after %d: error %d", n, k, e)
				}
				e := step(d, kinds>>k&1 == 1, letters(k))
				if e != wantOff(k+1 >= n, api.OK) || d.Off() != (k+1 >= n) {
					t.Errorf("armed with %d: number %d: error %d, off %v", n, k+1, e, d.Off())
				}
			}
		}
	}
}

// step is a Sync or a Write to the first block.
func step(d *Disk, isSync bool, b block) api.Errno {
	if isSync {
		return d.Sync()
	}
	return d.Write(0, b)
}

// wantOff is ErrOff if the power is off, or else e.
func wantOff(off bool, e api.Errno) api.Errno {
	if off {
		return api.ErrOff
	}
	return e
}

// TestLastWrite is P6.2 and P6.3: it is written and stays open; without a
// Crash nothing of it remains, with one what the pick says.
func TestLastWrite(t *testing.T) {
	for _, x := range []struct {
		crash []int
		want  block
	}{
		{nil, letters(1)},
		{[]int{0, 0}, letters(1)},
		{[]int{65, 0}, letters(2)},
		{[]int{65}, letters(2)},
		{[]int{0, 65}, letters(3)},
		{[]int{0, 11}, torn(10, letters(3), letters(1))},
		{[]int{65, 11}, torn(10, letters(3), letters(2))},
	} {
		d := synced(t, 1)
		d.Arm(2)
		write(t, d, 0, letters(2))
		checkError(t, "the last Write", d.Write(0, letters(3)), api.ErrOff)
		checkIs(t, d, 1, 2, true)
		if x.crash != nil {
			d.Crash(x.crash...)
			checkIs(t, d, 1, 0, true)
		}
		d.Start()
		checkIs(t, d, 1, 0, false)
		checkRead(t, d, 0, x.want)
	}
}

// TestLastSync is P6.2 and P6.3: it syncs nothing.
func TestLastSync(t *testing.T) {
	for _, crash := range []bool{false, true} {
		d := synced(t, 1)
		d.Arm(2)
		write(t, d, 0, letters(2))
		checkError(t, "the last Sync", d.Sync(), api.ErrOff)
		checkIs(t, d, 1, 1, true)
		want := letters(1)
		if crash {
			d.Crash(4)
			want = torn(3, letters(2), letters(1))
		}
		d.Start()
		checkIs(t, d, 1, 0, false)
		checkRead(t, d, 0, want)
	}
}

// TestArmIsOver is P6.2: after the last one, and with the power off, nothing
// is armed; what was armed with the power off never was.
func TestArmIsOver(t *testing.T) {
	for n := -1; n <= 3; n++ {
		d := made(t, 1)
		d.Arm(1)
		checkError(t, "the last Sync", d.Sync(), api.ErrOff)
		d.Arm(n)
		d.Crash()
		d.Arm(n)
		d.Start()
		for range 5 {
			write(t, d, 0, letters(1))
			sync(t, d)
		}
		d.Arm(1)
		checkError(t, "the last Write", d.Write(0, letters(2)), api.ErrOff)
	}
}

// TestArmAgain is P6.2: a new call counts from itself on, and one with less
// than 1 ends it all.
func TestArmAgain(t *testing.T) {
	for first := 2; first <= 4; first++ {
		for second := 1; second <= 5; second++ {
			d := made(t, 1)
			d.Arm(first)
			write(t, d, 0, letters(0))
			d.Arm(second)
			for k := 1; k < second; k++ {
				write(t, d, 0, letters(k))
			}
			checkError(t, "the last Write", d.Write(0, letters(9)), api.ErrOff)
		}
	}
	for _, n := range []int{0, -1, -3, math.MinInt} {
		d := made(t, 1)
		d.Arm(n)
		sync(t, d)
		d.Arm(2)
		d.Arm(n)
		for range 5 {
			sync(t, d)
		}
	}
	d := made(t, 1)
	d.Arm(math.MaxInt)
	for range 100 {
		write(t, d, 0, letters(1))
	}
	checkIs(t, d, 1, 100, false)
}

// TestDocumentsExample is P6.3: the chapter's example.
func TestDocumentsExample(t *testing.T) {
	a, b := letters(1), letters(2)
	d := made(t, 1)
	write(t, d, 0, a)
	sync(t, d)
	write(t, d, 0, b)
	d.Crash(3)
	d.Start()
	checkRead(t, d, 0, torn(2, b, a))
}

// TestAnyPick is P6.3: each pick from 0 to 65, and each other number as the
// one of these that differs by a multiple of 66.
func TestAnyPick(t *testing.T) {
	for p := range 66 {
		want := torn(max(0, p-1), letters(2), letters(1))
		for _, turn := range []int{0, 1, -1, 2, -2, 1000, -1000, math.MaxInt/66 - 1, math.MinInt/66 + 1} {
			d := synced(t, 1, 1)
			write(t, d, 1, letters(2))
			d.Crash(66*turn + p)
			checkIs(t, d, 2, 0, true)
			d.Start()
			checkRead(t, d, 0, letters(1))
			checkRead(t, d, 1, want)
		}
	}
	// 2^63 is 8 modulo 66, so -2^63 is 58, and 2^63 - 1 is 7.
	for pick, n := range map[int]int{math.MinInt: 57, math.MaxInt: 6} {
		d := synced(t, 1)
		write(t, d, 0, letters(2))
		d.Crash(pick)
		d.Start()
		checkRead(t, d, 0, torn(n, letters(2), letters(1)))
	}
}

// TestPicksInOrder is P6.3: one pick for each open write, as they were
// written, not by the blocks; 0 where there is none, and no matter what the
// others are.
func TestPicksInOrder(t *testing.T) {
	for count := range 7 {
		d := synced(t, 1, 2, 3, 4)
		for _, at := range []int{2, 0, 3, 1} {
			write(t, d, at, letters(10+at))
		}
		d.Crash([]int{65, 9, 0, 65, 65, 65}[:min(count, 6)]...)
		d.Start()
		want := []block{letters(1), letters(2), letters(3), letters(4)}
		if count >= 1 {
			want[2] = letters(12)
		}
		if count >= 2 {
			want[0] = torn(8, letters(10), letters(1))
		}
		if count >= 4 {
			want[1] = letters(11)
		}
		for at := range want {
			checkRead(t, d, at, want[at])
		}
	}
}

// TestManyWritesToABlock is P6.3: each combination of picks, byte by byte: a
// byte is that of the last write that left it.
func TestManyWritesToABlock(t *testing.T) {
	picks := []int{0, 1, 2, 20, 33, 64, 65}
	for i := range len(picks) * len(picks) * len(picks) {
		chosen := []int{picks[i%7], picks[i/7%7], picks[i/49]}
		d := synced(t, 1)
		want := letters(1)
		for k, p := range chosen {
			write(t, d, 0, letters(k+2))
			for at := 0; at < p-1; at++ {
				want[at] = letters(k + 2)[at]
			}
		}
		d.Crash(chosen...)
		d.Start()
		checkRead(t, d, 0, want)
	}
}

// TestSyncEndsWrites is P6.3: picks count from the first write after the last
// Sync on.
func TestSyncEndsWrites(t *testing.T) {
	d := made(t, 2)
	write(t, d, 0, letters(1))
	write(t, d, 0, letters(2))
	write(t, d, 1, letters(3))
	sync(t, d)
	write(t, d, 0, letters(4))
	write(t, d, 1, letters(5))
	checkIs(t, d, 2, 2, false)
	d.Crash(0, 65)
	d.Start()
	checkRead(t, d, 0, letters(2))
	checkRead(t, d, 1, letters(5))
}

// TestCrashOnce is P6.3: what a crash has decided, another one and a Start do
// not change, and it is lasting.
func TestCrashOnce(t *testing.T) {
	d := synced(t, 1, 2)
	write(t, d, 0, letters(3))
	write(t, d, 1, letters(4))
	d.Crash(5, 6)
	for range 2 {
		d.Crash(65, 65)
		checkIs(t, d, 2, 0, true)
		d.Start()
		d.Start()
		checkIs(t, d, 2, 0, false)
		checkRead(t, d, 0, torn(4, letters(3), letters(1)))
		checkRead(t, d, 1, torn(5, letters(4), letters(2)))
	}
}

// TestCrashDisarms is P6.3: with the power on too, and though nothing is
// open.
func TestCrashDisarms(t *testing.T) {
	for _, open := range []bool{false, true} {
		d := made(t, 1)
		d.Arm(3)
		if open {
			write(t, d, 0, letters(1))
		}
		d.Crash()
		checkIs(t, d, 1, 0, true)
		d.Start()
		for range 4 {
			write(t, d, 0, letters(2))
		}
	}
}

// TestStartWithPowerOn is P6.3: it neither loses what is open nor disarms.
func TestStartWithPowerOn(t *testing.T) {
	d := synced(t, 1)
	write(t, d, 0, letters(2))
	d.Arm(2)
	d.Start()
	checkIs(t, d, 1, 1, false)
	checkRead(t, d, 0, letters(2))
	sync(t, d)
	d.Start()
	checkError(t, "the last Write", d.Write(0, letters(3)), api.ErrOff)
	d.Start()
	checkRead(t, d, 0, letters(2))
}

// chance is a row of numbers that look like chance, the same each time.
type chance uint64

// below is the next one, from 0 to n - 1.
func (c *chance) below(n int) int {
	*c = *c*6364136223846793005 + 1442695040888963407
	return int(uint64(*c) >> 33 % uint64(n))
}

// story is a disk by the document's words: all that was written since the
// last Sync or Crash is kept, and each block is worked out from it anew.
type story struct {
	base  []block // what is synced
	since []api.Write
	left  int
	off   bool
}

// read is a block as it is read.
func (s *story) read(at int) block {
	b := s.base[at]
	for _, w := range s.since {
		if w.At == at {
			b = w.Data
		}
	}
	return b
}

// ends reports whether a Write or a Sync is the last one.
func (s *story) ends() bool {
	if s.left > 0 {
		s.left--
		s.off = s.left == 0
	}
	return s.off
}

// write is Write of a block that there is.
func (s *story) write(at int, b block) api.Errno {
	if s.off {
		return api.ErrOff
	}
	s.since = append(s.since, api.Write{At: at, Data: b})
	return wantOff(s.ends(), api.OK)
}

// sync is Sync.
func (s *story) sync() api.Errno {
	if s.off || s.ends() {
		return api.ErrOff
	}
	for at := range s.base {
		s.base[at] = s.read(at)
	}
	s.since = nil
	return api.OK
}

// crash is Crash, the bytes of each block being gone through from the last
// write to the first one.
func (s *story) crash(picks ...int) {
	for at := range s.base {
		for i := range size {
			for k := len(s.since) - 1; k >= 0; k-- {
				p := 0
				if k < len(picks) {
					p = ((picks[k] % 66) + 66) % 66
				}
				if s.since[k].At == at && (p == 65 || i < p-1) {
					s.base[at][i] = s.since[k].Data[i]
					break
				}
			}
		}
	}
	s.since, s.left, s.off = nil, 0, true
}

// start is Start.
func (s *story) start() {
	if s.off {
		s.crash()
		s.off = false
	}
}

// TestAgainstTheWords is P6.1 to P6.3: long rows of calls of all kinds, held
// against the document's words after each one.
func TestAgainstTheWords(t *testing.T) {
	for seed := range 60 {
		c := chance(seed)
		blocks := 1 + c.below(4)
		d, s := made(t, blocks), &story{base: make([]block, blocks)}
		for range 400 {
			actBoth(t, d, s, &c)
			checkIs(t, d, blocks, len(s.since), s.off)
			for at := range blocks {
				b, e := d.Read(at)
				if s.off && (b != block{} || e != api.ErrOff) || !s.off && (b != s.read(at) || e != api.OK) {
					t.Fatalf("seed %d: Read(%d) = %x, error %d", seed, at, b, e)
				}
			}
		}
	}
}

// actBoth makes the same call of a disk and of its story.
func actBoth(t *testing.T, d *Disk, s *story, c *chance) {
	t.Helper()
	switch c.below(12) {
	default:
		at, b := c.below(d.Blocks()), letters(c.below(256))
		checkError(t, "Write", d.Write(at, b), s.write(at, b))
	case 0:
		checkError(t, "Sync", d.Sync(), s.sync())
	case 1:
		n := c.below(8) - 1
		d.Arm(n)
		if !s.off {
			s.left = max(n, 0)
		}
	case 2:
		picks := make([]int, c.below(8))
		for k := range picks {
			picks[k] = c.below(400) - 200
		}
		d.Crash(picks...)
		s.crash(picks...)
	case 3, 4, 5:
		d.Start()
		s.start()
	case 6:
		checkError(t, "Write to no block", d.Write(d.Blocks(), block{}), wantOff(s.off, api.ErrArg))
	}
}

// TestSyncedStays is P6.4: after any crash a block that was not written since
// the last Sync is as it was synced; each byte of another one is that, or one
// that was written there since then.
func TestSyncedStays(t *testing.T) {
	const blocks = 5
	for seed := range 300 {
		c := chance(seed)
		d := made(t, blocks)
		var may [blocks][size][]byte // the bytes that each place may have
		keep := func() {
			for at := range may {
				b, _ := d.Read(at)
				for i := range b {
					may[at][i] = []byte{b[i]}
				}
			}
		}
		keep()
		for range 5 {
			for range c.below(3) {
				write(t, d, c.below(blocks), letters(c.below(256)))
				sync(t, d)
				keep()
			}
			d.Arm(c.below(12))
			for range c.below(10) {
				at, b := c.below(blocks-1), letters(c.below(256))
				if !d.Off() {
					for i := range b {
						may[at][i] = append(may[at][i], b[i])
					}
				}
				d.Write(at, b)
			}
			if c.below(3) > 0 {
				d.Crash(c.below(66), c.below(66), c.below(66), c.below(66), c.below(66), c.below(66))
			}
			d.Start()
			checkMay(t, d, may[:])
			d.Arm(0)
			sync(t, d)
			keep()
		}
	}
}

// checkMay holds each byte of a disk against those that it may be.
func checkMay(t *testing.T, d *Disk, may [][size][]byte) {
	t.Helper()
	for at := range may {
		b, e := d.Read(at)
		checkError(t, "Read", e, api.OK)
		for i := range b {
			if !bytes.Contains(may[at][i], b[i:i+1]) {
				t.Errorf("block %d, byte %d is %x, none of %x", at, i, b[i], may[at][i])
			}
		}
	}
}

// TestMemoryOfItsOwn: disks have nothing in common, and nothing is shared with
// what goes in or comes out.
func TestMemoryOfItsOwn(t *testing.T) {
	c, d := synced(t, 1, 2), synced(t, 1, 2)
	b := letters(3)
	write(t, c, 0, b)
	b[0]++
	checkRead(t, c, 0, letters(3))
	out, _ := c.Read(0)
	out[0]++
	checkRead(t, c, 0, letters(3))
	checkRead(t, d, 0, letters(1))
	c.Arm(1)
	c.Sync()
	checkIs(t, d, 2, 0, false)
	sync(t, d)
	picks := []int{-1, 70, 1000, 7, 8}
	c.Crash(picks[:3]...)
	if !slices.Equal(picks, []int{-1, 70, 1000, 7, 8}) {
		t.Errorf("the picks are %v afterwards", picks)
	}
	picks[0] = 0
	c.Start()
	checkRead(t, c, 0, letters(3))
	checkRead(t, d, 0, letters(1))
}

// TestNoDisk: one that New has not made has no blocks, and does not panic.
func TestNoDisk(t *testing.T) {
	var d Disk
	checkIs(t, &d, 0, 0, false)
	_, e := d.Read(0)
	checkError(t, "Read", e, api.ErrArg)
	checkError(t, "Write", d.Write(0, block{}), api.ErrArg)
	sync(t, &d)
	d.Crash(1)
	d.Start()
	checkIs(t, &d, 0, 0, false)
}
