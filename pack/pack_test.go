package pack

import (
	"bytes"
	"math"
	"math/big"
	"slices"
	"testing"

	"cambist/api"
)

const (
	least = math.MinInt
	most  = math.MaxInt
)

// edges are the numbers at which an encoding may change: around the ends of
// every group of seven bits, the limits of the document, and the ends of int.
func edges() []int {
	l := []int{least, least + 1, most - 1, most}
	for _, n := range []int{0, 100, api.MaxPayload, api.MaxTick, api.Bound} {
		for d := -2; d <= 2; d++ {
			l = append(l, n+d, -n+d)
		}
	}
	for bit := 0; bit < 63; bit++ {
		n := 1 << bit
		l = append(l, n-1, n, n+1, -n-1, -n, -n+1)
	}
	slices.Sort(l)
	return slices.Compact(l)
}

// exactInt is the encoding of n word by word, in whole numbers without an end.
func exactInt(n int) []byte {
	z := new(big.Int).Mul(big.NewInt(2), big.NewInt(int64(n)))
	if n < 0 {
		z.Neg(z).Sub(z, big.NewInt(1))
	}
	groups := []byte{}
	for z.Sign() > 0 || len(groups) == 0 {
		group := new(big.Int)
		z.DivMod(z, big.NewInt(128), group)
		groups = append(groups, byte(group.Int64()))
	}
	for i := range groups[:len(groups)-1] {
		groups[i] += 128
	}
	return groups
}

// exactReadInt reads an integer word by word: the number, how many bytes it
// has, and false if b does not begin with one.
func exactReadInt(b []byte) (n, size int, ok bool) {
	z := new(big.Int)
	for i, c := range b {
		group := big.NewInt(int64(c % 128))
		z.Add(z, group.Lsh(group, uint(7*i)))
		if c >= 128 {
			continue
		}
		if z.BitLen() > 64 || c == 0 && i > 0 {
			return 0, 0, false
		}
		odd := z.Bit(0) == 1
		if odd {
			z.Add(z, big.NewInt(1)).Neg(z)
		}
		z.Quo(z, big.NewInt(2))
		return int(z.Int64()), i + 1, true
	}
	return 0, 0, false
}

// written is what Bytes returns, of which no error is expected.
func written(t *testing.T, w *Writer) []byte {
	t.Helper()
	b, e := w.Bytes()
	if e != api.OK {
		t.Fatalf("Bytes: error %d", e)
	}
	return b
}

// checkWritten holds what was written against b.
func checkWritten(t *testing.T, w *Writer, b []byte) {
	t.Helper()
	if got := written(t, w); !bytes.Equal(got, b) {
		t.Errorf("Bytes() = %x, not %x", got, b)
	}
}

// checkFailed is what follows an error: it stays, and each call returns its
// zero value.
func checkFailed(t *testing.T, r *Reader, e api.Errno) {
	t.Helper()
	for range 2 {
		if f := r.Done(); f != e {
			t.Errorf("Done() = %d, not %d", f, e)
		}
		if n := r.Int(); n != 0 {
			t.Errorf("Int() = %d after an error", n)
		}
		if r.Mark() {
			t.Error("Mark() is true after an error")
		}
		if b := r.Text(); len(b) != 0 {
			t.Errorf("Text() = %x after an error", b)
		}
	}
}

// letters is a text of n bytes of which neighbours differ.
func letters(n int) []byte {
	b := make([]byte, n)
	for i := range b {
		b[i] = byte(i*i + 7*i)
	}
	return b
}

// TestZeroWriter is P4.1: it has written nothing.
func TestZeroWriter(t *testing.T) {
	var w Writer
	checkWritten(t, &w, nil)
	w.Int()
	checkWritten(t, &w, nil)
	checkWritten(t, new(Writer), nil)
}

// TestIntByHand is P4.1: the document's bytes, and the ends of each length.
func TestIntByHand(t *testing.T) {
	for _, x := range []struct {
		n int
		b string
	}{
		{0, "\x00"}, {-1, "\x01"}, {1, "\x02"}, {-2, "\x03"}, {2, "\x04"},
		{63, "\x7e"}, {-64, "\x7f"}, {64, "\x80\x01"}, {-65, "\x81\x01"}, {65, "\x82\x01"},
		{300, "\xd8\x04"}, {8191, "\xfe\x7f"}, {-8192, "\xff\x7f"}, {8192, "\x80\x80\x01"}, {-8193, "\x81\x80\x01"},
		{api.MaxPayload, "\x80\x80\x08"},
		{api.Bound, "\x80\x80\x80\x80\x80\x80\x80\x80\x80\x01"},
		{-api.Bound, "\xff\xff\xff\xff\xff\xff\xff\xff\x7f"},
		{most, "\xfe\xff\xff\xff\xff\xff\xff\xff\xff\x01"},
		{least, "\xff\xff\xff\xff\xff\xff\xff\xff\xff\x01"},
	} {
		var w Writer
		w.Int(x.n)
		checkWritten(t, &w, []byte(x.b))
		r := NewReader([]byte(x.b))
		if n := r.Int(); n != x.n || r.Done() != api.OK {
			t.Errorf("%x: Int() = %d, not %d; Done() = %d", x.b, n, x.n, r.Done())
		}
	}
}

// TestIntAtEdges is P4.1 and P4.3: one by one, all in one call, and back.
func TestIntAtEdges(t *testing.T) {
	var each, all Writer
	var want []byte
	for _, n := range edges() {
		var w Writer
		w.Int(n)
		checkWritten(t, &w, exactInt(n))
		each.Int(n)
		want = append(want, exactInt(n)...)
	}
	all.Int(edges()...)
	checkWritten(t, &each, want)
	checkWritten(t, &all, want)
	r := NewReader(want)
	for _, n := range edges() {
		if m := r.Int(); m != n {
			t.Errorf("Int() = %d, not %d", m, n)
		}
	}
	if e := r.Done(); e != api.OK {
		t.Errorf("Done() = %d", e)
	}
}

// TestOneBehindTheOther is P4.1 and P4.2: kinds mixed, in the order of the
// calls, with and without arguments.
func TestOneBehindTheOther(t *testing.T) {
	var w Writer
	w.Int(0, -1, 64)
	w.Mark(true)
	w.Int()
	w.Mark(false)
	w.Text([]byte("ab"))
	w.Text(nil)
	w.Text([]byte{0})
	w.Int(7)
	b := []byte("\x00\x01\x80\x01\x01\x00\x04ab\x00\x02\x00\x0e")
	checkWritten(t, &w, b)
	r := NewReader(b)
	if r.Int() != 0 || r.Int() != -1 || r.Int() != 64 || !r.Mark() || r.Mark() {
		t.Error("numbers and marks are read otherwise")
	}
	if string(r.Text()) != "ab" || len(r.Text()) != 0 || string(r.Text()) != "\x00" || r.Int() != 7 || r.Done() != api.OK {
		t.Error("texts are read otherwise")
	}
}

// TestTextLengths is P4.1 and P4.2: texts up to the longest one, and back.
func TestTextLengths(t *testing.T) {
	for _, n := range []int{0, 1, 2, 63, 64, 65, 127, 128, 8191, 8192, 8193, api.MaxPayload - 1, api.MaxPayload} {
		var w Writer
		w.Text(letters(n))
		w.Int(5)
		checkWritten(t, &w, slices.Concat(exactInt(n), letters(n), []byte{10}))
		r := NewReader(written(t, &w))
		if b := r.Text(); !bytes.Equal(b, letters(n)) || r.Int() != 5 || r.Done() != api.OK {
			t.Errorf("a text of %d bytes is read otherwise: %d bytes, Done() = %d", n, len(b), r.Done())
		}
	}
}

// TestTextTooLong is P4.1: ErrLong is recorded, whatever was written before
// or is written after, and of this Writer alone.
func TestTextTooLong(t *testing.T) {
	for _, n := range []int{api.MaxPayload + 1, api.MaxPayload + 2, 3 * api.MaxPayload} {
		var w, other Writer
		w.Int(1)
		other.Int(2)
		w.Text(letters(n))
		for range 2 {
			if b, e := w.Bytes(); len(b) != 0 || e != api.ErrLong {
				t.Errorf("after a text of %d bytes: %d bytes, error %d", n, len(b), e)
			}
			w.Int(3)
			w.Mark(true)
			w.Text([]byte("ab"))
		}
		checkWritten(t, &other, []byte{4})
	}
	var w Writer
	w.Text(letters(api.MaxPayload + 1))
	if b, e := w.Bytes(); len(b) != 0 || e != api.ErrLong {
		t.Errorf("a first text too long: %d bytes, error %d", len(b), e)
	}
}

// TestWriterKeepsItsOwn is P4.1: neither what it is given nor what it has
// returned is shared with it, spare capacity included.
func TestWriterKeepsItsOwn(t *testing.T) {
	var w Writer
	text, spare := []byte("abxyz"), []int{1, 2, 3}
	w.Text(text[:2])
	w.Int(spare[:2]...)
	want := []byte("\x04ab\x02\x04")
	checkWritten(t, &w, want)
	if string(text) != "abxyz" || !slices.Equal(spare, []int{1, 2, 3}) {
		t.Errorf("arguments changed: %q, %v", text, spare)
	}
	text[0], spare[0] = 'z', 9
	checkWritten(t, &w, want)
	first, second := written(t, &w), written(t, &w)
	clear(first[:cap(first)])
	if !bytes.Equal(second, want) {
		t.Errorf("two results share memory: %x", second)
	}
	checkWritten(t, &w, want)
	w.Int(63)
	checkWritten(t, &w, append(want, 0x7e))
	if len(second) != len(want) {
		t.Errorf("an earlier result has grown: %x", second)
	}
}

// TestCopiesOfAWriter is P4.1: a copy goes on from what was written, and each
// has its own end, also where one goes back to what an earlier copy had.
func TestCopiesOfAWriter(t *testing.T) {
	var w Writer
	for n := range 9 {
		w.Int(n)
	}
	start := written(t, &w)
	a, b := w, w
	a.Int(21)
	b.Text([]byte("b"))
	w.Mark(true)
	checkWritten(t, &a, append(slices.Clone(start), 42))
	checkWritten(t, &b, append(slices.Clone(start), 2, 'b'))
	checkWritten(t, &w, append(slices.Clone(start), 1))
	back := w
	w.Int(1)
	further := w
	w = back
	w.Int(2)
	checkWritten(t, &further, append(slices.Clone(start), 1, 2))
	checkWritten(t, &w, append(slices.Clone(start), 1, 4))
	a.Text(letters(api.MaxPayload + 1))
	checkWritten(t, &back, append(slices.Clone(start), 1))
}

// TestManyPieces is P4.1: as many calls as one likes, in their order.
func TestManyPieces(t *testing.T) {
	const n = 200000
	var w Writer
	for i := range n {
		w.Int(i)
		w.Mark(i%3 == 0)
	}
	r := NewReader(written(t, &w))
	for i := range n {
		if m := r.Int(); m != i || r.Mark() != (i%3 == 0) {
			t.Fatalf("the number %d is read as %d", i, m)
		}
	}
	if e := r.Done(); e != api.OK {
		t.Errorf("Done() = %d", e)
	}
}

// TestReadNoInt is P4.2: ErrPack if the bytes end too early, if they are more
// than there need be, or if they tell more than 64 bits.
func TestReadNoInt(t *testing.T) {
	nine := "\xff\xff\xff\xff\xff\xff\xff\xff\xff"
	nought := "\x80\x80\x80\x80\x80\x80\x80\x80\x80"
	for _, s := range []string{
		"", "\x80", "\xff", "\x80\x80", nine, nine + "\x81", nine + "\xff", nine + nine, nine + nine + "\x01",
		"\x80\x00", "\x81\x00", "\xff\x00", "\xff\x80\x00", "\x80\x80\x00", nought + "\x00", nine + "\x00",
		nine + "\x02", nought + "\x02", nine + "\x03", nine + "\x7f", nine + "\x40", nine + "\x80\x00", nine + "\x81\x00",
		nine + "\x80\x01", nine + "\x81\x01", nought + "\x80\x01", nine + "\xff\x01", nine + nine + nine + "\x00",
	} {
		for _, behind := range []string{"", "\x00\x00\x00"} {
			if behind != "" && (s == "" || s[len(s)-1] >= 128) {
				continue // then what is behind would belong to it
			}
			r := NewReader([]byte(s + behind))
			if n := r.Int(); n != 0 {
				t.Errorf("%x: Int() = %d", s+behind, n)
			}
			checkFailed(t, r, api.ErrPack)
		}
	}
}

// TestReadAnyInt is P4.2: all bytes up to three, and all of ten whose last
// two may be anything, hold against the document's words.
func TestReadAnyInt(t *testing.T) {
	check := func(b []byte) {
		r := NewReader(b)
		n, size, ok := exactReadInt(b)
		e := api.OK
		if !ok || size < len(b) {
			e = api.ErrPack
		}
		if m := r.Int(); m != n || r.Done() != e {
			t.Errorf("%x: Int() = %d, not %d; Done() = %d, not %d", b, m, n, r.Done(), e)
		}
	}
	check(nil)
	for i := range 1 << 8 {
		check([]byte{byte(i)})
	}
	for i := range 1 << 16 {
		check([]byte{byte(i >> 8), byte(i)})
		check([]byte{0x80, byte(i >> 8), byte(i)})
		check([]byte{0xff, byte(i >> 8), byte(i)})
		check(append(bytes.Repeat([]byte{0xff}, 8), byte(i>>8), byte(i)))
		check(append(bytes.Repeat([]byte{0x80}, 8), byte(i>>8), byte(i)))
		check(append(bytes.Repeat([]byte{0xa5}, 9), byte(i>>8), byte(i)))
	}
}

// TestReadAnyMark is P4.2: of all bytes only 1 and 0 are marks.
func TestReadAnyMark(t *testing.T) {
	for i := range 1 << 8 {
		r := NewReader([]byte{byte(i), 1})
		if is := r.Mark(); is != (i == 1) {
			t.Errorf("%x: Mark() is %t", i, is)
		}
		if i > 1 {
			checkFailed(t, r, api.ErrPack)
		} else if !r.Mark() || r.Done() != api.OK {
			t.Errorf("%x: the next mark is lost, Done() = %d", i, r.Done())
		}
	}
	r := NewReader(nil)
	if r.Mark() {
		t.Error("a mark of nothing is true")
	}
	checkFailed(t, r, api.ErrPack)
}

// TestReadNoText is P4.2: each fault with its error; too long a length comes
// ahead of too few bytes.
func TestReadNoText(t *testing.T) {
	for _, x := range []struct {
		b []byte
		e api.Errno
	}{
		{nil, api.ErrPack},
		{[]byte{0x80}, api.ErrPack},
		{[]byte{0x80, 0}, api.ErrPack},
		{[]byte("\x02"), api.ErrPack},
		{[]byte("\x06ab"), api.ErrPack},
		{exactInt(api.MaxPayload), api.ErrPack},
		{append(exactInt(api.MaxPayload), letters(api.MaxPayload-1)...), api.ErrPack},
		{append(exactInt(-1), "ab"...), api.ErrPack},
		{append(exactInt(-1-api.MaxPayload), letters(api.MaxPayload+1)...), api.ErrPack},
		{append(exactInt(least), "ab"...), api.ErrPack},
		{exactInt(api.MaxPayload + 1), api.ErrLong},
		{append(exactInt(api.MaxPayload+1), letters(api.MaxPayload)...), api.ErrLong},
		{append(exactInt(api.MaxPayload+1), letters(api.MaxPayload+1)...), api.ErrLong},
		{append(exactInt(api.Bound), "ab"...), api.ErrLong},
		{exactInt(most), api.ErrLong},
	} {
		r := NewReader(x.b)
		if b := r.Text(); len(b) != 0 {
			t.Errorf("a text of %d bytes where there is none", len(b))
		}
		checkFailed(t, r, x.e)
	}
}

// TestTheFirstErrorStays is P4.2: whatever faults follow.
func TestTheFirstErrorStays(t *testing.T) {
	long := string(exactInt(api.MaxPayload + 1))
	r := NewReader([]byte(long + "\x02"))
	r.Text()
	checkFailed(t, r, api.ErrLong)
	r = NewReader([]byte("\x02" + long))
	r.Mark()
	checkFailed(t, r, api.ErrPack)
	r = NewReader([]byte("\x0a\x80\x00" + long))
	if n := r.Int(); n != 5 {
		t.Errorf("Int() = %d ahead of the fault", n)
	}
	r.Int()
	checkFailed(t, r, api.ErrPack)
}

// TestDone is P4.2: ErrPack while bytes are left, which is not recorded.
func TestDone(t *testing.T) {
	r := NewReader([]byte("\x0a\x01\x02x"))
	left := func() {
		t.Helper()
		if r.Done() != api.ErrPack || r.Done() != api.ErrPack {
			t.Errorf("Done() = %d with bytes left", r.Done())
		}
	}
	left()
	if n := r.Int(); n != 5 {
		t.Errorf("Int() = %d after Done", n)
	}
	left()
	if !r.Mark() {
		t.Error("Mark() is false after Done")
	}
	left()
	if b := r.Text(); string(b) != "x" {
		t.Errorf("Text() = %q after Done", b)
	}
	if e := r.Done(); e != api.OK {
		t.Errorf("Done() = %d at the end", e)
	}
	r.Int()
	checkFailed(t, r, api.ErrPack)
	for _, b := range [][]byte{nil, {}} {
		if e := NewReader(b).Done(); e != api.OK {
			t.Errorf("Done() = %d of nothing", e)
		}
	}
}

// TestReaderKeepsItsOwn is P4.2: neither what it is given nor what it has
// returned is shared with it, spare capacity included.
func TestReaderKeepsItsOwn(t *testing.T) {
	b := []byte("\x04ab\x04cdxyz")
	r := NewReader(b[:6])
	clear(b[1:3])
	first := r.Text()
	if string(first) != "ab" {
		t.Errorf("the bytes are shared: %q", first)
	}
	if string(b[3:]) != "\x04cdxyz" {
		t.Errorf("the bytes are changed: %q", b)
	}
	clear(first[:cap(first)])
	if s := r.Text(); string(s) != "cd" || r.Done() != api.OK {
		t.Errorf("a text is shared: %q", s)
	}
}

// TestCopiesOfAReader is P4.2: each goes on where it is, with its own error.
func TestCopiesOfAReader(t *testing.T) {
	r := NewReader([]byte("\x0a\x0c\x0e"))
	r.Int()
	c := *r
	if c.Int() != 6 || c.Int() != 7 || c.Int() != 0 || c.Done() != api.ErrPack {
		t.Error("a copy reads otherwise")
	}
	if r.Int() != 6 || r.Int() != 7 || r.Done() != api.OK {
		t.Error("the copy has read on for both")
	}
}

// dice is a sequence of numbers that is the same in each run.
type dice uint64

func (d *dice) roll(n int) int {
	*d = *d*6364136223846793005 + 1442695040888963407
	return int(*d >> 33 % dice(n))
}

// value is what was written by one call.
type value struct {
	kind int // 0: an integer, 1: a mark, 2: a text
	n    int
	text []byte
}

func (d *dice) value() value {
	switch kind := d.roll(3); kind {
	case 0:
		n := d.roll(1<<31)<<33 ^ d.roll(1<<31)<<11 ^ d.roll(1<<31)
		return value{n: n >> d.roll(64)}
	case 1:
		return value{kind: 1, n: d.roll(2)}
	default:
		return value{kind: 2, text: letters(d.roll(150))}
	}
}

func (v value) write(w *Writer) {
	switch v.kind {
	case 0:
		w.Int(v.n)
	case 1:
		w.Mark(v.n == 1)
	case 2:
		w.Text(v.text)
	}
}

// read reads a value of the given kind.
func read(r *Reader, kind int) value {
	switch kind {
	case 0:
		return value{n: r.Int()}
	case 1:
		if r.Mark() {
			return value{kind: 1, n: 1}
		}
		return value{kind: 1}
	}
	return value{kind: 2, text: r.Text()}
}

// TestWrittenIsRead is the first half of P4.3: any values, and none of the
// beginnings of what was written is read as all of it.
func TestWrittenIsRead(t *testing.T) {
	d := dice(1)
	for range 300 {
		l := make([]value, d.roll(12))
		var w Writer
		for i := range l {
			l[i] = d.value()
			l[i].write(&w)
		}
		all := written(t, &w)
		r := NewReader(all)
		for _, v := range l {
			if got := read(r, v.kind); got.n != v.n || !bytes.Equal(got.text, v.text) {
				t.Errorf("%v is read as %v", v, got)
			}
		}
		if e := r.Done(); e != api.OK {
			t.Errorf("Done() = %d", e)
		}
		for end := range all {
			r := NewReader(all[:end])
			for _, v := range l {
				read(r, v.kind)
			}
			if e := r.Done(); e != api.ErrPack {
				t.Errorf("%d of %d bytes: Done() = %d", end, len(all), e)
			}
		}
	}
}

// TestReadIsWritten is the second half of P4.3: bytes of any kind that are
// read without an error are encoded as exactly these bytes.
func TestReadIsWritten(t *testing.T) {
	d := dice(2)
	byteOf := []func() byte{
		func() byte { return byte(d.roll(2)) },
		func() byte { return byte(d.roll(8)) },
		func() byte { return byte(d.roll(256)) },
		func() byte { return 0x80 | byte(d.roll(128)) },
	}
	right := 0
	for range 200000 {
		b := make([]byte, d.roll(14))
		for i := range b {
			b[i] = byteOf[d.roll(len(byteOf))]()
		}
		var w Writer
		r := NewReader(b)
		for range d.roll(6) {
			read(r, d.roll(3)).write(&w)
		}
		if r.Done() == api.OK {
			right++
			checkWritten(t, &w, b)
		}
	}
	if right < 2000 {
		t.Errorf("only %d were read without an error", right)
	}
}
