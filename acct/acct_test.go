package acct

import (
	"math"
	"slices"
	"strings"
	"testing"

	"cambist/api"
)

const (
	least = math.MinInt
	most  = math.MaxInt
)

// of tells an account by its three parts.
func of(kind, who, cur int) api.Acct { return api.Acct{Kind: kind, Who: who, Cur: cur} }

// named are all accounts with their names, in their order, by the document's
// words: written out as texts, so that nothing here leans on the program.
func named() (accts []api.Acct, names []string) {
	add := func(a api.Acct, name string) {
		accts, names = append(accts, a), append(names, name)
	}
	digits := []string{"0", "1", "2", "3", "4", "5", "6", "7", "8", "9", "10", "11", "12", "13", "14", "15", "16"}
	for i, word := range []string{"bank", "cash", "fund", "skin", "var", "loss"} {
		for who := 0; who <= 16; who++ {
			for cur := 0; cur <= 2; cur++ {
				if member := word == "cash" || word == "fund"; member && who > 0 {
					add(of(i+1, who, cur), word+"."+digits[who]+"."+digits[cur])
				} else if !member && who == 0 {
					add(of(i+1, who, cur), word+"."+digits[cur])
				}
			}
		}
	}
	return accts, names
}

// numbers are those at which an answer may change, and those that a number of
// fewer bits would take for one of them.
func numbers() []int {
	l := []int{least, least + 1, most - 1, most, -api.Bound, api.Bound}
	for _, n := range []int{1 << 8, 1 << 16, 1 << 32} {
		for d := 0; d <= 3; d++ {
			l = append(l, n+d, d-n)
		}
	}
	for n := -3; n <= 19; n++ {
		l = append(l, n)
	}
	slices.Sort(l)
	return slices.Compact(l)
}

// triples goes through all that three of the numbers make.
func triples(yield func(api.Acct) bool) {
	l := numbers()
	for _, kind := range l {
		for _, who := range l {
			for _, cur := range l {
				if !yield(of(kind, who, cur)) {
					return
				}
			}
		}
	}
}

// TestHowMany holds the list against the document's numbers: six kinds, three
// currencies, 16 members for two of the kinds.
func TestHowMany(t *testing.T) {
	accts, names := named()
	if len(accts) != 4*3+2*16*3 || len(names) != len(accts) {
		t.Fatalf("%d accounts, %d names", len(accts), len(names))
	}
	if of(api.Bank, 0, 0) != accts[0] || of(api.Loss, 0, 2) != accts[len(accts)-1] {
		t.Errorf("from %v to %v", accts[0], accts[len(accts)-1])
	}
}

// TestRightByHand is P8.1: the first and the last of each part, and one beyond.
func TestRightByHand(t *testing.T) {
	for _, x := range []struct {
		a  api.Acct
		is bool
	}{
		{of(api.Bank, 0, 0), true},
		{of(api.Bank, 0, 2), true},
		{of(api.Bank, 0, 3), false},
		{of(api.Bank, 0, -1), false},
		{of(api.Bank, 1, 0), false},
		{of(api.Bank, -1, 0), false},
		{of(api.Cash, 1, 0), true},
		{of(api.Cash, 16, 2), true},
		{of(api.Cash, 0, 0), false},
		{of(api.Cash, 17, 0), false},
		{of(api.Cash, -1, 0), false},
		{of(api.Cash, 1, 3), false},
		{of(api.Cash, 1, -1), false},
		{of(api.Fund, 1, 0), true},
		{of(api.Fund, 16, 2), true},
		{of(api.Fund, 0, 0), false},
		{of(api.Fund, 17, 0), false},
		{of(api.Skin, 0, 1), true},
		{of(api.Skin, 1, 1), false},
		{of(api.Var, 0, 1), true},
		{of(api.Var, 1, 1), false},
		{of(api.Loss, 0, 1), true},
		{of(api.Loss, 16, 1), false},
		{of(api.Bank-1, 0, 0), false},
		{of(api.Bank-1, 1, 0), false},
		{of(api.Loss+1, 0, 0), false},
		{of(api.Loss+1, 1, 0), false},
		{of(-api.Bank, 0, 0), false},
		{api.Acct{}, false},
	} {
		if Right(x.a) != x.is {
			t.Errorf("Right(%v) is %v", x.a, !x.is)
		}
	}
}

// TestAllTriples is P8.1 and P8.2: of all triples of numbers the accounts
// alone are right and have names, and Fund and Skin alone a floor of 0, no
// other Fund or Skin either.
func TestAllTriples(t *testing.T) {
	accts, names := named()
	for a := range triples {
		at := slices.Index(accts, a)
		name, floor, e := "", -api.Bound, api.ErrArg
		if at >= 0 {
			name, e = names[at], api.OK
		}
		if at >= 0 && (a.Kind == api.Fund || a.Kind == api.Skin) {
			floor = 0
		}
		if is := Right(a); is != (at >= 0) {
			t.Errorf("Right(%v) is %v", a, is)
		}
		if n := Floor(a); n != floor {
			t.Errorf("Floor(%v) = %d, not %d", a, n, floor)
		}
		if s, f := Name(a); s != name || f != e {
			t.Errorf("Name(%v) = %q, %d, not %q, %d", a, s, f, name, e)
		}
	}
}

// TestFloorByHand is P8.1: each kind, and what is not an account.
func TestFloorByHand(t *testing.T) {
	for _, x := range []struct {
		a api.Acct
		n int
	}{
		{of(api.Bank, 0, 0), -1 << 62},
		{of(api.Cash, 3, 0), -1 << 62},
		{of(api.Fund, 3, 0), 0},
		{of(api.Skin, 0, 2), 0},
		{of(api.Var, 0, 0), -1 << 62},
		{of(api.Loss, 0, 0), -1 << 62},
		{of(api.Fund, 0, 0), -1 << 62},
		{of(api.Fund, 17, 0), -1 << 62},
		{of(api.Fund, 1, 3), -1 << 62},
		{of(api.Skin, 1, 0), -1 << 62},
		{of(api.Skin, 0, -1), -1 << 62},
		{api.Acct{}, -1 << 62},
		{of(99, 0, 0), -1 << 62},
	} {
		if n := Floor(x.a); n != x.n {
			t.Errorf("Floor(%v) = %d, not %d", x.a, n, x.n)
		}
	}
}

// TestLessByHand is P8.1: Kind goes before Who and Who before Cur, for
// accounts and for any other numbers.
func TestLessByHand(t *testing.T) {
	for _, x := range []struct {
		a, b api.Acct
	}{
		{of(1, 0, 2), of(2, 1, 0)},
		{of(2, 16, 2), of(3, 1, 0)},
		{of(2, 1, 2), of(2, 2, 0)},
		{of(2, 9, 0), of(2, 10, 0)},
		{of(2, 5, 0), of(2, 5, 1)},
		{of(-5, 9, 9), of(-4, 0, 0)},
		{of(2, -1, 9), of(2, 0, 0)},
		{of(0, 0, -1), of(0, 0, 0)},
		{of(least, most, most), of(most, least, least)},
		{of(0, least, most), of(0, most, least)},
		{of(0, 0, least), of(0, 0, most)},
	} {
		if !Less(x.a, x.b) {
			t.Errorf("%v is not before %v", x.a, x.b)
		}
		if Less(x.b, x.a) {
			t.Errorf("%v is before %v", x.b, x.a)
		}
	}
}

// TestLessIsAnOrder is P8.1: from the first to the last, each comes before
// all behind it, and none before itself or one ahead of it.
func TestLessIsAnOrder(t *testing.T) {
	var rising []api.Acct
	edges := []int{least, -api.Bound - 1, -1, 0, 1, 2, 17, api.Bound + 1, most}
	for _, kind := range edges {
		for _, who := range edges {
			for _, cur := range edges {
				rising = append(rising, of(kind, who, cur))
			}
		}
	}
	accts, _ := named()
	for _, l := range [][]api.Acct{rising, accts} {
		for i, a := range l {
			for j, b := range l {
				if is := Less(a, b); is != (i < j) {
					t.Errorf("Less(%v, %v) is %v", a, b, is)
				}
			}
		}
	}
}

// TestNameByHand is P8.2: the document's examples, and each word.
func TestNameByHand(t *testing.T) {
	for _, x := range []struct {
		a    api.Acct
		name string
	}{
		{of(api.Cash, 12, 0), "cash.12.0"},
		{of(api.Loss, 0, 2), "loss.2"},
		{of(api.Bank, 0, 0), "bank.0"},
		{of(api.Cash, 1, 1), "cash.1.1"},
		{of(api.Fund, 16, 2), "fund.16.2"},
		{of(api.Fund, 10, 0), "fund.10.0"},
		{of(api.Skin, 0, 1), "skin.1"},
		{of(api.Var, 0, 2), "var.2"},
	} {
		if s, e := Name(x.a); s != x.name || e != api.OK {
			t.Errorf("Name(%v) = %q, %d, not %q", x.a, s, e, x.name)
		}
		if a, e := Parse(x.name); a != x.a || e != api.OK {
			t.Errorf("Parse(%q) = %v, %d, not %v", x.name, a, e, x.a)
		}
	}
}

// TestNameOfNone is P8.2: what is not an account has no name, whichever of
// its parts is wrong.
func TestNameOfNone(t *testing.T) {
	for _, a := range []api.Acct{
		{},
		of(0, 1, 0), of(-1, 0, 0), of(7, 0, 0), of(7, 1, 0), of(least, 0, 0), of(most, 0, 0),
		of(api.Bank, 1, 0), of(api.Skin, -1, 0), of(api.Var, 2, 0), of(api.Loss, most, 0),
		of(api.Cash, 0, 0), of(api.Cash, 17, 0), of(api.Fund, -1, 0), of(api.Fund, least, 0),
		of(api.Bank, 0, 3), of(api.Bank, 0, -1), of(api.Cash, 1, 3), of(api.Cash, 1, most), of(api.Fund, 1, least),
	} {
		if s, e := Name(a); s != "" || e != api.ErrArg {
			t.Errorf("Name(%v) = %q, %d, not ErrArg", a, s, e)
		}
	}
}

// TestNamesBack is P8.3: Parse returns what Name was given, and no two
// accounts have the same name.
func TestNamesBack(t *testing.T) {
	accts, _ := named()
	from := map[string]api.Acct{}
	for _, a := range accts {
		s, e := Name(a)
		if b, is := from[s]; is {
			t.Errorf("%v and %v are both %q", a, b, s)
		}
		from[s] = a
		b, f := Parse(s)
		if b != a || e != api.OK || f != api.OK {
			t.Errorf("Name(%v) = %q, %d; Parse: %v, %d", a, s, e, b, f)
		}
	}
}

// checkForm is what Parse tells of what is no name.
func checkForm(t *testing.T, s string) {
	t.Helper()
	if a, e := Parse(s); a != (api.Acct{}) || e != api.ErrForm {
		if len(s) > 40 {
			s = s[:40]
		}
		t.Errorf("Parse(%q) = %v, %d, not ErrForm", s, a, e)
	}
}

// TestParseOfNone is P8.2: parts too many, too few and empty, other letters,
// other ways to write a number, and numbers that are none of an account's.
func TestParseOfNone(t *testing.T) {
	for _, s := range []string{
		"", ".", "..", "...", "0", "1.0", ".0", ".1.0", "..0", " ", "\x00",
		"bank", "bank.", "bank..", "bank..0", ".bank.0", "bank.0.", "bank.0.0", "bank.1.0", "bank.0.1",
		"cash", "cash.", "cash..", "cash..0", "cash.1", "cash.1.", "cash.1.0.", "cash.1.0.0", "cash.0", "cash.0.0", "cash.1..0",
		"cash.17.0", "cash.-1.0", "cash.1.3", "cash.1.-1", "fund.0.0", "fund.17.0", "fund.16.3", "bank.3", "loss.-1", "var.10", "skin.16",
		"cash.01.0", "cash.1.00", "cash.+1.0", "cash.1.+0", "cash.1.-0", "cash.001.0", "bank.00", "bank.+0", "bank.-0", "bank.01",
		"cash.0x1.0", "cash.1_0.0", "cash.1e0.0", "cash.1,0", "bank,0", "bank/0", "bank-0", "bank0", "bank 0", "cash10", "cash.10",
		"Bank.0", "BANK.0", "banK.0", "ban.0", "banks.0", "bnak.0", "b.0", "1.0", "2.1.0", "fall.0", "none.0", "house.0", "cash\x00.1.0",
		" bank.0", "bank.0 ", "bank. 0", "bank .0", "bank.0\n", "bank.0\x00", "\tbank.0", "\ufeffbank.0", "bank.0\r\n",
		"cash.x.0", "cash.1.x", "bank.x", "bank.zero", "cash.one.0", "cash.1.0x",
		"cash.4294967297.0", "cash.18446744073709551617.0", "cash.1.4294967296", "bank.18446744073709551616", "bank.9223372036854775808", "cash.9223372036854775807.0", "bank.99999999999999999999999999",
		"bank.\u0660", "cash.\u0661.0", "\uff42ank.0", "bank\u3002" + "0", "bank\uff0e" + "0", "bank.\xff", "\xffbank.0", "bank.0\xff",
	} {
		checkForm(t, s)
	}
}

// TestParseOfLong is P8.2 and R1: texts of great length are no names.
func TestParseOfLong(t *testing.T) {
	for _, n := range []int{64, api.MaxPayload, 1 << 20} {
		for _, s := range []string{"0", "1", ".", "bank", "bank.0", "cash.1.0", ".0", "\x00"} {
			long := strings.Repeat(s, n)
			checkForm(t, long)
			checkForm(t, "bank."+long)
			checkForm(t, "cash."+long+".0")
			checkForm(t, "cash.1."+long)
			checkForm(t, long+"bank.0")
		}
	}
}

// TestParseOfNearNames is P8.2: a name in which one byte is lost, put in,
// written over or twice there is a name only if it is that of another account.
func TestParseOfNearNames(t *testing.T) {
	accts, names := named()
	check := func(s string) {
		if at := slices.Index(names, s); at < 0 {
			checkForm(t, s)
		} else if a, e := Parse(s); a != accts[at] || e != api.OK {
			t.Errorf("Parse(%q) = %v, %d, not %v", s, a, e, accts[at])
		}
	}
	for _, s := range names {
		for i := 0; i <= len(s); i++ {
			check(s[:i])
			check(s[i:])
			for b := range 256 {
				put := string([]byte{byte(b)})
				check(s[:i] + put + s[i:])
				if i < len(s) {
					check(s[:i] + put + s[i+1:])
				}
			}
			if i < len(s) {
				check(s[:i] + s[i+1:])
			}
		}
		check(s + s)
		check(strings.ToUpper(s))
	}
}

// TestParseOfParts is P8.2: all texts of up to four parts, joined by points.
func TestParseOfParts(t *testing.T) {
	parts := []string{"", "bank", "cash", "fund", "skin", "var", "loss", "Cash", "-1", "0", "1", "2", "3", "00", "01", "+1", "9", "10", "16", "17", " 1", "x"}
	accts, names := named()
	know := map[string]api.Acct{}
	for i, s := range names {
		know[s] = accts[i]
	}
	found := map[string]bool{}
	var walk func(s string, left int)
	walk = func(s string, left int) {
		a, e := Parse(s)
		if b, is := know[s]; is && a == b && e == api.OK {
			found[s] = true
		} else if is || a != (api.Acct{}) || e != api.ErrForm {
			t.Errorf("Parse(%q) = %v, %d", s, a, e)
		}
		for _, p := range parts {
			if left > 0 {
				walk(s+"."+p, left-1)
			}
		}
	}
	for _, p := range parts {
		walk(p, 3)
	}
	// Six of the members are among the parts.
	if len(found) != 4*3+2*6*3 {
		t.Errorf("%d of the texts are names", len(found))
	}
}

// checkAll holds All against the document's words.
func checkAll(t *testing.T, kinds ...int) {
	t.Helper()
	var want []api.Acct
	accts, _ := named()
	for _, a := range accts {
		if slices.Contains(kinds, a.Kind) {
			want = append(want, a)
		}
	}
	if l := All(kinds...); !slices.Equal(l, want) {
		t.Errorf("All(%v) = %v, not %v", kinds, l, want)
	}
}

// TestAllByHand is P8.2: none, one, some, in no order, twice, and kinds that
// are none.
func TestAllByHand(t *testing.T) {
	if l := All(); len(l) != 0 {
		t.Errorf("All() = %v", l)
	}
	if l := All(api.Loss, api.Bank, api.Loss); !slices.Equal(l, []api.Acct{of(1, 0, 0), of(1, 0, 1), of(1, 0, 2), of(6, 0, 0), of(6, 0, 1), of(6, 0, 2)}) {
		t.Errorf("All(Loss, Bank, Loss) = %v", l)
	}
	if l := All(api.Cash); len(l) != 48 || l[0] != of(2, 1, 0) || l[1] != of(2, 1, 1) || l[3] != of(2, 2, 0) || l[47] != of(2, 16, 2) {
		t.Errorf("All(Cash) = %v", l)
	}
	for _, l := range [][]int{{0}, {7}, {-1}, {least, most}, {1 << 32, 1<<32 + 1, 257}} {
		if got := All(l...); len(got) != 0 {
			t.Errorf("All(%v) = %v", l, got)
		}
	}
	checkAll(t, 0, api.Var, 7, api.Fund, -2, api.Var, 99, least, most)
}

// TestAllOfEachSet is P8.2: each set of kinds, from the first, from the last,
// and twice with kinds between that are none.
func TestAllOfEachSet(t *testing.T) {
	for set := range 1 << 6 {
		var kinds []int
		for k := api.Bank; k <= api.Loss; k++ {
			if set>>(k-1)&1 == 1 {
				kinds = append(kinds, k)
			}
		}
		checkAll(t, kinds...)
		back := slices.Clone(kinds)
		slices.Reverse(back)
		checkAll(t, back...)
		checkAll(t, slices.Concat(back, []int{0, 7, -1}, kinds)...)
	}
}

// TestAllOfMany is P8.2: each account once, however often its kind is named.
func TestAllOfMany(t *testing.T) {
	kinds := make([]int, 1<<16)
	for i := range kinds {
		kinds[i] = i%9 - 1
	}
	checkAll(t, kinds...)
	checkAll(t, slices.Repeat([]int{api.Fund}, 1<<16)...)
}

// TestArgumentsStay is R2: All changes neither its arguments nor what lies
// behind them, and does not take that for arguments.
func TestArgumentsStay(t *testing.T) {
	row := []int{api.Loss, api.Bank, api.Cash, api.Fund}
	if l := All(row[:2]...); len(l) != 6 {
		t.Errorf("All(Loss, Bank) = %v", l)
	}
	if !slices.Equal(row, []int{api.Loss, api.Bank, api.Cash, api.Fund}) {
		t.Errorf("the arguments became %v", row)
	}
}

// TestResultsAreNew is R2 and R3: whatever is written into a result, and into
// the memory behind it, no other result changes.
func TestResultsAreNew(t *testing.T) {
	for _, kinds := range [][]int{{api.Bank}, {api.Cash, api.Loss}, {1, 2, 3, 4, 5, 6}} {
		a, b := All(kinds...), All(kinds...)
		whole := a[:cap(a)]
		for i := range whole {
			whole[i] = of(9, 9, 9)
		}
		if c := All(kinds...); !slices.Equal(b, c) || slices.Contains(b, of(9, 9, 9)) {
			t.Errorf("All(%v) became %v, and then %v", kinds, b, c)
		}
		checkAll(t, kinds...)
	}
}
