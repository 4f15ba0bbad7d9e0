package cover

import (
	"math"
	"math/big"
	"math/rand/v2"
	"slices"
	"testing"

	"cambist/acct"
	"cambist/api"
	"cambist/book"
	"cambist/grid"
	"cambist/ledger"
	"cambist/roll"
)

const (
	bound = 1 << 62
	great = 1 << 40
	whole = 10000
	least = math.MinInt
	most  = math.MaxInt
)

// asset tells an asset of the currency 0.
func asset(no, price, cut int) api.Asset { return api.Asset{No: no, Price: price, Cut: cut} }

// assetIn tells an asset without a haircut.
func assetIn(no, cur, price int) api.Asset { return api.Asset{No: no, Cur: cur, Price: price} }

// pledge tells a pledge.
func pledge(who, asset, units int) api.Pledge {
	return api.Pledge{Who: who, Asset: asset, Units: units}
}

// pos tells a position.
func pos(who, inst, qty int) api.Pos {
	return api.Pos{Key: api.Key{Who: who, Inst: inst}, Qty: qty}
}

// bal tells a balance.
func bal(kind, who, cur, sum int) api.Balance {
	return api.Balance{Acct: api.Acct{Kind: kind, Who: who, Cur: cur}, Sum: sum}
}

// books tells the right ledger in which these balances stand, and as much with
// the bank as brings each currency to 0.
func books(balances ...api.Balance) api.Ledger {
	var bank [api.MaxCurs]int
	l := api.Ledger{Last: 3}
	for _, b := range balances {
		bank[b.Cur] -= b.Sum
	}
	for cur, sum := range bank {
		l.Balances = append(l.Balances, bal(api.Bank, 0, cur, sum))
	}
	l.Balances = append(l.Balances, balances...)
	l.Balances = slices.DeleteFunc(l.Balances, func(b api.Balance) bool { return b.Sum == 0 })
	slices.SortFunc(l.Balances, func(a, b api.Balance) int {
		if acct.Less(a.Acct, b.Acct) {
			return -1
		}
		return 1
	})
	return l
}

// somePledges are right pledges of three members.
func somePledges() []api.Pledge {
	return []api.Pledge{pledge(1, 1, 2), pledge(1, 2, 9), pledge(1, 3, 8), pledge(1, 6, 3), pledge(2, 1, 77), pledge(16, 6, great)}
}

// someState is a right state: member 1 has cash, collateral and positions in
// two currencies, member 2 has them the other way round, and member 3 has a
// debt. There is no asset 3.
func someState() api.State {
	return api.State{
		Clock: api.Clock{Now: 7, Day: 2, Phase: api.PhaseSettled},
		Roll: api.Roll{
			Members: []api.Member{{No: 1, State: api.Active, Need: 5}, {No: 2, State: api.Defaulted}, {No: 3, State: api.Closed}},
			Insts:   []api.Inst{{No: 3, Mult: 10, Shifts: [api.Grid]int{-20, 5}}, {No: 4, Cur: 1, Mult: 1, Add: 3, Shifts: [api.Grid]int{2, -2}}},
			Assets:  []api.Asset{asset(1, 100, 2500), assetIn(2, 1, 5), asset(4, 1, 0), asset(6, 7, 5000)},
		},
		Book: api.Book{Next: 3, Poss: []api.Pos{pos(1, 3, 2), pos(1, 4, 20), pos(2, 3, -2), pos(2, 4, -20)}},
		Ledger: books(bal(api.Cash, 1, 0, 40), bal(api.Cash, 1, 1, 10), bal(api.Cash, 3, 0, -11),
			bal(api.Fund, 1, 0, 1000), bal(api.Skin, 0, 0, 500), bal(api.Loss, 0, 1, -9)),
		Pledges: somePledges(),
		Calls:   []api.Call{{Due: api.Due{Who: 1, Amount: 99}, At: 9}},
	}
}

// cloneRoll, cloneLedger and cloneState are what they are given, in memory of
// their own.
func cloneRoll(r api.Roll) api.Roll {
	return api.Roll{
		Members: append([]api.Member(nil), r.Members...),
		Insts:   append([]api.Inst(nil), r.Insts...),
		Assets:  append([]api.Asset(nil), r.Assets...),
	}
}

func cloneLedger(l api.Ledger) api.Ledger {
	return api.Ledger{Last: l.Last, Balances: append([]api.Balance(nil), l.Balances...)}
}

func cloneState(s api.State) api.State {
	s.Roll, s.Ledger = cloneRoll(s.Roll), cloneLedger(s.Ledger)
	s.Trades, s.Poss = append([]api.Trade(nil), s.Trades...), append([]api.Pos(nil), s.Poss...)
	s.Pledges, s.Calls = append([]api.Pledge(nil), s.Pledges...), append([]api.Call(nil), s.Calls...)
	return s
}

// same reports whether two states have the same in them, as far as a shortfall
// can hang on it.
func same(a, b api.State) bool {
	return slices.Equal(a.Members, b.Members) && slices.Equal(a.Insts, b.Insts) && slices.Equal(a.Assets, b.Assets) &&
		a.Next == b.Next && slices.Equal(a.Trades, b.Trades) && slices.Equal(a.Poss, b.Poss) &&
		a.Last == b.Last && slices.Equal(a.Balances, b.Balances) &&
		slices.Equal(a.Pledges, b.Pledges) && slices.Equal(a.Calls, b.Calls)
}

// exact is n with as many bits as it takes.
func exact(n int) *big.Int { return big.NewInt(int64(n)) }

// money says it from the document's words: from -2^62 to 2^62, or ErrBig.
func money(n *big.Int) (int, api.Errno) {
	if n.CmpAbs(exact(bound)) > 0 {
		return 0, api.ErrBig
	}
	return int(n.Int64()), api.OK
}

// exactValue is P16.1, word by word. Div rounds down for what is not negative.
func exactValue(a api.Asset, units int) (int, api.Errno) {
	if a.No < 1 || a.No > 6 || a.Cur < 0 || a.Cur > 2 || a.Price < 1 || a.Price > 1073741824 || a.Cut < 0 || a.Cut > 10000 {
		return 0, api.ErrArg
	}
	if units < 0 || units > 1099511627776 {
		return 0, api.ErrArg
	}
	n := new(big.Int).Mul(exact(units), exact(a.Price))
	n.Mul(n, exact(10000-a.Cut))
	return money(n.Div(n, exact(10000)))
}

// exactCheck is the first call of P16.2, word by word.
func exactCheck(l []api.Pledge) api.Errno {
	for at, p := range l {
		if p.Who < 1 || p.Who > 16 || p.Asset < 1 || p.Asset > 6 || p.Units < 1 || p.Units > 1099511627776 {
			return api.ErrState
		}
		for _, q := range l[:at] {
			if q.Who > p.Who || q.Who == p.Who && q.Asset >= p.Asset {
				return api.ErrState
			}
		}
	}
	return api.OK
}

// exactUnits is the second call of P16.2.
func exactUnits(who, asset int, l []api.Pledge) int {
	at := slices.IndexFunc(l, func(p api.Pledge) bool { return p.Who == who && p.Asset == asset })
	if at < 0 {
		return 0
	}
	return l[at].Units
}

// exactChange is the third call of P16.2: it lays all pledges out anew.
func exactChange(l []api.Pledge, who, asset, units int) ([]api.Pledge, api.Errno) {
	if exactCheck(l) != api.OK {
		return nil, api.ErrState
	}
	if who < 1 || who > 16 || asset < 1 || asset > 6 || units < -1099511627776 || units > 1099511627776 {
		return nil, api.ErrArg
	}
	if exactUnits(who, asset, l)+units < 0 {
		return nil, api.ErrFloor
	}
	if exactUnits(who, asset, l)+units > 1099511627776 {
		return nil, api.ErrBig
	}
	var all []api.Pledge
	for w := 1; w <= 16; w++ {
		for a := 1; a <= 6; a++ {
			p := pledge(w, a, exactUnits(w, a, l))
			if w == who && a == asset {
				p.Units += units
			}
			if p.Units != 0 {
				all = append(all, p)
			}
		}
	}
	return all, api.OK
}

// exactOf is the first call of P16.3, word by word.
func exactOf(l api.Ledger, r api.Roll, pledges []api.Pledge, who, cur int) (int, api.Errno) {
	if ledger.Check(l) != api.OK || roll.Check(r) != api.OK || exactCheck(pledges) != api.OK {
		return 0, api.ErrState
	}
	sum := new(big.Int)
	for _, b := range l.Balances {
		if b.Acct == (api.Acct{Kind: api.Cash, Who: who, Cur: cur}) {
			sum.Add(sum, exact(b.Sum))
		}
	}
	for _, p := range pledges {
		for _, a := range r.Assets {
			if p.Who != who || p.Asset != a.No || a.Cur != cur {
				continue
			}
			n, e := exactValue(a, p.Units)
			if e != api.OK {
				return 0, e
			}
			sum.Add(sum, exact(n))
		}
	}
	return money(sum)
}

// exactShort is the second call of P16.3, word by word.
func exactShort(s api.State, who, cur int) (int, api.Errno) {
	has, e := exactOf(s.Ledger, s.Roll, s.Pledges, who, cur)
	if e != api.OK {
		return 0, e
	}
	if book.Check(s.Book) != api.OK {
		return 0, api.ErrState
	}
	needs, e := grid.Margin(s.Roll, who, cur, s.Book.Poss...)
	if e != api.OK {
		return 0, e
	}
	short := new(big.Int).Sub(exact(needs), exact(has))
	if short.Sign() < 0 {
		return 0, api.OK
	}
	return money(short)
}

// holdValue holds Value against the chapter's words.
func holdValue(t *testing.T, a api.Asset, units int) (int, api.Errno) {
	t.Helper()
	n, e := Value(a, units)
	if want, wantE := exactValue(a, units); n != want || e != wantE {
		t.Errorf("Value(%v, %d) = %d, %d, not %d, %d", a, units, n, e, want, wantE)
	}
	return n, e
}

// holdCheck holds Check against the chapter's words.
func holdCheck(t *testing.T, l ...api.Pledge) api.Errno {
	t.Helper()
	before := slices.Clone(l)
	e := Check(l...)
	if want := exactCheck(l); e != want || !slices.Equal(l, before) {
		t.Errorf("Check(%v) = %d, not %d; it became %v", before, e, want, l)
	}
	return e
}

// holdChange holds Change against the chapter's words, and sees that what was
// passed in stays as it was.
func holdChange(t *testing.T, l []api.Pledge, who, asset, units int) ([]api.Pledge, api.Errno) {
	t.Helper()
	before := slices.Clone(l)
	got, e := Change(l, who, asset, units)
	want, wantE := exactChange(before, who, asset, units)
	if !slices.Equal(got, want) || e != wantE || e != api.OK && got != nil {
		t.Errorf("Change(%v, %d, %d, %d) = %v, %d, not %v, %d", before, who, asset, units, got, e, want, wantE)
	}
	if e == api.OK && Check(got...) != api.OK {
		t.Errorf("Change(%v, %d, %d, %d) = %v, which is not right", before, who, asset, units, got)
	}
	if !slices.Equal(l, before) {
		t.Errorf("Change made %v of %v", l, before)
	}
	return got, e
}

// hold holds Of and Short for a state against the chapter's words, and sees
// that the state stays as it was.
func hold(t *testing.T, s api.State, who, cur int) (has, short int, e, f api.Errno) {
	t.Helper()
	before := cloneState(s)
	has, e = Of(s.Ledger, s.Roll, s.Pledges, who, cur)
	if want, wantE := exactOf(before.Ledger, before.Roll, before.Pledges, who, cur); has != want || e != wantE {
		t.Errorf("Of(%v, %v, %v, %d, %d) = %d, %d, not %d, %d", s.Ledger, s.Roll, s.Pledges, who, cur, has, e, want, wantE)
	}
	short, f = Short(s, who, cur)
	if want, wantE := exactShort(before, who, cur); short != want || f != wantE {
		t.Errorf("Short(%v, %d, %d) = %d, %d, not %d, %d", s, who, cur, short, f, want, wantE)
	}
	if !same(s, before) {
		t.Errorf("%v became %v", before, s)
	}
	return has, short, e, f
}

// TestValueByHand is P16.1: the example of the chapter, haircuts of nothing and
// of all, what is rounded down, and the bound, with the answers written out.
func TestValueByHand(t *testing.T) {
	for _, x := range []struct{ price, cut, units, n int }{
		{100, 2500, 3, 225},
		{100, 2500, 0, 0},
		{100, 0, 3, 300},
		{100, whole, 3, 0},
		{1, 1, 1, 0},
		{1, 1, 2, 1},
		{1, 5000, 1, 0},
		{1, 5000, 2, 1},
		{3, 5000, 1, 1},
		{3, 5000, 3, 4},
		{1, 9999, 9999, 0},
		{1, 9999, 10000, 1},
		{1, 9999, 10001, 1},
		{1, 9999, 20000, 2},
		{9999, 1, 1, 9998},
		{9999, 1, 10000, 99980001},
		{10000, 3333, 1, 6667},
		{3, 3333, 1, 2},
		{1, 0, great, great},
		{1 << 22, 0, great, bound},
		{1 << 30, 0, 1 << 32, bound},
		{1 << 30, 9999, great, 1 << 70 / 10000},
		{1 << 30, whole, great, 0},
		{1 << 23, 5000, great, bound},
		{1 << 30, 1, 1, 1073741824 - 107375},
	} {
		for no := 1; no <= api.MaxAssets; no++ {
			for cur := range api.MaxCurs {
				a := api.Asset{No: no, Cur: cur, Price: x.price, Cut: x.cut}
				if n, e := holdValue(t, a, x.units); n != x.n || e != api.OK {
					t.Errorf("Value(%v, %d) = %d, %d, not %d", a, x.units, n, e, x.n)
				}
			}
		}
	}
}

// TestValueBig is P16.1: values one beyond the bound and far beyond it, such as
// are 0 for one who computes with 64 bits among them.
func TestValueBig(t *testing.T) {
	for _, x := range []struct{ price, cut, units int }{
		{1<<22 + 1, 0, great}, {1 << 30, 0, 1<<32 + 1}, {1<<23 + 1, 5000, great}, {1 << 30, 5000, 1<<33 + 1},
		{1 << 24, 0, great}, {1 << 30, 0, great}, {1 << 30, 0, 1 << 34}, {1 << 30, 5000, great}, {1 << 30, 9900, great},
	} {
		if n, e := holdValue(t, asset(1, x.price, x.cut), x.units); n != 0 || e != api.ErrBig {
			t.Errorf("%v: Value = %d, %d", x, n, e)
		}
	}
	// What is cut off brings a product beyond the bound to the bound, and one
	// that would be just beyond it is rounded down to it.
	for _, x := range []struct{ price, cut, units int }{{1 << 23, 5000, great}, {1 << 30, 5000, 1 << 33}, {1 << 24, 7500, great}} {
		if n, e := holdValue(t, asset(1, x.price, x.cut), x.units); n != bound || e != api.OK {
			t.Errorf("%v: Value = %d, %d", x, n, e)
		}
	}
}

// TestValueArg is P16.1: each number beyond its ends, on both sides, alone and
// where the result would not be money either.
func TestValueArg(t *testing.T) {
	right := api.Asset{No: 1, Cur: 1, Price: 5, Cut: 100}
	far := api.Asset{No: 1, Cur: 1, Price: 1 << 30}
	for _, units := range []int{-1, great + 1, -great, bound, 1<<32 - 1<<40, most, least} {
		for _, a := range []api.Asset{right, far, {No: 1, Price: 1, Cut: whole}} {
			if n, e := holdValue(t, a, units); n != 0 || e != api.ErrArg {
				t.Errorf("Value(%v, %d) = %d, %d", a, units, n, e)
			}
		}
	}
	turns := []func(a *api.Asset, n int){
		func(a *api.Asset, n int) { a.No = n }, func(a *api.Asset, n int) { a.Cur = n },
		func(a *api.Asset, n int) { a.Price = n }, func(a *api.Asset, n int) { a.Cut = n },
	}
	wrong := [][]int{
		{0, -1, 7, 1<<32 + 1, most, least}, {-1, 3, 1<<32 + 1, most, least},
		{0, -1, 1<<30 + 1, 1<<32 + 5, most, least}, {-1, 10001, 1<<32 + 1, most, least},
	}
	for at, turn := range turns {
		for _, n := range wrong[at] {
			for _, a := range []api.Asset{right, far} {
				for _, units := range []int{0, 1, great, -1, most} {
					turn(&a, n)
					if n, e := holdValue(t, a, units); n != 0 || e != api.ErrArg {
						t.Errorf("Value(%v, %d) = %d, %d", a, units, n, e)
					}
				}
			}
		}
	}
}

// around are numbers and those next to them, with both signs.
func around(l ...int) []int {
	var all []int
	for _, n := range l {
		all = append(all, n-1, n, n+1, -n-1, -n, -n+1)
	}
	all = append(all, least, most)
	slices.Sort(all)
	return slices.Compact(all)
}

// TestValueAtEdges is P16.1: all edges of the three numbers that count with one
// another, exactly. Each of the three answers comes often.
func TestValueAtEdges(t *testing.T) {
	seen := map[api.Errno]int{}
	for _, units := range around(0, 7, 10000, 1<<32, 1<<33, great) {
		for _, price := range around(0, 3, 10000, 1<<22, 1<<23, 1<<24, 1<<30) {
			for _, cut := range around(0, 2, 5000, 7500, whole) {
				_, e := holdValue(t, asset(1, price, cut), units)
				seen[e]++
			}
		}
	}
	if seen[api.OK] < 1000 || seen[api.ErrArg] < 1000 || seen[api.ErrBig] < 100 {
		t.Errorf("the answers were %v", seen)
	}
}

// TestValueRandom is P16.1: numbers of all sizes, and those whose value lies
// about the bound, exactly.
func TestValueRandom(t *testing.T) {
	g := rand.New(rand.NewPCG(16, 1))
	seen := map[api.Errno]int{}
	for k := range 200000 {
		price, cut, units := 1+g.IntN(1<<30)>>g.IntN(30), g.IntN(whole+1), g.IntN(great+1)>>g.IntN(40)
		if k%2 == 0 {
			// Units that bring the value near the bound, where there are such.
			price, cut = 1<<22+g.IntN(1<<30-1<<22+1), g.IntN(whole)
			near := new(big.Int).Mul(exact(bound), exact(whole))
			near.Div(near, exact(price*(whole-cut)))
			if near.Cmp(exact(great)) < 0 {
				units = min(int(near.Int64())+g.IntN(5)-2, great)
			}
		}
		_, e := holdValue(t, asset(1+g.IntN(6), price, cut), units)
		seen[e]++
	}
	if seen[api.OK] < 10000 || seen[api.ErrBig] < 10000 || seen[api.ErrArg] > 0 {
		t.Errorf("the answers were %v", seen)
	}
}

// TestValueGrows is P16.4: a value is not negative, at most units times price,
// and not less for more units or for a higher price.
func TestValueGrows(t *testing.T) {
	g := rand.New(rand.NewPCG(16, 2))
	done, more := 0, 0
	for range 100000 {
		price, cut, units := 1+g.IntN(1<<30)>>g.IntN(30), g.IntN(whole+1), g.IntN(great+1)>>g.IntN(40)
		a := asset(1, price, cut)
		n, e := Value(a, units)
		if e != api.OK {
			continue
		}
		top := new(big.Int).Mul(exact(units), exact(price))
		if n < 0 || exact(n).Cmp(top) > 0 {
			t.Errorf("Value(%v, %d) = %d", a, units, n)
		}
		dearer := a
		dearer.Price = min(price+1+g.IntN(5), 1<<30)
		byUnits, f := Value(a, min(units+1+g.IntN(5), great))
		byPrice, h := Value(dearer, units)
		if f == api.OK && byUnits < n || h == api.OK && byPrice < n {
			t.Errorf("Value(%v, %d) = %d, but with more %d and %d", a, units, n, byUnits, byPrice)
		}
		if byUnits > n && byPrice > n {
			more++
		}
		done++
	}
	if done < 50000 || more < 10000 {
		t.Errorf("only %d had values, %d of them grew", done, more)
	}
}

// fullPledges is the longest list of right pledges.
func fullPledges() []api.Pledge {
	var all []api.Pledge
	for who := 1; who <= 16; who++ {
		for asset := 1; asset <= 6; asset++ {
			all = append(all, pledge(who, asset, 1+(who*7+asset)%5))
		}
	}
	return all
}

// TestCheckRight is P16.2: what right pledges may be.
func TestCheckRight(t *testing.T) {
	for _, l := range [][]api.Pledge{
		nil, {}, somePledges(), fullPledges(), {pledge(1, 1, 1)}, {pledge(16, 6, great)}, {pledge(1, 6, great), pledge(2, 1, 1)},
		{pledge(3, 1, 5), pledge(3, 2, 5)}, {pledge(1, 1, 1), pledge(16, 1, 1)}, {pledge(5, 6, 9), pledge(6, 1, 1), pledge(6, 6, 1)},
	} {
		if e := holdCheck(t, l...); e != api.OK {
			t.Errorf("Check(%v) = %d", l, e)
		}
	}
}

// wrongPledges are pledges with one thing wrong each.
func wrongPledges() [][]api.Pledge {
	var all [][]api.Pledge
	for _, n := range []int{0, -1, 17, 1<<32 + 1, most, least} {
		all = append(all, []api.Pledge{pledge(n, 1, 1)})
	}
	for _, n := range []int{0, -1, 7, 1<<32 + 1, most, least} {
		all = append(all, []api.Pledge{pledge(1, n, 1)})
	}
	for _, n := range []int{0, -1, great + 1, bound, most, least} {
		all = append(all, []api.Pledge{pledge(1, 1, n)})
	}
	return append(all,
		[]api.Pledge{pledge(1, 1, 1), pledge(1, 1, 1)}, []api.Pledge{pledge(1, 1, 1), pledge(1, 1, 2)},
		[]api.Pledge{pledge(2, 1, 1), pledge(1, 1, 1)}, []api.Pledge{pledge(2, 1, 1), pledge(1, 2, 1)},
		[]api.Pledge{pledge(1, 2, 1), pledge(1, 1, 1)}, []api.Pledge{pledge(2, 2, 1), pledge(1, 1, 1)},
		[]api.Pledge{pledge(1, 1, 1), pledge(3, 1, 1), pledge(2, 1, 1)}, []api.Pledge{pledge(1, 1, 1), pledge(1, 3, 1), pledge(1, 2, 1)},
		[]api.Pledge{pledge(1, 1, 1), pledge(2, 1, 1), pledge(1, 1, 1)})
}

// TestCheckWrong is P16.2: each number beyond its ends at each place of a full
// list, and each pair of neighbours in the wrong order.
func TestCheckWrong(t *testing.T) {
	for _, l := range wrongPledges() {
		if e := holdCheck(t, l...); e != api.ErrState {
			t.Errorf("Check(%v) = %d", l, e)
		}
	}
	for at := range fullPledges() {
		for _, wrong := range []api.Pledge{pledge(0, 1, 1), pledge(17, 1, 1), pledge(1, 0, 1), pledge(1, 7, 1), pledge(1, 1, 0), pledge(1, 1, great+1), pledge(1, 1, -1)} {
			l := fullPledges()
			if l[at].Units = wrong.Units; wrong.Who != 1 {
				l[at].Who = wrong.Who
			}
			if wrong.Asset != 1 {
				l[at].Asset = wrong.Asset
			}
			if e := holdCheck(t, l...); e != api.ErrState {
				t.Errorf("Check with %v at %d = %d", l[at], at, e)
			}
		}
		if at == 0 {
			continue
		}
		swapped, twice := fullPledges(), fullPledges()
		swapped[at-1], swapped[at] = swapped[at], swapped[at-1]
		twice[at].Who, twice[at].Asset = twice[at-1].Who, twice[at-1].Asset
		for _, l := range [][]api.Pledge{swapped, twice} {
			if e := holdCheck(t, l...); e != api.ErrState {
				t.Errorf("Check with %v behind %v = %d", l[at], l[at-1], e)
			}
		}
	}
}

// TestCheckPairs is P16.2: all pairs of some pledges, in both orders.
func TestCheckPairs(t *testing.T) {
	seen := map[api.Errno]int{}
	for _, who := range []int{0, 1, 2, 15, 16, 17} {
		for _, other := range []int{0, 1, 2, 15, 16, 17} {
			for asset := range 8 {
				for another := range 8 {
					seen[holdCheck(t, pledge(who, asset, 4), pledge(other, another, 3))]++
				}
			}
		}
	}
	if seen[api.OK] != 6*36+4*15 {
		t.Errorf("the answers were %v", seen)
	}
}

// TestUnits is P16.2: the first pledge with both numbers counts, in any list,
// whatever its Units are.
func TestUnits(t *testing.T) {
	l := []api.Pledge{pledge(2, 6, -4), pledge(1, 3, 5), pledge(1, 3, 6), pledge(3, 1, 7), pledge(2, 6, 8), pledge(0, -1, 9), pledge(1, 1, 0), pledge(1, 1, 3), pledge(least, most, least), pledge(99, 99, most)}
	for _, x := range []struct{ who, asset, units int }{
		{2, 6, -4}, {1, 3, 5}, {3, 1, 7}, {0, -1, 9}, {1, 1, 0}, {least, most, least}, {99, 99, most},
		{6, 2, 0}, {1, 6, 0}, {2, 3, 0}, {3, 3, 0}, {0, 0, 0}, {most, least, 0}, {1<<32 + 1, 3, 0}, {1, 1<<32 + 3, 0},
	} {
		if n := Units(x.who, x.asset, l...); n != x.units {
			t.Errorf("Units(%d, %d) = %d, not %d", x.who, x.asset, n, x.units)
		}
		if n := Units(x.who, x.asset); n != 0 {
			t.Errorf("Units(%d, %d) of nothing = %d", x.who, x.asset, n)
		}
	}
	full := fullPledges()
	for _, p := range full {
		if n := Units(p.Who, p.Asset, full...); n != p.Units {
			t.Errorf("Units(%d, %d) = %d, not %d", p.Who, p.Asset, n, p.Units)
		}
	}
}

// TestChangeByHand is P16.2: more and fewer units, all of them, and none, of
// pledges that there are and of such as there are not.
func TestChangeByHand(t *testing.T) {
	l := []api.Pledge{pledge(1, 2, 5), pledge(1, 6, great), pledge(3, 1, 1)}
	for _, x := range []struct {
		who, asset, units int
		want              []api.Pledge
	}{
		{1, 2, 3, []api.Pledge{pledge(1, 2, 8), l[1], l[2]}},
		{1, 2, -3, []api.Pledge{pledge(1, 2, 2), l[1], l[2]}},
		{1, 2, -5, []api.Pledge{l[1], l[2]}},
		{1, 2, great - 5, []api.Pledge{pledge(1, 2, great), l[1], l[2]}},
		{1, 6, -great, []api.Pledge{l[0], l[2]}},
		{1, 6, -great + 1, []api.Pledge{l[0], pledge(1, 6, 1), l[2]}},
		{1, 6, 0, l},
		{3, 1, -1, []api.Pledge{l[0], l[1]}},
		{2, 2, 0, l},
		{1, 1, great, []api.Pledge{pledge(1, 1, great), l[0], l[1], l[2]}},
		{1, 3, 4, []api.Pledge{l[0], pledge(1, 3, 4), l[1], l[2]}},
		{2, 6, 9, []api.Pledge{l[0], l[1], pledge(2, 6, 9), l[2]}},
		{3, 2, 9, []api.Pledge{l[0], l[1], l[2], pledge(3, 2, 9)}},
		{16, 6, 1, []api.Pledge{l[0], l[1], l[2], pledge(16, 6, 1)}},
	} {
		if got, e := holdChange(t, l, x.who, x.asset, x.units); !slices.Equal(got, x.want) || e != api.OK {
			t.Errorf("%v: Change = %v, %d", x, got, e)
		}
	}
	for _, none := range [][]api.Pledge{nil, {}} {
		if got, e := holdChange(t, none, 4, 5, 6); !slices.Equal(got, []api.Pledge{pledge(4, 5, 6)}) || e != api.OK {
			t.Errorf("Change of nothing = %v, %d", got, e)
		}
		if got, e := holdChange(t, none, 4, 5, 0); len(got) != 0 || e != api.OK {
			t.Errorf("Change of nothing = %v, %d", got, e)
		}
	}
	if got, e := holdChange(t, []api.Pledge{pledge(4, 5, 6)}, 4, 5, -6); len(got) != 0 || e != api.OK {
		t.Errorf("Change of all there is = %v, %d", got, e)
	}
}

// TestChangeErrors is P16.2: the errors of Change at their edges.
func TestChangeErrors(t *testing.T) {
	l := []api.Pledge{pledge(1, 2, 5), pledge(1, 6, great), pledge(3, 1, 1)}
	for _, x := range []struct {
		who, asset, units int
		e                 api.Errno
	}{
		{1, 2, -6, api.ErrFloor}, {1, 2, -great, api.ErrFloor}, {2, 2, -1, api.ErrFloor}, {3, 1, -2, api.ErrFloor},
		{1, 2, great - 4, api.ErrBig}, {1, 2, great, api.ErrBig}, {1, 6, 1, api.ErrBig}, {1, 6, great, api.ErrBig},
		{0, 1, 1, api.ErrArg}, {-1, 1, 1, api.ErrArg}, {17, 1, 1, api.ErrArg}, {most, 1, 1, api.ErrArg}, {least, 1, 1, api.ErrArg}, {1<<32 + 1, 2, 1, api.ErrArg},
		{1, 0, 1, api.ErrArg}, {1, -1, 1, api.ErrArg}, {1, 7, 1, api.ErrArg}, {1, most, 1, api.ErrArg}, {1, least, 1, api.ErrArg}, {1, 1<<32 + 2, 1, api.ErrArg},
		{1, 2, great + 1, api.ErrArg}, {1, 2, -great - 1, api.ErrArg}, {1, 2, most, api.ErrArg}, {1, 2, least, api.ErrArg},
		{2, 2, great + 1, api.ErrArg}, {2, 2, -great - 1, api.ErrArg}, {1, 6, most, api.ErrArg}, {1, 6, least, api.ErrArg},
		{17, 1, -1, api.ErrArg}, {1, 7, -1, api.ErrArg}, {0, 0, 0, api.ErrArg}, {2, 0, 0, api.ErrArg}, {17, 7, most, api.ErrArg},
	} {
		if got, e := holdChange(t, l, x.who, x.asset, x.units); got != nil || e != x.e {
			t.Errorf("%v: Change = %v, %d", x, got, e)
		}
	}
	for _, wrong := range wrongPledges() {
		for _, x := range [][3]int{{1, 1, 1}, {1, 1, 0}, {1, 1, -great}, {1, 1, great}, {9, 6, 1}, {17, 1, 1}, {1, 0, 1}, {1, 1, great + 1}, {0, 0, least}} {
			if got, e := holdChange(t, wrong, x[0], x[1], x[2]); got != nil || e != api.ErrState {
				t.Errorf("Change(%v, %v) = %v, %d", wrong, x, got, e)
			}
		}
	}
}

// TestChangeEach is P16.2: each pledge of a full list is changed, taken away
// and laid back in its place, and nothing else changes.
func TestChangeEach(t *testing.T) {
	full := fullPledges()
	for at, p := range full {
		if got, e := holdChange(t, full, p.Who, p.Asset, 10); e != api.OK || len(got) != 96 || got[at].Units != p.Units+10 {
			t.Errorf("Change of %v = %v, %d", p, got, e)
		}
		less, e := holdChange(t, full, p.Who, p.Asset, -p.Units)
		if e != api.OK || len(less) != 95 {
			t.Errorf("Change of %v = %v, %d", p, less, e)
		}
		if back, e := holdChange(t, less, p.Who, p.Asset, p.Units); e != api.OK || !slices.Equal(back, full) {
			t.Errorf("Change back of %v = %v, %d", p, back, e)
		}
	}
}

// TestChangeRandom is P16.2: long rows of changes, held against the words.
// Each answer comes often.
func TestChangeRandom(t *testing.T) {
	g := rand.New(rand.NewPCG(16, 3))
	seen, longest := map[api.Errno]int{}, 0
	for range 100 {
		var l []api.Pledge
		for range 400 {
			units := g.IntN(1<<41+1) - great
			switch g.IntN(4) {
			case 0:
				units = g.IntN(7) - 3
			case 1:
				units = -units >> g.IntN(40)
			}
			who, asset := 1+g.IntN(16), 1+g.IntN(6)
			if g.IntN(4) == 0 {
				units = -Units(who, asset, l...)
			}
			if g.IntN(20) == 0 {
				who, asset = g.IntN(20)-1, g.IntN(9)-1
			}
			got, e := holdChange(t, l, who, asset, units)
			seen[e]++
			if e == api.OK {
				l, longest = got, max(longest, len(got))
			}
		}
	}
	if seen[api.OK] < 5000 || seen[api.ErrArg] < 500 || seen[api.ErrFloor] < 500 || seen[api.ErrBig] < 500 || longest < 40 {
		t.Errorf("the answers were %v, and the longest list had %d", seen, longest)
	}
}

// TestByHand is P16.3: cash and values, of those alone that are asked for, and
// what is lacking, with the answers written out.
func TestByHand(t *testing.T) {
	s := someState()
	for _, x := range []struct{ who, cur, has, short int }{
		{1, 0, 40 + 150 + 10, 400 - 200},
		{1, 1, 10 + 45, 40 + 60 - 55},
		{1, 2, 0, 0},
		{2, 0, 5775, 0},
		{2, 1, 0, 40 + 60},
		{2, 2, 0, 0},
		{3, 0, -11, 11},
		{3, 1, 0, 0},
		{16, 0, 7 << 39, 0},
		{16, 1, 0, 0},
		{4, 0, 0, 0},
	} {
		if has, short, e, f := hold(t, s, x.who, x.cur); has != x.has || short != x.short || e+f != api.OK {
			t.Errorf("%v: %d, %d, %d, %d", x, has, short, e, f)
		}
	}
}

// TestAnyWhoAndCur is P16.3: whoever is asked for in whatever currency has
// nothing and needs nothing, unless it is there.
func TestAnyWhoAndCur(t *testing.T) {
	for _, who := range []int{least, -1, 0, 1, 16, 17, 1<<32 + 1, most} {
		for _, cur := range []int{least, -1, 0, 2, 3, 1 << 32, most} {
			has, short, e, f := hold(t, someState(), who, cur)
			if there := (who == 1 || who == 16) && cur == 0; e+f != api.OK || !there && (has != 0 || short != 0) {
				t.Errorf("%d, %d: %d, %d, %d, %d", who, cur, has, short, e, f)
			}
		}
	}
	if has, short, e, f := hold(t, api.State{}, 1, 0); has != 0 || short != 0 || e+f != api.OK {
		t.Errorf("of nothing: %d, %d, %d, %d", has, short, e, f)
	}
}

// TestWhatCovers is P16.3: other accounts, other members' cash and pledges, and
// assets of other currencies or not in the roll count for nothing.
func TestWhatCovers(t *testing.T) {
	r := api.Roll{Assets: []api.Asset{asset(1, 10, 0), assetIn(2, 1, 10), asset(5, 10, 0)}}
	for _, x := range []struct {
		balances []api.Balance
		pledges  []api.Pledge
		has      int
	}{
		{nil, nil, 0},
		{[]api.Balance{bal(api.Cash, 2, 0, 7)}, nil, 7},
		{[]api.Balance{bal(api.Cash, 2, 0, -7)}, nil, -7},
		{[]api.Balance{bal(api.Cash, 1, 0, 5), bal(api.Cash, 2, 1, 6), bal(api.Cash, 3, 0, 4)}, nil, 0},
		{[]api.Balance{bal(api.Fund, 2, 0, 5), bal(api.Skin, 0, 0, 6), bal(api.Var, 0, 0, 7), bal(api.Loss, 0, 0, 8)}, nil, 0},
		{nil, []api.Pledge{pledge(2, 1, 3)}, 30},
		{nil, []api.Pledge{pledge(2, 2, 3)}, 0},
		{nil, []api.Pledge{pledge(2, 3, 3)}, 0},
		{nil, []api.Pledge{pledge(1, 1, 3), pledge(3, 1, 3)}, 0},
		{nil, []api.Pledge{pledge(1, 5, 9), pledge(2, 1, 3), pledge(2, 2, 5), pledge(2, 4, 5), pledge(2, 5, 4), pledge(3, 1, 9)}, 70},
		{[]api.Balance{bal(api.Cash, 2, 0, -71)}, []api.Pledge{pledge(2, 1, 3), pledge(2, 5, 4)}, -1},
		{[]api.Balance{bal(api.Cash, 2, 0, 1)}, []api.Pledge{pledge(2, 1, 3), pledge(2, 5, 4)}, 71},
	} {
		s := api.State{Roll: r, Ledger: books(x.balances...), Pledges: x.pledges}
		if has, short, e, f := hold(t, s, 2, 0); has != x.has || short != max(0, -x.has) || e+f != api.OK {
			t.Errorf("%v: %d, %d, %d, %d", x, has, short, e, f)
		}
	}
}

// TestRoundedEach is P16.3: each value is rounded for itself, before they are
// added up.
func TestRoundedEach(t *testing.T) {
	s := api.State{Roll: api.Roll{Assets: []api.Asset{asset(1, 1, 5000), asset(2, 3, 5000), asset(3, 5, 5000)}}}
	s.Pledges = []api.Pledge{pledge(1, 1, 1), pledge(1, 2, 1), pledge(1, 3, 1)}
	if has, _, e, _ := hold(t, s, 1, 0); has != 0+1+2 || e != api.OK {
		t.Errorf("%d, %d", has, e)
	}
}

// TestOfBig is P16.3: one value, and all of them together with the cash, at the
// bound and one beyond it; sums on the way are whatever they are.
func TestOfBig(t *testing.T) {
	assets := []api.Asset{asset(1, 1<<22, 0), asset(2, 1<<22, 0), asset(3, 1, 0), assetIn(4, 1, 1<<30), asset(6, 1<<30, 0)}
	for _, x := range []struct {
		cash    int
		pledges []api.Pledge
		has     int
		e       api.Errno
	}{
		{0, []api.Pledge{pledge(1, 1, great)}, bound, api.OK},
		{0, []api.Pledge{pledge(1, 1, great), pledge(1, 3, 1)}, 0, api.ErrBig},
		{-1, []api.Pledge{pledge(1, 1, great), pledge(1, 3, 1)}, bound, api.OK},
		{1, []api.Pledge{pledge(1, 1, great)}, 0, api.ErrBig},
		{0, []api.Pledge{pledge(1, 1, great), pledge(1, 2, great)}, 0, api.ErrBig},
		{-bound, []api.Pledge{pledge(1, 1, great), pledge(1, 2, great)}, bound, api.OK},
		{-bound + 1, []api.Pledge{pledge(1, 1, great), pledge(1, 2, great)}, 0, api.ErrBig},
		{-bound, []api.Pledge{pledge(1, 1, great), pledge(1, 2, great), pledge(1, 3, 1)}, 0, api.ErrBig},
		{-bound, nil, -bound, api.OK},
		{bound, nil, bound, api.OK},
		{bound, []api.Pledge{pledge(1, 3, 1)}, 0, api.ErrBig},
		{bound - 9, []api.Pledge{pledge(1, 3, 9)}, bound, api.OK},
		{bound, []api.Pledge{pledge(1, 1, great), pledge(1, 2, great), pledge(1, 6, 1<<32)}, 0, api.ErrBig},
		// One value beyond money counts, and not what the cash would leave of it.
		{-bound, []api.Pledge{pledge(1, 6, 1<<32+1)}, 0, api.ErrBig},
		{-bound, []api.Pledge{pledge(1, 6, 1<<32)}, 0, api.OK},
		{0, []api.Pledge{pledge(1, 6, great)}, 0, api.ErrBig},
		// Values that are not asked for harm nobody.
		{5, []api.Pledge{pledge(1, 4, great), pledge(1, 5, great), pledge(2, 6, great), pledge(16, 6, great)}, 5, api.OK},
	} {
		s := api.State{Roll: api.Roll{Assets: assets}, Ledger: books(bal(api.Cash, 1, 0, x.cash)), Pledges: x.pledges}
		if has, short, e, f := hold(t, s, 1, 0); has != x.has || short != max(0, -x.has) || e != x.e || f != x.e {
			t.Errorf("%v: %d, %d, %d, %d", x, has, short, e, f)
		}
	}
}

// TestShortBig is P16.3: a margin, and what of it is not covered, at the bound
// and one beyond it.
func TestShortBig(t *testing.T) {
	for _, x := range []struct {
		add, qty, cash, short int
		e                     api.Errno
	}{
		{1 << 22, great, 0, bound, api.OK},
		{1 << 22, great, 1, bound - 1, api.OK},
		{1 << 22, great, -1, 0, api.ErrBig},
		{1 << 22, great, bound, 0, api.OK},
		{1 << 22, great, -bound, 0, api.ErrBig},
		{1, 1, -bound, 0, api.ErrBig},
		{1, 1, -bound + 1, bound, api.OK},
		{1, 0, -bound, bound, api.OK},
		{1, 0, bound, 0, api.OK},
		{1<<22 + 1, great, 0, 0, api.ErrBig},
		{1<<22 + 1, great, bound, 0, api.ErrBig},
		{1 << 30, great, bound, 0, api.ErrBig},
	} {
		s := api.State{Roll: api.Roll{Insts: []api.Inst{{No: 1, Mult: 1, Add: x.add}}}, Ledger: books(bal(api.Cash, 1, 0, x.cash))}
		if x.qty != 0 {
			s.Poss = []api.Pos{pos(1, 1, x.qty), pos(2, 1, -x.qty)}
		}
		if has, short, e, f := hold(t, s, 1, 0); has != x.cash || short != x.short || e != api.OK || f != x.e {
			t.Errorf("%v: %d, %d, %d, %d", x, has, short, e, f)
		}
	}
}

// TestShortEdges is P16.3: covers about the margin, each way to cover it.
func TestShortEdges(t *testing.T) {
	r := api.Roll{Insts: []api.Inst{{No: 1, Cur: 2, Mult: 10, Add: 1, Shifts: [api.Grid]int{0, 0, -5}}}, Assets: []api.Asset{assetIn(2, 2, 1)}}
	poss := []api.Pos{pos(1, 1, 2), pos(2, 1, -2)}
	for cash := -3; cash <= 110; cash++ {
		for _, units := range []int{0, 1, 99, 100, 101, 102, 103, 104, 200} {
			s := api.State{Roll: r, Book: api.Book{Poss: poss}, Ledger: books(bal(api.Cash, 1, 2, cash))}
			if units > 0 {
				s.Pledges = []api.Pledge{pledge(1, 2, units)}
			}
			if has, short, e, f := hold(t, s, 1, 2); has != cash+units || short != max(0, 102-cash-units) || e+f != api.OK {
				t.Errorf("%d, %d: %d, %d, %d, %d", cash, units, has, short, e, f)
			}
		}
	}
}

// wrongLedgers, wrongRolls and wrongBooks have one thing wrong each.
func wrongLedgers() []api.Ledger {
	of := func(l ...api.Balance) api.Ledger { return api.Ledger{Balances: l} }
	return []api.Ledger{
		{Last: -1}, of(bal(api.Cash, 1, 0, 40)), of(bal(api.Bank, 0, 0, -39), bal(api.Cash, 1, 0, 40)),
		of(bal(api.Cash, 1, 0, 40), bal(api.Cash, 17, 0, -40)), of(bal(api.Cash, 1, 0, 40), bal(api.Bank, 0, 0, -40)),
		of(bal(api.Bank, 0, 0, -bound-1), bal(api.Cash, 1, 0, bound+1)), of(bal(api.Bank, 0, 0, 1), bal(api.Fund, 1, 0, -1)),
		of(bal(api.Cash, 1, 0, 0)), of(bal(api.Bank, 0, 3, -40), bal(api.Cash, 1, 3, 40)),
	}
}

func wrongRolls() []api.Roll {
	return []api.Roll{
		{Members: []api.Member{{No: 17, State: api.Active}}}, {Members: []api.Member{{No: 1}}},
		{Insts: []api.Inst{{No: 1}}}, {Insts: []api.Inst{{No: 2, Mult: 1}, {No: 1, Mult: 1}}},
		{Assets: []api.Asset{asset(1, 0, 0)}}, {Assets: []api.Asset{asset(1, 1, 10001)}}, {Assets: []api.Asset{asset(7, 1, 0)}},
		{Assets: []api.Asset{asset(2, 1, 0), asset(1, 1, 0)}}, {Assets: []api.Asset{asset(1, 1, 0), asset(1, 1, 0)}},
	}
}

func wrongBooks() []api.Book {
	return []api.Book{
		{Next: -1}, {Next: great + 1}, {Trades: []api.Trade{{No: 1, Buyer: 1, Seller: 2, Inst: 1, Qty: 1, Price: 1}}},
		{Poss: []api.Pos{pos(1, 1, 1)}}, {Poss: []api.Pos{pos(2, 1, -1), pos(1, 1, 1)}}, {Poss: []api.Pos{pos(1, 1, 0)}},
		{Poss: []api.Pos{pos(1, 1, great+1), pos(2, 1, -great-1)}}, {Poss: []api.Pos{pos(17, 1, 1), pos(18, 1, -1)}},
	}
}

// TestWrongParts is P16.3: a ledger, a roll or pledges that are not right are
// refused, whoever is asked for, and before any value that is not money.
func TestWrongParts(t *testing.T) {
	plain, big := someState(), someState()
	big.Assets = []api.Asset{asset(1, 1<<30, 0)}
	big.Pledges = []api.Pledge{pledge(1, 1, great)}
	for _, s := range []api.State{plain, big, {}} {
		var all []api.State
		for _, l := range wrongLedgers() {
			x := s
			x.Ledger = l
			all = append(all, x)
		}
		for _, r := range wrongRolls() {
			x := s
			x.Roll = r
			all = append(all, x)
		}
		for _, l := range wrongPledges() {
			x := s
			x.Pledges = l
			all = append(all, x)
		}
		for _, x := range all {
			for _, who := range []int{1, 2, 17} {
				if _, _, e, f := hold(t, x, who, 0); e != api.ErrState || f != api.ErrState {
					t.Errorf("%v: %d, %d", x, e, f)
				}
			}
		}
	}
}

// TestErrorsInOrder is P16.3: what is wrong stands behind what is not money or
// ahead of it, and the order of the chapter decides, not the order of places.
func TestErrorsInOrder(t *testing.T) {
	// Pledges and assets that are wrong behind a value that is not money.
	big := api.State{Roll: api.Roll{Assets: []api.Asset{asset(1, 1<<30, 0)}}, Pledges: []api.Pledge{pledge(1, 1, great)}}
	if _, _, e, f := hold(t, big, 1, 0); e != api.ErrBig || f != api.ErrBig {
		t.Fatalf("of what is too great: %d, %d", e, f)
	}
	behind := cloneState(big)
	behind.Pledges = append(behind.Pledges, pledge(2, 1, 0))
	unlisted := cloneState(big)
	unlisted.Assets = append(unlisted.Assets, asset(6, 0, 0))
	for _, s := range []api.State{behind, unlisted} {
		if _, _, e, f := hold(t, s, 1, 0); e != api.ErrState || f != api.ErrState {
			t.Errorf("%v: %d, %d", s, e, f)
		}
	}
	// Of asks for no book, and its ErrBig goes before a book that is wrong.
	for _, b := range wrongBooks() {
		s, plain := cloneState(big), someState()
		s.Book, plain.Book = b, b
		if _, _, e, f := hold(t, s, 1, 0); e != api.ErrBig || f != api.ErrBig {
			t.Errorf("%v: %d, %d", s, e, f)
		}
		for _, who := range []int{1, 2, 17} {
			if _, _, e, f := hold(t, plain, who, 0); e != api.OK || f != api.ErrState {
				t.Errorf("%v: %d, %d", plain, e, f)
			}
		}
	}
	// A wrong book goes before a margin that is not money, also where its Qty is
	// one that grid.Margin would refuse.
	heavy := api.State{Roll: api.Roll{Insts: []api.Inst{{No: 1, Mult: 1024, Add: 1 << 30, Shifts: [api.Grid]int{1 << 30}}}}}
	for _, x := range []struct {
		poss []api.Pos
		e    api.Errno
	}{
		{[]api.Pos{pos(1, 1, great), pos(2, 1, -great)}, api.ErrBig},
		{[]api.Pos{pos(1, 1, great), pos(2, 1, -great+1)}, api.ErrState},
		{[]api.Pos{pos(1, 1, great+1), pos(2, 1, -great-1)}, api.ErrState},
		{[]api.Pos{pos(3, 1, great), pos(2, 1, -great)}, api.ErrState},
	} {
		heavy.Poss = x.poss
		if _, _, e, f := hold(t, heavy, 1, 0); e != api.OK || f != x.e {
			t.Errorf("%v: %d, %d", heavy, e, f)
		}
	}
}

// anyState is a right state of members 1 to 3; far tells whether there are
// numbers at their ends in it.
func anyState(g *rand.Rand, far bool) api.State {
	pick := func(near, ends []int) int {
		if far {
			near = slices.Concat(near, ends)
		}
		return near[g.IntN(len(near))]
	}
	var s api.State
	for no := 1; no <= api.MaxInsts; no++ {
		i := api.Inst{No: no, Cur: g.IntN(2), Mult: pick([]int{1, 2, 10}, []int{1024}), Add: pick([]int{0, 0, 3}, []int{1 << 22})}
		for j := range i.Shifts {
			i.Shifts[j] = pick([]int{0, 1, -1, 5, -8}, []int{1 << 22, -1 << 22})
		}
		s.Insts = append(s.Insts, i)
	}
	for no := 1; no <= api.MaxAssets; no++ {
		if g.IntN(4) > 0 {
			a := api.Asset{No: no, Cur: g.IntN(2), Price: pick([]int{1, 2, 7, 100}, []int{1 << 22, 1 << 30})}
			a.Cut = pick([]int{0, 1, 500, 5000, 9999, 10000}, nil)
			s.Assets = append(s.Assets, a)
		}
	}
	var balances []api.Balance
	for cur := range 2 {
		balances = append(balances, bal(api.Cash, 1, cur, pick([]int{0, 1, 50, -50, 1000}, []int{bound, -bound, bound - 1, -bound / 2})))
	}
	s.Ledger = books(balances...)
	for who := 1; who <= 3; who++ {
		for no := 1; no <= api.MaxAssets; no++ {
			if g.IntN(3) == 0 {
				s.Pledges = append(s.Pledges, pledge(who, no, pick([]int{1, 2, 30}, []int{1 << 32, great})))
			}
		}
	}
	for inst := 1; inst <= api.MaxInsts; inst++ {
		if g.IntN(3) == 0 {
			qty := pick([]int{1, -1, 5, -7, 20}, []int{1 << 20, great, -great})
			s.Poss = append(s.Poss, pos(1, inst, qty), pos(2, inst, -qty))
		}
	}
	slices.SortFunc(s.Poss, func(a, b api.Pos) int { return (a.Who-b.Who)*100 + a.Inst - b.Inst })
	return s
}

// TestRandom is P16.3: many states, held against the words. Each answer comes
// often, with a shortfall and without one.
func TestRandom(t *testing.T) {
	g := rand.New(rand.NewPCG(16, 4))
	seen, seenShort, lacking, enough := map[api.Errno]int{}, map[api.Errno]int{}, 0, 0
	for k := range 30000 {
		s := anyState(g, k%2 == 0)
		switch g.IntN(30) {
		case 0:
			s.Pledges = append(s.Pledges, pledge(3, 7, 1))
		case 1:
			s.Next = -1
		}
		_, short, e, f := hold(t, s, 1+g.IntN(3), g.IntN(2))
		seen[e]++
		seenShort[f]++
		if f == api.OK && short > 0 {
			lacking++
		} else if f == api.OK && len(s.Poss) > 0 {
			enough++
		}
	}
	for _, e := range []api.Errno{api.OK, api.ErrState, api.ErrBig} {
		if seen[e] < 500 || seenShort[e] < 500 {
			t.Errorf("the answers were %v, %v", seen, seenShort)
		}
	}
	if lacking < 3000 || enough < 3000 {
		t.Errorf("%d had too little, and %d enough", lacking, enough)
	}
}

// covered is s with more cover for member 1: more cash from the bank, more
// units of a pledge, a higher price, or a smaller haircut.
func covered(t *testing.T, g *rand.Rand, s api.State) api.State {
	t.Helper()
	s = cloneState(s)
	more := 1 + g.IntN(100)
	e := api.OK
	switch at := g.IntN(max(1, len(s.Assets))); {
	case g.IntN(2) == 0 || len(s.Assets) == 0:
		cur := g.IntN(2)
		bank, cash := api.Acct{Kind: api.Bank, Cur: cur}, api.Acct{Kind: api.Cash, Who: 1, Cur: cur}
		s.Ledger, e = ledger.Post(s.Ledger, s.Last+1, api.Leg{Acct: bank, Amount: -more}, api.Leg{Acct: cash, Amount: more})
	case g.IntN(2) == 0:
		s.Pledges, e = Change(s.Pledges, 1, s.Assets[at].No, more)
	case g.IntN(2) == 0:
		s.Assets[at].Price = min(s.Assets[at].Price+more, 1<<30)
	default:
		s.Assets[at].Cut = max(0, s.Assets[at].Cut-more)
	}
	if e != api.OK {
		t.Fatalf("no more cover: %d", e)
	}
	return s
}

// TestMoreCover is P16.4: more cover never increases a shortfall, and where
// there was one it makes it less by what it is more, down to 0.
func TestMoreCover(t *testing.T) {
	g := rand.New(rand.NewPCG(16, 5))
	done, fewer, gone := 0, 0, 0
	for range 30000 {
		s := anyState(g, false)
		after := covered(t, g, s)
		for cur := range 2 {
			has, e := Of(s.Ledger, s.Roll, s.Pledges, 1, cur)
			more, f := Of(after.Ledger, after.Roll, after.Pledges, 1, cur)
			short, h := Short(s, 1, cur)
			still, k := Short(after, 1, cur)
			if e+f+h+k != api.OK || more < has || still > short || short > 0 && still != max(0, short-(more-has)) {
				t.Errorf("%v has %d and lacks %d, and %v %d and %d, in %d", s, has, short, after, more, still, cur)
			}
			done++
			if still < short {
				fewer++
			}
			if still == 0 && short > 0 {
				gone++
			}
		}
	}
	if fewer < 2000 || gone < 200 {
		t.Errorf("of %d shortfalls %d became less, %d of them 0", done, fewer, gone)
	}
}

// TestArgumentsStay is R2 and R6: what is passed in stays as it was, behind
// the ends of its lists too, and what stands there counts for nothing.
func TestArgumentsStay(t *testing.T) {
	long := append(somePledges(), pledge(16, 6, 1), pledge(1, 1, 1000), pledge(0, 0, 0))
	before := slices.Clone(long)
	shown := long[:6]
	if e := Check(shown...); e != api.OK || Check(long...) != api.ErrState || Units(0, 0, shown...) != 0 {
		t.Errorf("Check = %d", e)
	}
	for _, x := range [][3]int{{1, 1, 5}, {1, 1, -2}, {1, 4, 1}, {16, 6, 0}, {16, 6, -great}, {2, 2, 8}, {16, 5, 3}, {16, 6, 1}, {17, 1, 1}} {
		holdChange(t, shown, x[0], x[1], x[2])
		holdChange(t, shown[:0], x[0], x[1], x[2])
	}
	s := someState()
	s.Assets = append(s.Assets, asset(3, 1000, 0), api.Asset{})
	s.Insts, s.Members = append(s.Insts, api.Inst{}), append(s.Members, api.Member{})
	s.Balances = append(s.Balances, bal(api.Cash, 1, 0, 999))
	s.Poss, s.Pledges = append(s.Poss, pos(1, 3, 100)), long
	full := cloneState(s)
	cut := s
	cut.Assets, cut.Insts, cut.Members = s.Assets[:4], s.Insts[:2], s.Members[:3]
	cut.Balances, cut.Poss, cut.Pledges = s.Balances[:len(s.Balances)-1], s.Poss[:4], shown
	if has, short, e, f := hold(t, cut, 1, 0); has != 200 || short != 200 || e+f != api.OK {
		t.Errorf("%d, %d, %d, %d", has, short, e, f)
	}
	hold(t, s, 1, 0)
	if !same(s, full) || !slices.Equal(long, before) {
		t.Errorf("the arguments became %v, %v", s, long)
	}
}

// spoil writes into a list, and behind its end.
func spoil(l []api.Pledge) {
	l = l[:cap(l)]
	for k := range l {
		l[k] = pledge(9, 9, 9)
	}
}

// TestResultsAreNew is R2 and R3: what is written into a result, and into the
// memory behind it, is seen in no argument and in no other result, and behind
// its end there is nothing of what was passed in.
func TestResultsAreNew(t *testing.T) {
	for _, x := range [][3]int{{1, 1, 0}, {4, 4, 0}, {1, 1, 5}, {1, 1, -2}, {16, 6, -great}, {16, 6, -1}, {1, 4, 6}, {16, 5, 6}, {3, 1, 7}} {
		l := append(make([]api.Pledge, 0, 20), append(somePledges(), pledge(77, 7, 7))...)[:6]
		first, _ := Change(l, x[0], x[1], x[2])
		second, _ := Change(l, x[0], x[1], x[2])
		for _, p := range first[len(first):cap(first)] {
			if p != (api.Pledge{}) {
				t.Errorf("%v: behind the end there is %v", x, p)
			}
		}
		want := slices.Clone(second)
		spoil(first)
		if third, _ := Change(l, x[0], x[1], x[2]); !slices.Equal(second, want) || !slices.Equal(third, want) || !slices.Equal(l, somePledges()) {
			t.Errorf("%v: after a write into a result: %v, %v, not %v; the argument became %v", x, second, third, want, l)
		}
		spoil(l)
		if !slices.Equal(second, want) {
			t.Errorf("%v: after a write into an argument: %v, not %v", x, second, want)
		}
	}
}

// TestNothingIsKept is R3: a call answers the same whatever was asked between,
// and whatever became of what it was given.
func TestNothingIsKept(t *testing.T) {
	s := someState()
	has, short, _, _ := hold(t, s, 1, 0)
	hold(t, s, 2, 1)
	hold(t, api.State{Pledges: []api.Pledge{{}}}, 1, 0)
	holdValue(t, asset(1, 1<<30, 0), great)
	s.Pledges[0].Units, s.Poss[0].Qty, s.Poss[2].Qty = 3, 9, -9
	if changed, lacks, e, f := hold(t, s, 1, 0); changed == has || lacks == short || e+f != api.OK {
		t.Errorf("%d, %d for another state too", changed, lacks)
	}
	if again, lacks, _, _ := hold(t, someState(), 1, 0); again != has || lacks != short {
		t.Errorf("%d, %d, and before %d, %d", again, lacks, has, short)
	}
}
