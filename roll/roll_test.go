package roll

import (
	"maps"
	"math"
	"math/rand/v2"
	"slices"
	"testing"

	"cambist/api"
)

const (
	least = math.MinInt
	most  = math.MaxInt
)

// shifts are the shifts of an instrument at their edges.
var shifts = [api.Grid]int{1 << 30, -1 << 30, 0, 1, -1, 7}

// some is a right roll with gaps in its numbers.
func some() api.Roll {
	return api.Roll{
		Members: []api.Member{{No: 2, State: api.Active, Need: 5}, {No: 5, State: api.Defaulted}, {No: 11, State: api.Closed, Need: 1 << 62}},
		Insts:   []api.Inst{{No: 3, Cur: 1, Mult: 10, Add: 4, Set: 7, Price: 6, Shifts: shifts}, {No: 6, Cur: 2, Mult: 1024, Add: 1 << 30, Price: 1 << 30}},
		Assets:  []api.Asset{{No: 2, Cur: 1, Price: 9, Cut: 500}, {No: 4, Price: 1 << 30, Cut: 10000}},
	}
}

// whole is a right roll that has all members, instruments and assets.
func whole() api.Roll {
	var r api.Roll
	for no := 1; no <= 16; no++ {
		r.Members = append(r.Members, api.Member{No: no, State: 1 + no%3, Need: no * no})
	}
	for no := 1; no <= 8; no++ {
		i := api.Inst{No: no, Cur: no % 3, Mult: 100 * no, Add: no, Set: no % 2 * no, Price: 50 * (no - 1), Shifts: shifts}
		i.Shifts[no%6] = no
		r.Insts = append(r.Insts, i)
	}
	for no := 1; no <= 6; no++ {
		r.Assets = append(r.Assets, api.Asset{No: no, Cur: no % 3, Price: 7 * no, Cut: 1000 * no})
	}
	return r
}

// odd is a roll that is right in nothing: its numbers come twice, in no order
// and beyond their ends.
func odd() api.Roll {
	return api.Roll{
		Members: []api.Member{{No: 7, State: 9, Need: -1}, {No: 0, State: api.Active}, {No: 7, State: api.Closed}, {No: most, State: least}, {No: least, State: api.Active, Need: most}, {No: 1 << 32}},
		Insts:   []api.Inst{{No: 8, Mult: -5, Set: -3, Price: 4}, {No: 8, Set: 1}, {No: least, Set: most, Price: least}, {No: 0, Price: -9}, {No: 3, Set: least}},
		Assets:  []api.Asset{{No: 6, Cur: 9}, {No: -1, Cut: -1}, {No: 6, Cur: 1, Price: 5}, {No: 1<<32 + 1, Price: most}},
	}
}

// clone is r in memory of its own.
func clone(r api.Roll) api.Roll {
	var c api.Roll
	c.Members = append(c.Members, r.Members...)
	c.Insts = append(c.Insts, r.Insts...)
	c.Assets = append(c.Assets, r.Assets...)
	return c
}

// same reports whether two rolls have the same in them.
func same(a, b api.Roll) bool {
	return slices.Equal(a.Members, b.Members) && slices.Equal(a.Insts, b.Insts) && slices.Equal(a.Assets, b.Assets)
}

// field is a number of an item, and where it may be.
type field[T any] struct {
	name   string
	at     func(*T) *int
	lo, hi int
}

// memberFields, instFields and assetFields are the chapter's words on what is
// right.
func memberFields() []field[api.Member] {
	return []field[api.Member]{
		{"No", func(m *api.Member) *int { return &m.No }, 1, 16},
		{"State", func(m *api.Member) *int { return &m.State }, 1, 3},
		{"Need", func(m *api.Member) *int { return &m.Need }, 0, 1 << 62},
	}
}

func instFields() []field[api.Inst] {
	l := []field[api.Inst]{
		{"No", func(i *api.Inst) *int { return &i.No }, 1, 8},
		{"Cur", func(i *api.Inst) *int { return &i.Cur }, 0, 2},
		{"Mult", func(i *api.Inst) *int { return &i.Mult }, 1, 1024},
		{"Add", func(i *api.Inst) *int { return &i.Add }, 0, 1 << 30},
		{"Set", func(i *api.Inst) *int { return &i.Set }, 0, 1 << 30},
		{"Price", func(i *api.Inst) *int { return &i.Price }, 0, 1 << 30},
	}
	for k := range 6 {
		l = append(l, field[api.Inst]{"Shift", func(i *api.Inst) *int { return &i.Shifts[k] }, -1 << 30, 1 << 30})
	}
	return l
}

func assetFields() []field[api.Asset] {
	return []field[api.Asset]{
		{"No", func(a *api.Asset) *int { return &a.No }, 1, 6},
		{"Cur", func(a *api.Asset) *int { return &a.Cur }, 0, 2},
		{"Price", func(a *api.Asset) *int { return &a.Price }, 1, 1 << 30},
		{"Cut", func(a *api.Asset) *int { return &a.Cut }, 0, 10000},
	}
}

// edges are the ends between which a field may be, one inside of them, one
// beyond them, the ends of int, and what is right but for its upper bits.
func (f field[T]) edges() []int {
	return []int{f.lo, f.lo + 1, f.hi - 1, f.hi, f.lo - 1, f.hi + 1, -f.hi, least, most, f.lo + 1<<32, f.hi - 1<<32, f.hi | least}
}

// bad are the edges at which a field may not be.
func (f field[T]) bad() []int {
	return slices.DeleteFunc(f.edges(), func(n int) bool { return n >= f.lo && n <= f.hi })
}

// fits reports whether all fields of x are where they may be.
func fits[T any](x T, fields []field[T]) bool {
	for _, f := range fields {
		if n := *f.at(&x); n < f.lo || n > f.hi {
			return false
		}
	}
	return true
}

// rises reports whether a list fits, and each No is below all later ones.
func rises[T any](l []T, fields []field[T]) bool {
	for k := range l {
		if !fits(l[k], fields) {
			return false
		}
		for later := k + 1; later < len(l); later++ {
			if *fields[0].at(&l[k]) >= *fields[0].at(&l[later]) {
				return false
			}
		}
	}
	return true
}

// exactRight is what the chapter calls a right roll, word by word.
func exactRight(r api.Roll) bool {
	return rises(r.Members, memberFields()) && rises(r.Insts, instFields()) && rises(r.Assets, assetFields())
}

// faulty are rolls, each of them right but for one number, or for a place.
func faulty() []api.Roll {
	var l []api.Roll
	for _, base := range []func() api.Roll{some, whole} {
		l = slices.Concat(l,
			faults(base, func(r *api.Roll) *[]api.Member { return &r.Members }, memberFields()),
			faults(base, func(r *api.Roll) *[]api.Inst { return &r.Insts }, instFields()),
			faults(base, func(r *api.Roll) *[]api.Asset { return &r.Assets }, assetFields()))
	}
	return l
}

// faults are the rolls with a fault in one list.
func faults[T any](base func() api.Roll, list func(*api.Roll) *[]T, fields []field[T]) []api.Roll {
	var l []api.Roll
	r := base()
	for k := range len(*list(&r)) {
		for _, f := range fields {
			for _, n := range f.bad() {
				r := base()
				*f.at(&(*list(&r))[k]) = n
				l = append(l, r)
			}
		}
		twice, turned := base(), base()
		at := list(&twice)
		*at = slices.Insert(*at, k, (*at)[k])
		l = append(l, twice)
		if t := *list(&turned); k > 0 {
			t[k-1], t[k] = t[k], t[k-1]
			l = append(l, turned)
		}
	}
	return append(l, odd())
}

// TestCheckRight is P11.1: right rolls, each number at the ends between which
// it may be.
func TestCheckRight(t *testing.T) {
	for _, r := range []api.Roll{{}, some(), whole(), {Members: some().Members}, {Insts: some().Insts}, {Assets: some().Assets}, {Members: []api.Member{}, Insts: []api.Inst{}, Assets: []api.Asset{}}} {
		if e := Check(r); e != api.OK || !exactRight(r) {
			t.Errorf("Check(%v) = %d", r, e)
		}
	}
	edgesOf(t, api.Member{No: 3, State: api.Active}, memberFields(), func(m api.Member) api.Roll { return api.Roll{Members: []api.Member{m}} })
	edgesOf(t, api.Inst{No: 3, Mult: 3}, instFields(), func(i api.Inst) api.Roll { return api.Roll{Insts: []api.Inst{i}} })
	edgesOf(t, api.Asset{No: 3, Price: 3}, assetFields(), func(a api.Asset) api.Roll { return api.Roll{Assets: []api.Asset{a}} })
}

// edgesOf checks the roll with each number of x at each of its edges.
func edgesOf[T any](t *testing.T, x T, fields []field[T], alone func(T) api.Roll) {
	t.Helper()
	for _, f := range fields {
		for _, n := range f.edges() {
			y := x
			*f.at(&y) = n
			e := api.ErrState
			if n >= f.lo && n <= f.hi {
				e = api.OK
			}
			if g := Check(alone(y)); g != e {
				t.Errorf("Check of %v, with %s %d, = %d, not %d", y, f.name, n, g, e)
			}
		}
	}
}

// TestCheckWrong is P11.1: each thing that makes a roll not right, at each
// place.
func TestCheckWrong(t *testing.T) {
	for _, r := range faulty() {
		if exactRight(r) {
			t.Fatalf("%v is right", r)
		}
		if e := Check(r); e != api.ErrState {
			t.Errorf("Check(%v) = %d", r, e)
		}
	}
}

// TestCheckOrder is P11.1: each list rises by No, wherever a number stands.
func TestCheckOrder(t *testing.T) {
	for set := range 6 * 6 * 6 {
		nos := []int{1 + set%6, 1 + set/6%6, 1 + set/36}
		var members, insts, assets api.Roll
		for _, no := range nos {
			members.Members = append(members.Members, api.Member{No: no, State: api.Closed})
			insts.Insts = append(insts.Insts, api.Inst{No: no, Mult: 1})
			assets.Assets = append(assets.Assets, api.Asset{No: no, Price: 1})
		}
		e := api.ErrState
		if nos[0] < nos[1] && nos[1] < nos[2] {
			e = api.OK
		}
		for _, r := range []api.Roll{members, insts, assets} {
			if f := Check(r); f != e {
				t.Errorf("Check(%v) = %d, not %d", r, f, e)
			}
		}
	}
}

// TestMany is P11.1 and R1: lists as long as one likes.
func TestMany(t *testing.T) {
	r := api.Roll{Members: slices.Repeat(whole().Members, 1000), Insts: slices.Repeat(whole().Insts, 1000), Assets: slices.Repeat(whole().Assets, 1000)}
	if e := Check(r); e != api.ErrState {
		t.Errorf("Check of %d members = %d", len(r.Members), e)
	}
	if got := Turn(r); len(got.Insts) != 8000 || got.Insts[7998].Set != 0 || got.Insts[7998].Price != 7 {
		t.Errorf("Turn of %d instruments left %d", len(r.Insts), len(got.Insts))
	}
	if l := Those(r, api.Active); len(l) != 5000 || l[4999] != 15 {
		t.Errorf("Those of %d members are %d", len(r.Members), len(l))
	}
}

// numbers are all numbers of members, instruments and assets, and others.
func numbers() []int {
	l := []int{least, -1 << 32, 1 << 32, 1<<32 + 1, 1<<32 + 7, most}
	for no := -2; no <= 19; no++ {
		l = append(l, no)
	}
	return l
}

// TestFind is P11.1: the first one with the number, of any roll; and nothing
// where there is none.
func TestFind(t *testing.T) {
	rolls := append(faulty(), api.Roll{}, some(), whole())
	for _, r := range rolls {
		for _, no := range numbers() {
			var m api.Member
			var i api.Inst
			var a api.Asset
			// Backwards: what is left is the first one.
			for _, x := range slices.Backward(r.Members) {
				if x.No == no {
					m = x
				}
			}
			for _, x := range slices.Backward(r.Insts) {
				if x.No == no {
					i = x
				}
			}
			for _, x := range slices.Backward(r.Assets) {
				if x.No == no {
					a = x
				}
			}
			hasM := slices.ContainsFunc(r.Members, func(x api.Member) bool { return x.No == no })
			hasI := slices.ContainsFunc(r.Insts, func(x api.Inst) bool { return x.No == no })
			hasA := slices.ContainsFunc(r.Assets, func(x api.Asset) bool { return x.No == no })
			if got, ok := Member(r, no); got != m || ok != hasM {
				t.Errorf("Member(%v, %d) = %v, %v", r.Members, no, got, ok)
			}
			if got, ok := Inst(r, no); got != i || ok != hasI {
				t.Errorf("Inst(%v, %d) = %v, %v", r.Insts, no, got, ok)
			}
			if got, ok := Asset(r, no); got != a || ok != hasA {
				t.Errorf("Asset(%v, %d) = %v, %v", r.Assets, no, got, ok)
			}
		}
	}
}

// TestFindByHand is P11.1: some of the same, with the answers written out.
func TestFindByHand(t *testing.T) {
	if m, ok := Member(some(), 5); m != (api.Member{No: 5, State: api.Defaulted}) || !ok {
		t.Errorf("Member 5 = %v, %v", m, ok)
	}
	if m, ok := Member(odd(), 7); m != (api.Member{No: 7, State: 9, Need: -1}) || !ok {
		t.Errorf("Member 7 = %v, %v", m, ok)
	}
	if m, ok := Member(some(), 6); m != (api.Member{}) || ok {
		t.Errorf("Member 6 = %v, %v", m, ok)
	}
	if i, ok := Inst(odd(), 8); i != (api.Inst{No: 8, Mult: -5, Set: -3, Price: 4}) || !ok {
		t.Errorf("Inst 8 = %v, %v", i, ok)
	}
	if i, ok := Inst(odd(), 0); i != (api.Inst{Price: -9}) || !ok {
		t.Errorf("Inst 0 = %v, %v", i, ok)
	}
	if i, ok := Inst(some(), 0); i != (api.Inst{}) || ok {
		t.Errorf("Inst 0 = %v, %v", i, ok)
	}
	if a, ok := Asset(odd(), 6); a != (api.Asset{No: 6, Cur: 9}) || !ok {
		t.Errorf("Asset 6 = %v, %v", a, ok)
	}
	if a, ok := Asset(some(), 3); a != (api.Asset{}) || ok {
		t.Errorf("Asset 3 = %v, %v", a, ok)
	}
}

// exact holds a roll as what stands at each number.
type exact struct {
	members map[int]api.Member
	insts   map[int]api.Inst
	assets  map[int]api.Asset
}

func exactOf(r api.Roll) exact {
	x := exact{map[int]api.Member{}, map[int]api.Inst{}, map[int]api.Asset{}}
	for _, m := range r.Members {
		x.members[m.No] = m
	}
	for _, i := range r.Insts {
		x.insts[i.No] = i
	}
	for _, a := range r.Assets {
		x.assets[a.No] = a
	}
	return x
}

func (x exact) roll() api.Roll {
	var r api.Roll
	for _, no := range slices.Sorted(maps.Keys(x.members)) {
		r.Members = append(r.Members, x.members[no])
	}
	for _, no := range slices.Sorted(maps.Keys(x.insts)) {
		r.Insts = append(r.Insts, x.insts[no])
	}
	for _, no := range slices.Sorted(maps.Keys(x.assets)) {
		r.Assets = append(r.Assets, x.assets[no])
	}
	return r
}

// exactAdmit, exactList, exactHold, exactTell and exactPut are P11.2, word by
// word, for a right roll.
func exactAdmit(r api.Roll, who, need int) (api.Roll, api.Errno) {
	x, m := exactOf(r), api.Member{No: who, State: api.Active, Need: need}
	if !fits(m, memberFields()) {
		return api.Roll{}, api.ErrArg
	}
	if _, ok := x.members[who]; ok {
		return api.Roll{}, api.ErrTwice
	}
	x.members[who] = m
	return x.roll(), api.OK
}

func exactList(r api.Roll, i api.Inst) (api.Roll, api.Errno) {
	x := exactOf(r)
	i.Set, i.Price = 0, 0
	if !fits(i, instFields()) {
		return api.Roll{}, api.ErrArg
	}
	if _, ok := x.insts[i.No]; ok {
		return api.Roll{}, api.ErrTwice
	}
	x.insts[i.No] = i
	return x.roll(), api.OK
}

func exactHold(r api.Roll, a api.Asset) (api.Roll, api.Errno) {
	x := exactOf(r)
	if was, ok := x.assets[a.No]; !fits(a, assetFields()) || ok && was.Cur != a.Cur {
		return api.Roll{}, api.ErrArg
	}
	x.assets[a.No] = a
	return x.roll(), api.OK
}

func exactTell(r api.Roll, no, price int) (api.Roll, api.Errno) {
	x := exactOf(r)
	i, ok := x.insts[no]
	switch {
	case !ok:
		return api.Roll{}, api.ErrNone
	case price < 1 || price > 1<<30:
		return api.Roll{}, api.ErrArg
	}
	i.Set = price
	x.insts[no] = i
	return x.roll(), api.OK
}

func exactPut(r api.Roll, who, state int) (api.Roll, api.Errno) {
	x := exactOf(r)
	m, ok := x.members[who]
	switch {
	case !ok:
		return api.Roll{}, api.ErrNone
	case state < 1 || state > 3:
		return api.Roll{}, api.ErrArg
	}
	m.State = state
	x.members[who] = m
	return x.roll(), api.OK
}

// rights are right rolls to change.
func rights() []api.Roll { return []api.Roll{{}, some(), whole()} }

// told reports a call whose answer is not the one that is wanted, or is not
// right.
func told(t *testing.T, call string, args any, got api.Roll, e api.Errno, want api.Roll, f api.Errno) {
	t.Helper()
	if !same(got, want) || e != f {
		t.Errorf("%s of %v = %v, %d, not %v, %d", call, args, got, e, want, f)
	}
	if !exactRight(got) || Check(got) != api.OK {
		t.Errorf("%s of %v = %v: this is not right", call, args, got)
	}
}

// TestExample is the chapter's example.
func TestExample(t *testing.T) {
	r, e := Admit(api.Roll{}, 3, 100)
	if e != api.OK {
		t.Errorf("Admit of 3 = %d", e)
	}
	r, e = Admit(r, 1, 0)
	want := api.Roll{Members: []api.Member{{No: 1, State: api.Active}, {No: 3, State: api.Active, Need: 100}}}
	if e != api.OK || !same(r, want) {
		t.Errorf("Admit of 3 and 1 = %v, %d", r, e)
	}
	if r, e := Admit(r, 3, 5); e != api.ErrTwice || !same(r, api.Roll{}) {
		t.Errorf("Admit of 3 again = %v, %d", r, e)
	}
}

// TestByHand is P11.2: each call, with its answers and its errors written out.
func TestByHand(t *testing.T) {
	admitted, e := Admit(some(), 4, 8)
	want := some()
	want.Members = []api.Member{{No: 2, State: api.Active, Need: 5}, {No: 4, State: api.Active, Need: 8}, {No: 5, State: api.Defaulted}, {No: 11, State: api.Closed, Need: 1 << 62}}
	told(t, "Admit", 4, admitted, e, want, api.OK)

	listed, e := List(some(), api.Inst{No: 7, Cur: 1, Mult: 2, Add: 3, Set: 4, Price: -5, Shifts: shifts})
	want = some()
	want.Insts = append(want.Insts, api.Inst{No: 7, Cur: 1, Mult: 2, Add: 3, Shifts: shifts})
	told(t, "List", 7, listed, e, want, api.OK)

	held, e := Hold(some(), api.Asset{No: 1, Cur: 2, Price: 3, Cut: 4})
	want = some()
	want.Assets = []api.Asset{{No: 1, Cur: 2, Price: 3, Cut: 4}, {No: 2, Cur: 1, Price: 9, Cut: 500}, {No: 4, Price: 1 << 30, Cut: 10000}}
	told(t, "Hold", 1, held, e, want, api.OK)
	held, e = Hold(some(), api.Asset{No: 2, Cur: 1, Price: 3, Cut: 4})
	want = some()
	want.Assets[0] = api.Asset{No: 2, Cur: 1, Price: 3, Cut: 4}
	told(t, "Hold", 2, held, e, want, api.OK)

	priced, e := Tell(some(), 3, 99)
	want = some()
	want.Insts[0].Set = 99
	told(t, "Tell", 3, priced, e, want, api.OK)

	put, e := Put(some(), 11, api.Active)
	want = some()
	want.Members[2] = api.Member{No: 11, State: api.Active, Need: 1 << 62}
	told(t, "Put", 11, put, e, want, api.OK)
}

// TestErrorsInOrder is P11.2: of several errors, the one that is named first;
// and with an error nothing else.
func TestErrorsInOrder(t *testing.T) {
	for _, x := range []struct {
		name string
		call func(api.Roll) (api.Roll, api.Errno)
		e    api.Errno
	}{
		{"Admit of one there, with no need", func(r api.Roll) (api.Roll, api.Errno) { return Admit(r, 2, -1) }, api.ErrArg},
		{"Admit of one there", func(r api.Roll) (api.Roll, api.Errno) { return Admit(r, 2, 5) }, api.ErrTwice},
		{"Admit of one in default", func(r api.Roll) (api.Roll, api.Errno) { return Admit(r, 5, 0) }, api.ErrTwice},
		{"Admit of one closed", func(r api.Roll) (api.Roll, api.Errno) { return Admit(r, 11, 0) }, api.ErrTwice},
		{"Admit of none", func(r api.Roll) (api.Roll, api.Errno) { return Admit(r, 0, 0) }, api.ErrArg},
		{"List of one there, without a multiplier", func(r api.Roll) (api.Roll, api.Errno) { return List(r, api.Inst{No: 3}) }, api.ErrArg},
		{"List of one there", func(r api.Roll) (api.Roll, api.Errno) { return List(r, some().Insts[0]) }, api.ErrTwice},
		{"List of one there, with prices that may not be", func(r api.Roll) (api.Roll, api.Errno) {
			return List(r, api.Inst{No: 6, Mult: 1, Set: -1, Price: most})
		}, api.ErrTwice},
		{"List of none", func(r api.Roll) (api.Roll, api.Errno) { return List(r, api.Inst{Mult: 1}) }, api.ErrArg},
		{"Hold of one there, without a price", func(r api.Roll) (api.Roll, api.Errno) { return Hold(r, api.Asset{No: 2, Cur: 1}) }, api.ErrArg},
		{"Hold of one there in another currency", func(r api.Roll) (api.Roll, api.Errno) { return Hold(r, api.Asset{No: 2, Cur: 0, Price: 9, Cut: 500}) }, api.ErrArg},
		{"Hold of the last one in another currency", func(r api.Roll) (api.Roll, api.Errno) { return Hold(r, api.Asset{No: 4, Cur: 2, Price: 9}) }, api.ErrArg},
		{"Hold of none", func(r api.Roll) (api.Roll, api.Errno) { return Hold(r, api.Asset{Price: 1}) }, api.ErrArg},
		{"Tell of none, without a price", func(r api.Roll) (api.Roll, api.Errno) { return Tell(r, 4, 0) }, api.ErrNone},
		{"Tell of none", func(r api.Roll) (api.Roll, api.Errno) { return Tell(r, 4, 1) }, api.ErrNone},
		{"Tell of what can't be", func(r api.Roll) (api.Roll, api.Errno) { return Tell(r, 9, -1) }, api.ErrNone},
		{"Tell without a price", func(r api.Roll) (api.Roll, api.Errno) { return Tell(r, 3, 0) }, api.ErrArg},
		{"Tell of too great a price", func(r api.Roll) (api.Roll, api.Errno) { return Tell(r, 6, 1<<30+1) }, api.ErrArg},
		{"Put of none, into no state", func(r api.Roll) (api.Roll, api.Errno) { return Put(r, 1, 0) }, api.ErrNone},
		{"Put of none", func(r api.Roll) (api.Roll, api.Errno) { return Put(r, 1, api.Closed) }, api.ErrNone},
		{"Put of what can't be", func(r api.Roll) (api.Roll, api.Errno) { return Put(r, 17, 4) }, api.ErrNone},
		{"Put into no state", func(r api.Roll) (api.Roll, api.Errno) { return Put(r, 2, 0) }, api.ErrArg},
		{"Put into a state too many", func(r api.Roll) (api.Roll, api.Errno) { return Put(r, 11, 4) }, api.ErrArg},
	} {
		if got, e := x.call(some()); !same(got, api.Roll{}) || e != x.e {
			t.Errorf("%s = %v, %d, not %d", x.name, got, e, x.e)
		}
		for _, r := range faulty() {
			if got, e := x.call(r); !same(got, api.Roll{}) || e != api.ErrState {
				t.Errorf("%s, to %v = %v, %d", x.name, r, got, e)
			}
		}
	}
	// What would be done in a right roll is not done in another one either.
	for _, r := range faulty() {
		for name, call := range calls() {
			if got, e := call(r); !same(got, api.Roll{}) || e != api.ErrState {
				t.Errorf("%s to %v = %v, %d", name, r, got, e)
			}
		}
	}
}

// calls are changes that some takes.
func calls() map[string]func(api.Roll) (api.Roll, api.Errno) {
	return map[string]func(api.Roll) (api.Roll, api.Errno){
		"Admit":         func(r api.Roll) (api.Roll, api.Errno) { return Admit(r, 7, 1) },
		"Admit first":   func(r api.Roll) (api.Roll, api.Errno) { return Admit(r, 1, 1) },
		"Admit last":    func(r api.Roll) (api.Roll, api.Errno) { return Admit(r, 16, 1) },
		"List":          func(r api.Roll) (api.Roll, api.Errno) { return List(r, api.Inst{No: 4, Mult: 1}) },
		"List last":     func(r api.Roll) (api.Roll, api.Errno) { return List(r, api.Inst{No: 8, Mult: 1}) },
		"Hold":          func(r api.Roll) (api.Roll, api.Errno) { return Hold(r, api.Asset{No: 4, Price: 1}) },
		"Hold a new":    func(r api.Roll) (api.Roll, api.Errno) { return Hold(r, api.Asset{No: 3, Price: 1}) },
		"Hold the last": func(r api.Roll) (api.Roll, api.Errno) { return Hold(r, api.Asset{No: 6, Price: 1}) },
		"Tell":          func(r api.Roll) (api.Roll, api.Errno) { return Tell(r, 6, 5) },
		"Put":           func(r api.Roll) (api.Roll, api.Errno) { return Put(r, 2, api.Defaulted) },
	}
}

// TestAdmit is P11.2: each number, there or not, with needs at the edges.
func TestAdmit(t *testing.T) {
	for _, r := range rights() {
		for _, who := range numbers() {
			for _, need := range []int{0, 1, -1, 100, 1<<62 - 1, 1 << 62, 1<<62 + 1, -1 << 62, least, most} {
				want, f := exactAdmit(r, who, need)
				got, e := Admit(r, who, need)
				told(t, "Admit", []int{who, need}, got, e, want, f)
			}
		}
	}
}

// TestList is P11.2: each number, and each part of an instrument at its edges;
// Set and Price, whatever they are, become 0.
func TestList(t *testing.T) {
	for _, r := range rights() {
		for _, no := range numbers() {
			for _, f := range instFields() {
				for _, n := range f.edges() {
					i := api.Inst{No: 5, Cur: 1, Mult: 20, Add: 30, Set: 40, Price: 50, Shifts: shifts}
					i.No = no
					*f.at(&i) = n
					want, f := exactList(r, i)
					got, e := List(r, i)
					told(t, "List", i, got, e, want, f)
				}
			}
		}
	}
}

// TestHold is P11.2: each number, there or not, and each part of an asset at
// its edges; all of an asset but its currency may be replaced.
func TestHold(t *testing.T) {
	for _, r := range rights() {
		for _, no := range numbers() {
			for _, cur := range []int{0, 1, 2} {
				for _, f := range assetFields() {
					for _, n := range f.edges() {
						a := api.Asset{No: no, Cur: cur, Price: 12, Cut: 345}
						*f.at(&a) = n
						want, f := exactHold(r, a)
						got, e := Hold(r, a)
						told(t, "Hold", a, got, e, want, f)
					}
				}
			}
		}
	}
}

// TestTell is P11.2: each number, with prices at the edges.
func TestTell(t *testing.T) {
	for _, r := range rights() {
		for _, no := range numbers() {
			for _, price := range []int{1, 2, 77, 1<<30 - 1, 1 << 30, 0, -1, 1<<30 + 1, 1 << 32, 1<<32 + 1, least, most} {
				want, f := exactTell(r, no, price)
				got, e := Tell(r, no, price)
				told(t, "Tell", []int{no, price}, got, e, want, f)
			}
		}
	}
}

// TestPut is P11.2: each number, from each state into each, and into none.
func TestPut(t *testing.T) {
	for _, r := range rights() {
		for _, who := range numbers() {
			for _, state := range []int{1, 2, 3, 0, 4, -1, 1<<32 + 1, 1 << 32, least, most} {
				want, f := exactPut(r, who, state)
				got, e := Put(r, who, state)
				told(t, "Put", []int{who, state}, got, e, want, f)
			}
		}
	}
}

// TestTurn is P11.3: each price that was told, of any roll, and nothing else;
// once more, and nothing turns.
func TestTurn(t *testing.T) {
	want := some()
	want.Insts[0].Price, want.Insts[0].Set = 7, 0
	if got := Turn(some()); !same(got, want) {
		t.Errorf("Turn of some = %v", got)
	}
	want = odd()
	want.Insts = []api.Inst{{No: 8, Mult: -5, Price: -3}, {No: 8, Price: 1}, {No: least, Price: most}, {No: 0, Price: -9}, {No: 3, Price: least}}
	if got := Turn(odd()); !same(got, want) {
		t.Errorf("Turn of what is odd = %v", got)
	}
	for _, r := range append(faulty(), rights()...) {
		want := clone(r)
		for k := range want.Insts {
			if want.Insts[k].Set != 0 {
				want.Insts[k].Price = want.Insts[k].Set
			}
			want.Insts[k].Set = 0
		}
		got := Turn(r)
		if !same(got, want) || !same(Turn(got), want) {
			t.Errorf("Turn(%v) = %v, not %v", r, got, want)
		}
		if exactRight(r) && !exactRight(got) {
			t.Errorf("Turn(%v) = %v: this is not right", r, got)
		}
	}
}

// TestThose is P11.3: the numbers of those in one of the states, in the order
// of the roll, each as often as it stands there.
func TestThose(t *testing.T) {
	for _, x := range []struct {
		r      api.Roll
		states []int
		l      []int
	}{
		{some(), nil, nil},
		{some(), []int{}, nil},
		{some(), []int{api.Active}, []int{2}},
		{some(), []int{api.Closed, api.Active}, []int{2, 11}},
		{some(), []int{api.Closed, api.Closed, api.Closed}, []int{11}},
		{some(), []int{api.Closed, api.Defaulted, api.Active}, []int{2, 5, 11}},
		{some(), []int{0, 4, -1, 1<<32 + 1, least, most}, nil},
		{whole(), []int{api.Active}, []int{3, 6, 9, 12, 15}},
		{api.Roll{}, []int{0, 1, 2, 3}, nil},
		{odd(), []int{api.Active}, []int{0, least}},
		{odd(), []int{9, api.Closed}, []int{7, 7}},
		{odd(), []int{0, least}, []int{most, 1 << 32}},
	} {
		if l := Those(x.r, x.states...); !slices.Equal(l, x.l) {
			t.Errorf("Those(%v, %v) = %v, not %v", x.r.Members, x.states, l, x.l)
		}
	}
	if l := Those(some(), api.Defaulted, api.Closed); !slices.Equal(l, []int{5, 11}) {
		t.Errorf("Those of two states = %v", l)
	}
	if l := Those(some(), slices.Repeat([]int{api.Active, 9}, 1<<20)...); !slices.Equal(l, []int{2}) {
		t.Errorf("Those of a state many times = %v", l)
	}
}

// TestRows is P11.4: long rows of changes from nothing, against the document's
// words; whatever is answered is right.
func TestRows(t *testing.T) {
	rnd := rand.New(rand.NewPCG(11, 1))
	seen := map[api.Errno]int{}
	for range 100 {
		var r api.Roll
		for range 200 {
			no, n := rnd.IntN(19)-1, rnd.IntN(6)-1
			var got, want api.Roll
			var e, f api.Errno
			switch rnd.IntN(6) {
			case 0:
				got, e = Admit(r, no, n)
				want, f = exactAdmit(r, no, n)
			case 1:
				i := api.Inst{No: no % 10, Cur: n, Mult: no, Add: n, Set: no, Price: -n, Shifts: [api.Grid]int{n, -no}}
				got, e = List(r, i)
				want, f = exactList(r, i)
			case 2:
				a := api.Asset{No: no % 8, Cur: n % 3, Price: no, Cut: n}
				got, e = Hold(r, a)
				want, f = exactHold(r, a)
			case 3:
				got, e = Tell(r, no%10, n)
				want, f = exactTell(r, no%10, n)
			case 4:
				got, e = Put(r, no, n)
				want, f = exactPut(r, no, n)
			default:
				got, want = Turn(r), clone(r)
				for k, i := range r.Insts {
					if i.Set != 0 {
						want.Insts[k].Set, want.Insts[k].Price = 0, i.Set
					}
				}
			}
			told(t, "a change", r, got, e, want, f)
			seen[e]++
			if e == api.OK {
				r = got
			}
		}
	}
	for _, e := range []api.Errno{api.OK, api.ErrArg, api.ErrTwice, api.ErrNone} {
		if seen[e] < 100 {
			t.Errorf("the error %d came %d times", e, seen[e])
		}
	}
}

// roomy is r with items behind the end of each of its lists, which would be
// seen if they were read, and all of it, those items too.
func roomy(r api.Roll) (short, long api.Roll) {
	long = clone(r)
	long.Members = append(long.Members, api.Member{No: 12, State: api.Active, Need: 1}, api.Member{No: 99})
	long.Insts = append(long.Insts, api.Inst{No: 7, Mult: 1, Set: 5}, api.Inst{No: 99, Set: 5})
	long.Assets = append(long.Assets, api.Asset{No: 5, Price: 1}, api.Asset{No: 99})
	short = api.Roll{Members: long.Members[:len(r.Members)], Insts: long.Insts[:len(r.Insts)], Assets: long.Assets[:len(r.Assets)]}
	return short, long
}

// TestArgumentsStay is R2 and P11.4: neither a list nor what lies behind its
// end is changed, and what lies there does not count.
func TestArgumentsStay(t *testing.T) {
	for name, call := range calls() {
		short, long := roomy(some())
		before := clone(long)
		want, f := call(some())
		got, e := call(short)
		told(t, name, "what has memory behind it", got, e, want, f)
		if e != api.OK || !same(long, before) || !same(short, some()) {
			t.Errorf("%s = %d, and the roll became %v", name, e, long)
		}
	}
	short, long := roomy(some())
	before := clone(long)
	states := []int{api.Active, api.Closed, api.Defaulted}
	if l := Those(short, states[:1]...); !slices.Equal(l, []int{2}) {
		t.Errorf("Those = %v", l)
	}
	if got := Turn(short); !same(got, Turn(some())) {
		t.Errorf("Turn = %v", got)
	}
	if _, ok := Member(short, 12); ok || Check(short) != api.OK {
		t.Error("what lies behind the end counts")
	}
	_, inst := Inst(short, 7)
	_, asset := Asset(short, 5)
	if inst || asset {
		t.Error("what lies behind the end is found")
	}
	if !same(long, before) || !slices.Equal(states, []int{1, 3, 2}) {
		t.Errorf("the arguments became %v, %v", long, states)
	}
}

// spoil writes into all memory of a roll, that behind the ends of its lists
// too.
func spoil(r api.Roll) {
	members, insts, assets := r.Members[:cap(r.Members)], r.Insts[:cap(r.Insts)], r.Assets[:cap(r.Assets)]
	for k := range members {
		members[k] = api.Member{No: -7}
	}
	for k := range insts {
		insts[k] = api.Inst{No: -7}
	}
	for k := range assets {
		assets[k] = api.Asset{No: -7}
	}
}

// TestResultsAreNew is R2 and R3: what is written into a result, and into the
// memory behind it, is seen in no argument and in no other result.
func TestResultsAreNew(t *testing.T) {
	changes := calls()
	changes["Turn"] = func(r api.Roll) (api.Roll, api.Errno) { return Turn(r), api.OK }
	for name, call := range changes {
		r, long := roomy(some())
		before := clone(long)
		first, e := call(r)
		second, _ := call(r)
		want := clone(second)
		if e != api.OK || !same(first, want) {
			t.Errorf("%s = %v, %d, and again %v", name, first, e, want)
		}
		spoil(first)
		third, _ := call(r)
		if !same(long, before) || !same(second, want) || !same(third, want) {
			t.Errorf("after a write into what %s answered: %v, %v and %v", name, long, second, third)
		}
		spoil(r)
		if !same(second, want) {
			t.Errorf("after a write into what %s was given: %v", name, second)
		}
	}
	those := Those(some(), api.Active, api.Closed)
	those = those[:cap(those)]
	for k := range those {
		those[k] = -7
	}
	if l := Those(some(), api.Active, api.Closed); !slices.Equal(l, []int{2, 11}) {
		t.Errorf("after a write into a result Those = %v", l)
	}
}
