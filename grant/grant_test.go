package grant

import (
	"bytes"
	"math"
	"math/rand"
	"slices"
	"testing"

	"blindstamp/api"
	"blindstamp/policy"
)

// lab, sees, to and off are short ways to make a label, a clearance, a grant, and one that takes away.
func lab(level uint8, cats uint32) api.Label {
	return api.Label{Level: level, Cats: cats}
}

func sees(l api.Label) api.Clear {
	return api.Clear{Label: l, Ok: true}
}

func to(user int, l api.Label) api.Grant {
	return api.Grant{User: user, Clear: sees(l)}
}

func off(user int) api.Grant {
	return api.Grant{User: user}
}

// chapters is the policy of chapter 6, with users 0 and 1 and four grants.
func chapters() api.Policy {
	return api.Policy{Users: []api.Clear{sees(lab(2, 3)), {}}, Quotas: []api.Quota{{Label: lab(1, 1), Opens: 2, Ops: 3, Cells: 9}}, Grants: 4}
}

// many is a policy with so many users, each with a clearance of its own, and so many grants.
func many(users, grants int) api.Policy {
	p := api.Policy{Grants: grants}
	for user := range users {
		p.Users = append(p.Users, sees(lab(uint8(user+1), uint32(3*user+2))))
	}
	for tier := range 8 {
		p.Quotas = append(p.Quotas, api.Quota{Label: lab(uint8(tier/2), uint32(tier%2)), Opens: tier + 1, Ops: 2*tier + 1, Cells: 100 * tier})
	}
	return p
}

// rights has policies that may be: of no user, of some, of as many as there may be; with no grant, some, all.
func rights() []api.Policy {
	l := []api.Policy{{}, {Users: []api.Clear{}, Quotas: []api.Quota{}}, {Grants: 64}, {Users: make([]api.Clear, 8), Grants: 1}, chapters()}
	for users := range 9 {
		for _, grants := range []int{0, 1, 2, 3, 63, 64} {
			l = append(l, many(users, grants))
		}
	}
	full := api.Policy{Users: make([]api.Clear, 3), Quotas: []api.Quota{{Ops: 256}, {Label: lab(0, 1), Ops: 240}}, Grants: 64}
	return append(l, full)
}

// wrongs has policies that may not be, by one thing each.
func wrongs() []api.Policy {
	var l []api.Policy
	for _, turn := range []func(p *api.Policy){
		func(p *api.Policy) { p.Grants = -1 },
		func(p *api.Policy) { p.Grants = 65 },
		func(p *api.Policy) { p.Grants = math.MinInt },
		func(p *api.Policy) { p.Grants = math.MaxInt },
		func(p *api.Policy) { p.Users[0].Ok = false },
		func(p *api.Policy) { p.Users[1].Label.Level = 16 },
		func(p *api.Policy) { p.Users = append(p.Users, make([]api.Clear, 6)...) },
		func(p *api.Policy) { p.Quotas[1] = p.Quotas[0] },
		func(p *api.Policy) { p.Quotas[0].Ops = -1 },
		func(p *api.Policy) { p.Quotas[7].Cells = 4097 },
		func(p *api.Policy) { p.Quotas[7].Label.Level = 16 },
		func(p *api.Policy) { p.Quotas = append(p.Quotas, api.Quota{Label: lab(9, 9)}) },
		func(p *api.Policy) { p.Quotas[1].Ops, p.Quotas[2].Ops = 256, 256 },
		func(p *api.Policy) { p.Quotas[1].Cells, p.Quotas[2].Cells = 4096, 4096 },
	} {
		p := many(3, 4)
		turn(&p)
		l = append(l, p)
	}
	return append(l, api.Policy{Users: make([]api.Clear, 9), Grants: 4}, api.Policy{Users: []api.Clear{{Label: lab(0, 1)}}})
}

// labels has labels that may be: of each level, with categories that fill each byte alone, some, all.
func labels() []api.Label {
	var l []api.Label
	for level := range 16 {
		for _, cats := range []uint32{0, 1, 0xff, 0x100, 0xff00, 0x10000, 0xff0000, 0x1000000, 0xff000000, 0x01020304, 0x80000001, 0xfefdfcfb, math.MaxUint32} {
			l = append(l, lab(uint8(level), cats))
		}
	}
	return l
}

// usersAll has users that a grant may have; usersNone such as it may not, some of which would be, if a few of their bits were left out.
func usersAll() []int {
	return []int{0, 1, 2, 3, 4, 5, 6, 7}
}

func usersNone() []int {
	return []int{-1, 8, 9, -2, -7, -8, -256, 15, 16, 255, 256, 257, 1 << 16, 1 << 31, 1<<32 + 1, 1 << 32, -1 << 32, math.MaxInt - 1, math.MaxInt, math.MinInt, math.MinInt + 1}
}

// well has grants that may be; bad such as may not.
func well() []api.Grant {
	var l []api.Grant
	for _, user := range usersAll() {
		l = append(l, off(user))
		for _, clear := range labels() {
			l = append(l, to(user, clear))
		}
	}
	return l
}

func bad() []api.Grant {
	var l []api.Grant
	for _, user := range usersNone() {
		l = append(l, off(user), to(user, lab(0, 0)), to(user, lab(1, 1)), to(user, lab(16, 1)))
	}
	for _, user := range usersAll() {
		for level := 16; level < 256; level++ {
			l = append(l, to(user, lab(uint8(level), 0)), to(user, lab(uint8(level), 3)))
		}
		for _, clear := range append(labels(), lab(16, 0), lab(255, 1)) {
			if clear != (api.Label{}) {
				l = append(l, api.Grant{User: user, Clear: api.Clear{Label: clear}})
			}
		}
	}
	return l
}

// mayBe tells whether a grant may be, told by lists of what may.
func mayBe(g api.Grant) bool {
	if !slices.Contains(usersAll(), g.User) {
		return false
	}
	if g.Clear.Ok {
		return g.Clear.Label.Level < 16
	}
	return g.Clear.Label.Level == 0 && g.Clear.Label.Cats == 0
}

// copied is a policy in new memory, made by hand.
func copied(p api.Policy) api.Policy {
	c := api.Policy{Grants: p.Grants}
	for _, u := range p.Users {
		c.Users = append(c.Users, u)
	}
	for _, q := range p.Quotas {
		c.Quotas = append(c.Quotas, q)
	}
	return c
}

// alike tells whether two policies are the same, thing by thing.
func alike(a, b api.Policy) bool {
	ok := a.Grants == b.Grants && len(a.Users) == len(b.Users) && len(a.Quotas) == len(b.Quotas)
	for i := 0; ok && i < len(a.Users); i++ {
		ok = a.Users[i] == b.Users[i]
	}
	for i := 0; ok && i < len(a.Quotas); i++ {
		ok = a.Quotas[i] == b.Quotas[i]
	}
	return ok
}

// zero tells whether a policy has nothing.
func zero(p api.Policy) bool {
	return len(p.Users) == 0 && len(p.Quotas) == 0 && p.Grants == 0
}

// wanted is what is to come of a grant to a policy, whether that may be or not.
func wanted(p api.Policy, g api.Grant) (api.Policy, api.Errno) {
	switch {
	case policy.Check(p) != api.OK || !mayBe(g):
		return api.Policy{}, api.ErrBad
	case !slices.Contains(usersAll()[:len(p.Users)], g.User):
		return api.Policy{}, api.ErrArg
	case p.Grants < 1:
		return api.Policy{}, api.ErrFull
	}
	next := api.Policy{Quotas: p.Quotas, Grants: p.Grants - 1}
	next.Users = slices.Concat(p.Users[:g.User], []api.Clear{g.Clear}, p.Users[g.User+1:])
	return next, api.OK
}

// wantedOf is what is to come of several grants.
func wantedOf(p api.Policy, l []api.Grant) (api.Policy, []api.Errno) {
	var told []api.Errno
	for _, g := range l {
		next, e := wanted(p, g)
		if e == api.OK {
			p = next
		}
		told = append(told, e)
	}
	return p, told
}

func wantApply(t *testing.T, p api.Policy, g api.Grant) {
	t.Helper()
	want, f := wanted(p, g)
	got, e := Apply(p, g)
	if e != f || !alike(got, want) {
		t.Errorf("Apply(%v, %v) is %v, %d, not %v, %d", p, g, got, e, want, f)
	}
}

func wantRun(t *testing.T, p api.Policy, l []api.Grant) {
	t.Helper()
	want, all := wantedOf(p, l)
	got, told, e := Run(p, l)
	if e != api.OK || !alike(got, want) || !slices.Equal(told, all) {
		t.Errorf("Run(%v, %v) is %v, %v, %d, not %v, %v, 0", p, l, got, told, e, want, all)
	}
}

func wantNoRun(t *testing.T, p api.Policy, l []api.Grant, f api.Errno) {
	t.Helper()
	got, told, e := Run(p, l)
	if e != f || !zero(got) || len(told) != 0 {
		t.Errorf("Run(%v, of %d) is %v, %v, %d, not nothing and %d", p, len(l), got, told, e, f)
	}
}

// The policies that these tests take as such that may be, or may not, are so.
func TestPolicies(t *testing.T) {
	for _, p := range rights() {
		if e := policy.Check(p); e != api.OK {
			t.Errorf("%v may not be: %d", p, e)
		}
	}
	for _, p := range wrongs() {
		if e := policy.Check(p); e != api.ErrBad {
			t.Errorf("%v may be: %d", p, e)
		}
	}
}

// P7.1 Check: each grant that may be, and each that may not.
func TestCheck(t *testing.T) {
	for _, g := range well() {
		if e := Check(g); e != api.OK || !mayBe(g) {
			t.Errorf("Check(%v) is %d", g, e)
		}
	}
	for _, g := range bad() {
		if e := Check(g); e != api.ErrBad || mayBe(g) {
			t.Errorf("Check(%v) is %d", g, e)
		}
	}
}

// P7.1 Check: the edges that are named, one by one.
func TestCheckEdges(t *testing.T) {
	for g, e := range map[api.Grant]api.Errno{
		{}:                                       api.OK,
		off(7):                                   api.OK,
		off(8):                                   api.ErrBad,
		off(-1):                                  api.ErrBad,
		off(math.MaxInt):                         api.ErrBad,
		off(math.MinInt):                         api.ErrBad,
		to(0, lab(0, 0)):                         api.OK,
		to(7, lab(15, math.MaxUint32)):           api.OK,
		to(7, lab(16, 0)):                        api.ErrBad,
		to(0, lab(255, 1)):                       api.ErrBad,
		to(8, lab(1, 1)):                         api.ErrBad,
		{Clear: api.Clear{Label: lab(0, 1)}}:     api.ErrBad,
		{Clear: api.Clear{Label: lab(1, 0)}}:     api.ErrBad,
		{Clear: api.Clear{Label: lab(0, 1<<31)}}: api.ErrBad,
	} {
		if told := Check(g); told != e {
			t.Errorf("Check(%v) is %d, not %d", g, told, e)
		}
	}
}

// P7.1 Apply: each grant to each policy, whether they may be or not.
func TestApply(t *testing.T) {
	few := slices.DeleteFunc(slices.Concat(well(), bad()), func(g api.Grant) bool { return g.Clear.Label.Level%5 != 0 && g.Clear.Label.Level != 16 })
	for _, p := range slices.Concat(rights(), wrongs()) {
		for _, g := range few {
			wantApply(t, p, g)
		}
	}
	for _, g := range slices.Concat(well(), bad()) {
		wantApply(t, chapters(), g)
		wantApply(t, many(8, 64), g)
	}
}

// P7.1 Apply: a policy behind one that gives, one that gives less, one that gives the same, one that takes away.
func TestApplyOrdinary(t *testing.T) {
	for _, clear := range []api.Clear{sees(lab(1, 1)), sees(lab(0, 0)), sees(lab(2, 3)), sees(lab(15, math.MaxUint32)), {}} {
		for user := range 2 {
			p, e := Apply(chapters(), api.Grant{User: user, Clear: clear})
			want := chapters()
			want.Users[user] = clear
			want.Grants = 3
			if e != api.OK || !alike(p, want) {
				t.Errorf("user %d to %v: %v, %d", user, clear, p, e)
			}
		}
	}
}

// P7.1 Apply: who may open behind a grant: what was taken away is gone, what was given is there.
func TestApplyMay(t *testing.T) {
	for _, from := range append(labels(), lab(2, 3)) {
		p := many(3, 2)
		p.Users[1] = sees(from)
		if may, _ := policy.May(p, 1, from); !may {
			t.Fatalf("%v is not there ahead of all", from)
		}
		gone, e := Apply(p, off(1))
		if may, f := policy.May(gone, 1, lab(0, 0)); may || e != api.OK || f != api.OK {
			t.Errorf("%v is still there: %d, %d", from, e, f)
		}
		again, e := Apply(gone, to(1, from))
		if may, f := policy.May(again, 1, from); !may || e != api.OK || f != api.OK {
			t.Errorf("%v is not given: %d, %d", from, e, f)
		}
	}
}

// P7.1 Apply: no users, and as many as may be: the last one, and one more.
func TestApplyUsers(t *testing.T) {
	for users := range 9 {
		for user := -1; user <= 9; user++ {
			_, e := Apply(many(users, 1), to(user, lab(1, 1)))
			want := api.OK
			if user < 0 || user > 7 {
				want = api.ErrBad
			} else if user >= users {
				want = api.ErrArg
			}
			if e != want {
				t.Errorf("user %d of %d: %d, not %d", user, users, e, want)
			}
		}
	}
}

// P7.1 Apply: room behind a policy's length has no users.
func TestApplyBehindTheLength(t *testing.T) {
	all := many(5, 2)
	p := all
	p.Users = all.Users[:2]
	wantApply(t, p, to(1, lab(9, 9)))
	if got, e := Apply(p, to(2, lab(9, 9))); e != api.ErrArg || !zero(got) {
		t.Errorf("user 2 of 2: %v, %d", got, e)
	}
	if !alike(all, many(5, 2)) {
		t.Errorf("what lies behind was turned: %v", all)
	}
}

// P7.1 Apply: of several errors the first one is told.
func TestApplyFirstError(t *testing.T) {
	none := many(2, 0)
	for _, x := range []struct {
		p api.Policy
		g api.Grant
		e api.Errno
	}{
		{none, off(0), api.ErrFull},
		{none, to(1, lab(1, 1)), api.ErrFull},
		{none, off(2), api.ErrArg},
		{none, to(7, lab(1, 1)), api.ErrArg},
		{none, off(8), api.ErrBad},
		{none, off(-1), api.ErrBad},
		{none, to(2, lab(16, 1)), api.ErrBad},
		{none, to(0, lab(16, 1)), api.ErrBad},
		{none, api.Grant{User: 1, Clear: api.Clear{Label: lab(0, 1)}}, api.ErrBad},
		{many(2, 1), off(2), api.ErrArg},
		{many(2, 1), to(2, lab(16, 1)), api.ErrBad},
		{many(2, 1), api.Grant{User: 5, Clear: api.Clear{Label: lab(1, 0)}}, api.ErrBad},
		{api.Policy{}, off(0), api.ErrArg},
		{api.Policy{}, off(8), api.ErrBad},
	} {
		if got, e := Apply(x.p, x.g); e != x.e || !zero(got) {
			t.Errorf("Apply(%v, %v) is %v, %d, not nothing and %d", x.p, x.g, got, e, x.e)
		}
	}
	for _, p := range wrongs() {
		for _, g := range []api.Grant{off(0), to(1, lab(1, 1)), off(7), off(8), off(-1), to(1, lab(16, 0))} {
			if got, e := Apply(p, g); e != api.ErrBad || !zero(got) {
				t.Errorf("Apply(%v, %v) is %v, %d", p, g, got, e)
			}
		}
	}
}

// P7.2 Run: of none, nil and empty, the policy as it was, and no errors.
func TestRunNone(t *testing.T) {
	for _, p := range rights() {
		for _, l := range [][]api.Grant{nil, {}, make([]api.Grant, 3)[:0]} {
			got, told, e := Run(p, l)
			if !alike(got, p) || len(told) != 0 || e != api.OK {
				t.Errorf("Run(%v, none) is %v, %v, %d", p, got, told, e)
			}
		}
	}
}

// P7.2 Run: of one, what Apply tells, and the policy as it was where that is an error.
func TestRunOne(t *testing.T) {
	for _, p := range rights() {
		for _, g := range []api.Grant{off(0), off(1), off(7), to(0, lab(3, 3)), to(2, lab(0, 0)), to(7, lab(15, 1)), off(8), off(-1), to(1, lab(16, 1)), off(math.MinInt), {Clear: api.Clear{Label: lab(0, 1)}}} {
			behind, f := Apply(p, g)
			if f != api.OK {
				behind = p
			}
			got, told, e := Run(p, []api.Grant{g})
			if !alike(got, behind) || !slices.Equal(told, []api.Errno{f}) || e != api.OK {
				t.Errorf("Run(%v, %v) is %v, %v, %d", p, g, got, told, e)
			}
		}
	}
}

// P7.2 Run: as many as Grants tells, one fewer, more, for one user and for all.
func TestRunAsManyAsGrants(t *testing.T) {
	for _, grants := range []int{0, 1, 2, 5, 63, 64} {
		for _, more := range []int{-1, 0, 1, 2, 70} {
			for users := 1; users <= 8; users++ {
				var one, all []api.Grant
				for i := range max(grants+more, 0) {
					one = append(one, to(users-1, lab(uint8(i%16), uint32(i))))
					all = append(all, to(i%users, lab(uint8(i%16), uint32(i))))
				}
				wantRun(t, many(users, grants), one)
				wantRun(t, many(users, grants), all)
			}
		}
	}
}

// lasting makes so many grants, of which each tenth is one that comes.
func lasting(n int) []api.Grant {
	var l []api.Grant
	for i := range n {
		g := []api.Grant{off(2), off(8), off(-1), to(0, lab(16, 1)), {User: 1, Clear: api.Clear{Label: lab(0, 1)}}}[i%5]
		if i%10 == 9 {
			g = to(i%2, lab(uint8(i%16), uint32(i)))
		}
		l = append(l, g)
	}
	return l
}

// P7.2 Run: of MaxLog, and of one more, whatever they are.
func TestRunMaxLog(t *testing.T) {
	for _, p := range []api.Policy{chapters(), many(2, 64), many(2, 0), {}} {
		for _, n := range []int{2047, 2048} {
			wantRun(t, p, lasting(n))
			wantRun(t, p, make([]api.Grant, n))
			wantRun(t, p, slices.Repeat([]api.Grant{off(9)}, n))
		}
		for _, n := range []int{2049, 2050, 4096, 1 << 16, 1<<16 + 1} {
			wantNoRun(t, p, lasting(n), api.ErrMany)
			wantNoRun(t, p, make([]api.Grant, n), api.ErrMany)
			wantNoRun(t, p, slices.Repeat([]api.Grant{off(9)}, n), api.ErrMany)
		}
	}
	room := make([]api.Grant, 4096)
	wantRun(t, many(2, 64), room[:2048])
}

// P7.2 Run: the last of MaxLog counts.
func TestRunLastOfMaxLog(t *testing.T) {
	l := slices.Repeat([]api.Grant{off(8)}, 2048)
	l[2047] = to(1, lab(7, 7))
	p, told, e := Run(chapters(), l)
	if e != api.OK || len(told) != 2048 || told[2047] != api.OK || told[2046] != api.ErrBad || p.Users[1] != sees(lab(7, 7)) || p.Grants != 3 {
		t.Errorf("%v, %d, %d", p, len(told), e)
	}
}

// P7.2 Run: of a policy that may not be nothing is told, however many grants there are.
func TestRunWrongPolicies(t *testing.T) {
	for _, p := range wrongs() {
		for _, l := range [][]api.Grant{nil, {}, {off(0)}, {off(8)}, {off(0), off(-1)}, lasting(2048), lasting(2049), make([]api.Grant, 5000)} {
			wantNoRun(t, p, l, api.ErrBad)
		}
	}
}

// P7.2 Run: each error, first, last and in between: it is told in its place, and changes nothing.
func TestRunErrors(t *testing.T) {
	good := []api.Grant{to(1, lab(1, 1)), off(0), to(0, lab(3, 1)), to(1, lab(2, 2))}
	for _, x := range []struct {
		g api.Grant
		e api.Errno
	}{
		{off(8), api.ErrBad}, {off(-1), api.ErrBad}, {to(1, lab(16, 0)), api.ErrBad}, {api.Grant{Clear: api.Clear{Label: lab(1, 1)}}, api.ErrBad},
		{off(2), api.ErrArg}, {to(7, lab(9, 9)), api.ErrArg},
	} {
		for at := range len(good) + 1 {
			l := slices.Insert(slices.Clone(good), at, x.g)
			want, told := wantedOf(chapters(), l)
			if told[at] != x.e || !alike(want, mustRun(t, chapters(), good)) {
				t.Fatalf("%v is not what was meant", x)
			}
			wantRun(t, chapters(), l)
			wantRun(t, chapters(), slices.Insert(l, at, x.g, x.g))
		}
	}
	full := mustRun(t, chapters(), append(good, off(0), off(1), to(0, lab(0, 0))))
	if !alike(full, mustRun(t, chapters(), good)) {
		t.Errorf("what came when there were no grants left turned %v", full)
	}
}

// mustRun is the policy behind grants.
func mustRun(t *testing.T, p api.Policy, l []api.Grant) api.Policy {
	t.Helper()
	p, _, e := Run(p, l)
	if e != api.OK {
		t.Fatalf("Run of %d grants: %d", len(l), e)
	}
	return p
}

// P7.2 Run: where no grants are left, what is wrong with a grant is still told.
func TestRunErrorsBehindTheLast(t *testing.T) {
	_, told, e := Run(many(2, 1), []api.Grant{off(2), off(1), off(0), off(2), off(8), to(0, lab(16, 0)), to(1, lab(1, 1))})
	want := []api.Errno{api.ErrArg, api.OK, api.ErrFull, api.ErrArg, api.ErrBad, api.ErrBad, api.ErrFull}
	if e != api.OK || !slices.Equal(told, want) {
		t.Errorf("%v, %d, not %v", told, e, want)
	}
}

// somes makes grants, always the same ones, some of which may not be.
func somes(r *rand.Rand, n int) []api.Grant {
	var l []api.Grant
	for range n {
		g := to(r.Intn(10)-r.Intn(2), lab(uint8(r.Intn(17)), r.Uint32()))
		if r.Intn(3) == 0 {
			g.Clear = api.Clear{}
		}
		if r.Intn(12) == 0 {
			g.Clear.Ok = !g.Clear.Ok
		}
		l = append(l, g)
	}
	return l
}

// P7.2 Run, P7.1 Apply: many rows of grants, held against what is told another way, and against Apply one by one.
func TestRunMany(t *testing.T) {
	r := rand.New(rand.NewSource(7))
	for range 3000 {
		p := many(r.Intn(9), []int{0, 1, r.Intn(65), 64}[r.Intn(4)])
		l := somes(r, r.Intn(90))
		wantRun(t, p, l)
		q, told, _ := Run(p, l)
		for i, g := range l {
			behind, e := Apply(p, g)
			if e == api.OK {
				p = behind
			}
			if e != told[i] {
				t.Fatalf("grant %d of %v: Run tells %d, Apply %d", i, l, told[i], e)
			}
		}
		if !alike(p, q) {
			t.Fatalf("Run is %v, Apply one by one %v", q, p)
		}
	}
}

// bytesOf are a grant's bytes, written out.
func bytesOf(g api.Grant) []byte {
	ok := map[bool]byte{true: 1}[g.Clear.Ok]
	c := g.Clear.Label.Cats
	return []byte{byte(g.User), ok, g.Clear.Label.Level, byte(c / (1 << 24)), byte(c / (1 << 16) % 256), byte(c / 256 % 256), byte(c % 256)}
}

// P7.3 Put, Get: there and back, of each user and each label, and of who has none.
func TestBytes(t *testing.T) {
	for _, g := range well() {
		b, e := Put(g)
		if e != api.OK || !bytes.Equal(b, bytesOf(g)) {
			t.Errorf("Put(%v) is %v, %d", g, b, e)
		}
		if back, e := Get(bytesOf(g)); back != g || e != api.OK {
			t.Errorf("Get(%v) is %v, %d", bytesOf(g), back, e)
		}
	}
}

// P7.3 Put: some bytes as they are.
func TestPut(t *testing.T) {
	for _, x := range []struct {
		g api.Grant
		b string
	}{
		{api.Grant{}, "\x00\x00\x00\x00\x00\x00\x00"},
		{off(7), "\x07\x00\x00\x00\x00\x00\x00"},
		{to(0, lab(0, 0)), "\x00\x01\x00\x00\x00\x00\x00"},
		{to(3, lab(15, 0x01020304)), "\x03\x01\x0f\x01\x02\x03\x04"},
		{to(7, lab(15, math.MaxUint32)), "\x07\x01\x0f\xff\xff\xff\xff"},
		{to(5, lab(2, 0xff000000)), "\x05\x01\x02\xff\x00\x00\x00"},
	} {
		if b, e := Put(x.g); string(b) != x.b || e != api.OK {
			t.Errorf("Put(%v) is %v, %d", x.g, b, e)
		}
	}
}

// P7.3 Put: of a grant that may not be there are no bytes.
func TestPutBad(t *testing.T) {
	for _, g := range bad() {
		if b, e := Put(g); len(b) != 0 || e != api.ErrBad {
			t.Errorf("Put(%v) is %v, %d", g, b, e)
		}
	}
}

func wantGet(t *testing.T, b []byte) {
	t.Helper()
	var want api.Grant
	may := len(b) == 7
	if may {
		want = api.Grant{User: int(b[0]), Clear: api.Clear{Ok: b[1] != 0, Label: lab(b[2], uint32(b[3])<<24+uint32(b[4])<<16+uint32(b[5])<<8+uint32(b[6]))}}
		may = mayBe(want) && bytes.Equal(bytesOf(want), b)
	}
	f := api.OK
	if !may {
		want, f = api.Grant{}, api.ErrBad
	}
	if g, e := Get(b); g != want || e != f {
		t.Errorf("Get(%v) is %v, %d, not %v, %d", b, g, e, want, f)
	}
}

// P7.3 Get: each byte, whatever it is, and each two.
func TestGetEachByte(t *testing.T) {
	for _, g := range []api.Grant{{}, off(7), to(1, lab(1, 1)), to(7, lab(15, math.MaxUint32)), to(4, lab(9, 0x01020304))} {
		for at := range 7 {
			for value := range 256 {
				b := bytesOf(g)
				b[at] = byte(value)
				wantGet(t, b)
				for k := range at {
					for _, other := range []byte{0, 1, 2, 7, 8, 15, 16, 128, 255} {
						c := bytes.Clone(b)
						c[k] = other
						wantGet(t, c)
					}
				}
			}
		}
	}
}

// P7.3 Get: bytes that are none's, one by one.
func TestGetBad(t *testing.T) {
	for _, s := range []string{
		"\x08\x01\x01\x00\x00\x00\x01", "\xff\x01\x01\x00\x00\x00\x01", "\x08\x00\x00\x00\x00\x00\x00",
		"\x01\x02\x01\x00\x00\x00\x01", "\x01\xff\x01\x00\x00\x00\x01", "\x01\x02\x00\x00\x00\x00\x00", "\x01\xff\x00\x00\x00\x00\x00",
		"\x01\x01\x10\x00\x00\x00\x01", "\x01\x01\xff\x00\x00\x00\x00", "\x01\x00\x10\x00\x00\x00\x00",
		"\x01\x00\x01\x00\x00\x00\x00", "\x01\x00\x00\x01\x00\x00\x00", "\x01\x00\x00\x00\x01\x00\x00", "\x01\x00\x00\x00\x00\x01\x00", "\x01\x00\x00\x00\x00\x00\x01",
	} {
		if g, e := Get([]byte(s)); g != (api.Grant{}) || e != api.ErrBad {
			t.Errorf("Get(%x) is %v, %d", s, g, e)
		}
	}
}

// P7.3 Get: none, fewer and more than seven bytes; what lies behind the length is not read.
func TestGetHowMany(t *testing.T) {
	for _, g := range []api.Grant{{}, off(7), to(1, lab(1, 1)), to(7, lab(15, math.MaxUint32))} {
		b := append(bytesOf(g), make([]byte, 300)...)
		for many := range b {
			wantGet(t, b[:many])
			wantGet(t, b[:many:many])
		}
	}
	if g, e := Get(nil); g != (api.Grant{}) || e != api.ErrBad {
		t.Errorf("Get(nil) is %v, %d", g, e)
	}
}

// P7.3 Get: no two bytes tell one grant.
func TestGetOneEach(t *testing.T) {
	from := map[api.Grant]string{}
	for user := range 256 {
		for ok := range 256 {
			for level := range 18 {
				b := []byte{byte(user), byte(ok), byte(level), 0, 0, 0, byte(level)}
				if g, e := Get(b); e == api.OK {
					if from[g] != "" {
						t.Fatalf("%v is told by %x and by %x", g, from[g], b)
					}
					from[g] = string(b)
				}
			}
		}
	}
	if len(from) != 8*17 {
		t.Errorf("%d grants were read", len(from))
	}
}

// spoil writes over all of a policy, and over the room behind its lists.
func spoil(p api.Policy) {
	for i := range p.Users[:cap(p.Users)] {
		p.Users[:cap(p.Users)][i] = sees(lab(99, 99))
	}
	for i := range p.Quotas[:cap(p.Quotas)] {
		p.Quotas[:cap(p.Quotas)][i] = api.Quota{Label: lab(99, 99), Opens: 99, Ops: 99, Cells: 99}
	}
}

// roomy is a policy with room behind its lists, and both with what is there.
func roomy(p api.Policy) (short, all api.Policy) {
	all = copied(p)
	all.Users = append(all.Users, sees(lab(7, 7)), sees(lab(8, 8)), sees(lab(9, 9)))
	all.Quotas = append(all.Quotas, api.Quota{Label: lab(7, 7), Opens: 7}, api.Quota{Label: lab(8, 8), Ops: 8})
	short = api.Policy{Users: all.Users[:len(p.Users)], Quotas: all.Quotas[:len(p.Quotas)], Grants: p.Grants}
	return short, all
}

// P7.4: what is handed in is only read, and so is what lies behind its length, whatever the answer; what is written into an answer leaves no trace in it.
func TestOnlyRead(t *testing.T) {
	l := append(well()[:40:40], bad()[:40]...)
	for _, p := range slices.Concat(rights(), wrongs()) {
		short, all := roomy(p)
		kept := copied(all)
		for _, g := range []api.Grant{off(0), to(1, lab(1, 1)), to(7, lab(15, 1)), off(8), to(0, lab(16, 0))} {
			got, _ := Apply(short, g)
			spoil(got)
		}
		for n := range 20 {
			given := slices.Clone(l)
			got, told, _ := Run(short, given[n:2*n:len(given)])
			spoil(got)
			for i := range told[:cap(told)] {
				told[:cap(told)][i] = 77
			}
			if !slices.Equal(given, l) {
				t.Fatalf("the grants were turned to %v", given)
			}
		}
		if !alike(all, kept) {
			t.Fatalf("%v was turned to %v", kept, all)
		}
	}
}

// P7.4: what is answered stays, whatever is done to what was handed in, and to another answer.
func TestNewMemory(t *testing.T) {
	for _, p := range rights() {
		for _, l := range [][]api.Grant{nil, {off(0)}, {to(1, lab(1, 1)), off(0)}, {off(8), off(-1)}} {
			given, own := copied(p), slices.Clone(l)
			want, all := wantedOf(p, l)
			a, aTold, _ := Run(given, own)
			b, bTold, _ := Run(given, own)
			spoil(given)
			for i := range own {
				own[i] = off(99)
			}
			spoil(b)
			for i := range bTold[:cap(bTold)] {
				bTold[:cap(bTold)][i] = 77
			}
			if !alike(a, want) || !slices.Equal(aTold, all) {
				t.Fatalf("Run(%v, %v) was turned to %v, %v", p, l, a, aTold)
			}
		}
		given := copied(p)
		want, f := wanted(p, to(0, lab(1, 1)))
		a, e := Apply(given, to(0, lab(1, 1)))
		b, _ := Apply(given, to(0, lab(1, 1)))
		spoil(given)
		spoil(b)
		if !alike(a, want) || e != f {
			t.Fatalf("Apply(%v) was turned to %v", p, a)
		}
	}
}

// P7.4: the policies of a chain of grants share nothing.
func TestNewMemoryEachTime(t *testing.T) {
	p := many(3, 5)
	chain, wants := []api.Policy{p}, []api.Policy{copied(p)}
	for i := range 5 {
		p, _ = Apply(p, to(i%3, lab(uint8(i), 1)))
		chain, wants = append(chain, p), append(wants, copied(p))
	}
	for i := range chain {
		spoil(chain[i])
		for k := i + 1; k < len(chain); k++ {
			if !alike(chain[k], wants[k]) {
				t.Fatalf("policy %d was turned by policy %d", k, i)
			}
		}
	}
}

// P7.4: bytes are new ones, there and back, and only read.
func TestBytesAreNew(t *testing.T) {
	for _, g := range []api.Grant{{}, off(7), to(3, lab(15, 0x01020304))} {
		a, _ := Put(g)
		b, _ := Put(g)
		for i := range a[:cap(a)] {
			a[:cap(a)][i] = 0xee
		}
		if !bytes.Equal(b, bytesOf(g)) {
			t.Errorf("Put(%v) was turned to %v", g, b)
		}
	}
	for _, g := range []api.Grant{{}, to(3, lab(15, 0x01020304)), to(9, lab(1, 1)), to(1, lab(16, 1))} {
		all := append(bytesOf(g), 1, 2, 3, 4, 5)
		for n := range all {
			Get(all[:n])
			if !bytes.Equal(all, append(bytesOf(g), 1, 2, 3, 4, 5)) {
				t.Fatalf("Get turned its bytes to %v", all)
			}
		}
	}
}

// P7.4, P1: nothing is kept: what comes between two calls turns no answer.
func TestNothingIsKept(t *testing.T) {
	for _, between := range slices.Concat(rights(), wrongs()) {
		got, _, _ := Run(between, []api.Grant{off(0), off(1), off(9)})
		spoil(got)
		got, _ = Apply(between, to(1, lab(4, 4)))
		spoil(got)
		wantApply(t, chapters(), to(1, lab(1, 1)))
		wantRun(t, chapters(), []api.Grant{to(1, lab(1, 1)), off(8), off(0)})
	}
}

// P7.5: a grant turns that user's clearance alone: no other's, and no quota.
func TestTurnsOneAlone(t *testing.T) {
	for users := 1; users <= 8; users++ {
		for user := range users {
			for _, g := range []api.Grant{off(user), to(user, lab(0, 0)), to(user, lab(14, 9))} {
				p := many(users, 9)
				got, e := Apply(p, g)
				if e != api.OK || len(got.Users) != users || got.Users[user] != g.Clear || !slices.Equal(got.Quotas, p.Quotas) {
					t.Fatalf("Apply(%v, %v) is %v, %d", p, g, got, e)
				}
				for other := range users {
					if other != user && got.Users[other] != p.Users[other] {
						t.Errorf("%v turned user %d", g, other)
					}
				}
				for _, l := range labels() {
					was, _ := policy.Quota(p, l)
					if is, e := policy.Quota(got, l); is != was || e != api.OK {
						t.Errorf("%v turned the quota of %v to %v", g, l, is)
					}
				}
			}
		}
	}
}

// P7.5: of several for one user the last one that came counts, whatever comes for others between them.
func TestLastCounts(t *testing.T) {
	r := rand.New(rand.NewSource(75))
	for range 400 {
		p := many(1+r.Intn(8), r.Intn(65))
		l := somes(r, r.Intn(100))
		got, told, _ := Run(p, l)
		for user := range p.Users {
			last := p.Users[user]
			for i, g := range l {
				if told[i] == api.OK && g.User == user {
					last = g.Clear
				}
			}
			if got.Users[user] != last {
				t.Errorf("user %d has %v, not %v", user, got.Users[user], last)
			}
		}
	}
}

// P7.5: as many come as Grants tells, no more, whoever they are of; each is one less.
func TestNoMoreThanGrants(t *testing.T) {
	for grants := range 65 {
		for users := 1; users <= 8; users++ {
			var l []api.Grant
			for i := range 100 {
				l = append(l, to((i*i+i/3)%users, lab(uint8(i%16), uint32(i))))
			}
			p, told, e := Run(many(users, grants), l)
			came := 0
			for i, f := range told {
				if f == api.OK {
					came++
				}
				if (f == api.OK) != (i < grants) || f != api.OK && f != api.ErrFull {
					t.Fatalf("grant %d of %d: %d", i, grants, f)
				}
			}
			if came != grants || p.Grants != 0 || e != api.OK {
				t.Errorf("%d came, not %d; %d are left, %d", came, grants, p.Grants, e)
			}
		}
	}
}

// P7.5: what is answered may be, and needs a block less for each that came.
func TestWhatIsAnsweredMayBe(t *testing.T) {
	for _, p := range rights() {
		blocks, _ := policy.Blocks(p)
		for _, g := range slices.Concat(well()[:30], bad()[:30], []api.Grant{to(0, lab(15, math.MaxUint32)), off(1)}) {
			got, e := Apply(p, g)
			if n, f := policy.Blocks(got); e == api.OK && (n != blocks-1 || f != api.OK) {
				t.Errorf("Apply(%v, %v) is %v: %d blocks, %d", p, g, got, n, f)
			}
		}
		got, told, _ := Run(p, append(well()[:99:99], bad()[:99]...))
		came := 0
		for _, e := range told {
			if e == api.OK {
				came++
			}
		}
		if n, f := policy.Blocks(got); n != blocks-came || f != api.OK {
			t.Errorf("Run(%v) is %v: %d blocks, %d", p, got, n, f)
		}
	}
}

// The chapter's table of examples, row by row.
func TestExamples(t *testing.T) {
	p, e := Apply(chapters(), to(1, lab(1, 1)))
	if may, f := policy.May(p, 1, lab(1, 1)); !may || f != api.OK || e != api.OK || p.Grants != 3 {
		t.Errorf("user 1 to 1:01: %v, %d", p, e)
	}
	p, e = Apply(chapters(), off(0))
	if may, f := policy.May(p, 0, api.Label{}); may || f != api.OK || e != api.OK {
		t.Errorf("user 0 to nothing: %v, %d", p, e)
	}
	if p, e := Apply(chapters(), to(2, lab(1, 1))); e != api.ErrArg || !zero(p) {
		t.Errorf("user 2: %v, %d", p, e)
	}
	without := chapters()
	without.Grants = 0
	if p, e := Apply(without, to(1, lab(1, 1))); e != api.ErrFull || !zero(p) {
		t.Errorf("without grants left: %v, %d", p, e)
	}
	if e := Check(to(8, lab(1, 1))); e != api.ErrBad {
		t.Errorf("user 8: %d", e)
	}
	if b, e := Put(to(1, lab(1, 1))); !bytes.Equal(b, []byte{1, 1, 1, 0, 0, 0, 1}) || e != api.OK {
		t.Errorf("Put is %v, %d", b, e)
	}
}
