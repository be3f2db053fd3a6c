package policy

import (
	"math"
	"math/big"
	"math/rand"
	"slices"
	"testing"

	"blindstamp/api"
)

// lab, sees, has and of are short ways to make a label, a user's clearance, a quota and a policy.
func lab(level uint8, cats uint32) api.Label {
	return api.Label{Level: level, Cats: cats}
}

func sees(l api.Label) api.Clear {
	return api.Clear{Label: l, Ok: true}
}

func has(l api.Label, opens, ops, cells int) api.Quota {
	return api.Quota{Label: l, Opens: opens, Ops: ops, Cells: cells}
}

func of(users []api.Clear, quotas []api.Quota, grants int) api.Policy {
	return api.Policy{Users: users, Quotas: quotas, Grants: grants}
}

// chapters is the policy of the chapter's examples.
func chapters() api.Policy {
	return of([]api.Clear{sees(lab(2, 3)), {}}, []api.Quota{has(lab(1, 1), 2, 3, 9)}, 4)
}

// wide is a policy whose quotas differ by level alone, and by categories alone.
func wide() api.Policy {
	return of([]api.Clear{sees(lab(2, 3)), {}, sees(lab(0, 0)), sees(lab(15, math.MaxUint32)), sees(lab(2, 3))},
		[]api.Quota{has(lab(0, 0), 1, 2, 3), has(lab(0, 5), 4, 5, 6), has(lab(1, 2), 7, 8, 9), has(lab(1, 3), 0, 0, 0), has(lab(2, 1), 10, 11, 12), has(lab(15, math.MaxUint32), 13, 14, 15)}, 16)
}

// tiers are so many quotas of nothing, in order.
func tiers(many int) []api.Quota {
	var l []api.Quota
	for i := range many {
		l = append(l, has(lab(uint8(i/4), uint32(i%4)), 0, 0, 0))
	}
	return l
}

// rights has policies that may be: ordinary ones, and those at the edges.
func rights() []api.Policy {
	l := []api.Policy{{}, chapters(), wide(), of([]api.Clear{}, []api.Quota{}, 0), of(nil, nil, 64), of(make([]api.Clear, 8), nil, 1), of(nil, tiers(8), 0),
		of([]api.Clear{sees(lab(15, 0)), sees(lab(0, 1)), {}}, []api.Quota{has(lab(15, 0), 64, 256, 4096)}, 64)}
	most := of(slices.Repeat([]api.Clear{sees(lab(15, 7))}, 8), tiers(8), 64)
	for i := range most.Quotas {
		most.Quotas[i].Opens, most.Quotas[i].Ops, most.Quotas[i].Cells = 64, 45, 1024
	}
	most.Quotas[3].Ops, most.Quotas[4].Ops = 46, 52
	just := of(nil, tiers(2), 0)
	just.Quotas[0].Ops, just.Quotas[1].Ops, just.Quotas[0].Cells, just.Quotas[1].Cells = 256, 256, 4096, 4096
	return append(l, most, just)
}

// wrongCounts has numbers that no count is, whatever its limit; some would be, if a few of their bits were left out.
func wrongCounts() []int {
	return []int{-1, -2, -64, -256, -4096, -1 << 32, 4097, 1 << 16, 1 << 31, 1 << 32, 1<<32 + 1, 1 << 40, 1 << 61, 1 << 62, 1<<62 + 1, -1 << 61, -1 << 62, math.MaxInt, math.MaxInt - 1, math.MaxInt - 63, math.MinInt, math.MinInt + 1, math.MinInt + 64}
}

// wrongs has policies that may not be.
func wrongs() []api.Policy {
	l := []api.Policy{of(make([]api.Clear, 9), nil, 0), of(nil, tiers(9), 0), of(nil, nil, 65), of(nil, nil, -1), of([]api.Clear{{Label: lab(0, 1)}}, nil, 0), of([]api.Clear{sees(lab(16, 0))}, nil, 0)}
	for _, turn := range []func(p *api.Policy){
		func(p *api.Policy) { p.Users[1].Label = lab(1, 0) },
		func(p *api.Policy) { p.Quotas = append(p.Quotas, p.Quotas[5]) },
		func(p *api.Policy) { p.Quotas[2], p.Quotas[3] = p.Quotas[3], p.Quotas[2] },
		func(p *api.Policy) { p.Quotas[5].Label.Level = 16 },
		func(p *api.Policy) { p.Quotas[0].Opens = 65 },
		func(p *api.Policy) { p.Quotas[0].Ops = -1 },
		func(p *api.Policy) { p.Quotas[5].Cells = math.MaxInt },
		func(p *api.Policy) { p.Quotas[0].Ops, p.Quotas[1].Ops = 256, 256 },
		func(p *api.Policy) { p.Quotas[0].Cells, p.Quotas[1].Cells = 4096, 4096 },
	} {
		p := wide()
		turn(&p)
		l = append(l, p)
	}
	return l
}

// within tells whether a number is from 0 to most.
func within(n, most int) bool {
	return 0 <= n && n <= most
}

// blocksOfAll and cellsOfAll are sums that never run over.
func blocksOfAll(p api.Policy) *big.Int {
	n := big.NewInt(int64(p.Grants))
	for _, q := range p.Quotas {
		n.Add(n, big.NewInt(int64(q.Opens)))
		n.Add(n, new(big.Int).Mul(big.NewInt(4), big.NewInt(int64(q.Ops))))
	}
	return n
}

func cellsOfAll(p api.Policy) *big.Int {
	n := new(big.Int)
	for _, q := range p.Quotas {
		n.Add(n, big.NewInt(int64(q.Cells)))
	}
	return n
}

// rank is a label as one number.
func rank(l api.Label) int {
	return int(l.Level)<<32 + int(l.Cats)
}

// mayBe tells whether a policy may be, told another way.
func mayBe(p api.Policy) bool {
	ok := len(p.Users) < 9 && len(p.Quotas) < 9 && within(p.Grants, 64) && blocksOfAll(p).Cmp(big.NewInt(2048)) <= 0 && cellsOfAll(p).Cmp(big.NewInt(8192)) <= 0
	for _, c := range p.Users {
		ok = ok && rank(c.Label) < 16<<32 && (c.Ok || rank(c.Label) == 0)
	}
	last := -1
	for _, q := range p.Quotas {
		ok = ok && rank(q.Label) < 16<<32 && rank(q.Label) > last && within(q.Opens, 64) && within(q.Ops, 256) && within(q.Cells, 4096)
		last = rank(q.Label)
	}
	return ok
}

// below tells whether a label is at or below another one, category by category.
func below(a, b api.Label) bool {
	for bit := range 32 {
		if a.Cats>>bit&1 == 1 && b.Cats>>bit&1 == 0 {
			return false
		}
	}
	return a.Level <= b.Level
}

// labels has labels that may be; wrongLabels such as may not.
func labels() []api.Label {
	var l []api.Label
	for _, level := range []uint8{0, 1, 2, 3, 14, 15} {
		for _, cats := range []uint32{0, 1, 2, 3, 4, 5, 6, 7, 8, 1 << 31, 1<<31 | 1, math.MaxUint32 - 1, math.MaxUint32} {
			l = append(l, lab(level, cats))
		}
	}
	return l
}

func wrongLabels() []api.Label {
	var l []api.Label
	for level := 16; level < 256; level++ {
		l = append(l, lab(uint8(level), 0), lab(uint8(level), 1), lab(uint8(level), math.MaxUint32))
	}
	return l
}

// copied is a policy in new memory, made by hand.
func copied(p api.Policy) api.Policy {
	c := api.Policy{Grants: p.Grants}
	for _, u := range p.Users {
		c.Users = append(c.Users, u)
	}
	for _, q := range p.Quotas {
		c.Quotas = append(c.Quotas, q)
	}
	return c
}

func alike(a, b api.Policy) bool {
	ok := a.Grants == b.Grants && len(a.Users) == len(b.Users) && len(a.Quotas) == len(b.Quotas)
	for i := 0; ok && i < len(a.Users); i++ {
		ok = a.Users[i] == b.Users[i]
	}
	for i := 0; ok && i < len(a.Quotas); i++ {
		ok = a.Quotas[i] == b.Quotas[i]
	}
	return ok
}

// check asks whether a policy may be as wanted, of Check and of all that tell its error.
func check(t *testing.T, p api.Policy, may bool) {
	t.Helper()
	want, blocks := api.OK, 0
	if may {
		blocks = int(blocksOfAll(p).Int64())
	} else {
		want = api.ErrBad
	}
	if e := Check(p); e != want {
		t.Errorf("Check(%v) is %d, not %d", p, e, want)
	}
	if n, e := Blocks(p); n != blocks || e != want {
		t.Errorf("Blocks(%v) is %d, %d, not %d, %d", p, n, e, blocks, want)
	}
}

func wantMay(t *testing.T, p api.Policy, user int, l api.Label, may bool, f api.Errno) {
	t.Helper()
	if ok, e := May(p, user, l); ok != may || e != f {
		t.Errorf("May(%v, %d, %v) is %v, %d, not %v, %d", p, user, l, ok, e, may, f)
	}
}

func wantQuota(t *testing.T, p api.Policy, l api.Label, want api.Quota, f api.Errno) {
	t.Helper()
	if q, e := Quota(p, l); q != want || e != f {
		t.Errorf("Quota(%v, %v) is %v, %d, not %v, %d", p, l, q, e, want, f)
	}
}

// P6.1 Check, P6.2 Blocks: policies that may be, and policies that may not.
func TestCheck(t *testing.T) {
	for _, p := range rights() {
		check(t, p, true)
	}
	for _, p := range wrongs() {
		check(t, p, false)
	}
}

// P6.1 Check: as many users as may be, and more; as many quotas.
func TestCheckHowMany(t *testing.T) {
	for _, many := range []int{0, 1, 2, 7, 8, 9, 10, 16, 63, 64, 255, 256, 257, 264} {
		check(t, of(make([]api.Clear, many), nil, 0), many <= 8)
		check(t, of(slices.Repeat([]api.Clear{sees(lab(1, 1))}, many), nil, 0), many <= 8)
		check(t, of(nil, tiers(min(many, 60)), 0), many <= 8)
	}
	check(t, of(make([]api.Clear, 8), tiers(8), 0), true)
	check(t, of(make([]api.Clear, 9), tiers(8), 0), false)
	check(t, of(make([]api.Clear, 8), tiers(9), 0), false)
}

// P6.1 Check: each level of a user's label and of a quota's, at each place.
func TestCheckLevels(t *testing.T) {
	for level := range 256 {
		for _, cats := range []uint32{0, 1, math.MaxUint32} {
			for at := range 8 {
				users := slices.Repeat([]api.Clear{sees(lab(15, 3))}, 8)
				users[at] = sees(lab(uint8(level), cats))
				check(t, of(users, nil, 0), level <= 15)
			}
			check(t, of(nil, []api.Quota{has(lab(uint8(level), cats), 1, 1, 1)}, 0), level <= 15)
			check(t, of(nil, append(tiers(7), has(lab(uint8(level), cats), 1, 1, 1)), 0), level > 1 && level <= 15 || level == 1 && cats == math.MaxUint32)
		}
	}
}

// P6.1 Check: a user who is not Ok has no label; who is Ok has any one, the least one too.
func TestCheckNotOk(t *testing.T) {
	for _, l := range slices.Concat(labels(), wrongLabels()) {
		for at := range 3 {
			users := []api.Clear{{}, sees(lab(1, 1)), {}}
			users[at] = api.Clear{Label: l}
			check(t, of(users, nil, 0), l == api.Label{})
			users[at].Ok = true
			check(t, of(users, nil, 0), l.Level <= 15)
		}
	}
}

// P6.1 Check: each count of each quota, and the grants, at each edge.
func TestCheckCounts(t *testing.T) {
	counts := append(wrongCounts(), 0, 1, 2, 63, 64, 65, 66, 127, 128, 255, 256, 257, 511, 512, 1024, 4095, 4096)
	for _, n := range counts {
		check(t, of(nil, nil, n), 0 <= n && n <= 64)
		for many := 1; many <= 8; many++ {
			for at := range many {
				for i, may := range []bool{n >= 0 && n <= 64, n >= 0 && n <= 256, n >= 0 && n <= 4096} {
					p := of(nil, tiers(many), 0)
					*[]*int{&p.Quotas[at].Opens, &p.Quotas[at].Ops, &p.Quotas[at].Cells}[i] = n
					check(t, p, may)
				}
			}
		}
	}
}

// P6.1 Check: numbers whose sum or product would run over, to what may be, may not be.
func TestCheckRunsOver(t *testing.T) {
	p := of(nil, tiers(8), 0)
	for _, n := range []int{1 << 60, 1 << 61, 1 << 62, -1 << 60, -1 << 61, -1 << 62, math.MinInt, 1<<62 + 1, 1<<61 + 5} {
		for i := range p.Quotas {
			for k := range i {
				q := copied(p)
				q.Quotas[i].Ops, q.Quotas[k].Ops = n, -n
				check(t, q, false)
				q.Quotas[i].Ops, q.Quotas[k].Ops = n, n
				check(t, q, false)
				q = copied(p)
				q.Quotas[i].Cells, q.Quotas[k].Cells = n, -n
				check(t, q, false)
				q = copied(p)
				q.Quotas[i].Opens, q.Grants = n, -n
				check(t, q, false)
			}
		}
	}
	for i := range p.Quotas {
		p.Quotas[i] = has(p.Quotas[i].Label, 1<<61, 1<<61, 1<<61)
	}
	check(t, p, false)
}

// P6.1 Check: what one number has too few, another one with too many doesn't make good.
func TestCheckNoneMakesGood(t *testing.T) {
	p := of(nil, tiers(2), 0)
	p.Quotas[0].Opens, p.Quotas[1].Opens = -1, 2
	check(t, p, false)
	p = of(nil, tiers(2), 8)
	p.Quotas[1].Ops = -2
	check(t, p, false)
	p = of(nil, tiers(2), -4)
	p.Quotas[0].Ops = 1
	check(t, p, false)
	p = of(nil, tiers(2), 0)
	p.Quotas[0].Cells, p.Quotas[1].Cells = 4096, -1
	check(t, p, false)
}

// P6.1 Check: two quotas are in order, or not: by level, by categories alone; of one label none.
func TestCheckOrder(t *testing.T) {
	all := labels()
	for _, a := range all {
		for _, b := range all {
			check(t, of(nil, []api.Quota{has(a, 1, 1, 1), has(b, 1, 1, 1)}, 0), rank(a) < rank(b))
			check(t, of(nil, []api.Quota{has(a, 1, 1, 1), has(b, 2, 2, 2)}, 0), rank(a) < rank(b))
		}
	}
}

// P6.1 Check: at each place two quotas that are changed, or two that are one, are told.
func TestCheckOrderAtEachPlace(t *testing.T) {
	for many := 2; many <= 8; many++ {
		for i := range many {
			for k := range i {
				p := of(nil, tiers(many), 0)
				p.Quotas[i], p.Quotas[k] = p.Quotas[k], p.Quotas[i]
				check(t, p, false)
				p = of(nil, tiers(many), 0)
				p.Quotas[i].Label = p.Quotas[k].Label
				check(t, p, false)
			}
		}
	}
}

// P6.1 Check: blocks that are just MaxLog, and one more, by each that has one.
func TestCheckMaxLog(t *testing.T) {
	for _, x := range []struct {
		opens, ops [8]int
		grants     int
	}{
		{ops: [8]int{256, 256}},
		{ops: [8]int{64, 64, 64, 64, 64, 64, 64, 64}},
		{opens: [8]int{64}, ops: [8]int{0, 0, 0, 240, 0, 0, 256}},
		{ops: [8]int{240, 256}, grants: 64},
		{opens: [8]int{64, 64, 64, 64, 64, 64, 64, 64}, ops: [8]int{1, 127, 0, 0, 0, 0, 0, 256}},
		{opens: [8]int{64, 63, 0, 1, 64, 64, 64, 64}, ops: [8]int{256, 0, 0, 120, 0, 1, 0, 23}, grants: 64},
	} {
		p := of(nil, tiers(8), x.grants)
		for i := range p.Quotas {
			p.Quotas[i].Opens, p.Quotas[i].Ops = x.opens[i], x.ops[i]
		}
		n := int(blocksOfAll(p).Int64())
		for more := 0; n+more <= 2060; more++ {
			for i := range p.Quotas {
				q := copied(p)
				q.Quotas[i].Opens += more
				check(t, q, mayBe(q))
				q = copied(p)
				q.Quotas[i].Ops += more
				check(t, q, mayBe(q))
			}
			q := copied(p)
			q.Grants += more
			check(t, q, mayBe(q))
		}
	}
}

// P6.1 Check: the last block that may be, and one more: by an open, by an operation, by a grant.
func TestCheckOneBlockMore(t *testing.T) {
	p := of(nil, tiers(3), 0)
	p.Quotas[0].Ops, p.Quotas[1].Ops = 256, 255
	p.Quotas[2].Opens = 4
	check(t, p, true)
	for _, more := range []func(p *api.Policy){
		func(p *api.Policy) { p.Quotas[0].Opens++ },
		func(p *api.Policy) { p.Quotas[2].Opens++ },
		func(p *api.Policy) { p.Quotas[1].Ops++ },
		func(p *api.Policy) { p.Quotas[2].Ops++ },
		func(p *api.Policy) { p.Grants++ },
	} {
		q := copied(p)
		more(&q)
		check(t, q, false)
	}
}

// P6.1 Check: elements that are just MaxText, all together, and one more.
func TestCheckMaxText(t *testing.T) {
	for _, cells := range [][8]int{{4096, 4096}, {4096, 0, 0, 0, 0, 0, 0, 4096}, {1024, 1024, 1024, 1024, 1024, 1024, 1024, 1024}, {1, 4095, 2, 4094}, {4096, 4095, 1}} {
		p := of(nil, tiers(8), 0)
		for i := range p.Quotas {
			p.Quotas[i].Cells = cells[i]
		}
		check(t, p, true)
		for i := range p.Quotas {
			q := copied(p)
			q.Quotas[i].Cells++
			check(t, q, false)
			q.Quotas[i].Cells -= 2
			check(t, q, cells[i] > 0)
		}
	}
}

// some picks a number: mostly one that may be, often an edge.
func some(r *rand.Rand, most int) int {
	switch r.Intn(40) {
	case 0:
		return most + 1
	case 1:
		return -1
	case 2:
		return wrongCounts()[r.Intn(len(wrongCounts()))]
	case 3, 4, 5, 6:
		return most
	}
	return r.Intn(most/3 + 1)
}

// policies makes policies, always the same ones: about half of them may be.
func policies(many int) []api.Policy {
	r := rand.New(rand.NewSource(6))
	var l []api.Policy
	for range many {
		var p api.Policy
		p.Grants = some(r, 64)
		for range r.Intn(6) {
			p.Users = append(p.Users, api.Clear{Label: lab(uint8(r.Intn(16)+r.Intn(40)/39), uint32(r.Intn(8))), Ok: true})
			if r.Intn(3) == 0 {
				p.Users[len(p.Users)-1] = api.Clear{}
			}
		}
		at := 0
		for range r.Intn(6) {
			p.Quotas = append(p.Quotas, has(lab(uint8(at/8), uint32(at%8)), some(r, 64), some(r, 256), some(r, 4096)))
			at += r.Intn(12) + min(1, r.Intn(30))
		}
		l = append(l, p)
	}
	return l
}

// P6.1 Check, P6.2 Blocks: many policies, held against what is told another way.
func TestManyPolicies(t *testing.T) {
	well := 0
	for _, p := range policies(20000) {
		check(t, p, mayBe(p))
		if mayBe(p) {
			well++
		}
	}
	if well < 4000 || well > 16000 {
		t.Errorf("%d of the policies may be: too few or too many to tell", well)
	}
}

// P6.2 Blocks: one more for each open and grant, four for each operation, none for an element or a user.
func TestBlocks(t *testing.T) {
	for _, p := range rights() {
		n, _ := Blocks(p)
		for i := range p.Quotas {
			q := copied(p)
			q.Quotas[i].Cells = 0
			q.Users = nil
			if m, e := Blocks(q); m != n || e != api.OK {
				t.Errorf("%v has %d blocks, %d", q, m, e)
			}
			q.Quotas[i].Opens, q.Quotas[i].Ops = 0, 0
			if m, e := Blocks(q); m != n-p.Quotas[i].Opens-4*p.Quotas[i].Ops || e != api.OK {
				t.Errorf("%v has %d blocks, %d", q, m, e)
			}
		}
		q := copied(p)
		q.Grants = 0
		if m, e := Blocks(q); m != n-p.Grants || e != api.OK {
			t.Errorf("%v has %d blocks, %d", q, m, e)
		}
	}
	if n, e := Blocks(api.Policy{}); n != 0 || e != api.OK {
		t.Errorf("nothing has %d blocks, %d", n, e)
	}
}

// users has users of a policy, and such as it has not.
func users(p api.Policy) []int {
	l := []int{-1, -2, -256, -1 << 32, math.MinInt, math.MinInt + 1, 8, 9, 256, 257, 1 << 32, 1<<32 + 1, math.MaxInt - 1, math.MaxInt}
	for user := range len(p.Users) + 2 {
		l = append(l, user)
	}
	return l
}

// P6.2 May: each user at each label: at a clearance, below it, above it, beside it; and who is no user, or is not Ok.
func TestMay(t *testing.T) {
	for _, p := range rights() {
		for _, user := range users(p) {
			for _, l := range labels() {
				may := within(user, len(p.Users)-1) && p.Users[user].Ok && below(l, p.Users[user].Label)
				wantMay(t, p, user, l, may, api.OK)
			}
		}
	}
}

// P6.2 May: one clearance, and each label there is next to it.
func TestMayByOneThing(t *testing.T) {
	p := of([]api.Clear{{}, sees(lab(2, 6)), sees(lab(0, 0))}, nil, 0)
	for l, may := range map[api.Label]bool{lab(2, 6): true, lab(1, 6): true, lab(2, 2): true, lab(2, 4): true, lab(0, 0): true, lab(3, 6): false, lab(2, 7): false, lab(3, 7): false, lab(1, 7): false, lab(2, 1): false, lab(0, 8): false, lab(3, 0): false, lab(0, 1<<31): false} {
		wantMay(t, p, 1, l, may, api.OK)
		wantMay(t, p, 0, l, false, api.OK)
		wantMay(t, p, 2, l, l == api.Label{}, api.OK)
		wantMay(t, p, 3, l, false, api.OK)
	}
}

// P6.2 May: room behind the length has no users.
func TestMayBehindTheLength(t *testing.T) {
	all := []api.Clear{sees(lab(15, 1)), sees(lab(15, 1)), sees(lab(15, 1))}
	p := of(all[:1], nil, 0)
	wantMay(t, p, 0, lab(1, 1), true, api.OK)
	wantMay(t, p, 1, lab(1, 1), false, api.OK)
	wantMay(t, p, 2, lab(1, 1), false, api.OK)
}

// P6.2 Quota: a label that has one, and a label that has none.
func TestQuota(t *testing.T) {
	for _, p := range rights() {
		for _, l := range labels() {
			want := api.Quota{Label: l}
			for _, q := range p.Quotas {
				if rank(q.Label) == rank(l) {
					want = q
				}
			}
			wantQuota(t, p, l, want, api.OK)
		}
	}
}

// P6.2 Quota: that of each label of a policy, whichever place it has; room behind the length has none.
func TestQuotaAtEachPlace(t *testing.T) {
	p := of(nil, tiers(8), 0)
	for i := range p.Quotas {
		p.Quotas[i].Opens, p.Quotas[i].Ops, p.Quotas[i].Cells = i+1, i+2, i+3
	}
	for i, q := range p.Quotas {
		wantQuota(t, p, q.Label, q, api.OK)
		short := of(nil, p.Quotas[:i], 0)
		wantQuota(t, short, q.Label, api.Quota{Label: q.Label}, api.OK)
	}
}

// P6.2: a label that may not be is refused, whoever asks, be there a quota or not.
func TestWrongLabels(t *testing.T) {
	for _, p := range rights() {
		for _, l := range wrongLabels() {
			wantQuota(t, p, l, api.Quota{}, api.ErrBad)
			for _, user := range []int{-1, 0, 1, 8, math.MinInt, math.MaxInt} {
				wantMay(t, p, user, l, false, api.ErrBad)
			}
		}
	}
}

// P6.2: of a policy that may not be nothing is told, be the label one that may be or not.
func TestWrongPolicies(t *testing.T) {
	for _, p := range wrongs() {
		for _, l := range append(labels(), lab(16, 0), lab(255, 3)) {
			wantQuota(t, p, l, api.Quota{}, api.ErrBad)
			for _, user := range users(p) {
				wantMay(t, p, user, l, false, api.ErrBad)
			}
		}
	}
}

// turns has ways to turn one thing of a policy that has two users and two quotas at least.
func turns() []func(p *api.Policy) {
	l := []func(p *api.Policy){
		func(p *api.Policy) { p.Grants++ },
		func(p *api.Policy) { p.Grants = -p.Grants - 1 },
		func(p *api.Policy) { p.Users = append(p.Users, api.Clear{}) },
		func(p *api.Policy) { p.Users = p.Users[1:] },
		func(p *api.Policy) { p.Users = p.Users[:len(p.Users)-1] },
		func(p *api.Policy) { p.Users = nil },
		func(p *api.Policy) { p.Users[0], p.Users[1] = p.Users[1], p.Users[0] },
		func(p *api.Policy) { p.Quotas = append(p.Quotas, api.Quota{}) },
		func(p *api.Policy) { p.Quotas = append(p.Quotas, p.Quotas[0]) },
		func(p *api.Policy) { p.Quotas = p.Quotas[1:] },
		func(p *api.Policy) { p.Quotas = p.Quotas[:len(p.Quotas)-1] },
		func(p *api.Policy) { p.Quotas = nil },
		func(p *api.Policy) { p.Quotas[0], p.Quotas[1] = p.Quotas[1], p.Quotas[0] },
	}
	for at := range 2 {
		l = append(l,
			func(p *api.Policy) { p.Users[at].Ok = !p.Users[at].Ok },
			func(p *api.Policy) { p.Users[at].Label.Level++ },
			func(p *api.Policy) { p.Users[at].Label.Cats ^= 1 << 31 },
			func(p *api.Policy) { p.Quotas[at].Label.Level++ },
			func(p *api.Policy) { p.Quotas[at].Label.Cats ^= 1 },
			func(p *api.Policy) { p.Quotas[at].Opens++ },
			func(p *api.Policy) { p.Quotas[at].Ops-- },
			func(p *api.Policy) { p.Quotas[at].Cells += 1 << 40 })
	}
	return l
}

// pairs has policies that turns may be done to: such as may be, and such as may not.
func pairs() []api.Policy {
	odd := of([]api.Clear{{Label: lab(200, 9)}, sees(lab(16, 1)), {}}, []api.Quota{has(lab(9, 9), -5, math.MaxInt, 0), has(lab(1, 1), math.MinInt, 3, 4)}, math.MaxInt)
	many := of(append([]api.Clear{sees(lab(3, 3))}, make([]api.Clear, 20)...), append(tiers(20), tiers(20)...), -3)
	return []api.Policy{wide(), odd, many}
}

func wantSame(t *testing.T, a, b api.Policy, same bool) {
	t.Helper()
	if Same(a, b) != same || Same(b, a) != same {
		t.Errorf("Same(%v, %v) is not %v", a, b, same)
	}
}

// P6.1 Same: each policy and itself, made anew; policies that differ in just one thing.
func TestSame(t *testing.T) {
	for _, p := range pairs() {
		wantSame(t, p, copied(p), true)
		for i, one := range turns() {
			turned := copied(p)
			one(&turned)
			wantSame(t, p, turned, false)
			for k, other := range turns() {
				twice := copied(p)
				other(&twice)
				if i == k || !alike(turned, twice) {
					wantSame(t, turned, twice, i == k)
				}
			}
		}
	}
	l := slices.Concat(rights(), wrongs(), policies(100))
	for _, a := range l {
		for _, b := range l {
			wantSame(t, a, b, alike(a, b))
		}
	}
}

// P6.1 Same: lists that are nil and lists that are empty are the same; what lies behind the length is none of them.
func TestSameEmpty(t *testing.T) {
	room := of(slices.Repeat([]api.Clear{sees(lab(1, 1))}, 3)[:0], tiers(3)[:0], 0)
	empties := []api.Policy{{}, of([]api.Clear{}, nil, 0), of(nil, []api.Quota{}, 0), of([]api.Clear{}, []api.Quota{}, 0), room}
	for _, a := range empties {
		for _, b := range empties {
			wantSame(t, a, b, true)
		}
		check(t, a, true)
		wantQuota(t, a, lab(1, 1), api.Quota{Label: lab(1, 1)}, api.OK)
		wantMay(t, a, 0, lab(0, 0), false, api.OK)
		wantSame(t, a, chapters(), false)
		wantSame(t, a, of(nil, nil, 1), false)
		wantSame(t, a, Twin(a), true)
	}
}

// spoil writes over all of a policy, and over the room behind its lists.
func spoil(p api.Policy) {
	for i := range p.Users[:cap(p.Users)] {
		p.Users[:cap(p.Users)][i] = sees(lab(99, 99))
	}
	for i := range p.Quotas[:cap(p.Quotas)] {
		p.Quotas[:cap(p.Quotas)][i] = has(lab(99, 99), 99, 99, 99)
	}
}

// P6.1 Twin: all of it is there, of any policy; P6.3: what is written into it, or into what was handed in, leaves no trace in the other.
func TestTwin(t *testing.T) {
	for _, p := range slices.Concat(rights(), wrongs(), pairs(), policies(200)) {
		kept := copied(p)
		twin := Twin(p)
		if !alike(twin, kept) {
			t.Fatalf("the twin of %v is %v", kept, twin)
		}
		spoil(twin)
		if !alike(p, kept) {
			t.Fatalf("%v was turned to %v by its twin", kept, p)
		}
		twin = Twin(p)
		spoil(p)
		if !alike(twin, kept) {
			t.Fatalf("the twin of %v was turned to %v", kept, twin)
		}
	}
}

// P6.3 Twin: what lies behind the length of what is handed in is neither shared nor turned.
func TestTwinBehindTheLength(t *testing.T) {
	for many := range 4 {
		all := wide()
		p := of(all.Users[:many], all.Quotas[:many], 3)
		spoil(Twin(p))
		_ = append(Twin(p).Users, sees(lab(9, 9)))
		_ = append(Twin(p).Quotas, has(lab(9, 9), 9, 9, 9))
		if !alike(all, wide()) {
			t.Errorf("%v was turned behind %d", all, many)
		}
	}
}

// askAll calls all that is there.
func askAll(p api.Policy) {
	Check(p)
	Blocks(p)
	for _, user := range []int{-1, 0, 1, 9} {
		May(p, user, lab(1, 1))
		May(p, user, lab(16, 1))
	}
	Quota(p, lab(1, 1))
	Quota(p, lab(2, 7))
	Quota(p, lab(16, 0))
	Same(p, chapters())
	Same(chapters(), p)
	Same(p, p)
	Twin(p)
}

// P6.3: what is handed in is only read, and so is what lies behind its length, whatever the answer.
func TestOnlyRead(t *testing.T) {
	for _, p := range slices.Concat(rights(), wrongs(), pairs()) {
		all := copied(p)
		all.Users = append(all.Users, sees(lab(7, 7)), sees(lab(8, 8)))
		all.Quotas = append(all.Quotas, has(lab(7, 7), 7, 7, 7), has(lab(1, 1), 8, 8, 8))
		kept := copied(all)
		askAll(of(all.Users[:len(p.Users)], all.Quotas[:len(p.Quotas)], all.Grants))
		if !alike(all, kept) {
			t.Errorf("%v was turned to %v", kept, all)
		}
	}
}

// P6.3, P1: nothing is kept: what comes between two calls turns no answer.
func TestNothingIsKept(t *testing.T) {
	for _, between := range slices.Concat(rights(), wrongs(), pairs()) {
		askAll(between)
		spoil(Twin(between))
		check(t, chapters(), true)
		wantMay(t, chapters(), 0, lab(1, 1), true, api.OK)
		wantMay(t, chapters(), 1, lab(0, 0), false, api.OK)
		wantQuota(t, chapters(), lab(1, 1), has(lab(1, 1), 2, 3, 9), api.OK)
		wantQuota(t, chapters(), lab(1, 2), has(lab(1, 2), 0, 0, 0), api.OK)
		wantSame(t, chapters(), Twin(chapters()), true)
	}
}

// P6.4: who may open at a label may open at all that are at or below it.
func TestMayAllBelow(t *testing.T) {
	for _, p := range slices.Concat(rights(), policies(60)) {
		for user := range p.Users {
			for _, l := range labels() {
				if may, _ := May(p, user, l); may {
					for _, lower := range labels() {
						if below(lower, l) {
							wantMay(t, p, user, lower, true, api.OK)
						}
					}
				}
			}
		}
	}
}

// P6.4: a user may open by that user's own clearance alone: quotas, grants and other users change it not.
func TestMayHangsOnOneUser(t *testing.T) {
	p := wide()
	for user := range p.Users {
		for _, other := range []api.Clear{{}, sees(lab(0, 0)), sees(lab(15, math.MaxUint32))} {
			q := of(slices.Repeat([]api.Clear{other}, len(p.Users)), nil, 0)
			q.Users[user] = p.Users[user]
			for _, l := range labels() {
				may, _ := May(p, user, l)
				wantMay(t, q, user, l, may, api.OK)
			}
		}
	}
}

// with is a policy with another quota, in its place in the order.
func with(p api.Policy, q api.Quota) api.Policy {
	p = copied(p)
	p.Quotas = append(p.Quotas, q)
	slices.SortFunc(p.Quotas, func(a, b api.Quota) int { return rank(a.Label) - rank(b.Label) })
	return p
}

// without is a policy without a label's quota.
func without(p api.Policy, l api.Label) api.Policy {
	p = copied(p)
	p.Quotas = slices.DeleteFunc(p.Quotas, func(q api.Quota) bool { return q.Label == l })
	return p
}

// P6.4: a label's quota hangs on no other label's: with another label's quota more, with another one in its place, without it.
func TestQuotaHangsOnNoOther(t *testing.T) {
	p := wide()
	for _, l := range labels() {
		q, _ := Quota(p, l)
		for _, other := range labels() {
			if other == l {
				continue
			}
			fewer := without(p, other)
			wantQuota(t, fewer, l, q, api.OK)
			for _, made := range []api.Quota{has(other, 0, 0, 0), has(other, 64, 1, 4096), has(other, 0, 256, 0)} {
				more := with(fewer, made)
				check(t, more, true)
				wantQuota(t, more, l, q, api.OK)
				wantQuota(t, more, other, made, api.OK)
			}
		}
	}
}

// The chapter's table of examples, row by row.
func TestExamples(t *testing.T) {
	p := chapters()
	wantMay(t, p, 0, lab(1, 1), true, api.OK)
	wantMay(t, p, 0, lab(3, 1), false, api.OK)
	wantMay(t, p, 1, api.Label{}, false, api.OK)
	wantMay(t, p, 2, api.Label{}, false, api.OK)
	wantQuota(t, p, lab(1, 1), has(lab(1, 1), 2, 3, 9), api.OK)
	wantQuota(t, p, lab(1, 2), has(lab(1, 2), 0, 0, 0), api.OK)
	if n, e := Blocks(p); n != 18 || e != api.OK {
		t.Errorf("the example has %d blocks, %d", n, e)
	}
	twice := copied(p)
	twice.Quotas = append(twice.Quotas, twice.Quotas[0])
	check(t, twice, false)
	wantMay(t, p, 0, lab(16, 0), false, api.ErrBad)
}
