package point

import (
	"math"
	"math/rand"
	"slices"
	"testing"

	"turnkey/api"
	"turnkey/policy"
)

// greatest is written out by hand, so that cuts aren't held against call.Most alone.
var greatest = api.Call{63, 3, 65535, 65535, 65535}

func cond(field, op, value int) api.Cond {
	return api.Cond{Field: field, Op: op, Value: value}
}

func rule(verdict int, conds ...api.Cond) api.Rule {
	return api.Rule{Conds: conds, Verdict: verdict}
}

func of(byDefault int, rules ...api.Rule) api.Policy {
	return api.Policy{Rules: rules, Default: byDefault}
}

// asks is a policy of these conditions alone, each in a rule of its own.
func asks(conds ...api.Cond) api.Policy {
	p := of(api.Allow)
	for _, c := range conds {
		p.Rules = append(p.Rules, rule(api.Kill, c))
	}
	return p
}

// sample is "kill nr=3 a<5;log kind!0;allow", made anew, so that a test may change it.
func sample() api.Policy {
	return of(api.Allow,
		rule(api.Kill, cond(0, api.Is, 3), cond(2, api.Below, 5)),
		rule(api.Log, cond(1, api.Isnt, 0)))
}

// grid has as many cuts in each field as is asked for, 0 among them.
func grid(counts ...int) []api.Policy {
	p := of(api.Allow)
	for field, count := range counts {
		for value := 1; value < count; value++ {
			p.Rules = append(p.Rules, rule(value%4, cond(field, api.From, value)))
		}
	}
	return []api.Policy{p}
}

// dense has as many cuts as there are values of the field, by several policies, since one has too few conditions.
func dense(field int) []api.Policy {
	var l []api.Policy
	for value := 0; value <= greatest[field]; {
		p := of(api.Allow)
		for len(p.Rules) < api.MaxRules {
			r := rule(api.Log)
			for len(r.Conds) < api.MaxConds {
				r.Conds = append(r.Conds, cond(field, api.Is, min(value, greatest[field])))
				value += 2
			}
			p.Rules = append(p.Rules, r)
		}
		l = append(l, p)
	}
	return l
}

// mixed has small values that stand close together, so that rules hold, fail and cover each other often; now and then a value at the end of its field.
func mixed(r *rand.Rand, rules, conds int) api.Policy {
	p := of(r.Intn(5))
	for range r.Intn(rules + 1) {
		made := rule(r.Intn(5))
		for range r.Intn(conds + 1) {
			field := r.Intn(api.Fields)
			value := r.Intn(min(9, greatest[field]+1))
			if r.Intn(6) == 0 {
				value = greatest[field] - r.Intn(3)
			}
			made.Conds = append(made.Conds, cond(field, api.Is+r.Intn(4), value))
		}
		p.Rules = append(p.Rules, made)
	}
	return p
}

func mixedList(r *rand.Rand, most, rules, conds int) []api.Policy {
	var l []api.Policy
	for range r.Intn(most + 1) {
		l = append(l, mixed(r, rules, conds))
	}
	return l
}

// isCut says it of one value as the document words it, without a list.
func isCut(l []api.Policy, field, value int) bool {
	if value == 0 {
		return true
	}
	for _, p := range l {
		for _, r := range p.Rules {
			for _, c := range r.Conds {
				single := c.Op == api.Is || c.Op == api.Isnt
				if c.Field == field && (c.Value == value || single && c.Value+1 == value) {
					return true
				}
			}
		}
	}
	return false
}

// near has values at which something may change, and the ones beside them.
func near(r *rand.Rand, l []api.Policy, field int) int {
	values := []int{0, greatest[field], r.Intn(greatest[field] + 1)}
	for _, p := range l {
		for _, rule := range p.Rules {
			for _, c := range rule.Conds {
				if c.Field == field {
					values = append(values, max(c.Value-1, 0), c.Value, min(c.Value+1, greatest[field]))
				}
			}
		}
	}
	return values[r.Intn(len(values))]
}

func nearCall(r *rand.Rand, l []api.Policy) api.Call {
	var x api.Call
	for field := range x {
		x[field] = near(r, l, field)
	}
	return x
}

func wantCuts(t *testing.T, what string, l []api.Policy, field int, want ...int) {
	t.Helper()
	if got, e := Cuts(l, field); e != api.OK || !slices.Equal(got, want) {
		t.Errorf("%s: Cuts of field %d = %v, %d, want %v", what, field, got, e, want)
	}
}

func wantPoints(t *testing.T, what string, l []api.Policy, want ...api.Call) {
	t.Helper()
	if got, e := Points(l); e != api.OK || !slices.Equal(got, want) {
		t.Errorf("%s: Points = %v, %d, want %v", what, got, e, want)
	}
}

func wantHome(t *testing.T, what string, l []api.Policy, x, want api.Call) {
	t.Helper()
	if got, e := Home(l, x); e != api.OK || got != want {
		t.Errorf("%s: Home of %v = %v, %d, want %v", what, x, got, e, want)
	}
}

func wantNoCuts(t *testing.T, what string, l []api.Policy, field int, want api.Errno) {
	t.Helper()
	if got, e := Cuts(l, field); e != want || len(got) != 0 {
		t.Errorf("%s: Cuts of field %d = %v, %d, want none, %d", what, field, got, e, want)
	}
}

func wantNoPoints(t *testing.T, what string, l []api.Policy, want api.Errno) {
	t.Helper()
	if got, e := Points(l); e != want || len(got) != 0 {
		t.Errorf("%s: %d Points, %d, want none, %d", what, len(got), e, want)
	}
}

func wantNoHome(t *testing.T, what string, l []api.Policy, x api.Call, want api.Errno) {
	t.Helper()
	if got, e := Home(l, x); e != want || got != (api.Call{}) {
		t.Errorf("%s: Home of %v = %v, %d, want zero, %d", what, x, got, e, want)
	}
}

func TestCutsOfTheSample(t *testing.T) {
	l := []api.Policy{sample()}
	wantCuts(t, "the sample", l, 0, 0, 3, 4)
	wantCuts(t, "the sample", l, 1, 0, 1)
	wantCuts(t, "the sample", l, 2, 0, 5)
	wantCuts(t, "the sample", l, 3, 0)
	wantCuts(t, "the sample", l, 4, 0)
}

func TestCutsOfTheDocument(t *testing.T) {
	for _, field := range []int{0, 2, 3, 4} {
		wantCuts(t, "= 3 and < 10", []api.Policy{of(api.Allow, rule(api.Kill, cond(field, api.Is, 3), cond(field, api.Below, 10)))}, field, 0, 3, 4, 10)
	}
}

func TestCutsOfNothing(t *testing.T) {
	for field := range api.Fields {
		for what, l := range map[string][]api.Policy{
			"nil":           nil,
			"no policies":   {},
			"no rules":      {of(api.Kill), {Rules: []api.Rule{}}},
			"no conditions": {of(api.Log, rule(api.Kill), api.Rule{Conds: []api.Cond{}})},
		} {
			wantCuts(t, what, l, field, 0)
		}
	}
}

func TestCutsOfOneCondition(t *testing.T) {
	for field, top := range greatest {
		for op := api.Is; op <= api.From; op++ {
			for _, value := range []int{0, 1, 2, top - 1, top} {
				want := []int{0, value}
				if op == api.Is || op == api.Isnt {
					want = append(want, value+1)
				}
				want = slices.DeleteFunc(slices.Compact(want), func(v int) bool { return v > top })
				l := []api.Policy{asks(cond(field, op, value))}
				wantCuts(t, "one condition", l, field, want...)
				wantCuts(t, "another field", l, (field+1)%api.Fields, 0)
			}
		}
	}
}

func TestCutsAtTheEnd(t *testing.T) {
	for field, top := range greatest {
		for op := api.Is; op <= api.From; op++ {
			wantCuts(t, "the greatest value", []api.Policy{asks(cond(field, op, top))}, field, 0, top)
		}
	}
	wantCuts(t, "one below the greatest", []api.Policy{asks(cond(1, api.Isnt, 2))}, 1, 0, 2, 3)
	wantCuts(t, "all of them", []api.Policy{asks(cond(1, api.Is, 3), cond(1, api.Is, 1))}, 1, 0, 1, 2, 3)
}

func TestCutsAreToldOnceAndRising(t *testing.T) {
	l := []api.Policy{
		asks(cond(2, api.Below, 700), cond(2, api.Is, 9), cond(2, api.From, 10), cond(2, api.Isnt, 9)),
		of(api.Trap),
		asks(cond(2, api.Isnt, 8), cond(3, api.Is, 4), cond(2, api.From, 700), cond(2, api.Below, 65535), cond(2, api.From, 100)),
	}
	wantCuts(t, "of several", l, 2, 0, 8, 9, 10, 100, 700, 65535)
	wantCuts(t, "of several", l, 3, 0, 4, 5)
	slices.Reverse(l)
	wantCuts(t, "the other way round", l, 2, 0, 8, 9, 10, 100, 700, 65535)
}

// What a rule says, and whether it is ever reached, has no say in what its cuts are.
func TestCutsOfRulesThatNeverSay(t *testing.T) {
	p := of(api.Kill, rule(api.Kill), rule(api.Kill, cond(0, api.Below, 0), cond(0, api.Is, 5), cond(0, api.Isnt, 5), cond(4, api.From, 6)))
	wantCuts(t, "behind all", []api.Policy{p}, 0, 0, 5, 6)
	wantCuts(t, "behind all", []api.Policy{p}, 4, 0, 6)
}

func TestCutsAsTheDocumentWordsThem(t *testing.T) {
	r := rand.New(rand.NewSource(6))
	for range 400 {
		l := mixedList(r, 3, 5, 4)
		for field := range 2 {
			var want []int
			for value := range greatest[field] + 1 {
				if isCut(l, field, value) {
					want = append(want, value)
				}
			}
			wantCuts(t, "mixed", l, field, want...)
		}
		for field := 2; field < api.Fields; field++ {
			got, _ := Cuts(l, field)
			for _, value := range []int{1, 2, 5, 9, 10, 65533, 65534, 65535, near(r, l, field)} {
				if slices.Contains(got, value) != isCut(l, field, value) {
					t.Errorf("%v: Cuts of field %d = %v: is %d one?", l, field, got, value)
				}
			}
		}
	}
}

func TestAsManyCutsAsThereAreValues(t *testing.T) {
	for field, top := range greatest {
		l := dense(field)
		got, e := Cuts(l, field)
		if e != api.OK || len(got) != top+1 || got[0] != 0 || got[top] != top || !slices.IsSorted(got) {
			t.Errorf("field %d has %d cuts, %d, want all %d", field, len(got), e, top+1)
		}
		x := api.Call{1, 1, 1, 1, 1}
		x[field] = top - 1
		want := api.Call{}
		want[field] = top - 1
		wantHome(t, "each value its own", l, x, want)
	}
}

func TestPointsOfTheSample(t *testing.T) {
	wantPoints(t, "the sample", []api.Policy{sample()},
		api.Call{0, 0, 0}, api.Call{0, 0, 5}, api.Call{0, 1, 0}, api.Call{0, 1, 5},
		api.Call{3, 0, 0}, api.Call{3, 0, 5}, api.Call{3, 1, 0}, api.Call{3, 1, 5},
		api.Call{4, 0, 0}, api.Call{4, 0, 5}, api.Call{4, 1, 0}, api.Call{4, 1, 5})
}

func TestPointsOfNothing(t *testing.T) {
	wantPoints(t, "nil", nil, api.Call{})
	wantPoints(t, "no policies", []api.Policy{}, api.Call{})
	wantPoints(t, "no rules", []api.Policy{of(api.Kill), of(api.Allow)}, api.Call{})
	wantPoints(t, "no conditions", []api.Policy{of(api.Kill, rule(api.Log))}, api.Call{})
}

func TestPointsOfSeveralPolicies(t *testing.T) {
	l := []api.Policy{asks(cond(4, api.From, 9)), asks(cond(0, api.Below, 2)), asks(cond(4, api.From, 7), cond(0, api.Is, 63))}
	wantPoints(t, "the last field goes fastest", l,
		api.Call{0, 0, 0, 0, 0}, api.Call{0, 0, 0, 0, 7}, api.Call{0, 0, 0, 0, 9},
		api.Call{2, 0, 0, 0, 0}, api.Call{2, 0, 0, 0, 7}, api.Call{2, 0, 0, 0, 9},
		api.Call{63, 0, 0, 0, 0}, api.Call{63, 0, 0, 0, 7}, api.Call{63, 0, 0, 0, 9})
}

// All calls whose fields are cuts, each once, and rising: by that they are these and no others.
func TestPointsAreAllAndInOrder(t *testing.T) {
	r := rand.New(rand.NewSource(66))
	told := 0
	for range 600 {
		l := mixedList(r, 2, 4, 2)
		var cuts [api.Fields][]int
		count := 1
		for field := range cuts {
			cuts[field], _ = Cuts(l, field)
			count *= len(cuts[field])
		}
		if count > 1000 {
			wantNoPoints(t, "more than may be", l, api.ErrMany)
			continue
		}
		points, e := Points(l)
		if e != api.OK || len(points) != count {
			t.Fatalf("%v: %d Points, %d, want %d", l, len(points), e, count)
		}
		for at, x := range points {
			if at > 0 && slices.Compare(points[at-1][:], x[:]) >= 0 {
				t.Fatalf("%v stands behind %v", x, points[at-1])
			}
			for field, value := range x {
				if !slices.Contains(cuts[field], value) {
					t.Fatalf("%v: %d is no cut of field %d", x, value, field)
				}
			}
		}
		told++
	}
	if told < 100 {
		t.Errorf("only %d lists had few enough points", told)
	}
}

func TestHowManyPoints(t *testing.T) {
	for _, row := range []struct {
		counts []int
		many   int // 0: too many
	}{
		{[]int{1, 1, 1, 1, 1}, 1},
		{[]int{10, 1, 10, 10, 1}, 1000},
		{[]int{5, 2, 5, 4, 5}, 1000},
		{[]int{1, 1, 40, 1, 25}, 1000},
		{[]int{1, 4, 1, 50, 5}, 1000},
		{[]int{37, 3, 3, 3, 1}, 999},
		{[]int{7, 1, 11, 13, 1}, 0}, // 1001
		{[]int{1, 1, 7, 11, 13}, 0},
		{[]int{1, 1, 91, 11, 1}, 0},
		{[]int{11, 4, 23, 1, 1}, 0}, // 1012
		{[]int{50, 4, 5, 1, 2}, 0},  // the last field alone makes them too many
		{[]int{2, 1, 1, 25, 21}, 0},
		{[]int{64, 4, 4, 1, 1}, 0},
		{[]int{30, 4, 20, 20, 20}, 0},
	} {
		points, e := Points(grid(row.counts...))
		if row.many == 0 && (e != api.ErrMany || len(points) != 0) || row.many != 0 && (e != api.OK || len(points) != row.many) {
			t.Errorf("%v: %d Points, %d, want %d", row.counts, len(points), e, row.many)
		}
	}
}

func TestFarTooManyPoints(t *testing.T) {
	var l []api.Policy
	for field := range api.Fields {
		l = append(l, dense(field)...)
	}
	wantNoPoints(t, "every call is one", l, api.ErrMany)
	wantHome(t, "every call is one", l, api.Call{7, 2, 65535, 999, 1}, api.Call{7, 2, 65535, 999, 1})
}

func TestHomesOfTheSample(t *testing.T) {
	l := []api.Policy{sample()}
	for _, row := range [][2]api.Call{
		{{}, {}},
		{{9, 3, 7, 7, 7}, {4, 1, 5}},
		{{2, 0, 4}, {0, 0, 0}},
		{{3, 0, 4, 65535, 65535}, {3, 0, 0}},
		{{3, 1, 5}, {3, 1, 5}},
		{{4, 2, 6}, {4, 1, 5}},
		{{5, 0, 65535}, {4, 0, 5}},
		{greatest, {4, 1, 5}},
	} {
		wantHome(t, "the sample", l, row[0], row[1])
	}
}

func TestHomesOfNothing(t *testing.T) {
	for _, x := range []api.Call{{}, greatest, {1, 1, 1, 1, 1}} {
		wantHome(t, "nil", nil, x, api.Call{})
		wantHome(t, "no policies", []api.Policy{}, x, api.Call{})
		wantHome(t, "no rules", []api.Policy{of(api.Kill)}, x, api.Call{})
	}
}

func TestHomesAroundACut(t *testing.T) {
	for field, top := range greatest {
		l := []api.Policy{asks(cond(field, api.From, 2)), asks(cond(field, api.Is, top))}
		for value, want := range map[int]int{0: 0, 1: 0, 2: 2, top - 1: 2, top: top} {
			x, home := greatest, api.Call{}
			x[field], home[field] = value, want
			wantHome(t, "around a cut", l, x, home)
		}
	}
}

// P6.3: what a policy says of a call it says of its home, by the same rule; the home is a point, and at home itself.
func TestPoliciesSayWhatTheySayOfTheHome(t *testing.T) {
	r := rand.New(rand.NewSource(666))
	for range 1500 {
		l := mixedList(r, 3, 5, 3)
		points, many := Points(l)
		for range 20 {
			x := nearCall(r, l)
			home, e := Home(l, x)
			if e != api.OK {
				t.Fatalf("Home of %v = %d", x, e)
			}
			for _, p := range l {
				verdict, number, _ := policy.Judge(p, x)
				atHome, same, _ := policy.Judge(p, home)
				if verdict != atHome || number != same {
					t.Errorf("%v: %d by %d of %v, %d by %d of its home %v", p, verdict, number, x, atHome, same, home)
				}
			}
			for field, value := range home {
				if value > x[field] || !isCut(l, field, value) {
					t.Errorf("%v: field %d of the home of %v is %d", l, field, x, value)
				}
			}
			if many == api.OK && !slices.Contains(points, home) {
				t.Errorf("%v: the home %v of %v is no point", l, home, x)
			}
			wantHome(t, "of a home", l, home, home)
		}
	}
}

func TestEveryPointIsItsOwnHome(t *testing.T) {
	for _, l := range [][]api.Policy{nil, {sample()}, grid(10, 1, 10, 10), grid(2, 4, 3, 2, 3)} {
		points, e := Points(l)
		if e != api.OK {
			t.Fatalf("Points = %d", e)
		}
		for _, x := range points {
			wantHome(t, "of a point", l, x, x)
		}
	}
}

func TestWrongFields(t *testing.T) {
	for _, field := range []int{-1, 5, 6, 64, -5, math.MinInt, math.MaxInt} {
		wantNoCuts(t, "no such field", []api.Policy{sample()}, field, api.ErrWho)
		wantNoCuts(t, "no such field, of none", nil, field, api.ErrWho)
		wantNoCuts(t, "no such field, of a wrong policy", []api.Policy{sample(), of(9)}, field, api.ErrRange)
	}
}

// wrongs has policies with one thing wrong each.
func wrongs() map[api.Errno][]api.Policy {
	return map[api.Errno][]api.Policy{
		api.ErrMany:  {{Rules: make([]api.Rule, 121)}, of(api.Allow, rule(api.Kill), rule(api.Kill, make([]api.Cond, 11)...))},
		api.ErrRange: {of(5), of(-1), of(api.Allow, rule(5)), asks(cond(0, api.Is, 64)), asks(cond(1, api.Isnt, 4)), asks(cond(4, api.From, 65536)), asks(cond(2, api.Below, -1)), asks(cond(3, api.Is, math.MaxInt))},
		api.ErrWho:   {asks(cond(5, api.Is, 0)), asks(cond(-1, api.Is, 0)), asks(cond(math.MaxInt, api.Is, 0))},
		api.ErrForm:  {asks(cond(0, 0, 0)), asks(cond(0, 5, 0)), asks(cond(0, math.MinInt, 0))},
	}
}

func TestWrongPolicies(t *testing.T) {
	for want, l := range wrongs() {
		for _, wrong := range l {
			for _, list := range [][]api.Policy{{wrong}, {wrong, sample()}, {sample(), wrong}, {sample(), of(api.Kill), wrong, sample()}} {
				for field := range api.Fields {
					wantNoCuts(t, "a wrong policy", list, field, want)
				}
				wantNoPoints(t, "a wrong policy", list, want)
				wantNoHome(t, "a wrong policy", list, greatest, want)
			}
		}
	}
}

func TestTheFirstWrongPolicyIsTold(t *testing.T) {
	for first, l := range wrongs() {
		for _, others := range wrongs() {
			for _, list := range [][]api.Policy{{l[0], others[0]}, {sample(), l[0], sample(), others[0]}} {
				wantNoCuts(t, "two wrong policies", list, 0, first)
				wantNoPoints(t, "two wrong policies", list, first)
				wantNoHome(t, "two wrong policies", list, api.Call{}, first)
			}
		}
	}
}

// Too many points are told of right policies alone, even if the right ones have too many already.
func TestWrongPoliciesAreToldAheadOfTooManyPoints(t *testing.T) {
	many := grid(30, 4, 20, 20, 20)
	wantNoPoints(t, "too many", many, api.ErrMany)
	wantNoPoints(t, "too many, and a wrong one", append(many, of(9)), api.ErrRange)
	wantNoPoints(t, "too many, and a wrong one", append(many, asks(cond(5, 0, 0))), api.ErrWho)
}

func TestWrongCalls(t *testing.T) {
	for field, top := range greatest {
		for _, value := range []int{-1, top + 1, math.MinInt, math.MaxInt} {
			x := api.Call{1, 1, 1, 1, 1}
			x[field] = value
			wantNoHome(t, "a wrong call", []api.Policy{sample()}, x, api.ErrRange)
			wantNoHome(t, "a wrong call, of none", nil, x, api.ErrRange)
			wantNoHome(t, "a wrong call, and a wrong policy", []api.Policy{asks(cond(5, 0, 0))}, x, api.ErrRange)
			wantNoHome(t, "a wrong call, and a wrong policy", []api.Policy{asks(cond(0, 0, 0))}, x, api.ErrRange)
		}
	}
}

// keep has a whole copy of a list, with what stands in the room behind it.
func keep(l []api.Policy) []api.Policy {
	var kept []api.Policy
	for _, p := range l[:cap(l)] {
		kept = append(kept, policy.Copy(p))
	}
	return kept
}

func TestPoliciesStayAsTheyAre(t *testing.T) {
	room := append(make([]api.Policy, 0, 4), asks(cond(2, api.Below, 9), cond(2, api.Is, 1)), sample(), of(77), asks(cond(78, 79, 80)))
	room[1].Rules[0].Conds = append(room[1].Rules[0].Conds, cond(81, 82, 83))[:2]
	kept := keep(room)
	for range 3 {
		for _, l := range [][]api.Policy{room[:2], room} {
			for field := -1; field <= api.Fields; field++ {
				Cuts(l, field)
			}
			Points(l)
			Home(l, greatest)
			Home(l, api.Call{-1})
		}
	}
	if !slices.EqualFunc(room, kept, policy.Same) || room[1].Rules[0].Conds[:3][2] != cond(81, 82, 83) {
		t.Errorf("the policies were changed: %v, were %v", room, kept)
	}
}

func TestAnswersShareNothing(t *testing.T) {
	l := []api.Policy{sample()}
	cuts, _ := Cuts(l, 0)
	points, _ := Points(l)
	cuts, points = cuts[:cap(cuts)], points[:cap(points)]
	for at := range cuts {
		cuts[at] = 99
	}
	for at := range points {
		points[at] = api.Call{99, 99, 99, 99, 99}
	}
	if !policy.Same(l[0], sample()) {
		t.Errorf("the policy was changed by way of an answer: %v", l[0])
	}
	wantCuts(t, "made anew", l, 0, 0, 3, 4)
	if anew, e := Points(l); e != api.OK || len(anew) != 12 || anew[11] != (api.Call{4, 1, 5}) {
		t.Errorf("made anew: Points = %v, %d", anew, e)
	}
}
