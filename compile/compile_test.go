package compile

import (
	"math"
	"math/rand"
	"slices"
	"testing"

	"turnkey/api"
	"turnkey/code"
	"turnkey/policy"
)

// greatest is written out by hand, so that calls beside a value aren't bound by call.Most alone.
var greatest = [api.Fields]int{63, 3, 65535, 65535, 65535}

func load(field int) api.Ins        { return api.Ins{Kind: api.Load, A: field} }
func equal(value, b, c int) api.Ins { return api.Ins{Kind: api.Equal, A: value, B: b, C: c} }
func less(value, b, c int) api.Ins  { return api.Ins{Kind: api.Less, A: value, B: b, C: c} }
func ret(verdict int) api.Ins       { return api.Ins{Kind: api.Return, A: verdict} }

func rule(verdict int, conds ...api.Cond) api.Rule {
	return api.Rule{Conds: conds, Verdict: verdict}
}

func of(byDefault int, rules ...api.Rule) api.Policy {
	return api.Policy{Rules: rules, Default: byDefault}
}

// sample is "kill nr=3 a<5;log kind!0;allow", made anew, so that a test may change it.
func sample() api.Policy {
	return of(api.Allow,
		rule(api.Kill, api.Cond{Field: 0, Op: api.Is, Value: 3}, api.Cond{Field: 2, Op: api.Below, Value: 5}),
		rule(api.Log, api.Cond{Field: 1, Op: api.Isnt, Value: 0}))
}

// sized has a rule for each count, with that many conditions.
func sized(counts ...int) api.Policy {
	p := api.Policy{Default: api.Fail}
	for at, count := range counts {
		r := api.Rule{Verdict: at % 5}
		for i := range count {
			r.Conds = append(r.Conds, api.Cond{Field: (at + i) % api.Fields, Op: api.Is + (at+i)%4, Value: (at + 3*i) % 4})
		}
		p.Rules = append(p.Rules, r)
	}
	return p
}

// longest has a filter of as many instructions as may be: 71 rules of 21, one of 7, one of 1, and the Return of Default.
func longest() api.Policy {
	return sized(append(slices.Repeat([]int{10}, 71), 3, 0)...)
}

// evenly spreads conditions over rules.
func evenly(rules, conds int) []int {
	counts := make([]int, rules)
	for i := range conds {
		counts[i%rules]++
	}
	return counts
}

func wantFilter(t *testing.T, what string, p api.Policy, want ...api.Ins) {
	t.Helper()
	l, e := Compile(p)
	if e != api.OK || !slices.Equal(l, want) {
		t.Errorf("%s: Compile = %v, %d, want %v", what, l, e, want)
	}
}

func wantLong(t *testing.T, what string, p api.Policy, want int) {
	t.Helper()
	l, e := Compile(p)
	if e != api.OK || len(l) != want {
		t.Errorf("%s: Compile = %d instructions, %d, want %d", what, len(l), e, want)
		return
	}
	if e := code.Check(l); e != api.OK {
		t.Errorf("%s: Check of the filter = %d", what, e)
	}
}

func wantRefused(t *testing.T, what string, p api.Policy, want api.Errno) {
	t.Helper()
	if l, e := Compile(p); e != want || len(l) != 0 {
		t.Errorf("%s: Compile = %d instructions, %d, want none, %d", what, len(l), e, want)
	}
}

// wantAlike holds what the filter says against what the policy says.
func wantAlike(t *testing.T, p api.Policy, calls ...api.Call) {
	t.Helper()
	l, e := Compile(p)
	if e != api.OK {
		t.Fatalf("Compile of %v = %d", p, e)
	}
	for _, x := range calls {
		want, _, judged := policy.Judge(p, x)
		got, _, ran := code.Run(l, x)
		if got != want || ran != api.OK || judged != api.OK {
			t.Errorf("%v of %v: the filter says %d, %d, the policy %d, %d", p, x, got, ran, want, judged)
		}
	}
}

func TestFilterOfTheSample(t *testing.T) {
	wantFilter(t, "the sample", sample(),
		load(0), equal(3, 0, 3), load(2), less(5, 0, 1), ret(api.Kill),
		load(1), equal(0, 1, 0), ret(api.Log),
		ret(api.Allow))
}

func TestFilterWithoutRules(t *testing.T) {
	for verdict := api.Kill; verdict <= api.Allow; verdict++ {
		wantFilter(t, "nil", of(verdict), ret(verdict))
		wantFilter(t, "none", api.Policy{Rules: []api.Rule{}, Default: verdict}, ret(verdict))
	}
}

func TestFilterWithoutConditions(t *testing.T) {
	for verdict := api.Kill; verdict <= api.Allow; verdict++ {
		wantFilter(t, "one rule", of(4-verdict, rule(verdict)), ret(verdict), ret(4-verdict))
		wantFilter(t, "no conditions, but a list", of(api.Fail, api.Rule{Conds: []api.Cond{}, Verdict: verdict}), ret(verdict), ret(api.Fail))
	}
	wantFilter(t, "what comes behind stays", of(api.Allow, rule(api.Log), rule(api.Kill), rule(api.Log)), ret(api.Log), ret(api.Kill), ret(api.Log), ret(api.Allow))
	wantFilter(t, "in the midst", of(api.Allow, rule(api.Trap), rule(api.Kill, api.Cond{Field: 4, Op: api.Is, Value: 9}), rule(api.Fail)),
		ret(api.Trap), load(4), equal(9, 0, 1), ret(api.Kill), ret(api.Fail), ret(api.Allow))
}

func TestFilterOfEachOperation(t *testing.T) {
	for field, most := range greatest {
		for _, value := range []int{0, 1, most - 1, most} {
			for op, want := range map[int]api.Ins{api.Is: equal(value, 0, 1), api.Isnt: equal(value, 1, 0), api.Below: less(value, 0, 1), api.From: less(value, 1, 0)} {
				wantFilter(t, "one condition", of(api.Allow, rule(api.Trap, api.Cond{Field: field, Op: op, Value: value})),
					load(field), want, ret(api.Trap), ret(api.Allow))
			}
		}
	}
}

// What is left of the rule is left out: not more, and not what is behind the rule.
func TestFilterOfSeveralConditions(t *testing.T) {
	is, isnt := api.Cond{Field: 0, Op: api.Is, Value: 7}, api.Cond{Field: 1, Op: api.Isnt, Value: 2}
	below, from := api.Cond{Field: 2, Op: api.Below, Value: 300}, api.Cond{Field: 3, Op: api.From, Value: 4000}
	wantFilter(t, "all operations", of(api.Allow, rule(api.Trap, is, isnt, below, from)),
		load(0), equal(7, 0, 7), load(1), equal(2, 5, 0), load(2), less(300, 0, 3), load(3), less(4000, 1, 0), ret(api.Trap), ret(api.Allow))
	wantFilter(t, "the other way round, in the second rule", of(api.Allow, rule(api.Log, is), rule(api.Trap, from, below, isnt, is), rule(api.Fail)),
		load(0), equal(7, 0, 1), ret(api.Log),
		load(3), less(4000, 7, 0), load(2), less(300, 0, 5), load(1), equal(2, 3, 0), load(0), equal(7, 0, 1), ret(api.Trap),
		ret(api.Fail), ret(api.Allow))
}

// Nothing is spared: a field is loaded again, and a condition asked again, each time that it stands there.
func TestFilterSparesNothing(t *testing.T) {
	c := api.Cond{Field: 2, Op: api.From, Value: 0}
	wantFilter(t, "twice", of(api.Trap, rule(api.Trap, c, c), rule(api.Trap, c)),
		load(2), less(0, 3, 0), load(2), less(0, 1, 0), ret(api.Trap), load(2), less(0, 1, 0), ret(api.Trap), ret(api.Trap))
}

func TestFilterOfAsManyConditionsAsMayBe(t *testing.T) {
	c := api.Cond{Field: 3, Op: api.Isnt, Value: 65535}
	var want []api.Ins
	for left := 19; left >= 1; left -= 2 {
		want = append(want, load(3), equal(65535, left, 0))
	}
	want = append(want, ret(api.Fail), ret(api.Log))
	wantFilter(t, "ten", of(api.Log, rule(api.Fail, slices.Repeat([]api.Cond{c}, 10)...)), want...)
}

func TestHowLong(t *testing.T) {
	wantLong(t, "as many rules as may be, without conditions", sized(make([]int, 120)...), 121)
	wantLong(t, "as many rules as may be, with one each", sized(slices.Repeat([]int{1}, 120)...), 361)
	wantLong(t, "as many rules as may be, with five each", sized(slices.Repeat([]int{5}, 120)...), 1321)
	wantLong(t, "as many conditions as may be, in one rule", sized(10), 22)
	wantLong(t, "one below the longest", sized(append(slices.Repeat([]int{10}, 71), 3)...), 1499)
	wantLong(t, "the longest", longest(), 1500)
	// how many rules there are says whether a filter's length is even, so as many rules as may be stop one short of the longest
	wantLong(t, "the longest, of 119 rules", sized(evenly(119, 690)...), 1500)
	wantLong(t, "as many rules as may be, and as many conditions as they have room for", sized(evenly(120, 689)...), 1499)
}

func TestTooLong(t *testing.T) {
	more := longest()
	more.Rules = append(more.Rules, api.Rule{})
	wantRefused(t, "one instruction more, by a rule", more, api.ErrMany)
	more = longest()
	more.Rules[72].Conds = []api.Cond{{Op: api.Is}}
	wantRefused(t, "two instructions more, by a condition", more, api.ErrMany)
	wantRefused(t, "as many rules and conditions as may be", sized(slices.Repeat([]int{10}, 120)...), api.ErrMany)
	wantRefused(t, "as many rules as may be, and one condition more than they have room for", sized(evenly(120, 690)...), api.ErrMany)
	wantRefused(t, "119 rules, and one condition more than they have room for", sized(evenly(119, 691)...), api.ErrMany)
	if e := policy.Check(more); e != api.OK {
		t.Errorf("the policy alone is wrong already: %d", e)
	}
}

func TestWrongPolicies(t *testing.T) {
	for _, row := range []struct {
		what string
		p    api.Policy
		want api.Errno
	}{
		{"too many rules", api.Policy{Rules: make([]api.Rule, 121)}, api.ErrMany},
		{"too many conditions", sized(1, 11), api.ErrMany},
		{"no such default", of(5), api.ErrRange},
		{"a default below all", of(-1), api.ErrRange},
		{"no such verdict", of(api.Allow, rule(5)), api.ErrRange},
		{"a verdict below all", of(api.Allow, rule(api.Log), rule(-1)), api.ErrRange},
		{"no such field", of(api.Allow, rule(api.Kill, api.Cond{Field: 5, Op: api.Is})), api.ErrWho},
		{"a field below all", of(api.Allow, rule(api.Kill, api.Cond{Field: -1, Op: api.Is})), api.ErrWho},
		{"no operation", of(api.Allow, rule(api.Kill, api.Cond{})), api.ErrForm},
		{"no such operation", of(api.Allow, rule(api.Kill, api.Cond{Op: 5})), api.ErrForm},
		{"a number above all", of(api.Allow, rule(api.Kill, api.Cond{Op: api.Is, Value: 64})), api.ErrRange},
		{"a kind above all", of(api.Allow, rule(api.Kill, api.Cond{Field: 1, Op: api.Isnt, Value: 4})), api.ErrRange},
		{"an argument above all", of(api.Allow, rule(api.Kill, api.Cond{Field: 4, Op: api.Below, Value: 65536})), api.ErrRange},
		{"a value below all", of(api.Allow, rule(api.Kill, api.Cond{Field: 2, Op: api.From, Value: -1})), api.ErrRange},
		{"far off", of(math.MinInt, rule(math.MaxInt, api.Cond{Field: math.MaxInt, Op: math.MinInt, Value: math.MinInt})), api.ErrRange},
	} {
		wantRefused(t, row.what, row.p, row.want)
	}
}

func TestWhichErrorIsTold(t *testing.T) {
	who, form := rule(api.Kill, api.Cond{Field: 5}), rule(api.Kill, api.Cond{Op: 9, Value: -1})
	wantRefused(t, "field, operation", of(api.Allow, who, form), api.ErrWho)
	wantRefused(t, "operation, field", of(api.Allow, form, who), api.ErrForm)
	wantRefused(t, "default, field", of(9, who, form), api.ErrRange)
	many := api.Policy{Rules: make([]api.Rule, 121), Default: 9}
	many.Rules[0] = who
	wantRefused(t, "rules, default, field", many, api.ErrMany)
	// a filter that would be too long is told of right policies alone
	long := sized(slices.Repeat([]int{10}, 120)...)
	long.Rules[119].Conds[9].Op = 0
	wantRefused(t, "operation, too long", long, api.ErrForm)
	long.Rules[119].Conds[9].Field = -1
	wantRefused(t, "field, too long", long, api.ErrWho)
	long.Rules[119].Verdict = 5
	wantRefused(t, "verdict, too long", long, api.ErrRange)
}

// beside has the calls whose fields are each a value of the policy's conditions, one less or one more; of many such calls a part, drawn by r.
func beside(r *rand.Rand, p api.Policy, most int) []api.Call {
	var values [api.Fields][]int
	for field, top := range greatest {
		values[field] = []int{0, top}
		for _, rule := range p.Rules {
			for _, c := range rule.Conds {
				if c.Field == field {
					values[field] = append(values[field], max(c.Value-1, 0), c.Value, min(c.Value+1, top))
				}
			}
		}
		slices.Sort(values[field])
		values[field] = slices.Compact(values[field])
	}
	calls := []api.Call{{}}
	for field := range api.Fields {
		var next []api.Call
		for _, x := range calls {
			for _, value := range values[field] {
				x[field] = value
				next = append(next, x)
			}
		}
		r.Shuffle(len(next), func(i, j int) { next[i], next[j] = next[j], next[i] })
		calls = next[:min(most, len(next))]
	}
	return calls
}

func TestFilterSaysWhatIsWrittenDown(t *testing.T) {
	l, _ := Compile(sample())
	for _, row := range []struct {
		x       api.Call
		verdict int
		done    int
	}{
		{api.Call{3, 0, 4}, api.Kill, 5},
		{api.Call{3, 1, 0}, api.Kill, 5},
		{api.Call{3, 0, 5}, api.Allow, 7},
		{api.Call{3, 3, 5}, api.Log, 7},
		{api.Call{2, 0, 4}, api.Allow, 5},
		{api.Call{4, 1, 4}, api.Log, 5},
		{api.Call{63, 3, 65535, 65535, 65535}, api.Log, 5},
	} {
		if verdict, done, e := code.Run(l, row.x); verdict != row.verdict || done != row.done || e != api.OK {
			t.Errorf("Run of %v = %d, %d, %d, want %d, %d", row.x, verdict, done, e, row.verdict, row.done)
		}
	}
}

func TestFilterSaysWhatThePolicySaysOfOneCondition(t *testing.T) {
	r := rand.New(rand.NewSource(5))
	for field, top := range greatest {
		for op := api.Is; op <= api.From; op++ {
			for _, value := range []int{0, 1, 2, top - 1, top} {
				p := of(api.Allow, rule(api.Kill, api.Cond{Field: field, Op: op, Value: value}))
				wantAlike(t, p, beside(r, p, 1000)...)
			}
		}
	}
}

// Small values that stand close together, so that rules hold, fail and cover each other often.
func mixed(r *rand.Rand, rules, conds int) api.Policy {
	p := of(r.Intn(5))
	for range r.Intn(rules + 1) {
		made := rule(r.Intn(5))
		for range r.Intn(conds + 1) {
			field := r.Intn(api.Fields)
			made.Conds = append(made.Conds, api.Cond{Field: field, Op: api.Is + r.Intn(4), Value: r.Intn(min(6, greatest[field]+1))})
		}
		p.Rules = append(p.Rules, made)
	}
	return p
}

func TestFilterSaysWhatThePolicySays(t *testing.T) {
	r := rand.New(rand.NewSource(55))
	wantAlike(t, sample(), beside(r, sample(), 2000)...)
	wantAlike(t, longest(), beside(r, longest(), 200)...)
	for range 1500 {
		p := mixed(r, 6, 3)
		wantAlike(t, p, beside(r, p, 60)...)
	}
	for range 100 {
		p := mixed(r, 60, 10)
		wantAlike(t, p, beside(r, p, 60)...)
	}
}

// Each rule of as many as may be is reached and says its own: none goes too far, whatever stands ahead of it.
func TestEachRuleOfManyIsReached(t *testing.T) {
	p := of(api.Allow)
	for at := range api.MaxRules {
		p.Rules = append(p.Rules, rule(at%4, api.Cond{Field: 2, Op: api.Is, Value: at}, api.Cond{Field: 3, Op: api.From, Value: at}, api.Cond{Field: 4, Op: api.Below, Value: at + 1}))
	}
	l, e := Compile(p)
	if e != api.OK {
		t.Fatalf("Compile = %d", e)
	}
	for at := range api.MaxRules {
		for _, row := range []struct {
			x    api.Call
			want int
		}{
			{api.Call{0, 0, at, at, at}, at % 4},
			{api.Call{0, 0, at, at, at + 1}, api.Allow},
			{api.Call{0, 0, at, at - 1, at}, api.Allow},
		} {
			if row.x[3] < 0 {
				continue
			}
			if verdict, _, e := code.Run(l, row.x); verdict != row.want || e != api.OK {
				t.Errorf("Run of %v = %d, %d, want %d", row.x, verdict, e, row.want)
			}
		}
	}
}

// Whatever is handed in, Compile answers: the policy's error, or a filter that Check lets through, or that it is too long.
func TestAnything(t *testing.T) {
	r := rand.New(rand.NewSource(555))
	numbers := []int{0, 1, 2, 3, 4, 5, -1, 63, 64, 65535, 65536, math.MinInt, math.MaxInt}
	number := func() int { return numbers[r.Intn(len(numbers))] }
	for range 5000 {
		p := mixed(r, 5, 5)
		p.Rules = append(p.Rules, rule(number()%6, api.Cond{Field: number(), Op: number(), Value: number()}))
		want := policy.Check(p)
		l, e := Compile(p)
		if e != want || e != api.OK && len(l) != 0 || e == api.OK && code.Check(l) != api.OK {
			t.Fatalf("Compile of %v = %v, %d, Check says %d", p, l, e, want)
		}
	}
}

func TestPolicyStaysAsItIs(t *testing.T) {
	room := append(append(make([]api.Rule, 0, 4), sample().Rules...), rule(77, api.Cond{Field: 78}), rule(79))
	room[0].Conds = append(room[0].Conds, api.Cond{Field: 80})[:2]
	kept := policy.Copy(of(api.Log, room...))
	spare := room[0].Conds[:3][2]
	for range 3 {
		if _, e := Compile(api.Policy{Rules: room[:2], Default: api.Log}); e != api.OK {
			t.Fatalf("Compile = %d", e)
		}
		wantRefused(t, "with what stands in the room behind", api.Policy{Rules: room}, api.ErrRange)
	}
	if !policy.Same(of(api.Log, room...), kept) || room[0].Conds[:3][2] != spare {
		t.Errorf("the policy was changed: %v, was %v", room, kept.Rules)
	}
}

func TestAnswersShareNothing(t *testing.T) {
	first, _ := Compile(sample())
	kept := slices.Clone(first)
	second, _ := Compile(sample())
	second = second[:cap(second)]
	for at := range second {
		second[at] = api.Ins{Kind: 99}
	}
	if !slices.Equal(first, kept) {
		t.Errorf("a filter was changed by way of another one: %v, was %v", first, kept)
	}
	wantFilter(t, "made anew", sample(), kept...)
}
