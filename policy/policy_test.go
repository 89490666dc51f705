package policy

import (
	"math"
	"reflect"
	"testing"

	"turnkey/api"
)

// greatest is written out by hand, so that Value isn't held against call.Most alone.
var greatest = [api.Fields]int{63, 3, 65535, 65535, 65535}

// sample is "kill nr=3 a<5;log kind!0;allow", made anew, so that a test may change it.
func sample() api.Policy {
	return api.Policy{
		Rules: []api.Rule{
			{Conds: []api.Cond{{Field: 0, Op: api.Is, Value: 3}, {Field: 2, Op: api.Below, Value: 5}}, Verdict: api.Kill},
			{Conds: []api.Cond{{Field: 1, Op: api.Isnt, Value: 0}}, Verdict: api.Log},
		},
		Default: api.Allow,
	}
}

func withCond(c api.Cond) api.Policy {
	return api.Policy{Rules: []api.Rule{{Conds: []api.Cond{c}, Verdict: api.Trap}}, Default: api.Allow}
}

// full has as many rules, and in each as many conditions, as there may be.
func full() api.Policy {
	p := api.Policy{Default: api.Fail}
	for range api.MaxRules {
		r := api.Rule{Verdict: api.Trap}
		for i := range api.MaxConds {
			r.Conds = append(r.Conds, api.Cond{Field: i % api.Fields, Op: api.From, Value: i % 4})
		}
		p.Rules = append(p.Rules, r)
	}
	return p
}

func wantCheck(t *testing.T, what string, p api.Policy, want api.Errno) {
	t.Helper()
	if got := Check(p); got != want {
		t.Errorf("%s: Check = %d, want %d", what, got, want)
	}
}

func wantJudge(t *testing.T, what string, p api.Policy, x api.Call, verdict, number int, errno api.Errno) {
	t.Helper()
	v, n, e := Judge(p, x)
	if v != verdict || n != number || e != errno {
		t.Errorf("%s: Judge of %v = %d, %d, %d, want %d, %d, %d", what, x, v, n, e, verdict, number, errno)
	}
}

func TestCheckLetsThrough(t *testing.T) {
	wantCheck(t, "the sample", sample(), api.OK)
	wantCheck(t, "no rules", api.Policy{}, api.OK)
	wantCheck(t, "no conditions", api.Policy{Rules: []api.Rule{{}, {Conds: []api.Cond{}}}}, api.OK)
	wantCheck(t, "as many as may be", full(), api.OK)
}

func TestCheckCountsRules(t *testing.T) {
	wantCheck(t, "as many", api.Policy{Rules: make([]api.Rule, 120)}, api.OK)
	wantCheck(t, "one more", api.Policy{Rules: make([]api.Rule, 121)}, api.ErrMany)
	wantCheck(t, "many more", api.Policy{Rules: make([]api.Rule, 5000)}, api.ErrMany)
}

func TestCheckCountsConditions(t *testing.T) {
	for _, at := range []int{0, 1, api.MaxRules - 1} {
		p := full()
		p.Rules[at].Conds = append(p.Rules[at].Conds, p.Rules[at].Conds[0])
		if len(p.Rules[at].Conds) != 11 {
			t.Fatalf("rule %d has %d conditions", at, len(p.Rules[at].Conds))
		}
		wantCheck(t, "one condition more", p, api.ErrMany)
	}
}

func TestCheckVerdicts(t *testing.T) {
	for v, want := range map[int]api.Errno{
		api.Kill: api.OK, api.Trap: api.OK, api.Fail: api.OK, api.Log: api.OK, api.Allow: api.OK,
		-1: api.ErrRange, 5: api.ErrRange, math.MinInt: api.ErrRange, math.MaxInt: api.ErrRange,
	} {
		wantCheck(t, "Default", api.Policy{Default: v}, want)
		wantCheck(t, "Verdict", api.Policy{Rules: []api.Rule{{Verdict: v}}}, want)
		p := full()
		p.Rules[api.MaxRules-1].Verdict = v
		wantCheck(t, "the last rule's Verdict", p, want)
	}
}

func TestCheckFields(t *testing.T) {
	for field, want := range map[int]api.Errno{
		0: api.OK, 1: api.OK, 2: api.OK, 3: api.OK, 4: api.OK,
		-1: api.ErrWho, 5: api.ErrWho, math.MinInt: api.ErrWho, math.MaxInt: api.ErrWho,
	} {
		wantCheck(t, "Field", withCond(api.Cond{Field: field, Op: api.Is}), want)
		p := full()
		p.Rules[api.MaxRules-1].Conds[api.MaxConds-1] = api.Cond{Field: field, Op: api.Is}
		wantCheck(t, "the last condition's Field", p, want)
	}
}

func TestCheckOperations(t *testing.T) {
	for op, want := range map[int]api.Errno{
		api.Is: api.OK, api.Isnt: api.OK, api.Below: api.OK, api.From: api.OK,
		0: api.ErrForm, 5: api.ErrForm, -1: api.ErrForm, math.MinInt: api.ErrForm, math.MaxInt: api.ErrForm,
	} {
		wantCheck(t, "Op", withCond(api.Cond{Field: 2, Op: op}), want)
	}
}

func TestCheckValues(t *testing.T) {
	for field, most := range greatest {
		for op := api.Is; op <= api.From; op++ {
			for value, want := range map[int]api.Errno{
				0: api.OK, most: api.OK,
				-1: api.ErrRange, most + 1: api.ErrRange, math.MinInt: api.ErrRange, math.MaxInt: api.ErrRange,
			} {
				wantCheck(t, "Value", withCond(api.Cond{Field: field, Op: op, Value: value}), want)
			}
		}
	}
}

// All that can be wrong is wrong at the start; what is told is mended, and the next thing in the order of the document must be told.
func TestCheckTellsTheFirst(t *testing.T) {
	worst := api.Cond{Field: -1, Op: 0, Value: -1}
	many := make([]api.Cond, api.MaxConds+1)
	many[0], many[1] = worst, worst
	p := api.Policy{Default: -1, Rules: make([]api.Rule, api.MaxRules+1)}
	p.Rules[0] = api.Rule{Conds: many, Verdict: 5}
	p.Rules[1] = api.Rule{Conds: make([]api.Cond, api.MaxConds+1), Verdict: -1}
	wantCheck(t, "too many rules", p, api.ErrMany)
	p.Rules = p.Rules[:2]
	wantCheck(t, "Default", p, api.ErrRange)
	p.Default = api.Allow
	wantCheck(t, "too many conditions in the first rule", p, api.ErrMany)
	p.Rules[0].Conds = many[:2]
	wantCheck(t, "the first rule's Verdict", p, api.ErrRange)
	p.Rules[0].Verdict = api.Kill
	wantCheck(t, "the first condition's Field", p, api.ErrWho)
	many[0].Field = 0
	wantCheck(t, "the first condition's Op", p, api.ErrForm)
	many[0].Op = api.From
	wantCheck(t, "the first condition's Value", p, api.ErrRange)
	many[0].Value = 0
	wantCheck(t, "the second condition's Field", p, api.ErrWho)
	many[1] = api.Cond{Field: 4, Op: api.Below, Value: 7}
	wantCheck(t, "too many conditions in the second rule", p, api.ErrMany)
	p.Rules[1].Conds = nil
	wantCheck(t, "the second rule's Verdict", p, api.ErrRange)
	p.Rules[1].Verdict = api.Log
	wantCheck(t, "nothing", p, api.OK)
}

func TestSameOfOneThatIsMadeAnew(t *testing.T) {
	for _, made := range []func() api.Policy{sample, full, func() api.Policy { return api.Policy{} }} {
		if !Same(made(), made()) {
			t.Errorf("Same(%v, made anew) = false", made())
		}
	}
}

func TestSameOfListsWithNothingInThem(t *testing.T) {
	if !Same(api.Policy{}, api.Policy{Rules: []api.Rule{}}) {
		t.Error("no rules: nil isn't like empty")
	}
	a, b := api.Policy{Rules: []api.Rule{{}}}, api.Policy{Rules: []api.Rule{{Conds: []api.Cond{}}}}
	if !Same(a, b) || !Same(b, a) {
		t.Error("no conditions: nil isn't like empty")
	}
	if Same(api.Policy{}, a) || Same(a, api.Policy{}) {
		t.Error("a rule without conditions is like no rule")
	}
}

func TestSameTellsOneDifference(t *testing.T) {
	for what, change := range map[string]func(*api.Policy){
		"Default":                func(p *api.Policy) { p.Default = api.Log },
		"the first Verdict":      func(p *api.Policy) { p.Rules[0].Verdict = api.Trap },
		"the last Verdict":       func(p *api.Policy) { p.Rules[1].Verdict = api.Allow },
		"Field":                  func(p *api.Policy) { p.Rules[0].Conds[1].Field = 3 },
		"Op":                     func(p *api.Policy) { p.Rules[0].Conds[1].Op = api.From },
		"Value":                  func(p *api.Policy) { p.Rules[0].Conds[1].Value = 6 },
		"the last rule's Value":  func(p *api.Policy) { p.Rules[1].Conds[0].Value = 1 },
		"a rule less":            func(p *api.Policy) { p.Rules = p.Rules[:1] },
		"no rules":               func(p *api.Policy) { p.Rules = nil },
		"a rule more":            func(p *api.Policy) { p.Rules = append(p.Rules, api.Rule{}) },
		"a condition less":       func(p *api.Policy) { p.Rules[0].Conds = p.Rules[0].Conds[:1] },
		"no conditions":          func(p *api.Policy) { p.Rules[1].Conds = nil },
		"a condition more":       func(p *api.Policy) { p.Rules[1].Conds = append(p.Rules[1].Conds, api.Cond{}) },
		"the order of rules":     func(p *api.Policy) { p.Rules[0], p.Rules[1] = p.Rules[1], p.Rules[0] },
		"the order of conds":     func(p *api.Policy) { c := p.Rules[0].Conds; c[0], c[1] = c[1], c[0] },
		"Default beyond":         func(p *api.Policy) { p.Default = 5 },
		"a Verdict below":        func(p *api.Policy) { p.Rules[0].Verdict = -1 },
		"a Field that isn't one": func(p *api.Policy) { p.Rules[0].Conds[0].Field = math.MinInt },
	} {
		p := sample()
		change(&p)
		if Same(p, sample()) || Same(sample(), p) {
			t.Errorf("%s: Same = true", what)
		}
		q := sample()
		change(&q)
		if !Same(p, q) {
			t.Errorf("%s in both: Same = false", what)
		}
	}
}

func TestSameOfMoreThanMayBe(t *testing.T) {
	a, b := api.Policy{Rules: make([]api.Rule, 300)}, api.Policy{Rules: make([]api.Rule, 300)}
	a.Rules[299].Conds, b.Rules[299].Conds = make([]api.Cond, 30), make([]api.Cond, 30)
	if !Same(a, b) {
		t.Error("alike: Same = false")
	}
	b.Rules[299].Conds[29].Value = 1
	if Same(a, b) {
		t.Error("the last Value differs: Same = true")
	}
}

// Of each operation: what holds just below Value, at it and just above it.
func TestJudgeOperations(t *testing.T) {
	ops := map[int][3]bool{
		api.Is:    {false, true, false},
		api.Isnt:  {true, false, true},
		api.Below: {true, false, false},
		api.From:  {false, true, true},
	}
	for op, holding := range ops {
		for field, most := range greatest {
			for _, value := range []int{0, 1, 2, most - 1, most} {
				for i, want := range holding {
					at := value + i - 1
					if at < 0 || at > most {
						continue
					}
					var x api.Call
					x[field] = at
					p := withCond(api.Cond{Field: field, Op: op, Value: value})
					if want {
						wantJudge(t, "a condition that holds", p, x, api.Trap, 0, api.OK)
					} else {
						wantJudge(t, "a condition that doesn't", p, x, api.Allow, 1, api.OK)
					}
				}
			}
		}
	}
}

// Where the fields differ all from each other, only the one that is asked for may count.
func TestJudgeAsksItsField(t *testing.T) {
	x := api.Call{11, 2, 33, 44, 55}
	for field, value := range x {
		wantJudge(t, "its field", withCond(api.Cond{Field: field, Op: api.Is, Value: value}), x, api.Trap, 0, api.OK)
		other := x
		other[field]--
		wantJudge(t, "its field changed", withCond(api.Cond{Field: field, Op: api.Is, Value: value}), other, api.Allow, 1, api.OK)
	}
}

func TestJudgeTheSample(t *testing.T) {
	wantJudge(t, "the first rule", sample(), api.Call{3, 0, 4}, api.Kill, 0, api.OK)
	wantJudge(t, "both hold", sample(), api.Call{3, 1, 4}, api.Kill, 0, api.OK)
	wantJudge(t, "the second rule", sample(), api.Call{3, 1, 5}, api.Log, 1, api.OK)
	wantJudge(t, "none", sample(), api.Call{3, 0, 5}, api.Allow, 2, api.OK)
	wantJudge(t, "the first condition alone", sample(), api.Call{3, 0, 65535}, api.Allow, 2, api.OK)
	wantJudge(t, "the second condition alone", sample(), api.Call{4, 0, 4}, api.Allow, 2, api.OK)
}

func TestJudgeWithoutRulesOrConditions(t *testing.T) {
	for v := api.Kill; v <= api.Allow; v++ {
		wantJudge(t, "no rules", api.Policy{Default: v}, api.Call{1, 2, 3, 4, 5}, v, 0, api.OK)
		always := api.Policy{Rules: []api.Rule{{Verdict: v}}, Default: 4 - v}
		wantJudge(t, "no conditions", always, api.Call{1, 2, 3, 4, 5}, v, 0, api.OK)
	}
}

// It is the first rule that counts, not the strictest and not the loosest.
func TestJudgeTakesTheFirst(t *testing.T) {
	p := api.Policy{Default: api.Trap}
	for i, v := range []int{api.Log, api.Kill, api.Allow, api.Fail} {
		p.Rules = append(p.Rules, api.Rule{Conds: []api.Cond{{Field: 3, Op: api.From, Value: 40 - 10*i}}, Verdict: v})
	}
	for a, want := range map[int][2]int{50: {api.Log, 0}, 40: {api.Log, 0}, 39: {api.Kill, 1}, 29: {api.Allow, 2}, 10: {api.Fail, 3}, 9: {api.Trap, 4}} {
		wantJudge(t, "several rules", p, api.Call{0, 0, 0, a}, want[0], want[1], api.OK)
	}
}

func TestJudgeByTheLastOfAll(t *testing.T) {
	p := full()
	for i := range p.Rules[:api.MaxRules-1] {
		p.Rules[i].Conds[api.MaxConds-1] = api.Cond{Field: 4, Op: api.From, Value: 100}
	}
	p.Rules[api.MaxRules-1].Verdict = api.Log
	wantJudge(t, "the last rule", p, api.Call{3, 3, 3, 3, 99}, api.Log, 119, api.OK)
	wantJudge(t, "the first rule", p, api.Call{3, 3, 3, 3, 100}, api.Trap, 0, api.OK)
	wantJudge(t, "none", p, api.Call{0, 0, 0, 0, 0}, api.Fail, 120, api.OK)
}

func TestJudgeWrongPolicies(t *testing.T) {
	wrongCall := api.Call{64}
	for want, p := range map[api.Errno]api.Policy{
		api.ErrMany:  {Rules: make([]api.Rule, 121), Default: api.Allow},
		api.ErrRange: {Default: 5},
		api.ErrWho:   withCond(api.Cond{Field: 5, Op: api.Is}),
		api.ErrForm:  withCond(api.Cond{Op: 5}),
	} {
		wantJudge(t, "a wrong policy", p, api.Call{}, 0, 0, want)
		wantJudge(t, "and a wrong call", p, wrongCall, 0, 0, want)
	}
	late := sample()
	late.Rules = append(late.Rules, api.Rule{Verdict: api.Allow, Conds: []api.Cond{{Field: -1, Op: api.Is}}})
	wantJudge(t, "wrong behind the rule that holds", late, api.Call{3, 1, 4}, 0, 0, api.ErrWho)
}

func TestJudgeWrongCalls(t *testing.T) {
	for field, most := range greatest {
		for _, wrong := range []int{-1, most + 1, math.MinInt, math.MaxInt} {
			var x api.Call
			x[field] = wrong
			wantJudge(t, "a wrong call", sample(), x, 0, 0, api.ErrRange)
			wantJudge(t, "a wrong call, no rules", api.Policy{Default: api.Allow}, x, 0, 0, api.ErrRange)
		}
	}
}

func TestNothingIsChanged(t *testing.T) {
	spare := api.Rule{Verdict: 9}
	p := sample()
	p.Rules = append(p.Rules, spare)[:2]
	Check(p)
	Same(p, p)
	Judge(p, api.Call{3, 1, 4})
	Copy(p)
	if !reflect.DeepEqual(p, sample()) || !reflect.DeepEqual(p.Rules[:3][2], spare) {
		t.Errorf("what was handed in is %v now", p.Rules[:3])
	}
}

func TestCopyIsTheSame(t *testing.T) {
	wrong := api.Policy{Default: -7, Rules: []api.Rule{{Verdict: 9, Conds: make([]api.Cond, 12)}}}
	for _, p := range []api.Policy{{}, sample(), full(), wrong} {
		if !Same(Copy(p), p) {
			t.Errorf("Copy(%v) = %v", p, Copy(p))
		}
	}
}

func TestCopySharesNothing(t *testing.T) {
	p := full()
	c := Copy(p)
	for i := range c.Rules {
		spare := append(c.Rules[i].Conds, api.Cond{Field: 77})
		for j := range spare {
			spare[j].Value = -1
		}
		for j := range c.Rules[i].Conds {
			c.Rules[i].Conds[j].Value = -1
		}
		c.Rules[i].Verdict = -1
	}
	if !Same(p, full()) {
		t.Error("the policy changes with its copy")
	}
	c = Copy(p)
	p.Rules[0].Conds[0].Value = 60
	p.Rules[1].Verdict = api.Log
	if !Same(c, full()) {
		t.Error("the copy changes with its policy")
	}
}
