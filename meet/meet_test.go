package meet

import (
	"math"
	"math/rand"
	"slices"
	"testing"

	"turnkey/api"
	"turnkey/order"
	"turnkey/policy"
	"turnkey/text"
)

// greatest is written out by hand, so that calls aren't held against call.Most alone.
var greatest = api.Call{63, 3, 65535, 65535, 65535}

func cond(field, op, value int) api.Cond {
	return api.Cond{Field: field, Op: op, Value: value}
}

func rule(verdict int, conds ...api.Cond) api.Rule {
	return api.Rule{Conds: conds, Verdict: verdict}
}

func of(byDefault int, rules ...api.Rule) api.Policy {
	return api.Policy{Rules: rules, Default: byDefault}
}

// sample is "kill nr=3 a<5;log kind!0;allow", made anew, so that a test may change it.
func sample() api.Policy {
	return of(api.Allow,
		rule(api.Kill, cond(0, api.Is, 3), cond(2, api.Below, 5)),
		rule(api.Log, cond(1, api.Isnt, 0)))
}

// read makes a policy of its text.
func read(t *testing.T, s string) api.Policy {
	t.Helper()
	p, e := text.Parse(s)
	if e != api.OK {
		t.Fatalf("%q isn't read: %d", s, e)
	}
	return p
}

// plain has as many rules as are asked for, with as many conditions each.
func plain(rules, conds int) api.Policy {
	p := of(api.Allow)
	for at := range rules {
		made := rule(api.Log)
		for range conds {
			made.Conds = append(made.Conds, cond(2, api.Below, at))
		}
		p.Rules = append(p.Rules, made)
	}
	return p
}

// grid has as many cuts in each field as is asked for, 0 among them.
func grid(counts ...int) api.Policy {
	p := of(api.Allow)
	for field, count := range counts {
		for value := count - 1; value > 0; value-- {
			p.Rules = append(p.Rules, rule(api.Log, cond(field, api.From, value)))
		}
	}
	return p
}

// mixed has small values that stand close together, so that rules hold, fail and cover each other often; now and then a value at the end of its field.
func mixed(r *rand.Rand, rules, conds int) api.Policy {
	p := of(r.Intn(5))
	for range r.Intn(rules + 1) {
		made := rule(r.Intn(5))
		for range r.Intn(conds + 1) {
			field := r.Intn(api.Fields)
			value := r.Intn(min(4, greatest[field]+1))
			if r.Intn(6) == 0 {
				value = greatest[field] - r.Intn(3)
			}
			made.Conds = append(made.Conds, cond(field, api.Is+r.Intn(4), value))
		}
		p.Rules = append(p.Rules, made)
	}
	return p
}

// judged says what a policy says of a call, and which rule says it, without the program's help.
func judged(p api.Policy, x api.Call) (int, int) {
	for at, r := range p.Rules {
		holds := true
		for _, c := range r.Conds {
			v := x[c.Field]
			is := map[int]bool{api.Is: v == c.Value, api.Isnt: v != c.Value, api.Below: v < c.Value, api.From: v >= c.Value}
			holds = holds && is[c.Op]
		}
		if holds {
			return r.Verdict, at
		}
	}
	return p.Default, len(p.Rules)
}

func says(p api.Policy, x api.Call) int {
	verdict, _ := judged(p, x)
	return verdict
}

// cuts are told as the sixth chapter words them.
func cuts(field int, l ...api.Policy) []int {
	values := []int{0}
	for _, p := range l {
		for _, r := range p.Rules {
			for _, c := range r.Conds {
				if c.Field != field {
					continue
				}
				values = append(values, c.Value)
				if (c.Op == api.Is || c.Op == api.Isnt) && c.Value < greatest[field] {
					values = append(values, c.Value+1)
				}
			}
		}
	}
	slices.Sort(values)
	return slices.Compact(values)
}

// points are all of a policy, or none if they are more than a thousand.
func points(p api.Policy) []api.Call {
	l := []api.Call{{}}
	for field := range api.Fields {
		var wider []api.Call
		for _, x := range l {
			for _, cut := range cuts(field, p) {
				x[field] = cut
				wider = append(wider, x)
			}
		}
		if len(wider) > 1000 {
			return nil
		}
		l = wider
	}
	return l
}

// anyCall is one at, just below or just behind values that the policies name, or anywhere.
func anyCall(r *rand.Rand, l ...api.Policy) api.Call {
	var x api.Call
	for field, top := range greatest {
		c := cuts(field, l...)
		near := c[r.Intn(len(c))]
		x[field] = []int{near, max(near-1, 0), min(near+1, top), r.Intn(top + 1), top}[r.Intn(5)]
	}
	return x
}

// worded makes one policy of two as the document words it; whether it is a right one, it leaves open.
func worded(p, q api.Policy, except bool) api.Policy {
	var l []api.Rule
	for i := 0; i <= len(p.Rules); i++ {
		for j := 0; j <= len(q.Rules); j++ {
			first, second := rule(p.Default), rule(q.Default)
			if i < len(p.Rules) {
				first = p.Rules[i]
			}
			if j < len(q.Rules) {
				second = q.Rules[j]
			}
			made := rule(first.Verdict)
			if first.Verdict >= second.Verdict {
				made.Verdict = second.Verdict
				if except {
					made.Verdict = api.Allow
				}
			}
			made.Conds = append(append(made.Conds, first.Conds...), second.Conds...)
			l = append(l, made)
		}
	}
	return of(l[len(l)-1].Verdict, l[:len(l)-1]...)
}

// shortened leaves rules out as the document words it, one after the other.
func shortened(p api.Policy, l []api.Call) api.Policy {
	var used [api.MaxRules + 1]int
	for _, x := range l {
		_, at := judged(p, x)
		used[at]++
	}
	short := of(p.Default)
	for at, r := range p.Rules {
		if used[at] > 0 {
			short.Rules = append(short.Rules, r)
		}
	}
	for len(short.Rules) > 0 && short.Rules[len(short.Rules)-1].Verdict == p.Default {
		short.Rules = short.Rules[:len(short.Rules)-1]
	}
	return short
}

func wantPolicy(t *testing.T, what string, got api.Policy, e api.Errno, want api.Policy) {
	t.Helper()
	if e != api.OK || !policy.Same(got, want) {
		t.Errorf("%s: %v, %d, want %v", what, got, e, want)
	}
}

func wantRefused(t *testing.T, what string, got api.Policy, e, want api.Errno) {
	t.Helper()
	if e != want || len(got.Rules) != 0 || got.Default != 0 {
		t.Errorf("%s: %v, %d, want nothing, %d", what, got, e, want)
	}
}

func wantMeet(t *testing.T, what string, p, q, want api.Policy) {
	t.Helper()
	got, e := Meet(p, q)
	wantPolicy(t, what+": Meet", got, e, want)
}

func wantExcept(t *testing.T, what string, p, q, want api.Policy) {
	t.Helper()
	got, e := Except(p, q)
	wantPolicy(t, what+": Except", got, e, want)
}

func wantShort(t *testing.T, what string, p, want api.Policy) {
	t.Helper()
	got, e := Short(p)
	wantPolicy(t, what+": Short", got, e, want)
}

// wantNeither is asked of two policies that make none.
func wantNeither(t *testing.T, what string, p, q api.Policy, want api.Errno) {
	t.Helper()
	got, e := Meet(p, q)
	wantRefused(t, what+": Meet", got, e, want)
	got, e = Except(p, q)
	wantRefused(t, what+": Except", got, e, want)
}

func TestOneOfTwoThatAreWrittenDown(t *testing.T) {
	for _, row := range []struct{ p, q, meet, except string }{
		{"kill nr=3 a<5;log kind!0;allow", "trap a<9;allow",
			"kill nr=3 a<5 a<9;kill nr=3 a<5;trap kind!0 a<9;log kind!0;trap a<9;allow",
			"kill nr=3 a<5 a<9;kill nr=3 a<5;allow kind!0 a<9;log kind!0;allow a<9;allow"},
		{"trap a<9;allow", "kill nr=3 a<5;log kind!0;allow",
			"kill a<9 nr=3 a<5;trap a<9 kind!0;trap a<9;kill nr=3 a<5;log kind!0;allow",
			"allow a<9 nr=3 a<5;trap a<9 kind!0;trap a<9;allow nr=3 a<5;allow kind!0;allow"},
		{"fail b>7;log", "trap", "trap b>7;trap", "allow b>7;allow"},
		{"trap", "fail b>7;log", "trap b>7;trap", "trap b>7;trap"},
		{"kill nr=1;allow", "kill nr=1;allow", "kill nr=1 nr=1;kill nr=1;kill nr=1;allow", "allow nr=1 nr=1;kill nr=1;allow nr=1;allow"},
		{"allow a<1;kill", "log a<2;trap", "log a<1 a<2;trap a<1;kill a<2;kill", "allow a<1 a<2;allow a<1;kill a<2;kill"},
	} {
		wantMeet(t, row.p+" and "+row.q, read(t, row.p), read(t, row.q), read(t, row.meet))
		wantExcept(t, row.p+" and "+row.q, read(t, row.p), read(t, row.q), read(t, row.except))
	}
}

func TestVerdictsOfTwo(t *testing.T) {
	for v := api.Kill; v <= api.Allow; v++ {
		for w := api.Kill; w <= api.Allow; w++ {
			left := api.Allow
			if v < w {
				left = v
			}
			stricter := map[bool]int{true: v, false: w}[v < w]
			wantMeet(t, "defaults", of(v), of(w), of(stricter))
			wantExcept(t, "defaults", of(v), of(w), of(left))
			a, b := cond(2, api.From, 6), cond(3, api.Isnt, 7)
			p, q := of(v, rule(v, a)), of(w, rule(w, b))
			wantMeet(t, "rules", p, q, of(stricter, rule(stricter, a, b), rule(stricter, a), rule(stricter, b)))
			wantExcept(t, "rules", p, q, of(left, rule(left, a, b), rule(left, a), rule(left, b)))
		}
	}
}

// A rule without conditions is a rule like any other: it isn't taken for the Default.
func TestRulesWithoutConditions(t *testing.T) {
	p, q := of(api.Allow, rule(api.Log), api.Rule{Conds: []api.Cond{}, Verdict: api.Kill}), of(api.Trap, rule(api.Fail))
	wantMeet(t, "bare rules", p, q, of(api.Trap, rule(api.Fail), rule(api.Trap), rule(api.Kill), rule(api.Kill), rule(api.Fail)))
	wantExcept(t, "bare rules", p, q, of(api.Allow, rule(api.Allow), rule(api.Allow), rule(api.Kill), rule(api.Kill), rule(api.Allow)))
	wantMeet(t, "nil and empty", api.Policy{Rules: []api.Rule{}, Default: api.Log}, of(api.Fail), of(api.Fail))
}

func TestOneOfTwoAsTheDocumentWordsIt(t *testing.T) {
	r := rand.New(rand.NewSource(8))
	seen := map[string]int{}
	for range 5000 {
		p, q := mixed(r, 4, 3), mixed(r, 4, 3)
		if r.Intn(4) == 0 { // long ones, so that there are too many rules or conditions now and then
			p, q = mixed(r, 18, 7), mixed(r, 18, 7)
		}
		for _, except := range []bool{false, true} {
			want := worded(p, q, except)
			made := Meet
			if except {
				made = Except
			}
			got, e := made(p, q)
			if wrong := policy.Check(want); wrong != api.OK {
				wantRefused(t, "mixed", got, e, wrong)
				seen["refused"]++
				continue
			}
			wantPolicy(t, "mixed", got, e, want)
			seen["made"]++
		}
	}
	if seen["refused"] < 500 || seen["made"] < 500 {
		t.Errorf("too few: %v", seen)
	}
}

// P8.3, and what Except comes to: of all calls, not of points alone.
func TestWhatTwoSayTogether(t *testing.T) {
	r := rand.New(rand.NewSource(88))
	asked := 0
	for range 3000 {
		p, q := mixed(r, 4, 3), mixed(r, 4, 3)
		both, e := Meet(p, q)
		left, f := Except(p, q)
		if e != api.OK || f != api.OK {
			continue
		}
		for range 30 {
			x := anyCall(r, p, q)
			v, w := says(p, x), says(q, x)
			if got := says(both, x); got != min(v, w) {
				t.Fatalf("Meet of %v and %v says %d of %v, want %d", p, q, got, x, min(v, w))
			}
			want := api.Allow
			if v < w {
				want = v
			}
			if got := says(left, x); got != want {
				t.Fatalf("Except of %v and %v says %d of %v, want %d", p, q, got, x, want)
			}
		}
		asked++
	}
	if asked < 2000 {
		t.Errorf("only %d pairs were asked", asked)
	}
}

// Each rule counts, and so does the Default: of 10 and 10 there come 121, of which the last is the Default again.
func TestHowManyRules(t *testing.T) {
	for _, row := range []struct {
		p, q, made int
	}{
		{10, 10, 120}, {120, 0, 120}, {0, 120, 120}, {0, 0, 0}, {1, 59, 119}, {59, 1, 119}, {3, 29, 119}, {29, 3, 119},
		{1, 60, -1}, {60, 1, -1}, {10, 11, -1}, {11, 10, -1}, {120, 1, -1}, {1, 120, -1}, {120, 120, -1},
	} {
		p, q := plain(row.p, 1), plain(row.q, 2)
		if row.made < 0 {
			wantNeither(t, "too many rules", p, q, api.ErrMany)
			continue
		}
		wantMeet(t, "as many rules", p, q, worded(p, q, false))
		wantExcept(t, "as many rules", p, q, worded(p, q, true))
		if got, _ := Meet(p, q); len(got.Rules) != row.made {
			t.Errorf("%d and %d rules make %d, want %d", row.p, row.q, len(got.Rules), row.made)
		}
	}
}

// Conditions that stand in both count twice.
func TestHowManyConditions(t *testing.T) {
	for _, row := range [][2]int{{10, 0}, {0, 10}, {5, 5}, {9, 1}, {1, 9}} {
		p, q := plain(2, row[0]), plain(2, row[1])
		wantMeet(t, "as many conditions", p, q, worded(p, q, false))
		wantExcept(t, "as many conditions", p, q, worded(p, q, true))
	}
	for _, row := range [][2]int{{10, 1}, {1, 10}, {5, 6}, {6, 5}, {10, 10}} {
		wantNeither(t, "too many conditions", plain(2, row[0]), plain(2, row[1]), api.ErrMany)
	}
	wantMeet(t, "by a Default alone", plain(3, 10), of(api.Allow), plain(3, 10))
	late := of(api.Allow, rule(api.Log), rule(api.Log, plain(1, 10).Rules[0].Conds...))
	wantNeither(t, "too many conditions in a later rule", late, plain(1, 1), api.ErrMany)
}

// wrongs has policies with one thing wrong each.
func wrongs() map[api.Errno][]api.Policy {
	asks := func(c api.Cond) api.Policy { return of(api.Allow, rule(api.Kill), rule(api.Kill, c)) }
	return map[api.Errno][]api.Policy{
		api.ErrMany:  {{Rules: make([]api.Rule, 121)}, of(api.Allow, rule(api.Kill), rule(api.Kill, make([]api.Cond, 11)...))},
		api.ErrRange: {of(5), of(-1), of(api.Allow, rule(5)), of(api.Allow, rule(math.MinInt)), asks(cond(0, api.Is, 64)), asks(cond(4, api.From, 65536)), asks(cond(2, api.Below, -1)), asks(cond(3, api.Is, math.MaxInt))},
		api.ErrWho:   {asks(cond(5, api.Is, 0)), asks(cond(-1, api.Is, 0)), asks(cond(math.MaxInt, api.Is, 0))},
		api.ErrForm:  {asks(cond(0, 0, 0)), asks(cond(0, 5, 0)), asks(cond(0, math.MinInt, 0))},
	}
}

func TestWrongPolicies(t *testing.T) {
	for want, l := range wrongs() {
		for _, wrong := range l {
			wantNeither(t, "the first is wrong", wrong, sample(), want)
			wantNeither(t, "the second is wrong", sample(), wrong, want)
			wantNeither(t, "the first is wrong, and too many rules", wrong, plain(120, 1), want)
			wantNeither(t, "too many rules, and the second is wrong", plain(120, 1), wrong, want)
			got, e := Short(wrong)
			wantRefused(t, "Short of a wrong one", got, e, want)
		}
	}
}

func TestTheFirstOfTwoWrongPoliciesIsTold(t *testing.T) {
	for first, l := range wrongs() {
		for _, others := range wrongs() {
			wantNeither(t, "two wrong policies", l[0], others[0], first)
		}
	}
}

func TestShortsThatAreWrittenDown(t *testing.T) {
	for _, row := range [][2]string{
		{"kill nr=3;trap nr=3 a<5;log a<5;allow b<2;allow", "kill nr=3;log a<5;allow"},
		{"kill nr=3 a<5;log kind!0;allow", "kill nr=3 a<5;log kind!0;allow"},
		{"allow", "allow"},
		{"kill nr<0;allow", "allow"},
		{"kill nr=3 nr=4;trap a<5 a>5;log kind!0 kind!1 kind!2 kind!3;allow", "allow"},
		{"allow nr=1;allow nr=2;allow a<3;allow", "allow"},
		// a rule like Default ahead of another one keeps calls from that
		{"allow nr=1;kill nr<5;allow", "allow nr=1;kill nr<5;allow"},
		{"allow nr=1;kill nr<5;allow b=2;allow", "allow nr=1;kill nr<5;allow"},
		// only when those that never say are gone, the rules at the end are looked at
		{"allow nr=1;kill nr=1;allow", "allow"},
		{"log a<2;allow nr=1;kill nr=1;allow nr=1;allow", "log a<2;allow"},
		// all calls are caught ahead of the end
		{"kill nr=1;log;trap a<3;allow", "kill nr=1;log;allow"},
		{"kill nr=1;allow;trap a<3;allow", "kill nr=1;allow"},
		{"log;allow", "log;allow"},
		{"log;log", "log"},
		{"trap a<7;fail a>7;allow", "trap a<7;fail a>7;allow"},
		{"trap kind=0;fail kind=1;log kind=2;kill kind=3;allow nr=9;kill", "trap kind=0;fail kind=1;log kind=2;kill"},
		// covered by several together
		{"kill a<4;kill a>6;log a=4;log a=5;trap a<7;allow", "kill a<4;kill a>6;log a=4;log a=5;allow"},
		// rules and conditions that could be told shorter, but say something
		{"kill nr=1;kill nr=2;allow", "kill nr=1;kill nr=2;allow"},
		{"kill nr=1 nr=1 a>0;allow", "kill nr=1 nr=1 a>0;allow"},
		{"kill nr=1 a<5;kill nr=1;allow", "kill nr=1 a<5;kill nr=1;allow"},
		// at one call alone
		{"log nr!63;log kind!3;log a!65535;log b!65535;log c!65535;kill nr=63 kind=3 a=65535 b=65535 c=65535;allow",
			"log nr!63;log kind!3;log a!65535;log b!65535;log c!65535;kill nr=63 kind=3 a=65535 b=65535 c=65535;allow"},
	} {
		wantShort(t, row[0], read(t, row[0]), read(t, row[1]))
	}
	wantShort(t, "nothing in the lists", of(api.Fail, api.Rule{Conds: []api.Cond{}, Verdict: api.Fail}), of(api.Fail))
}

func TestShortAsTheDocumentWordsIt(t *testing.T) {
	r := rand.New(rand.NewSource(888))
	seen := map[string]int{}
	for range 3000 {
		p := mixed(r, 6, 3)
		if r.Intn(6) == 0 { // many rules, so that there are too many points now and then
			p = mixed(r, 18, 7)
		}
		got, e := Short(p)
		l := points(p)
		if l == nil {
			wantRefused(t, "too many points", got, e, api.ErrMany)
			seen["many"]++
			continue
		}
		want := shortened(p, l)
		wantPolicy(t, "mixed", got, e, want)
		if len(want.Rules) < len(p.Rules) {
			seen["shorter"]++
		} else {
			seen["as it was"]++
		}
	}
	for _, what := range []string{"many", "shorter", "as it was"} {
		if seen[what] < 100 {
			t.Errorf("%s: only %d times", what, seen[what])
		}
	}
}

// P8.3: of all calls, not of points alone; and what is short already stays as it is.
func TestShortSaysWhatItSaidBefore(t *testing.T) {
	r := rand.New(rand.NewSource(8888))
	asked := 0
	for range 2000 {
		p := mixed(r, 5, 2)
		short, e := Short(p)
		if e != api.OK {
			continue
		}
		for range 40 {
			if x := anyCall(r, p); says(short, x) != says(p, x) {
				t.Fatalf("%v says another thing of %v than %v", short, x, p)
			}
		}
		if alike, e := order.Alike(p, short); !alike || e != api.OK {
			t.Errorf("%v and %v aren't alike: %d", p, short, e)
		}
		wantShort(t, "once more", short, short)
		asked++
	}
	if asked < 1000 {
		t.Errorf("only %d policies were asked", asked)
	}
}

func TestHowManyPointsOfAShort(t *testing.T) {
	wantShort(t, "1000 points", grid(10, 1, 10, 10), grid(10, 1, 10, 10))
	got, e := Short(grid(7, 1, 11, 13))
	wantRefused(t, "1001 points", got, e, api.ErrMany)
	got, e = Short(grid(30, 4, 20, 20, 20))
	wantRefused(t, "far more points", got, e, api.ErrMany)
	never := of(api.Allow, append([]api.Rule{rule(api.Allow)}, grid(30, 4, 20, 20, 20).Rules...)...)
	got, e = Short(never)
	wantRefused(t, "far more points, of rules that never say", got, e, api.ErrMany)
	never.Default = 5
	got, e = Short(never)
	wantRefused(t, "far more points, and a wrong one", got, e, api.ErrRange)
}

// Of as many rules as may be, each says something, or the last one alone doesn't.
func TestShortOfManyRules(t *testing.T) {
	p := of(api.Allow)
	for value := range api.MaxRules {
		p.Rules = append(p.Rules, rule(value%4, cond(2, api.Below, value+1)))
	}
	wantShort(t, "all are used", p, p)
	q := policy.Copy(p)
	q.Rules[119] = rule(api.Kill, cond(2, api.Below, 119))
	wantShort(t, "the last one isn't", q, of(api.Allow, p.Rules[:119]...))
	slices.Reverse(p.Rules)
	wantShort(t, "the first one covers all others", p, of(api.Allow, p.Rules[0]))
}

// crowded has something behind its rules and behind the conditions of its first one, that mustn't be touched.
func crowded(byDefault int) api.Policy {
	room := append(append(make([]api.Rule, 0, 5), sample().Rules...), rule(77, cond(78, 79, 80)), rule(81))
	room[0].Conds = append(room[0].Conds, cond(82, 83, 84), cond(85, 86, 87))[:2]
	return api.Policy{Rules: room[:2], Default: byDefault}
}

func wantCrowded(t *testing.T, p api.Policy) {
	t.Helper()
	want := crowded(p.Default)
	room, conds := p.Rules[:4], p.Rules[0].Conds[:4]
	if !policy.Same(of(0, room...), of(0, want.Rules[:4]...)) || !slices.Equal(conds, want.Rules[0].Conds[:4]) {
		t.Errorf("the policy was changed: %v, %v", room, conds)
	}
}

func TestPoliciesStayAsTheyAre(t *testing.T) {
	p, q := crowded(api.Log), crowded(api.Trap)
	for range 3 {
		for _, pair := range [][2]api.Policy{{p, q}, {q, p}, {p, p}, {p, plain(120, 1)}, {p, of(9)}, {of(9), p}, {p, plain(1, 9)}} {
			Meet(pair[0], pair[1])
			Except(pair[0], pair[1])
		}
		Short(p)
		Short(q)
	}
	wantCrowded(t, p)
	wantCrowded(t, q)
}

// spoil writes over all of a policy, and over the room behind its lists.
func spoil(p api.Policy) {
	for _, r := range p.Rules {
		conds := r.Conds[:cap(r.Conds)]
		for at := range conds {
			conds[at] = cond(-9, -9, -9)
		}
	}
	rules := p.Rules[:cap(p.Rules)]
	for at := range rules {
		rules[at] = rule(-9)
	}
}

func TestAnswersShareNothing(t *testing.T) {
	p, q := crowded(api.Allow), crowded(api.Trap)
	for _, made := range []func() (api.Policy, api.Errno){
		func() (api.Policy, api.Errno) { return Meet(p, q) },
		func() (api.Policy, api.Errno) { return Except(p, p) },
		func() (api.Policy, api.Errno) { return Meet(p, of(api.Allow)) },
		func() (api.Policy, api.Errno) { return Except(of(api.Kill), q) },
		func() (api.Policy, api.Errno) { return Short(p) },
		func() (api.Policy, api.Errno) { return Short(q) },
	} {
		got, e := made()
		kept := policy.Copy(got)
		other, _ := made()
		spoil(other)
		wantPolicy(t, "another answer was written over", got, e, kept)
		wantCrowded(t, p)
		wantCrowded(t, q)
	}
}

// Each list of conditions of an answer is its own, even where those that were handed in were one.
func TestListsOfOneAnswerShareNothing(t *testing.T) {
	shared := append(make([]api.Cond, 0, 8), cond(2, api.Below, 5), cond(3, api.Below, 6), cond(4, api.Below, 7))
	p := of(api.Allow, api.Rule{Conds: shared[:1], Verdict: api.Kill}, api.Rule{Conds: shared[:0], Verdict: api.Trap})
	q := of(api.Log, api.Rule{Conds: shared[:1], Verdict: api.Fail}, api.Rule{Conds: shared[1:2], Verdict: api.Kill})
	for _, made := range []func() (api.Policy, api.Errno){
		func() (api.Policy, api.Errno) { return Meet(p, q) },
		func() (api.Policy, api.Errno) { return Except(q, p) },
		func() (api.Policy, api.Errno) { return Short(p) },
		func() (api.Policy, api.Errno) { return Short(q) },
	} {
		whole, _ := made()
		for at := range whole.Rules {
			got, e := made()
			conds := got.Rules[at].Conds
			conds = conds[:cap(conds)]
			for i := range conds {
				conds[i] = cond(-9, -9, -9)
			}
			got.Rules[at].Conds = whole.Rules[at].Conds
			wantPolicy(t, "a list was written over", got, e, whole)
		}
	}
}

// Whatever is handed in, there is an answer: a right policy, or an error and nothing beside it.
func TestAnything(t *testing.T) {
	r := rand.New(rand.NewSource(88888))
	numbers := []int{0, 1, 2, 3, 4, 5, -1, 63, 64, 65535, 65536, math.MinInt, math.MaxInt}
	number := func() int { return numbers[r.Intn(len(numbers))] }
	wild := func() api.Policy {
		p := mixed(r, 5, 4)
		if r.Intn(2) == 0 {
			p.Rules = append(p.Rules, rule(number()%6, cond(number(), number(), number())))
		}
		return p
	}
	for range 3000 {
		p, q := wild(), wild()
		want := policy.Check(p)
		if want == api.OK {
			want = policy.Check(q)
		}
		for _, made := range []func(p, q api.Policy) (api.Policy, api.Errno){Meet, Except} {
			got, e := made(p, q)
			switch {
			case want != api.OK:
				wantRefused(t, "wild", got, e, want)
			case e != api.OK:
				wantRefused(t, "wild, and too many", got, e, api.ErrMany)
			case policy.Check(got) != api.OK:
				t.Errorf("%v and %v make a wrong policy: %v", p, q, got)
			}
		}
		if got, e := Short(p); e != api.OK {
			wantRefused(t, "wild", got, e, e)
		} else if policy.Check(p) != api.OK || policy.Check(got) != api.OK {
			t.Errorf("Short of %v = %v", p, got)
		}
	}
}

func TestTheReadmesExamples(t *testing.T) {
	p, q := read(t, "kill nr=3;log"), read(t, "trap a<5;allow")
	both := read(t, "kill nr=3 a<5;kill nr=3;trap a<5;log")
	wantMeet(t, "p and q", p, q, both)
	wantExcept(t, "p and q", p, q, read(t, "kill nr=3 a<5;kill nr=3;allow a<5;log"))
	wantShort(t, "of a long one", read(t, "kill nr=3;trap nr=3 a<5;log a<5;allow b<2;allow"), read(t, "kill nr=3;log a<5;allow"))
	wantNeither(t, "no policy", p, api.Policy{Default: 5}, api.ErrRange)
}
