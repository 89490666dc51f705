package order

import (
	"math"
	"math/rand"
	"slices"
	"testing"

	"turnkey/api"
	"turnkey/policy"
	"turnkey/text"
)

// greatest is written out by hand, so that calls aren't held against call.Most alone.
var greatest = api.Call{63, 3, 65535, 65535, 65535}

func cond(field, op, value int) api.Cond {
	return api.Cond{Field: field, Op: op, Value: value}
}

func rule(verdict int, conds ...api.Cond) api.Rule {
	return api.Rule{Conds: conds, Verdict: verdict}
}

func of(byDefault int, rules ...api.Rule) api.Policy {
	return api.Policy{Rules: rules, Default: byDefault}
}

// sample is "kill nr=3 a<5;log kind!0;allow", made anew, so that a test may change it.
func sample() api.Policy {
	return of(api.Allow,
		rule(api.Kill, cond(0, api.Is, 3), cond(2, api.Below, 5)),
		rule(api.Log, cond(1, api.Isnt, 0)))
}

// read makes a policy of its text.
func read(t *testing.T, s string) api.Policy {
	t.Helper()
	p, e := text.Parse(s)
	if e != api.OK {
		t.Fatalf("%q isn't read: %d", s, e)
	}
	return p
}

// grid has as many cuts in each field as is asked for, 0 among them; it allows all calls but those at or above the last cut of a field, which it logs.
func grid(counts ...int) api.Policy {
	p := of(api.Allow)
	for field, count := range counts {
		for value := 1; value < count; value++ {
			p.Rules = append(p.Rules, rule(api.Log, cond(field, api.From, value)))
		}
	}
	return p
}

// mixed has small values that stand close together, so that rules hold, fail and cover each other often; now and then a value at the end of its field.
func mixed(r *rand.Rand, rules, conds int) api.Policy {
	p := of(r.Intn(5))
	for range r.Intn(rules + 1) {
		made := rule(r.Intn(5))
		for range r.Intn(conds + 1) {
			field := r.Intn(api.Fields)
			value := r.Intn(min(4, greatest[field]+1))
			if r.Intn(6) == 0 {
				value = greatest[field] - r.Intn(3)
			}
			made.Conds = append(made.Conds, cond(field, api.Is+r.Intn(4), value))
		}
		p.Rules = append(p.Rules, made)
	}
	return p
}

// judged says what a policy says of a call, without the program's help.
func judged(p api.Policy, x api.Call) int {
	for _, r := range p.Rules {
		holds := true
		for _, c := range r.Conds {
			v := x[c.Field]
			is := map[int]bool{api.Is: v == c.Value, api.Isnt: v != c.Value, api.Below: v < c.Value, api.From: v >= c.Value}
			holds = holds && is[c.Op]
		}
		if holds {
			return r.Verdict
		}
	}
	return p.Default
}

// cuts are told as the sixth chapter words them.
func cuts(field int, l ...api.Policy) []int {
	values := []int{0}
	for _, p := range l {
		for _, r := range p.Rules {
			for _, c := range r.Conds {
				if c.Field != field {
					continue
				}
				values = append(values, c.Value)
				if (c.Op == api.Is || c.Op == api.Isnt) && c.Value < greatest[field] {
					values = append(values, c.Value+1)
				}
			}
		}
	}
	slices.Sort(values)
	return slices.Compact(values)
}

// everyPoint goes through all points of two policies in order, and answers how many there are; none is told if they are too many.
func everyPoint(p, q api.Policy, tell func(api.Call)) int {
	var c [api.Fields][]int
	count := 1
	for field := range c {
		c[field] = cuts(field, p, q)
		count *= len(c[field])
	}
	if count > 1000 {
		return count
	}
	for _, nr := range c[0] {
		for _, kind := range c[1] {
			for _, first := range c[2] {
				for _, second := range c[3] {
					for _, third := range c[4] {
						tell(api.Call{nr, kind, first, second, third})
					}
				}
			}
		}
	}
	return count
}

// anyCall is one at, just below or just behind values that the policies name, or anywhere.
func anyCall(r *rand.Rand, p, q api.Policy) api.Call {
	var x api.Call
	for field, top := range greatest {
		c := cuts(field, p, q)
		near := c[r.Intn(len(c))]
		x[field] = []int{near, max(near-1, 0), min(near+1, top), r.Intn(top + 1), top}[r.Intn(5)]
	}
	return x
}

func wantLooser(t *testing.T, what string, p, than api.Policy, want api.Call) {
	t.Helper()
	if more, at, e := Looser(p, than); !more || at != want || e != api.OK {
		t.Errorf("%s: Looser = %v, %v, %d, want true, %v", what, more, at, e, want)
	}
}

func wantNotLooser(t *testing.T, what string, p, than api.Policy) {
	t.Helper()
	if more, at, e := Looser(p, than); more || at != (api.Call{}) || e != api.OK {
		t.Errorf("%s: Looser = %v, %v, %d, want false", what, more, at, e)
	}
}

// wantAlike asks both ways, since being alike has no direction.
func wantAlike(t *testing.T, what string, p, q api.Policy, want bool) {
	t.Helper()
	for _, pair := range [][2]api.Policy{{p, q}, {q, p}} {
		if got, e := Alike(pair[0], pair[1]); got != want || e != api.OK {
			t.Errorf("%s: Alike = %v, %d, want %v", what, got, e, want)
		}
	}
}

func wantError(t *testing.T, what string, p, q api.Policy, want api.Errno) {
	t.Helper()
	if more, at, e := Looser(p, q); more || at != (api.Call{}) || e != want {
		t.Errorf("%s: Looser = %v, %v, %d, want false, zero, %d", what, more, at, e, want)
	}
	if alike, e := Alike(p, q); alike || e != want {
		t.Errorf("%s: Alike = %v, %d, want false, %d", what, alike, e, want)
	}
}

func TestTheSampleAndALooserOne(t *testing.T) {
	p, q := sample(), sample()
	q.Rules[0].Verdict = api.Trap
	wantLooser(t, "trap for kill", q, p, api.Call{3})
	wantNotLooser(t, "kill for trap", p, q)
	wantAlike(t, "one verdict apart", p, q, false)
	wantNotLooser(t, "itself", p, sample())
	wantAlike(t, "itself", p, sample(), true)
}

func TestDefaultsAlone(t *testing.T) {
	for a := api.Kill; a <= api.Allow; a++ {
		for b := api.Kill; b <= api.Allow; b++ {
			if a > b {
				wantLooser(t, "defaults", of(a), of(b), api.Call{})
			} else {
				wantNotLooser(t, "defaults", of(a), of(b))
			}
			wantAlike(t, "defaults", of(a), of(b), a == b)
		}
	}
	wantAlike(t, "nil and empty", of(api.Log), api.Policy{Rules: []api.Rule{}, Default: api.Log}, true)
}

// The zero call is a point like any other: that it is looser there is told by the bool alone.
func TestLooserAtTheZeroCall(t *testing.T) {
	wantLooser(t, "at zero", read(t, "log nr<1;kill"), of(api.Kill), api.Call{})
	wantLooser(t, "everywhere, by a rule", of(api.Kill, rule(api.Trap)), of(api.Kill), api.Call{})
	wantNotLooser(t, "a default that never says", of(api.Allow, rule(api.Trap)), of(api.Kill, rule(api.Trap)))
}

func TestTheFirstPointIsTold(t *testing.T) {
	for _, row := range []struct {
		p, than string
		want    api.Call
	}{
		{"kill nr=3 a<5;allow", "kill nr=3;allow", api.Call{3, 0, 5}},
		{"allow nr=7;allow nr=5;kill", "kill", api.Call{5}},
		{"allow c=9;allow nr=63;kill", "kill", api.Call{0, 0, 0, 0, 9}},
		{"allow b>2;allow a>2;kill", "kill", api.Call{0, 0, 0, 2, 0}},
		{"allow kind=3;allow nr=1;kill", "kill", api.Call{0, 3}},
		{"log kind=1 c=2;trap b=4;kill", "kill", api.Call{0, 0, 0, 4}},
		{"kill c<65535;fail", "trap", api.Call{0, 0, 0, 0, 65535}},
		{"allow", "log nr!0 kind!0 a!0 b!0 c!0;allow", api.Call{1, 1, 1, 1, 1}},
		{"allow", "log nr=63 kind=3 a=65535 b=65535 c=65535;allow", api.Call{63, 3, 65535, 65535, 65535}},
	} {
		wantLooser(t, row.p+" than "+row.than, read(t, row.p), read(t, row.than), row.want)
		wantAlike(t, row.p+" and "+row.than, read(t, row.p), read(t, row.than), false)
	}
}

// The point is one of both policies, so the values of the stricter one have a say in it, too.
func TestThePointsAreOfBoth(t *testing.T) {
	wantLooser(t, "by the other one's cut", of(api.Log), read(t, "allow a<700;allow b<900;kill"), api.Call{0, 0, 700, 900})
	wantLooser(t, "by its own cut", read(t, "kill a<700;log"), of(api.Fail), api.Call{0, 0, 700})
	wantNotLooser(t, "beside each other", read(t, "log a<6;kill"), read(t, "log a<7;kill"))
	wantLooser(t, "between both cuts", read(t, "log a<7;kill"), read(t, "log a<6;kill"), api.Call{0, 0, 6})
}

func TestOneCallAlone(t *testing.T) {
	one := of(api.Allow, rule(api.Kill, cond(0, api.Is, 5), cond(1, api.Is, 2), cond(2, api.Is, 77), cond(3, api.Is, 88), cond(4, api.Is, 99)))
	wantLooser(t, "looser at one call alone", of(api.Allow), one, api.Call{5, 2, 77, 88, 99})
	wantNotLooser(t, "stricter at one call alone", one, of(api.Allow))
	wantAlike(t, "apart at one call alone", one, of(api.Allow), false)
}

func TestEachLooserThanTheOther(t *testing.T) {
	p, q := read(t, "log nr=1;kill"), read(t, "log nr=2;kill")
	wantLooser(t, "crossed", p, q, api.Call{1})
	wantLooser(t, "crossed", q, p, api.Call{2})
	wantAlike(t, "crossed", p, q, false)
}

func TestAlikeByOtherRules(t *testing.T) {
	for _, row := range [][2]string{
		{"kill nr=3;allow", "allow nr!3;kill"},
		{"kill a<5;allow", "allow a>5;kill"},
		{"kill kind!0;allow", "kill kind=1;kill kind=2;kill kind=3;allow"},
		{"trap nr<0;allow", "allow"},
		{"log nr>0;kill", "log"},
		{"trap a<4;trap a=4;allow", "trap a<5;allow"},
		{"fail c>65535;log", "fail c=65535;log"},
		{"kill nr=1;log nr=1;allow", "kill nr=1;allow"},
		{"kill nr=1 a=2;kill nr=1 a!2;allow", "kill nr=1;allow"},
	} {
		p, q := read(t, row[0]), read(t, row[1])
		wantNotLooser(t, row[0], p, q)
		wantNotLooser(t, row[1], q, p)
		wantAlike(t, row[0]+" and "+row[1], p, q, true)
	}
}

// The answer is the first of the points, each asked by hand.
func TestLooserAsTheDocumentWordsIt(t *testing.T) {
	r := rand.New(rand.NewSource(7))
	seen := map[string]int{}
	for range 4000 {
		p, q := mixed(r, 3, 2), mixed(r, 3, 2)
		if r.Intn(6) == 0 { // many rules, so that there are too many points now and then
			q = mixed(r, 12, 5)
		}
		if r.Intn(3) == 0 { // close ones, of which one is often stricter everywhere
			q = policy.Copy(p)
			if len(q.Rules) > 0 {
				q.Rules[r.Intn(len(q.Rules))].Verdict = r.Intn(5)
			}
		}
		var first, back []api.Call
		count := everyPoint(p, q, func(x api.Call) {
			if judged(p, x) > judged(q, x) {
				first = append(first, x)
			}
			if judged(p, x) < judged(q, x) {
				back = append(back, x)
			}
		})
		if count > 1000 {
			wantError(t, "too many points", p, q, api.ErrMany)
			seen["many"]++
			continue
		}
		if len(first) > 0 {
			wantLooser(t, "mixed", p, q, first[0])
			seen["looser"]++
		} else {
			wantNotLooser(t, "mixed", p, q)
			seen["not looser"]++
		}
		wantAlike(t, "mixed", p, q, len(first)+len(back) == 0)
		if len(first)+len(back) == 0 {
			seen["alike"]++
		}
	}
	for _, what := range []string{"many", "looser", "not looser", "alike"} {
		if seen[what] < 100 {
			t.Errorf("%s: only %d times", what, seen[what])
		}
	}
}

// P7.2: of all calls, not of points alone.
func TestWhatIsntLooserIsSoNowhere(t *testing.T) {
	r := rand.New(rand.NewSource(77))
	asked := 0
	for range 6000 {
		p, q := mixed(r, 3, 2), mixed(r, 3, 2)
		more, at, e := Looser(p, q)
		if e != api.OK {
			continue
		}
		if more {
			if judged(p, at) <= judged(q, at) {
				t.Errorf("%v isn't looser than %v at %v", p, q, at)
			}
			continue
		}
		for range 40 {
			if x := anyCall(r, p, q); judged(p, x) > judged(q, x) {
				t.Fatalf("%v is looser than %v, of %v", p, q, x)
			}
		}
		asked++
	}
	if asked < 500 {
		t.Errorf("only %d pairs were asked", asked)
	}
}

func TestAlikeSayTheSameOfAll(t *testing.T) {
	r := rand.New(rand.NewSource(777))
	alikes := 0
	for range 8000 {
		p, q := mixed(r, 2, 1), mixed(r, 2, 1)
		if alike, e := Alike(p, q); !alike || e != api.OK {
			continue
		}
		for range 40 {
			if x := anyCall(r, p, q); judged(p, x) != judged(q, x) {
				t.Fatalf("%v and %v aren't alike, of %v", p, q, x)
			}
		}
		alikes++
	}
	if alikes < 200 {
		t.Errorf("only %d pairs were alike", alikes)
	}
}

func TestHowManyPointsOfBoth(t *testing.T) {
	wantAlike(t, "1000 points", grid(10, 1, 10, 10), grid(10, 1, 10, 10), true)
	wantLooser(t, "1000 points together", grid(10, 1, 10), grid(1, 1, 1, 10), api.Call{0, 0, 0, 1})
	wantError(t, "1001 points together", grid(7, 1, 11), grid(1, 1, 1, 13), api.ErrMany)
	wantError(t, "too many of the first alone", grid(30, 4, 20, 20, 20), of(api.Kill), api.ErrMany)
	wantError(t, "too many of the second alone", of(api.Allow), grid(30, 4, 20, 20, 20), api.ErrMany)
	wantError(t, "too many, and just the same", grid(11, 1, 10, 10), grid(11, 1, 10, 10), api.ErrMany)
}

// The last of a thousand points decides.
func TestTheLastPoint(t *testing.T) {
	p, q := grid(10, 1, 10, 10), grid(10, 1, 10, 10)
	p.Rules = slices.Insert(p.Rules, 0, rule(api.Allow, cond(0, api.From, 9), cond(2, api.From, 9), cond(3, api.From, 9)))
	wantLooser(t, "at the last point", p, q, api.Call{9, 0, 9, 9})
	wantNotLooser(t, "at the last point", q, p)
	wantAlike(t, "at the last point", p, q, false)
}

// wrongs has policies with one thing wrong each.
func wrongs() map[api.Errno][]api.Policy {
	asks := func(c api.Cond) api.Policy { return of(api.Allow, rule(api.Kill), rule(api.Kill, c)) }
	return map[api.Errno][]api.Policy{
		api.ErrMany:  {{Rules: make([]api.Rule, 121)}, of(api.Allow, rule(api.Kill), rule(api.Kill, make([]api.Cond, 11)...))},
		api.ErrRange: {of(5), of(-1), of(api.Allow, rule(5)), asks(cond(0, api.Is, 64)), asks(cond(4, api.From, 65536)), asks(cond(2, api.Below, -1)), asks(cond(3, api.Is, math.MaxInt))},
		api.ErrWho:   {asks(cond(5, api.Is, 0)), asks(cond(-1, api.Is, 0)), asks(cond(math.MaxInt, api.Is, 0))},
		api.ErrForm:  {asks(cond(0, 0, 0)), asks(cond(0, 5, 0)), asks(cond(0, math.MinInt, 0))},
	}
}

func TestWrongPolicies(t *testing.T) {
	for want, l := range wrongs() {
		for _, wrong := range l {
			wantError(t, "the first is wrong", wrong, sample(), want)
			wantError(t, "the second is wrong", sample(), wrong, want)
			wantError(t, "looser, but wrong", of(api.Allow), wrong, want)
			wantError(t, "both are", wrong, wrong, want)
		}
	}
}

func TestTheFirstOfTwoWrongPoliciesIsTold(t *testing.T) {
	for first, l := range wrongs() {
		for _, others := range wrongs() {
			wantError(t, "two wrong policies", l[0], others[0], first)
		}
	}
}

func TestWrongPoliciesAreToldAheadOfTooManyPoints(t *testing.T) {
	many := grid(30, 4, 20, 20, 20)
	wantError(t, "too many, and a wrong one", many, of(9), api.ErrRange)
	wantError(t, "a wrong one, and too many", of(api.Allow, rule(0, cond(5, 0, 0))), many, api.ErrWho)
}

func TestPoliciesStayAsTheyAre(t *testing.T) {
	p, q := sample(), read(t, "trap a<9 a=1;log b!3;kill")
	p.Rules = append(p.Rules, rule(91, cond(92, 93, 94)))[:2]
	q.Rules[0].Conds = append(q.Rules[0].Conds, cond(81, 82, 83))[:2]
	keptP, keptQ := policy.Copy(p), policy.Copy(q)
	for range 3 {
		Looser(p, q)
		Looser(q, p)
		Alike(p, q)
		Looser(p, p)
		Looser(p, of(9))
	}
	if !policy.Same(p, keptP) || !policy.Same(q, keptQ) {
		t.Errorf("the policies were changed: %v, %v", p, q)
	}
	behind := p.Rules[:3][2]
	if behind.Verdict != 91 || behind.Conds[0] != cond(92, 93, 94) || q.Rules[0].Conds[:3][2] != cond(81, 82, 83) {
		t.Errorf("the room behind them was changed")
	}
}

func TestTheReadmesExamples(t *testing.T) {
	p, q, r := read(t, "kill nr=3;allow"), read(t, "kill nr=3 a<5;allow"), read(t, "allow nr!3;kill")
	wantLooser(t, "q than p", q, p, api.Call{3, 0, 5})
	wantNotLooser(t, "p than q", p, q)
	wantAlike(t, "p and q", p, q, false)
	wantAlike(t, "p and r", p, r, true)
	wantError(t, "p than no policy", p, api.Policy{Default: 5}, api.ErrRange)
}
