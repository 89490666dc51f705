package chain

import (
	"math"
	"math/rand"
	"slices"
	"testing"

	"turnkey/api"
	"turnkey/code"
	"turnkey/compile"
	"turnkey/meet"
	"turnkey/policy"
	"turnkey/text"
)

// greatest is written out by hand, so that calls aren't held against call.Most alone.
var greatest = api.Call{63, 3, 65535, 65535, 65535}

func load(field int) api.Ins        { return api.Ins{Kind: api.Load, A: field} }
func equal(value, b, c int) api.Ins { return api.Ins{Kind: api.Equal, A: value, B: b, C: c} }
func less(value, b, c int) api.Ins  { return api.Ins{Kind: api.Less, A: value, B: b, C: c} }
func ret(verdict int) api.Ins       { return api.Ins{Kind: api.Return, A: verdict} }

func cond(field, op, value int) api.Cond {
	return api.Cond{Field: field, Op: op, Value: value}
}

func rule(verdict int, conds ...api.Cond) api.Rule {
	return api.Rule{Conds: conds, Verdict: verdict}
}

func of(byDefault int, rules ...api.Rule) api.Policy {
	return api.Policy{Rules: rules, Default: byDefault}
}

// always says the same verdict of all calls.
func always(verdict int) []api.Ins { return []api.Ins{ret(verdict)} }

// whole is a chain of filters.
func whole(l ...[]api.Ins) [][]api.Ins { return l }

// alwaysAll is a chain of filters of which each says one verdict.
func alwaysAll(verdicts ...int) [][]api.Ins {
	var l [][]api.Ins
	for _, v := range verdicts {
		l = append(l, always(v))
	}
	return l
}

// sample is "kill nr=3 a<5;log kind!0;allow", made anew, so that a test may change it.
func sample() api.Policy {
	return of(api.Allow,
		rule(api.Kill, cond(0, api.Is, 3), cond(2, api.Below, 5)),
		rule(api.Log, cond(1, api.Isnt, 0)))
}

// sampleFilter is the sample's, written out.
func sampleFilter() []api.Ins {
	return []api.Ins{load(0), equal(3, 0, 3), load(2), less(5, 0, 1), ret(api.Kill), load(1), equal(0, 1, 0), ret(api.Log), ret(api.Allow)}
}

// read makes a policy of its text.
func read(t *testing.T, s string) api.Policy {
	t.Helper()
	p, e := text.Parse(s)
	if e != api.OK {
		t.Fatalf("%q isn't read: %d", s, e)
	}
	return p
}

func compiled(t *testing.T, p api.Policy) []api.Ins {
	t.Helper()
	l, e := compile.Compile(p)
	if e != api.OK {
		t.Fatalf("%v isn't compiled: %d", p, e)
	}
	return l
}

// loads has n instructions, of which the last one is a Return.
func loads(n int) []api.Ins {
	l := make([]api.Ins, 0, n)
	for i := range n - 1 {
		l = append(l, load(i%api.Fields))
	}
	return append(l, ret(api.Log))
}

// sized has a rule for each count, with that many conditions; each of them says something.
func sized(counts ...int) api.Policy {
	p := of(api.Allow)
	for at, count := range counts {
		p.Rules = append(p.Rules, rule(api.Kill+at%4, slices.Repeat([]api.Cond{cond(2, api.Is, at)}, count)...))
	}
	return p
}

// grid has as many cuts in each field as is asked for, 0 among them, in few rules and not too many conditions each, so that two of them don't make too many of these.
func grid(verdict int, counts ...int) api.Policy {
	var conds []api.Cond
	for field, count := range counts {
		for value := 1; value < count; value++ {
			conds = append(conds, cond(field, api.From, value))
		}
	}
	p := of(verdict)
	for some := range slices.Chunk(conds, 5) {
		p.Rules = append(p.Rules, rule(verdict, some...))
	}
	return p
}

// mixed has small values that stand close together, so that rules hold, fail and cover each other often; now and then a value at the end of its field.
func mixed(r *rand.Rand, rules, conds int) api.Policy {
	p := of(r.Intn(5))
	for range r.Intn(rules + 1) {
		made := rule(r.Intn(5))
		for range r.Intn(conds + 1) {
			field := r.Intn(api.Fields)
			value := r.Intn(min(4, greatest[field]+1))
			if r.Intn(6) == 0 {
				value = greatest[field] - r.Intn(3)
			}
			made.Conds = append(made.Conds, cond(field, api.Is+r.Intn(4), value))
		}
		p.Rules = append(p.Rules, made)
	}
	return p
}

// judged says what a policy says of a call, and which rule says it, without the program's help.
func judged(p api.Policy, x api.Call) (int, int) {
	for at, r := range p.Rules {
		holds := true
		for _, c := range r.Conds {
			v := x[c.Field]
			is := map[int]bool{api.Is: v == c.Value, api.Isnt: v != c.Value, api.Below: v < c.Value, api.From: v >= c.Value}
			holds = holds && is[c.Op]
		}
		if holds {
			return r.Verdict, at
		}
	}
	return p.Default, len(p.Rules)
}

func says(p api.Policy, x api.Call) int {
	verdict, _ := judged(p, x)
	return verdict
}

// cuts are told as the sixth chapter words them.
func cuts(field int, l ...api.Policy) []int {
	values := []int{0}
	for _, p := range l {
		for _, r := range p.Rules {
			for _, c := range r.Conds {
				if c.Field != field {
					continue
				}
				values = append(values, c.Value)
				if (c.Op == api.Is || c.Op == api.Isnt) && c.Value < greatest[field] {
					values = append(values, c.Value+1)
				}
			}
		}
	}
	slices.Sort(values)
	return slices.Compact(values)
}

// points are all of some policies, or none if they are more than a thousand.
func points(policies ...api.Policy) []api.Call {
	l := []api.Call{{}}
	for field := range api.Fields {
		var wider []api.Call
		for _, x := range l {
			for _, cut := range cuts(field, policies...) {
				x[field] = cut
				wider = append(wider, x)
			}
		}
		if len(wider) > 1000 {
			return nil
		}
		l = wider
	}
	return l
}

// anyCall is one at, just below or just behind values that the policies name, or anywhere.
func anyCall(r *rand.Rand, l ...api.Policy) api.Call {
	var x api.Call
	for field, top := range greatest {
		c := cuts(field, l...)
		near := c[r.Intn(len(c))]
		x[field] = []int{near, max(near-1, 0), min(near+1, top), r.Intn(top + 1), top}[r.Intn(5)]
	}
	return x
}

// except makes one policy of two as the eighth chapter words it; whether it is a right one, it leaves open.
func except(p, q api.Policy) api.Policy {
	var l []api.Rule
	for _, first := range append(slices.Clone(p.Rules), rule(p.Default)) {
		for _, second := range append(slices.Clone(q.Rules), rule(q.Default)) {
			made := rule(api.Allow, append(slices.Clone(first.Conds), second.Conds...)...)
			if first.Verdict < second.Verdict {
				made.Verdict = first.Verdict
			}
			l = append(l, made)
		}
	}
	return of(l[len(l)-1].Verdict, l[:len(l)-1]...)
}

// shortened leaves rules out as the eighth chapter words it, one after the other.
func shortened(p api.Policy, l []api.Call) api.Policy {
	var used [api.MaxRules + 1]int
	for _, x := range l {
		_, at := judged(p, x)
		used[at]++
	}
	short := of(p.Default)
	for at, r := range p.Rules {
		if used[at] > 0 {
			short.Rules = append(short.Rules, r)
		}
	}
	for len(short.Rules) > 0 && short.Rules[len(short.Rules)-1].Verdict == p.Default {
		short.Rules = short.Rules[:len(short.Rules)-1]
	}
	return short
}

// worded makes a delta of two right policies as the document words it, and tells its error.
func worded(from, to api.Policy) (api.Policy, api.Errno) {
	l := points(to, from)
	if l == nil {
		return api.Policy{}, api.ErrMany
	}
	if slices.ContainsFunc(l, func(x api.Call) bool { return says(to, x) > says(from, x) }) {
		return api.Policy{}, api.ErrLoose
	}
	made := except(to, from)
	if e := policy.Check(made); e != api.OK {
		return api.Policy{}, e
	}
	return shortened(made, points(made)), api.OK
}

func wantCheck(t *testing.T, what string, l [][]api.Ins, want api.Errno) {
	t.Helper()
	if got := Check(l); got != want {
		t.Errorf("%s: Check = %d, want %d", what, got, want)
	}
}

func wantSame(t *testing.T, what string, a, b [][]api.Ins, want bool) {
	t.Helper()
	if Same(a, b) != want || Same(b, a) != want {
		t.Errorf("%s: Same = %t, %t, want %t", what, Same(a, b), Same(b, a), want)
	}
}

func wantAsk(t *testing.T, what string, l [][]api.Ins, x api.Call, verdict int, errno api.Errno) {
	t.Helper()
	if v, e := Ask(l, x); v != verdict || e != errno {
		t.Errorf("%s: Ask of %v = %d, %d, want %d, %d", what, x, v, e, verdict, errno)
	}
}

func wantDelta(t *testing.T, what string, from, to, want api.Policy) {
	t.Helper()
	if got, e := Delta(from, to); e != api.OK || !policy.Same(got, want) {
		t.Errorf("%s: Delta = %v, %d, want %v", what, got, e, want)
	}
}

func wantNoDelta(t *testing.T, what string, from, to api.Policy, want api.Errno) {
	t.Helper()
	if got, e := Delta(from, to); e != want || len(got.Rules) != 0 || got.Default != 0 {
		t.Errorf("%s: Delta = %v, %d, want nothing, %d", what, got, e, want)
	}
}

func wantTight(t *testing.T, what string, l [][]api.Ins, from, to api.Policy, want [][]api.Ins) {
	t.Helper()
	if got, e := Tighten(l, from, to); e != api.OK || !slices.EqualFunc(got, want, slices.Equal[[]api.Ins]) {
		t.Errorf("%s: Tighten = %v, %d, want %v", what, got, e, want)
	}
}

func wantNotTight(t *testing.T, what string, l [][]api.Ins, from, to api.Policy, want api.Errno) {
	t.Helper()
	if got, e := Tighten(l, from, to); e != want || len(got) != 0 {
		t.Errorf("%s: Tighten = %d filters, %d, want none, %d", what, len(got), e, want)
	}
}

// wantNeither is asked of two policies of which the second is no tightening, whatever the chain.
func wantNeither(t *testing.T, what string, from, to api.Policy, want api.Errno) {
	t.Helper()
	wantNoDelta(t, what, from, to, want)
	wantNotTight(t, what+", none", nil, from, to, want)
	wantNotTight(t, what+", one", whole(sampleFilter()), from, to, want)
}

func TestCheckCounts(t *testing.T) {
	wantCheck(t, "nil", nil, api.OK)
	wantCheck(t, "none", [][]api.Ins{}, api.OK)
	for n := range 12 {
		want := api.OK
		if n > 6 {
			want = api.ErrMany
		}
		wantCheck(t, "as many", slices.Repeat(whole(sampleFilter()), n), want)
	}
	wantCheck(t, "none, with room behind", slices.Repeat(whole(nil), 9)[:0], api.OK)
}

// wrongs has filters with one thing wrong each.
func wrongs() map[api.Errno][][]api.Ins {
	return map[api.Errno][][]api.Ins{
		api.ErrMany:  {nil, {}, loads(1501)},
		api.ErrForm:  {{{}}, {load(0)}, {{Kind: 5}, ret(0)}, {{Kind: api.Return, B: 1}}, {{Kind: math.MinInt}, ret(0)}},
		api.ErrRange: {{ret(5)}, {ret(-1)}, {load(5), ret(0)}, {equal(65536, 0, 0), ret(0)}, {less(math.MinInt, 0, 0), ret(0)}},
		api.ErrWho:   {{equal(0, 1, 0), ret(0)}, {less(0, 0, -1), ret(0)}, {less(0, math.MaxInt, 0), ret(0)}},
	}
}

func TestCheckFilters(t *testing.T) {
	wantCheck(t, "the longest one", whole(loads(1500), sampleFilter(), loads(1500)), api.OK)
	for want, l := range wrongs() {
		for _, wrong := range l {
			for at := range 6 {
				chain := slices.Repeat(whole(sampleFilter()), 6)
				chain[at] = wrong
				wantCheck(t, "one of six", chain, want)
				wantCheck(t, "the last one", chain[:at+1], want)
				wantAsk(t, "one of six", chain, api.Call{}, 0, want)
				wantAsk(t, "one of six, and a wrong call", chain, api.Call{64}, 0, want)
				wantNotTight(t, "one of six", chain, sample(), sample(), want)
				wantNotTight(t, "one of six, and looser", chain, sample(), of(api.Allow), want)
				wantNotTight(t, "one of six, and wrong policies", chain, of(9), of(-9), want)
			}
			wantCheck(t, "too many, and a wrong one", slices.Repeat(whole(wrong), 7), api.ErrMany)
		}
	}
}

func TestTheFirstOfTwoWrongFiltersIsTold(t *testing.T) {
	for first, l := range wrongs() {
		for _, others := range wrongs() {
			chain := whole(sampleFilter(), l[0], always(api.Log), others[0])
			wantCheck(t, "two wrong filters", chain, first)
			wantAsk(t, "two wrong filters", chain, api.Call{}, 0, first)
			wantNotTight(t, "two wrong filters", chain, sample(), sample(), first)
		}
	}
}

func TestSame(t *testing.T) {
	wantSame(t, "nothing", nil, nil, true)
	wantSame(t, "nil and empty", nil, [][]api.Ins{}, true)
	wantSame(t, "filters that are nil and empty", whole(nil, []api.Ins{}), whole([]api.Ins{}, nil), true)
	wantSame(t, "no filter, and one without instructions", nil, whole(nil), false)
	wantSame(t, "one more without instructions", whole(sampleFilter()), whole(sampleFilter(), nil), false)
	wantSame(t, "the sample", whole(sampleFilter()), whole(sampleFilter()), true)
	wantSame(t, "the sample, twice", whole(sampleFilter()), whole(sampleFilter(), sampleFilter()), false)
	wantSame(t, "another order", alwaysAll(1, 2), alwaysAll(2, 1), false)
	wantSame(t, "the same instructions, in other filters", whole([]api.Ins{ret(1), ret(2)}), alwaysAll(1, 2), false)
	wantSame(t, "they say the same, but aren't written alike", alwaysAll(api.Kill), alwaysAll(api.Kill, api.Log), false)
	wantSame(t, "far too many", slices.Repeat(alwaysAll(7), 90), slices.Repeat(alwaysAll(7), 90), true)
	wantSame(t, "room behind", slices.Repeat(alwaysAll(7), 3)[:2], alwaysAll(7, 7), true)
	for _, l := range wrongs() {
		for _, wrong := range l {
			wantSame(t, "wrong ones", whole(wrong), whole(slices.Clone(wrong)), true)
			wantSame(t, "a wrong one and the sample", whole(wrong), whole(sampleFilter()), false)
		}
	}
}

// Each field of each instruction counts.
func TestSameOfEachField(t *testing.T) {
	for at := range 3 {
		for i := range sampleFilter() {
			for field := range 4 {
				l := whole(sampleFilter(), sampleFilter(), sampleFilter())
				p := &l[at][i]
				*[]*int{&p.Kind, &p.A, &p.B, &p.C}[field] += 1 << 33
				wantSame(t, "one field", l, whole(sampleFilter(), sampleFilter(), sampleFilter()), false)
			}
		}
	}
}

func TestAskWhatIsWrittenDown(t *testing.T) {
	l := whole(sampleFilter(), []api.Ins{load(3), less(7, 1, 0), ret(api.Fail), ret(api.Allow)})
	for _, row := range []struct {
		x    api.Call
		want int
	}{
		{api.Call{0, 0, 0, 0, 0}, api.Allow},
		{api.Call{0, 0, 0, 6, 0}, api.Allow},
		{api.Call{0, 0, 0, 7, 0}, api.Fail},
		{api.Call{0, 1, 0, 6, 0}, api.Log},
		{api.Call{0, 1, 0, 7, 0}, api.Fail},
		{api.Call{3, 1, 4, 7, 0}, api.Kill},
		{api.Call{3, 1, 5, 7, 0}, api.Fail},
		{greatest, api.Fail},
	} {
		wantAsk(t, "in order", l, row.x, row.want, api.OK)
		wantAsk(t, "the other way round", whole(l[1], l[0]), row.x, row.want, api.OK)
	}
}

func TestAskOfNone(t *testing.T) {
	for _, x := range []api.Call{{}, greatest, {3, 0, 4}} {
		wantAsk(t, "nil", nil, x, api.Allow, api.OK)
		wantAsk(t, "none", [][]api.Ins{}, x, api.Allow, api.OK)
	}
}

// The strictest counts, wherever it stands.
func TestAskVerdicts(t *testing.T) {
	for a := api.Kill; a <= api.Allow; a++ {
		wantAsk(t, "one", alwaysAll(a), api.Call{}, a, api.OK)
		for b := api.Kill; b <= api.Allow; b++ {
			wantAsk(t, "two", alwaysAll(a, b), api.Call{}, slices.Min([]int{a, b}), api.OK)
			for c := api.Kill; c <= api.Allow; c++ {
				wantAsk(t, "three", alwaysAll(a, b, c), api.Call{}, slices.Min([]int{a, b, c}), api.OK)
			}
		}
		for at := range 6 {
			l := slices.Repeat(alwaysAll(api.Allow), 6)
			l[at] = always(a)
			wantAsk(t, "one of six", l, greatest, a, api.OK)
		}
	}
}

func TestAskOfAWrongCall(t *testing.T) {
	for field, top := range greatest {
		for _, value := range []int{-1, top + 1, math.MinInt, math.MaxInt} {
			x := greatest
			x[field] = value
			for _, l := range [][][]api.Ins{nil, alwaysAll(api.Kill), slices.Repeat(whole(sampleFilter()), 6)} {
				wantAsk(t, "a wrong call", l, x, 0, api.ErrRange)
			}
			wantAsk(t, "a wrong call, and too many", slices.Repeat(alwaysAll(0), 7), x, 0, api.ErrMany)
			wantAsk(t, "a wrong call, and a wrong filter", whole(sampleFilter(), []api.Ins{load(0)}), x, 0, api.ErrForm)
		}
	}
}

func TestAskIsTheStrictestOfAll(t *testing.T) {
	r := rand.New(rand.NewSource(9))
	for range 2000 {
		var l [][]api.Ins
		var policies []api.Policy
		for range r.Intn(7) {
			p := mixed(r, 4, 3)
			l, policies = append(l, compiled(t, p)), append(policies, p)
		}
		for range 10 {
			x := anyCall(r, policies...)
			want := api.Allow
			for _, p := range policies {
				want = min(want, says(p, x))
			}
			wantAsk(t, "mixed", l, x, want, api.OK)
		}
	}
}

func TestDeltasThatAreWrittenDown(t *testing.T) {
	for _, row := range []struct{ from, to, want string }{
		{"kill nr=3 a<5;log kind!0;allow", "kill nr=3 a<5;log kind!0;fail b>7;allow", "allow nr=3 a<5 nr=3 a<5;allow kind!0 kind!0;fail b>7;allow"},
		{"allow", "allow", "allow"},
		{"kill", "kill", "allow"},
		{"allow", "kill", "kill"},
		{"log", "trap", "trap"},
		{"kill nr=3 a<5;log kind!0;allow", "kill nr=3 a<5;log kind!0;allow", "allow"},
		{"allow", "kill nr=3 a<5;log kind!0;allow", "kill nr=3 a<5;log kind!0;allow"},
		// other rules that say the same
		{"kill nr=3;allow", "allow nr!3;kill", "allow nr!3;allow nr=3;kill"},
		{"allow nr!3;kill", "kill nr=3;allow", "allow"},
		// what is said already isn't said again
		{"kill nr=3;allow", "kill", "allow nr=3;kill"},
		{"kill nr=3;allow", "kill nr<4;allow", "allow nr<4 nr=3;kill nr<4;allow"},
		{"log", "kill a=7;log", "kill a=7;allow"},
		{"log a<5;allow", "trap a<5;allow", "trap a<5 a<5;allow"},
		// at one call alone
		{"allow", "kill nr=63 kind=3 a=65535 b=65535 c=65535;allow", "kill nr=63 kind=3 a=65535 b=65535 c=65535;allow"},
	} {
		wantDelta(t, row.from+" to "+row.to, read(t, row.from), read(t, row.to), read(t, row.want))
	}
}

func TestDeltasThatWouldBeLooser(t *testing.T) {
	for _, row := range [][2]string{
		{"kill", "trap"}, {"log", "allow"}, {"kill", "allow"},
		{"kill nr=3 a<5;log kind!0;allow", "kill nr=3 a<5;allow"},
		{"kill nr=3 a<5;log kind!0;allow", "kill nr=3 a<4;log kind!0;kill"},
		{"kill nr=3;allow", "kill a<65535;allow"},
		// stricter of all calls but one
		{"log", "allow nr=63 kind=3 a=65535 b=65535 c=65535;kill"},
		{"log nr=63 kind=3 a=65535 b=65535 c=65535;allow", "kill nr!63;kill kind!3;kill a!65535;kill b!65535;kill c!65535;allow"},
	} {
		wantNeither(t, row[0]+" to "+row[1], read(t, row[0]), read(t, row[1]), api.ErrLoose)
	}
}

func TestVerdictsOfADelta(t *testing.T) {
	for v := api.Kill; v <= api.Allow; v++ {
		for w := api.Kill; w <= api.Allow; w++ {
			switch {
			case w > v:
				wantNeither(t, "looser", of(v), of(w), api.ErrLoose)
			case w == v:
				wantDelta(t, "alike", of(v), of(w), of(api.Allow))
			default:
				wantDelta(t, "stricter", of(v), of(w), of(w))
			}
		}
	}
}

// tighter is a policy that is no looser than another one, most often: made by the program from both, so that there are many of them.
func tighter(r *rand.Rand, from api.Policy) api.Policy {
	to, e := meet.Meet(from, mixed(r, 2, 2))
	if e != api.OK || r.Intn(8) == 0 {
		return mixed(r, 4, 2)
	}
	if short, e := meet.Short(to); e == api.OK && r.Intn(2) == 0 {
		return short
	}
	return to
}

func TestDeltaAsTheDocumentWordsIt(t *testing.T) {
	r := rand.New(rand.NewSource(99))
	seen := map[api.Errno]int{}
	for range 4000 {
		from := mixed(r, 4, 2)
		if r.Intn(5) == 0 { // long ones, so that there are too many points, rules or conditions now and then
			from = mixed(r, 14, 6)
		}
		to := tighter(r, from)
		want, e := worded(from, to)
		seen[e]++
		if e != api.OK {
			wantNeither(t, "mixed", from, to, e)
			continue
		}
		wantDelta(t, "mixed", from, to, want)
		wantTight(t, "mixed", alwaysAll(api.Log), from, to, whole(always(api.Log), compiled(t, want)))
	}
	for _, e := range []api.Errno{api.OK, api.ErrLoose, api.ErrMany} {
		if seen[e] < 200 {
			t.Errorf("%d: only %d times", e, seen[e])
		}
	}
}

func TestTightenWhatIsWrittenDown(t *testing.T) {
	tight := read(t, "kill nr=3 a<5;log kind!0;fail b>7;allow")
	more := []api.Ins{
		load(0), equal(3, 0, 7), load(2), less(5, 0, 5), load(0), equal(3, 0, 3), load(2), less(5, 0, 1), ret(api.Allow),
		load(1), equal(0, 3, 0), load(1), equal(0, 1, 0), ret(api.Allow),
		load(3), less(7, 1, 0), ret(api.Fail),
		ret(api.Allow),
	}
	wantTight(t, "the sample", whole(sampleFilter()), sample(), tight, whole(sampleFilter(), more))
	// the chain isn't asked whether it says what the first policy says
	wantTight(t, "none", nil, sample(), tight, whole(more))
	wantTight(t, "another chain", alwaysAll(api.Kill, api.Allow), sample(), tight, whole(always(api.Kill), always(api.Allow), more))
	wantTight(t, "to what it was", whole(sampleFilter()), sample(), sample(), whole(sampleFilter(), always(api.Allow)))
	wantTight(t, "of nothing", nil, of(api.Allow), sample(), whole(sampleFilter()))
	wantTight(t, "to nothing more", [][]api.Ins{}, of(api.Kill), of(api.Kill), alwaysAll(api.Allow))
}

func TestTightenCounts(t *testing.T) {
	for n := range 9 {
		l := slices.Repeat(whole(sampleFilter()), n)
		if n < 6 {
			wantTight(t, "as many", l, sample(), of(api.Kill), append(slices.Clone(l), compiled(t, read(t, "allow nr=3 a<5;kill"))))
			wantNotTight(t, "looser", l, sample(), of(api.Allow), api.ErrLoose)
			wantNotTight(t, "a wrong policy", l, sample(), of(9), api.ErrRange)
			continue
		}
		wantNotTight(t, "one more than may be", l, sample(), of(api.Kill), api.ErrMany)
		wantNotTight(t, "one more than may be, that says nothing", l, sample(), sample(), api.ErrMany)
	}
	// the policies are told ahead of a chain that is full, but behind one that has too many
	full, over := slices.Repeat(whole(sampleFilter()), 6), slices.Repeat(whole(sampleFilter()), 7)
	wantNotTight(t, "full, and looser", full, sample(), of(api.Allow), api.ErrLoose)
	wantNotTight(t, "full, and a wrong policy", full, sample(), of(9), api.ErrRange)
	wantNotTight(t, "full, and a wrong policy that it comes from", full, of(api.Allow, rule(0, cond(5, api.Is, 0))), sample(), api.ErrWho)
	wantNotTight(t, "too many, and looser", over, sample(), of(api.Allow), api.ErrMany)
	wantNotTight(t, "too many, and a wrong policy", over, sample(), of(9), api.ErrMany)
}

// A delta may be a right policy, and its filter too long.
func TestTightenToTooLongAFilter(t *testing.T) {
	longest := append(slices.Repeat([]int{10}, 71), 3, 0)
	to := sized(longest...)
	wantDelta(t, "the longest", of(api.Allow), to, to)
	wantTight(t, "the longest", alwaysAll(api.Log), of(api.Allow), to, whole(always(api.Log), compiled(t, to)))
	if l, _ := Tighten(nil, of(api.Allow), to); len(l) != 1 || len(l[0]) != 1500 {
		t.Errorf("%d filters, want one of 1500 instructions", len(l))
	}
	longest[71]++
	to = sized(longest...)
	wantDelta(t, "too long", of(api.Allow), to, to)
	wantNotTight(t, "too long", alwaysAll(api.Log), of(api.Allow), to, api.ErrMany)
	to = sized(slices.Repeat([]int{10}, 120)...)
	wantDelta(t, "far too long", of(api.Allow), to, to)
	wantNotTight(t, "far too long", nil, of(api.Allow), to, api.ErrMany)
	// what is too long in the second policy may be left out of the delta
	to.Default = api.Kill
	for at := range to.Rules {
		to.Rules[at].Verdict = api.Kill
	}
	wantTight(t, "nothing is left of it", nil, of(api.Kill), to, alwaysAll(api.Allow))
}

// wrongPolicies has policies with one thing wrong each.
func wrongPolicies() map[api.Errno][]api.Policy {
	asks := func(c api.Cond) api.Policy { return of(api.Allow, rule(api.Kill), rule(api.Kill, c)) }
	return map[api.Errno][]api.Policy{
		api.ErrMany:  {{Rules: make([]api.Rule, 121)}, of(api.Allow, rule(api.Kill), rule(api.Kill, make([]api.Cond, 11)...))},
		api.ErrRange: {of(5), of(-1), of(api.Allow, rule(5)), of(api.Allow, rule(math.MinInt)), asks(cond(0, api.Is, 64)), asks(cond(4, api.From, 65536)), asks(cond(2, api.Below, -1))},
		api.ErrWho:   {asks(cond(5, api.Is, 0)), asks(cond(-1, api.Is, 0)), asks(cond(math.MaxInt, api.Is, 0))},
		api.ErrForm:  {asks(cond(0, 0, 0)), asks(cond(0, 5, 0)), asks(cond(0, math.MinInt, 0))},
	}
}

func TestWrongPolicies(t *testing.T) {
	for want, l := range wrongPolicies() {
		for _, wrong := range l {
			wantNeither(t, "the first is wrong", wrong, sample(), want)
			wantNeither(t, "the second is wrong", sample(), wrong, want)
			wantNeither(t, "the first is wrong, and too many points", wrong, grid(api.Log, 30, 4, 20, 20, 20), want)
			wantNeither(t, "too many points, and the second is wrong", grid(api.Log, 30, 4, 20, 20, 20), wrong, want)
		}
	}
}

// The policy that it goes to is looked at ahead of the one that it comes from.
func TestWhichOfTwoWrongPoliciesIsTold(t *testing.T) {
	for _, l := range wrongPolicies() {
		for second, others := range wrongPolicies() {
			wantNeither(t, "two wrong policies", l[0], others[0], second)
		}
	}
}

func TestHowManyPointsOfADelta(t *testing.T) {
	wantDelta(t, "1000 points", grid(api.Log, 10, 1, 10), grid(api.Log, 1, 1, 1, 10), of(api.Allow))
	wantNeither(t, "1001 points", grid(api.Log, 7, 1, 11), grid(api.Log, 1, 1, 1, 13), api.ErrMany)
	wantNeither(t, "1001 points, and looser", grid(api.Log, 7, 1, 11), grid(api.Allow, 1, 1, 1, 13), api.ErrMany)
	wantNeither(t, "1000 points, and looser", grid(api.Log, 10, 1, 10), grid(api.Allow, 1, 1, 1, 10), api.ErrLoose)
}

// Two policies of few points may make too many rules or conditions; that they would be looser is told ahead of that.
func TestADeltaOfTooManyRules(t *testing.T) {
	bare := func(verdict, rules int) api.Policy {
		return of(verdict, slices.Repeat([]api.Rule{rule(verdict)}, rules)...)
	}
	wantDelta(t, "as many rules", bare(api.Log, 10), bare(api.Kill, 10), of(api.Kill))
	wantNeither(t, "too many rules", bare(api.Log, 11), bare(api.Kill, 10), api.ErrMany)
	wantNeither(t, "too many rules, that say nothing", bare(api.Log, 10), bare(api.Log, 11), api.ErrMany)
	wantNeither(t, "too many rules, and looser", bare(api.Log, 11), bare(api.Allow, 10), api.ErrLoose)
	asks := func(verdict, conds int) api.Policy {
		return of(api.Allow, rule(verdict, slices.Repeat([]api.Cond{cond(2, api.Below, 5)}, conds)...))
	}
	wantDelta(t, "as many conditions", asks(api.Log, 4), asks(api.Kill, 6), asks(api.Kill, 10))
	wantNeither(t, "too many conditions", asks(api.Log, 5), asks(api.Kill, 6), api.ErrMany)
	wantNeither(t, "too many conditions, and looser", asks(api.Kill, 5), asks(api.Log, 6), api.ErrLoose)
}

// P9.3: of all calls, not of points alone, and of several tightenings one after the other.
func TestAChainSaysWhatItWasTightenedTo(t *testing.T) {
	r := rand.New(rand.NewSource(999))
	steps := 0
	for range 1500 {
		from := of(api.Allow)
		var l [][]api.Ins
		if r.Intn(3) > 0 {
			from = mixed(r, 3, 2)
			l = whole(compiled(t, from))
		}
		for {
			to := tighter(r, from)
			tight, e := Tighten(l, from, to)
			if e != api.OK {
				break
			}
			for range 20 {
				x := anyCall(r, from, to)
				before, _ := Ask(l, x)
				after, e := Ask(tight, x)
				if after != says(to, x) || after > before || e != api.OK {
					t.Fatalf("%v, tightened to %v: %v is told %d, %d, want %d, and no more than %d", from, to, x, after, e, says(to, x), before)
				}
			}
			l, from = tight, to
			steps++
		}
	}
	if steps < 1500 {
		t.Errorf("only %d tightenings", steps)
	}
}

// P9.3: nothing gets looser, even where the chain doesn't say what the first policy says.
func TestNothingIsEverLooser(t *testing.T) {
	r := rand.New(rand.NewSource(9999))
	steps := 0
	for range 3000 {
		from := mixed(r, 3, 2)
		to := tighter(r, from)
		var l [][]api.Ins
		others := []api.Policy{from, to}
		for range r.Intn(6) {
			p := mixed(r, 3, 2)
			l, others = append(l, compiled(t, p)), append(others, p)
		}
		tight, e := Tighten(l, from, to)
		if e != api.OK {
			continue
		}
		wantSame(t, "what stood there ahead", tight[:len(l)], l, true)
		for range 10 {
			x := anyCall(r, others...)
			want, _ := Ask(l, x)
			if v := says(to, x); v < says(from, x) {
				want = min(want, v)
			}
			wantAsk(t, "tightened", tight, x, want, api.OK)
		}
		steps++
	}
	if steps < 1000 {
		t.Errorf("only %d tightenings", steps)
	}
}

// crowded has something behind its filters and behind the instructions of each, that mustn't be touched.
func crowded() [][]api.Ins {
	room := make([][]api.Ins, 0, 8)
	for range 4 {
		room = append(room, append(append(make([]api.Ins, 0, 16), sampleFilter()...), ret(77), ret(78)))
	}
	room[0], room[1] = room[0][:9], room[1][:9]
	return room[:2]
}

func wantCrowded(t *testing.T, l [][]api.Ins) {
	t.Helper()
	want := crowded()
	for at, filter := range l[:4] {
		if !slices.Equal(filter[:11], want[:4][at][:11]) || len(filter) != len(want[:4][at]) {
			t.Errorf("filter %d was changed: %v", at, filter[:11])
		}
	}
	for _, filter := range l[4:8] {
		if filter != nil {
			t.Errorf("the room behind was changed: %v", filter)
		}
	}
}

// crowdedPolicy has something behind its rules and behind the conditions of its first one.
func crowdedPolicy(byDefault int) api.Policy {
	room := append(append(make([]api.Rule, 0, 5), sample().Rules...), rule(77, cond(78, 79, 80)), rule(81))
	room[0].Conds = append(room[0].Conds, cond(82, 83, 84), cond(85, 86, 87))[:2]
	return api.Policy{Rules: room[:2], Default: byDefault}
}

func wantCrowdedPolicy(t *testing.T, p api.Policy) {
	t.Helper()
	want := crowdedPolicy(p.Default)
	room, conds := p.Rules[:4], p.Rules[0].Conds[:4]
	if !policy.Same(of(0, room...), of(0, want.Rules[:4]...)) || !slices.Equal(conds, want.Rules[0].Conds[:4]) {
		t.Errorf("the policy was changed: %v, %v", room, conds)
	}
}

func TestWhatIsHandedInStaysAsItIs(t *testing.T) {
	l, p, q := crowded(), crowdedPolicy(api.Log), crowdedPolicy(api.Trap)
	for range 3 {
		Check(l)
		Same(l, l)
		Copy(l)
		for _, x := range []api.Call{{}, {3, 0, 4}, greatest, {64}} {
			Ask(l, x)
		}
		for _, pair := range [][2]api.Policy{{p, q}, {q, p}, {p, p}, {p, of(9)}, {of(9), p}, {of(api.Allow), q}} {
			Delta(pair[0], pair[1])
			Tighten(l, pair[0], pair[1])
		}
	}
	wantCrowded(t, l)
	wantCrowdedPolicy(t, p)
	wantCrowdedPolicy(t, q)
}

// spoil writes over all of a filter, and over the room behind it.
func spoil(filter []api.Ins) {
	filter = filter[:cap(filter)]
	for at := range filter {
		filter[at] = ret(-9)
	}
}

func TestAChainThatIsAnsweredSharesNothing(t *testing.T) {
	l, p := crowded(), crowdedPolicy(api.Log)
	for _, made := range []func() [][]api.Ins{
		func() [][]api.Ins { tight, _ := Tighten(l, p, of(api.Kill)); return tight },
		func() [][]api.Ins { return Copy(l) },
	} {
		got := made()
		kept := slices.Clone(got)
		for at := range kept {
			kept[at] = slices.Clone(kept[at])
		}
		other := made()
		for _, filter := range other {
			spoil(filter)
		}
		other = other[:cap(other)]
		for at := range other {
			other[at] = always(-9)
		}
		wantSame(t, "another answer was written over", got, kept, true)
		wantCrowded(t, l)
		wantCrowdedPolicy(t, p)
	}
}

// Each filter of an answer is its own, even where those that were handed in were one.
func TestListsOfOneAnswerShareNothing(t *testing.T) {
	room := append(sampleFilter(), sampleFilter()...)
	for _, l := range [][][]api.Ins{{room[:9], room[:9]}, {room[:9], room[9:]}, {room[8:9], room[:9], room}} {
		for _, made := range []func() [][]api.Ins{
			func() [][]api.Ins { tight, _ := Tighten(l, sample(), of(api.Kill)); return tight },
			func() [][]api.Ins { return Copy(l) },
		} {
			want := made()
			for at := range want {
				got := made()
				spoil(got[at])
				got[at] = want[at]
				wantSame(t, "a filter was written over", got, want, true)
			}
		}
	}
}

func TestADeltaThatIsAnsweredSharesNothing(t *testing.T) {
	from, to := of(api.Allow), crowdedPolicy(api.Allow)
	got, _ := Delta(from, to)
	for _, r := range got.Rules {
		conds := r.Conds[:cap(r.Conds)]
		for at := range conds {
			conds[at] = cond(-9, -9, -9)
		}
	}
	rules := got.Rules[:cap(got.Rules)]
	for at := range rules {
		rules[at] = rule(-9)
	}
	wantCrowdedPolicy(t, to)
	wantDelta(t, "another answer was written over", from, to, sample())
}

func TestCopy(t *testing.T) {
	for _, l := range [][][]api.Ins{nil, {}, {nil}, {{}, nil}, whole(sampleFilter()), whole(loads(1501), nil), crowded(), slices.Repeat(alwaysAll(9), 9)} {
		wantSame(t, "a copy", Copy(l), l, true)
	}
}

// Whatever is handed in, there is an answer: a right one, or an error and nothing beside it.
func TestAnything(t *testing.T) {
	r := rand.New(rand.NewSource(99999))
	numbers := []int{0, 1, 2, 3, 4, 5, -1, 63, 64, 65535, 65536, math.MinInt, math.MaxInt}
	number := func() int { return numbers[r.Intn(len(numbers))] }
	wildChain := func() [][]api.Ins {
		var l [][]api.Ins
		for range r.Intn(8) {
			filter := compiled(t, mixed(r, 2, 2))
			if r.Intn(12) == 0 {
				filter[r.Intn(len(filter))] = api.Ins{Kind: number(), A: number(), B: number(), C: number()}
			}
			l = append(l, filter)
		}
		return l
	}
	wildPolicy := func() api.Policy {
		p := mixed(r, 2, 2)
		if r.Intn(8) == 0 {
			p.Rules = append(p.Rules, rule(number()%6, cond(number(), number(), number())))
		}
		return p
	}
	first := func(l ...api.Errno) api.Errno {
		at := slices.IndexFunc(l, func(e api.Errno) bool { return e != api.OK })
		return append(l, api.OK)[max(at, 0)]
	}
	for range 5000 {
		l, from, to := wildChain(), wildPolicy(), wildPolicy()
		wrong := api.OK
		for _, filter := range l {
			wrong = first(wrong, code.Check(filter))
		}
		if len(l) > 6 {
			wrong = api.ErrMany
		}
		wantCheck(t, "wild", l, wrong)
		x := api.Call{number(), number() % 4, number(), number(), number()}
		v, e := Ask(l, x)
		if _, _, called := code.Run(always(0), x); e != first(wrong, called) || v < 0 || v > 4 || e != api.OK && v != 0 {
			t.Errorf("wild: Ask of %v = %d, %d", x, v, e)
		}
		bad := first(policy.Check(to), policy.Check(from))
		if bad == api.OK {
			_, bad = worded(from, to)
		}
		if bad != api.OK {
			wantNoDelta(t, "wild", from, to, bad)
		}
		if len(l) == 6 {
			bad = first(bad, api.ErrMany)
		}
		if bad = first(wrong, bad); bad != api.OK {
			wantNotTight(t, "wild", l, from, to, bad)
		} else if tight, e := Tighten(l, from, to); e != api.OK || Check(tight) != api.OK || len(tight) != len(l)+1 {
			t.Errorf("wild: Tighten = %v, %d", tight, e)
		}
	}
}

func TestTheReadmesExamples(t *testing.T) {
	p, q := read(t, "kill nr=3;log"), read(t, "kill nr=3;trap a<5;log")
	wantDelta(t, "p to q", p, q, read(t, "allow nr=3 nr=3;trap a<5;allow"))
	wantNoDelta(t, "q to p", q, p, api.ErrLoose)
	l := whole(compiled(t, p))
	tight, e := Tighten(l, p, q)
	if len(tight) != 2 || e != api.OK {
		t.Fatalf("Tighten = %v, %d", tight, e)
	}
	wantCheck(t, "tightened", tight, api.OK)
	wantAsk(t, "before", l, api.Call{4, 0, 4}, api.Log, api.OK)
	wantAsk(t, "after", tight, api.Call{4, 0, 4}, api.Trap, api.OK)
	wantAsk(t, "after", tight, api.Call{3, 0, 4}, api.Kill, api.OK)
	wantAsk(t, "none", nil, api.Call{3, 0, 4}, api.Allow, api.OK)
	wantNotTight(t, "looser", tight, q, p, api.ErrLoose)
	wantSame(t, "l and tight", l, tight[:1], true)
}
