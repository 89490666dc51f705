package keeper

import (
	"math"
	"math/rand"
	"slices"
	"strconv"
	"strings"
	"testing"
	"unsafe"

	"turnkey/api"
	"turnkey/chain"
	"turnkey/compile"
	"turnkey/meet"
	"turnkey/note"
	"turnkey/policy"
	"turnkey/text"
)

const (
	sampleText = "kill nr=3 a<5;log kind!0;allow"
	tightText  = "kill nr=3 a<5;log kind!0;fail b>7;allow"
)

// greatest is written out by hand, so that calls aren't held against call.Most alone.
var greatest = api.Call{63, 3, 65535, 65535, 65535}

func load(field int) api.Ins        { return api.Ins{Kind: api.Load, A: field} }
func equal(value, b, c int) api.Ins { return api.Ins{Kind: api.Equal, A: value, B: b, C: c} }
func less(value, b, c int) api.Ins  { return api.Ins{Kind: api.Less, A: value, B: b, C: c} }
func ret(verdict int) api.Ins       { return api.Ins{Kind: api.Return, A: verdict} }

// read makes a policy of its text, which is a right one.
func read(s string) api.Policy {
	p, e := text.Parse(s)
	if e != api.OK {
		panic(s + " isn't read")
	}
	return p
}

func sample() api.Policy { return read(sampleText) }

// sampleFilter is the sample's, written out.
func sampleFilter() []api.Ins {
	return []api.Ins{load(0), equal(3, 0, 3), load(2), less(5, 0, 1), ret(api.Kill), load(1), equal(0, 1, 0), ret(api.Log), ret(api.Allow)}
}

// tightFilter is what tightens the sample to tightText, written out.
func tightFilter() []api.Ins {
	return []api.Ins{
		load(0), equal(3, 0, 7), load(2), less(5, 0, 5), load(0), equal(3, 0, 3), load(2), less(5, 0, 1), ret(api.Allow),
		load(1), equal(0, 3, 0), load(1), equal(0, 1, 0), ret(api.Allow),
		load(3), less(7, 1, 0), ret(api.Fail),
		ret(api.Allow),
	}
}

func always(verdict int) []api.Ins { return []api.Ins{ret(verdict)} }

func session(p api.Policy, filters ...[]api.Ins) api.Cell {
	return api.Cell{Open: true, Chain: filters, P: p}
}

// sampleCell is the sample's session as it begins, made anew, so that a test may change it.
func sampleCell() api.Cell { return session(sample(), sampleFilter()) }

// cells has these ahead, and none open behind them.
func cells(l ...api.Cell) []api.Cell {
	return append(l, make([]api.Cell, 4-len(l))...)
}

func open(cell int, s string) api.Rec {
	return api.Rec{Kind: api.ROpen, Cell: cell, P: read(s)}
}

func tight(cell int, s string) api.Rec {
	return api.Rec{Kind: api.RTight, Cell: cell, P: read(s)}
}

func fork(cell, from int) api.Rec { return api.Rec{Kind: api.RFork, Cell: cell, From: from} }

func shut(cell int) api.Rec { return api.Rec{Kind: api.RShut, Cell: cell} }

// longText has more rules and conditions than a filter has room for, all with one verdict.
func longText(verdict string) string {
	return strings.Repeat(verdict+strings.Repeat(" a<7", 10)+";", 100) + verdict
}

func wantCheck(t *testing.T, what string, l []api.Cell, want api.Errno) {
	t.Helper()
	if got := Check(l); got != want {
		t.Errorf("%s: Check = %d, want %d", what, got, want)
	}
}

func wantSame(t *testing.T, what string, a, b []api.Cell, want bool) {
	t.Helper()
	if Same(a, b) != want || Same(b, a) != want {
		t.Errorf("%s: Same = %t, %t, want %t", what, Same(a, b), Same(b, a), want)
	}
}

// alike is told without the program's Same.
func alike(a, b []api.Cell) bool {
	return slices.EqualFunc(a, b, func(c, d api.Cell) bool {
		return c.Open == d.Open && slices.EqualFunc(c.Chain, d.Chain, slices.Equal[[]api.Ins]) && policy.Same(c.P, d.P)
	})
}

// wantCells: an answer is these sessions, without an error; and they are right ones.
func wantCells(t *testing.T, what string, got []api.Cell, e api.Errno, want []api.Cell) {
	t.Helper()
	if e != api.OK || !alike(got, want) {
		t.Errorf("%s: %v, %d, want %v", what, got, e, want)
	}
	wantCheck(t, what, got, api.OK)
}

func wantNext(t *testing.T, what string, l []api.Cell, r api.Rec, want []api.Cell) {
	t.Helper()
	got, e := Next(l, r)
	wantCells(t, what, got, e, want)
}

// wantNone: an answer is this error, and no sessions beside it.
func wantNone(t *testing.T, what string, got []api.Cell, e, want api.Errno) {
	t.Helper()
	if e != want || got != nil {
		t.Errorf("%s: %v, %d, want error %d alone", what, got, e, want)
	}
}

func wantNoNext(t *testing.T, what string, l []api.Cell, r api.Rec, want api.Errno) {
	t.Helper()
	got, e := Next(l, r)
	wantNone(t, what, got, e, want)
}

// wantWrong: Check tells this error, and Next tells it first, ahead of what is wrong beside it.
func wantWrong(t *testing.T, what string, l []api.Cell, want api.Errno) {
	t.Helper()
	wantCheck(t, what, l, want)
	for cell := range 4 {
		for _, r := range []api.Rec{open(cell, sampleText), tight(cell, "kill"), fork(cell, 0), shut(cell), open(cell, longText("kill"))} {
			wantNoNext(t, what, l, r, want)
		}
	}
	for _, r := range []api.Rec{{}, {Kind: 5}, shut(4), {Kind: api.RShut, From: 1}, {Kind: api.ROpen, P: api.Policy{Default: 5}}} {
		wantNoNext(t, what+", and a wrong record", l, r, want)
	}
}

func TestNew(t *testing.T) {
	got := New()
	wantCells(t, "New", got, api.OK, make([]api.Cell, 4))
	got[1] = sampleCell()
	wantCells(t, "New, again", New(), api.OK, make([]api.Cell, 4))
}

func TestHowManySessions(t *testing.T) {
	for n := range 10 {
		if n == 4 {
			wantCheck(t, "none is open", make([]api.Cell, n), api.OK)
			wantCheck(t, "all are open", slices.Repeat([]api.Cell{sampleCell()}, n), api.OK)
			continue
		}
		wantWrong(t, "none is open", make([]api.Cell, n), api.ErrForm)
		wantWrong(t, "all are open", slices.Repeat([]api.Cell{sampleCell()}, n), api.ErrForm)
		wantWrong(t, "one of them is wrong", slices.Repeat([]api.Cell{session(sample(), always(9))}, n), api.ErrForm)
	}
	wantWrong(t, "nil", nil, api.ErrForm)
	wantWrong(t, "room behind", make([]api.Cell, 4)[:3], api.ErrForm)
	wantCheck(t, "room behind", make([]api.Cell, 9)[:4], api.OK)
}

func TestSessionsThatArentOpen(t *testing.T) {
	for at := range 4 {
		for _, c := range []api.Cell{{Chain: [][]api.Ins{}}, {P: api.Policy{Rules: []api.Rule{}}}, {Chain: make([][]api.Ins, 3)[:0], P: api.Policy{Rules: make([]api.Rule, 3)[:0]}}} {
			l := New()
			l[at] = c
			wantCheck(t, "lists with nothing in them", l, api.OK)
		}
		full := sampleCell()
		full.Open = false
		for _, c := range []api.Cell{
			full, {Chain: full.Chain}, {P: full.P}, {Chain: [][]api.Ins{nil}}, {Chain: [][]api.Ins{always(api.Kill)}},
			{P: api.Policy{Default: api.Trap}}, {P: api.Policy{Default: api.Allow}}, {P: api.Policy{Rules: make([]api.Rule, 1)}},
			// what is wrong with what stands there isn't told
			{P: api.Policy{Default: 5}}, {P: api.Policy{Default: -1}}, {P: api.Policy{Rules: make([]api.Rule, 121)}}, {Chain: make([][]api.Ins, 7)}, {Chain: [][]api.Ins{always(9)}},
		} {
			l := New()
			l[at] = c
			wantWrong(t, "something isn't zero", l, api.ErrForm)
			l = slices.Repeat([]api.Cell{sampleCell()}, 4)
			l[at] = c
			wantWrong(t, "something isn't zero, beside open ones", l, api.ErrForm)
		}
	}
}

// wrongChains has chains with one thing wrong each.
func wrongChains() map[api.Errno][][][]api.Ins {
	long := slices.Repeat(always(api.Log), 1501)
	of := func(l ...api.Ins) [][]api.Ins { return [][]api.Ins{sampleFilter(), l} }
	return map[api.Errno][][][]api.Ins{
		api.ErrForm:  {nil, {}, of(api.Ins{}), of(load(0)), of(api.Ins{Kind: api.Return, B: 1})},
		api.ErrMany:  {slices.Repeat([][]api.Ins{always(api.Kill)}, 7), make([][]api.Ins, 7), {nil}, {{}}, {sampleFilter(), nil}, {long}},
		api.ErrRange: {of(ret(5)), of(ret(-1)), of(load(5), ret(0)), of(equal(65536, 0, 0), ret(0))},
		api.ErrWho:   {of(equal(0, 1, 0), ret(0)), of(less(0, 0, math.MaxInt), ret(0))},
	}
}

// wrongPolicies has policies with one thing wrong each.
func wrongPolicies() map[api.Errno][]api.Policy {
	asks := func(c api.Cond) api.Policy {
		return api.Policy{Rules: []api.Rule{{}, {Conds: []api.Cond{c}}}, Default: api.Allow}
	}
	return map[api.Errno][]api.Policy{
		api.ErrMany:  {{Rules: make([]api.Rule, 121)}, {Rules: []api.Rule{{Conds: make([]api.Cond, 11)}}}},
		api.ErrRange: {{Default: 5}, {Default: -1}, {Rules: []api.Rule{{Verdict: 5}}}, asks(api.Cond{Op: 1, Value: 64})},
		api.ErrWho:   {asks(api.Cond{Field: 5, Op: 1}), asks(api.Cond{Field: -1, Op: 1})},
		api.ErrForm:  {asks(api.Cond{}), asks(api.Cond{Op: 5}), asks(api.Cond{Op: math.MinInt})},
	}
}

func TestOpenSessions(t *testing.T) {
	for at := range 4 {
		for _, base := range [][]api.Cell{New(), slices.Repeat([]api.Cell{sampleCell()}, 4)} {
			for _, c := range []api.Cell{
				sampleCell(), session(sample(), sampleFilter(), tightFilter()), session(sample(), slices.Repeat([][]api.Ins{always(api.Kill)}, 6)...),
				// the chain isn't asked whether it says what the policy says, nor whether the policy could be compiled
				session(api.Policy{}, always(api.Allow)), session(read("allow"), always(api.Kill)), session(read(longText("log")), always(api.Log)),
			} {
				l := slices.Clone(base)
				l[at] = c
				wantCheck(t, "right", l, api.OK)
			}
			for want, chains := range wrongChains() {
				for _, wrong := range chains {
					l := slices.Clone(base)
					l[at] = session(sample(), wrong...)
					wantWrong(t, "the chain is wrong", l, want)
				}
			}
			for want, policies := range wrongPolicies() {
				for _, wrong := range policies {
					l := slices.Clone(base)
					l[at] = session(wrong, sampleFilter())
					wantWrong(t, "the policy is wrong", l, want)
				}
			}
		}
	}
}

// Of one session the chain is told ahead of the policy; of two sessions the first one.
func TestWhatIsToldFirst(t *testing.T) {
	for first, chains := range wrongChains() {
		for _, wrong := range chains {
			for second, policies := range wrongPolicies() {
				wantWrong(t, "both are wrong", cells(api.Cell{}, session(policies[0], wrong...)), first)
				wantWrong(t, "two sessions", cells(session(sample(), wrong...), session(policies[0], sampleFilter())), first)
				wantWrong(t, "two sessions, the policy first", cells(session(policies[0], sampleFilter()), sampleCell(), session(sample(), wrong...)), second)
			}
			wantWrong(t, "ahead of one that isn't open", cells(session(sample(), wrong...), api.Cell{P: sample()}), first)
			wantWrong(t, "behind one that isn't open", cells(api.Cell{P: sample()}, session(sample(), wrong...)), api.ErrForm)
		}
	}
}

func TestSame(t *testing.T) {
	wantSame(t, "nothing", nil, nil, true)
	wantSame(t, "nil and empty", nil, []api.Cell{}, true)
	wantSame(t, "none open", New(), New(), true)
	wantSame(t, "nothing, and none open", nil, New(), false)
	wantSame(t, "one less", New(), New()[:3], false)
	wantSame(t, "lists that are nil and empty", New(), cells(api.Cell{Chain: [][]api.Ins{}, P: api.Policy{Rules: []api.Rule{}}}), true)
	wantSame(t, "lists in lists that are nil and empty",
		cells(session(api.Policy{Rules: []api.Rule{{}}}, nil)), cells(session(api.Policy{Rules: []api.Rule{{Conds: []api.Cond{}}}}, []api.Ins{})), true)
	wantSame(t, "another order", cells(sampleCell()), cells(api.Cell{}, sampleCell()), false)
	wantSame(t, "far too many", slices.Repeat([]api.Cell{sampleCell()}, 90), slices.Repeat([]api.Cell{sampleCell()}, 90), true)
	wantSame(t, "they say the same, but aren't written alike", cells(session(read("kill"), always(api.Kill))), cells(session(read("kill"), always(api.Kill), always(api.Allow))), false)
	for _, chains := range wrongChains() {
		for _, wrong := range chains {
			wantSame(t, "wrong ones", cells(session(sample(), wrong...)), cells(session(sample(), chain.Copy(wrong)...)), true)
			wantSame(t, "a wrong one and the sample", cells(session(sample(), wrong...)), cells(sampleCell()), false)
		}
	}
}

// Each field of each session counts.
func TestSameOfEachField(t *testing.T) {
	for what, change := range map[string]func(c *api.Cell){
		"open":           func(c *api.Cell) { c.Open = false },
		"a filter less":  func(c *api.Cell) { c.Chain = c.Chain[:1] },
		"a filter more":  func(c *api.Cell) { c.Chain = append(c.Chain, nil) },
		"no filter":      func(c *api.Cell) { c.Chain = nil },
		"an instruction": func(c *api.Cell) { c.Chain[1][3].C++ },
		"its kind":       func(c *api.Cell) { c.Chain[0][0].Kind = 9 },
		"default":        func(c *api.Cell) { c.P.Default -= 1 << 33 },
		"a rule less":    func(c *api.Cell) { c.P.Rules = c.P.Rules[:1] },
		"a verdict":      func(c *api.Cell) { c.P.Rules[1].Verdict = 7 },
		"a condition":    func(c *api.Cell) { c.P.Rules[0].Conds[1].Value++ },
		"one less":       func(c *api.Cell) { c.P.Rules[0].Conds = c.P.Rules[0].Conds[:1] },
	} {
		for at := range 4 {
			made := func() []api.Cell {
				var l []api.Cell
				for range 4 {
					l = append(l, session(sample(), sampleFilter(), tightFilter()))
				}
				return l
			}
			l := made()
			wantSame(t, what, l, made(), true)
			change(&l[at])
			wantSame(t, what, l, made(), false)
			wantSame(t, what+", both", l, Copy(l), true)
		}
	}
}

func TestNextOfAWrongRecord(t *testing.T) {
	wrong := map[api.Errno][]api.Rec{
		api.ErrForm:  {{}, {Kind: 5}, {Kind: -1}, {Kind: 9, Cell: 9}, {Kind: api.RShut, From: 1}, {Kind: api.ROpen, From: 1, P: sample()}, {Kind: api.RTight, From: 3, P: sample()}, {Kind: api.RShut, P: sample()}, {Kind: api.RFork, From: 1, P: sample()}},
		api.ErrRange: {shut(4), shut(-1), fork(0, 4), fork(0, -1), fork(math.MaxInt, math.MinInt), {Kind: api.ROpen, Cell: 4, P: sample()}},
	}
	for e, policies := range wrongPolicies() {
		for _, p := range policies {
			wrong[e] = append(wrong[e], api.Rec{Kind: api.ROpen, P: p}, api.Rec{Kind: api.RTight, P: p}, api.Rec{Kind: api.ROpen, Cell: 3, P: p}, api.Rec{Kind: api.RTight, Cell: 3, P: p})
		}
	}
	for want, l := range wrong {
		for _, r := range l {
			// whether it would be out of turn doesn't count
			wantNoNext(t, "none is open", New(), r, want)
			wantNoNext(t, "one is open", cells(sampleCell()), r, want)
			wantNoNext(t, "all are open", slices.Repeat([]api.Cell{sampleCell()}, 4), r, want)
			got, e := Replay([]api.Rec{open(2, "kill"), r, {}, shut(9)})
			wantNone(t, "in a log", got, e, want)
		}
	}
}

// Whether a record is in turn hangs on its session alone, and is told ahead of all that could be wrong beside it.
func TestOutOfTurn(t *testing.T) {
	for set := range 16 {
		l := New()
		for at := range l {
			if set>>at&1 == 1 {
				l[at] = sampleCell()
			}
		}
		for cell := range 4 {
			if l[cell].Open {
				wantNoNext(t, "open", l, open(cell, "kill"), api.ErrLate)
				wantNoNext(t, "open, and too long", l, open(cell, longText("kill")), api.ErrLate)
				for from := range 4 {
					wantNoNext(t, "fork", l, fork(cell, from), api.ErrLate)
				}
				continue
			}
			wantNoNext(t, "shut", l, shut(cell), api.ErrLate)
			wantNoNext(t, "tight", l, tight(cell, "kill"), api.ErrLate)
			wantNoNext(t, "tight, and looser", l, tight(cell, "allow"), api.ErrLate)
			for from := range 4 {
				if !l[from].Open {
					wantNoNext(t, "fork of none", l, fork(cell, from), api.ErrWho)
				}
			}
		}
	}
}

func TestNextOpens(t *testing.T) {
	for cell := range 4 {
		for _, base := range [][]api.Cell{New(), slices.Repeat([]api.Cell{session(read("trap"), always(api.Trap), always(api.Allow))}, 4)} {
			base[cell] = api.Cell{}
			want := slices.Clone(base)
			want[cell] = sampleCell()
			wantNext(t, "the sample", base, open(cell, sampleText), want)
			want[cell] = session(api.Policy{}, always(api.Kill))
			wantNext(t, "zero", base, api.Rec{Kind: api.ROpen, Cell: cell}, want)
			want[cell] = session(read("kill;allow"), []api.Ins{ret(api.Kill), ret(api.Allow)})
			wantNext(t, "as it is written, not shortened", base, open(cell, "kill;allow"), want)
			wantNoNext(t, "too long a policy", base, open(cell, longText("kill")), api.ErrMany)
		}
	}
}

// A filter has room for 1500 instructions.
func TestHowLongAPolicyMayBe(t *testing.T) {
	most := strings.Repeat("log"+strings.Repeat(" a=7", 10)+";", 71) + "log nr=1 nr=1 nr=1;log;kill"
	l, e := Next(New(), open(0, most))
	if e != api.OK || len(l) != 4 || len(l[0].Chain) != 1 || len(l[0].Chain[0]) != 1500 {
		t.Errorf("1500 instructions: %d", e)
	}
	wantNoNext(t, "1501 instructions", New(), open(0, "log;"+most), api.ErrMany)
}

func TestNextForks(t *testing.T) {
	for cell := range 4 {
		for from := range 4 {
			if cell == from {
				wantNoNext(t, "of itself, not open", New(), fork(cell, from), api.ErrWho)
				continue
			}
			base := New()
			// what its chain says doesn't count, only its policy does
			for _, filters := range [][][]api.Ins{{sampleFilter()}, {sampleFilter(), always(api.Allow)}, {always(api.Kill)}, slices.Repeat([][]api.Ins{sampleFilter()}, 6)} {
				base[from] = session(sample(), filters...)
				want := slices.Clone(base)
				want[cell] = sampleCell()
				wantNext(t, "the sample", base, fork(cell, from), want)
			}
			base[from] = session(read(longText("kill")), always(api.Kill))
			wantNoNext(t, "too long a policy", base, fork(cell, from), api.ErrMany)
		}
	}
	// a session may come by a policy that can't be compiled: what was left of it could
	l, e := Replay([]api.Rec{open(1, "kill"), tight(1, longText("kill"))})
	wantCells(t, "tightened to a long one", l, e, cells(api.Cell{}, session(read(longText("kill")), always(api.Kill), always(api.Allow))))
	wantNoNext(t, "fork of that", l, fork(2, 1), api.ErrMany)
}

func TestAForkGoesItsOwnWay(t *testing.T) {
	l, e := Replay([]api.Rec{open(0, sampleText), tight(0, tightText), fork(3, 0), tight(0, "kill"), tight(3, "trap nr!3;kill")})
	if e != api.OK || len(l[0].Chain) != 3 || len(l[3].Chain) != 2 {
		t.Fatalf("%v, %d", l, e)
	}
	for _, x := range []api.Call{{}, {3, 0, 4}, {3}, greatest} {
		for cell, want := range map[int]int{0: api.Kill, 3: says(read("trap nr!3;kill"), x)} {
			if got, _ := chain.Ask(l[cell].Chain, x); got != want {
				t.Errorf("session %d says %d of %v, want %d", cell, got, x, want)
			}
		}
	}
	m, e := Next(l, shut(0))
	wantCells(t, "shut what it came of", m, e, cells(api.Cell{}, api.Cell{}, api.Cell{}, l[3]))
}

func TestNextTightens(t *testing.T) {
	for cell := range 4 {
		for _, base := range [][]api.Cell{New(), slices.Repeat([]api.Cell{session(read("trap"), always(api.Trap), always(api.Allow))}, 4)} {
			base[cell] = sampleCell()
			want := slices.Clone(base)
			want[cell] = session(read(tightText), sampleFilter(), tightFilter())
			wantNext(t, "the sample", base, tight(cell, tightText), want)
			want[cell] = session(sample(), sampleFilter(), always(api.Allow))
			wantNext(t, "to what it was", base, tight(cell, sampleText), want)
			for _, looser := range []string{"allow", "log", "kill nr=3 a<4;log kind!0;allow", "allow nr=63 kind=3 a=65535 b=65535 c=65535;kill"} {
				wantNoNext(t, "looser", base, tight(cell, looser), api.ErrLoose)
			}
			// it is held against its policy, not against what its chain says
			base[cell] = session(read("log"), always(api.Kill))
			want[cell] = session(read("trap a<5;log"), always(api.Kill), []api.Ins{load(2), less(5, 0, 1), ret(api.Trap), ret(api.Allow)})
			wantNext(t, "another chain", base, tight(cell, "trap a<5;log"), want)
			wantNoNext(t, "looser than its policy", base, tight(cell, "allow"), api.ErrLoose)
		}
	}
}

func TestHowOftenASessionIsTightened(t *testing.T) {
	l := cells(api.Cell{}, sampleCell())
	for n := 2; n <= 6; n++ {
		next, e := Next(l, tight(1, sampleText))
		if e != api.OK || len(next[1].Chain) != n {
			t.Fatalf("filter %d: %d", n, e)
		}
		l = next
	}
	wantNoNext(t, "once more", l, tight(1, sampleText), api.ErrMany)
	wantNoNext(t, "once more, to all killed", l, tight(1, "kill"), api.ErrMany)
	wantNoNext(t, "looser is told first", l, tight(1, "allow"), api.ErrLoose)
	wantNext(t, "a fork has room", l, fork(2, 1), cells(api.Cell{}, l[1], sampleCell()))
	wantNext(t, "it can be shut", l, shut(1), New())
}

// stepped has as many cuts of a field beside 0, in few rules of few conditions, so that two of them don't make too many of these.
func stepped(field string, cuts int) string {
	var b strings.Builder
	for at := range cuts {
		if at%5 == 0 {
			b.WriteString("log")
		}
		b.WriteString(" " + field + ">" + strconv.Itoa(at+1))
		if at%5 == 4 {
			b.WriteString(";")
		}
	}
	return b.String() + "log"
}

// Two policies may have too many points, rules or conditions together, and what is left may be too long a filter.
func TestTightensToWhatIsTooMuch(t *testing.T) {
	l := cells(session(read(stepped("a", 30)), always(api.Log)))
	wantNext(t, "as many points", l, tight(0, stepped("b", 30)), cells(session(read(stepped("b", 30)), always(api.Log), always(api.Allow))))
	wantNoNext(t, "too many points", l, tight(0, stepped("b", 35)), api.ErrMany)
	l = cells(session(read(strings.Repeat("log;", 10)+"log"), always(api.Log)))
	wantNext(t, "as many rules", l, tight(0, strings.Repeat("log;", 10)+"log"), cells(session(l[0].P, always(api.Log), always(api.Allow))))
	wantNoNext(t, "too many rules", l, tight(0, strings.Repeat("log;", 11)+"log"), api.ErrMany)
	asks := func(n int) string { return "log" + strings.Repeat(" a<5", n) + ";allow" }
	l = cells(session(read(asks(5)), always(api.Log)))
	wantNext(t, "as many conditions", l, tight(0, asks(5)), cells(session(l[0].P, always(api.Log), always(api.Allow))))
	wantNoNext(t, "too many conditions", l, tight(0, asks(6)), api.ErrMany)
	var long strings.Builder
	for at := range 100 {
		long.WriteString("kill" + strings.Repeat(" a="+strconv.Itoa(at), 10) + ";")
	}
	wantNoNext(t, "too long a filter", cells(session(read("allow"), always(api.Allow))), tight(0, long.String()+"allow"), api.ErrMany)
}

func TestNextShuts(t *testing.T) {
	for cell := range 4 {
		base := slices.Repeat([]api.Cell{sampleCell()}, 4)
		want := slices.Clone(base)
		want[cell] = api.Cell{}
		wantNext(t, "all are open", base, shut(cell), want)
		base = New()
		base[cell] = session(read("log"), always(api.Kill), always(api.Allow))
		wantNext(t, "one is open", base, shut(cell), New())
		// it may begin anew, and looser: that is another session
		l, e := Replay([]api.Rec{open(cell, "kill"), shut(cell), open(cell, "allow")})
		want = New()
		want[cell] = session(read("allow"), always(api.Allow))
		wantCells(t, "anew", l, e, want)
	}
}

func TestReplay(t *testing.T) {
	for _, l := range [][]api.Rec{nil, {}, make([]api.Rec, 50)[:0]} {
		got, e := Replay(l)
		wantCells(t, "nothing", got, e, New())
	}
	got, e := Replay([]api.Rec{open(1, sampleText), tight(1, tightText), fork(2, 1), open(0, "log"), shut(0)})
	wantCells(t, "some", got, e, cells(api.Cell{}, session(read(tightText), sampleFilter(), tightFilter()), session(read(tightText), compiled(read(tightText)))))
	for want, l := range map[api.Errno][]api.Rec{
		api.ErrLate:  {open(1, "log"), open(1, "log"), {}},
		api.ErrWho:   {open(1, "log"), fork(2, 3), shut(9)},
		api.ErrLoose: {open(1, "log"), fork(2, 1), tight(2, "allow"), fork(2, 3)},
		api.ErrMany:  {open(1, longText("log")), tight(2, "allow")},
		api.ErrForm:  {{}, shut(9)},
		api.ErrRange: {shut(9), {}},
	} {
		got, e := Replay(l)
		wantNone(t, "the first error", got, e, want)
		got, e = Replay(append([]api.Rec{open(0, "kill")}, l...))
		wantNone(t, "the first error, behind a right one", got, e, want)
	}
}

func TestHowManyRecords(t *testing.T) {
	for n := range 50 {
		l := slices.Repeat([]api.Rec{open(0, sampleText), shut(0)}, 30)[:n]
		got, e := Replay(l)
		switch {
		case n > 40:
			wantNone(t, "too many", got, e, api.ErrMany)
			l[0] = shut(1)
			got, e = Replay(l)
			wantNone(t, "too many, and one out of turn", got, e, api.ErrMany)
			got, e = Replay(make([]api.Rec, n))
			wantNone(t, "too many, and none of them right", got, e, api.ErrMany)
		case n%2 == 1:
			wantCells(t, "as many", got, e, cells(sampleCell()))
		default:
			wantCells(t, "as many", got, e, New())
		}
	}
	l := append(slices.Repeat([]api.Rec{open(0, sampleText), shut(0)}, 19), open(0, sampleText), shut(1))
	got, e := Replay(l)
	wantNone(t, "the 40th is out of turn", got, e, api.ErrLate)
}

// says tells what a policy says of a call, without the program's help.
func says(p api.Policy, x api.Call) int {
	for _, r := range p.Rules {
		holds := true
		for _, c := range r.Conds {
			v := x[c.Field]
			is := map[int]bool{api.Is: v == c.Value, api.Isnt: v != c.Value, api.Below: v < c.Value, api.From: v >= c.Value}
			holds = holds && is[c.Op]
		}
		if holds {
			return r.Verdict
		}
	}
	return p.Default
}

// mixed has small values that stand close together, so that rules hold, fail and cover each other often; now and then a value at the end of its field.
func mixed(r *rand.Rand, rules, conds int) api.Policy {
	p := api.Policy{Default: r.Intn(5)}
	for range r.Intn(rules + 1) {
		made := api.Rule{Verdict: r.Intn(5)}
		for range r.Intn(conds + 1) {
			field := r.Intn(api.Fields)
			value := r.Intn(4)
			if r.Intn(6) == 0 {
				value = greatest[field] - r.Intn(3)
			}
			made.Conds = append(made.Conds, api.Cond{Field: field, Op: api.Is + r.Intn(4), Value: value})
		}
		p.Rules = append(p.Rules, made)
	}
	return p
}

// tighter is a policy that is no looser than another one, most often.
func tighter(r *rand.Rand, from api.Policy) api.Policy {
	to, e := meet.Meet(from, mixed(r, 2, 2))
	if e != api.OK || r.Intn(8) == 0 {
		return mixed(r, 4, 2)
	}
	if short, e := meet.Short(to); e == api.OK && r.Intn(4) > 0 {
		return short
	}
	return to
}

// anyCall is one at small values, or at the end of a field, or anywhere.
func anyCall(r *rand.Rand) api.Call {
	var x api.Call
	for field, top := range greatest {
		x[field] = []int{r.Intn(4), r.Intn(4), min(r.Intn(6), top), r.Intn(top + 1), top - r.Intn(4)}[r.Intn(5)]
	}
	return x
}

// anyRecord is in turn most often, and now and then wrong.
func anyRecord(r *rand.Rand, l []api.Cell) api.Rec {
	x := api.Rec{Kind: api.ROpen, Cell: r.Intn(4)}
	if l[x.Cell].Open {
		x.Kind = []int{api.RTight, api.RTight, api.RTight, api.RTight, api.RShut}[r.Intn(5)]
	} else if r.Intn(3) == 0 {
		x.Kind, x.From = api.RFork, r.Intn(4)
	}
	switch x.Kind {
	case api.ROpen:
		x.P = mixed(r, 3, 2)
	case api.RTight:
		x.P = tighter(r, l[x.Cell].P)
	}
	switch r.Intn(40) {
	case 0:
		x.Kind = r.Intn(6)
	case 1:
		x.Cell = 4 - x.Cell
	case 2:
		x.P.Default = 5
	case 3:
		x.From = 1
	}
	return x
}

func compiled(p api.Policy) []api.Ins {
	l, _ := compile.Compile(p)
	return l
}

// worded makes the next sessions of right ones as the document words it, and tells the error.
func worded(l []api.Cell, r api.Rec) ([]api.Cell, api.Errno) {
	if e := note.Check(r); e != api.OK {
		return nil, e
	}
	next := slices.Clone(l)
	c := &next[r.Cell]
	switch {
	case (r.Kind == api.ROpen || r.Kind == api.RFork) && c.Open, (r.Kind == api.RTight || r.Kind == api.RShut) && !c.Open:
		return nil, api.ErrLate
	case r.Kind == api.RFork && !l[r.From].Open:
		return nil, api.ErrWho
	case r.Kind == api.RShut:
		*c = api.Cell{}
		return next, api.OK
	case r.Kind == api.RTight:
		filters, e := chain.Tighten(c.Chain, c.P, r.P)
		*c = session(r.P, filters...)
		return next, e
	case r.Kind == api.RFork:
		r.P = l[r.From].P
	}
	filter, e := compile.Compile(r.P)
	*c = session(r.P, filter)
	return next, e
}

// P12.3: sessions that come from New say what their policies say, of all calls, and while they are open get stricter alone.
func TestSessionsSayWhatTheirPoliciesSay(t *testing.T) {
	r := rand.New(rand.NewSource(12))
	seen, steps := map[api.Errno]int{}, map[int]int{}
	for range 250 {
		l := New()
		var log []api.Rec
		for range 45 {
			x := anyRecord(r, l)
			next, e := Next(l, x)
			want, f := worded(l, x)
			seen[f]++
			if f != api.OK {
				wantNone(t, "mixed", next, e, f)
				got, e := Replay(append(slices.Clone(log), x))
				if len(log) < 40 {
					wantNone(t, "mixed, in a log", got, e, f)
				}
				continue
			}
			wantCells(t, "mixed", next, e, want)
			log = append(log, x)
			steps[x.Kind]++
			wantFaithful(t, r, l, next)
			l = next
		}
		got, e := Replay(log)
		if len(log) > 40 {
			wantNone(t, "too long a log", got, e, api.ErrMany)
			continue
		}
		wantCells(t, "the log", got, e, l)
	}
	for _, e := range []api.Errno{api.OK, api.ErrMany, api.ErrRange, api.ErrForm, api.ErrWho, api.ErrLate, api.ErrLoose} {
		if seen[e] < 50 {
			t.Errorf("error %d: only %d times", e, seen[e])
		}
	}
	for kind := api.ROpen; kind <= api.RShut; kind++ {
		if steps[kind] < 100 {
			t.Errorf("kind %d: only %d times", kind, steps[kind])
		}
	}
}

// wantFaithful asks each session of some calls: it says what its policy says, and no more than before.
func wantFaithful(t *testing.T, r *rand.Rand, before, after []api.Cell) {
	t.Helper()
	for at, c := range after {
		if !c.Open {
			continue
		}
		for range 8 {
			x := anyCall(r)
			got, e := chain.Ask(c.Chain, x)
			if got != says(c.P, x) || e != api.OK {
				t.Fatalf("session %d says %d, %d of %v, its policy %d", at, got, e, x, says(c.P, x))
			}
			if was, _ := chain.Ask(before[at].Chain, x); before[at].Open && got > was {
				t.Fatalf("session %d said %d of %v, and now %d", at, was, x, got)
			}
		}
	}
}

// span is the memory of a list, with the room behind it.
type span struct{ from, to uintptr }

func spanOf[T any](l []T) span {
	from := uintptr(unsafe.Pointer(unsafe.SliceData(l)))
	return span{from, from + uintptr(cap(l))*unsafe.Sizeof(*new(T))}
}

func policySpans(p api.Policy) []span {
	l := []span{spanOf(p.Rules)}
	for _, r := range p.Rules {
		l = append(l, spanOf(r.Conds))
	}
	return l
}

func cellSpans(cells []api.Cell) []span {
	l := []span{spanOf(cells)}
	for _, c := range cells {
		l = append(l, spanOf(c.Chain))
		for _, filter := range c.Chain {
			l = append(l, spanOf(filter))
		}
		l = append(l, policySpans(c.P)...)
	}
	return l
}

// wantOwn: no two lists of an answer share memory, and none shares any with these.
func wantOwn(t *testing.T, what string, got []api.Cell, others []span) {
	t.Helper()
	own := cellSpans(got)
	for at, a := range own {
		for _, b := range append(slices.Clone(own[:at]), others...) {
			if a.from < b.to && b.from < a.to {
				t.Errorf("%s: list %d shares memory", what, at)
			}
		}
	}
}

// crowded has something behind each of its lists, that mustn't be touched, and one list in several places.
func crowded() []api.Cell {
	filter := append(append(make([]api.Ins, 0, 16), sampleFilter()...), ret(77))[:9]
	filters := append(make([][]api.Ins, 0, 8), filter, sampleFilter(), always(78))[:2]
	p := crowdedPolicy()
	l := append(make([]api.Cell, 0, 8), session(p, filters...), api.Cell{}, session(p, filters...), api.Cell{}, session(p, filters...))
	return l[:4]
}

func crowdedPolicy() api.Policy {
	conds := append(make([]api.Cond, 0, 4), sample().Rules[0].Conds...)
	rules := append(make([]api.Rule, 0, 5), api.Rule{Conds: append(conds, api.Cond{Field: 82})[:2]}, sample().Rules[1], api.Rule{Verdict: 77})
	return api.Policy{Rules: rules[:2], Default: api.Allow}
}

func wantCrowdedPolicy(t *testing.T, p api.Policy) {
	t.Helper()
	want := crowdedPolicy()
	whole := func(p api.Policy) api.Policy { return api.Policy{Rules: p.Rules[:5], Default: p.Default} }
	if !policy.Same(whole(p), whole(want)) || !slices.Equal(p.Rules[0].Conds[:4], want.Rules[0].Conds[:4]) {
		t.Errorf("the policy was changed: %v, %v", p.Rules[:5], p.Rules[0].Conds[:4])
	}
}

func wantCrowded(t *testing.T, l []api.Cell) {
	t.Helper()
	want := crowded()
	if !alike(l[:8], want[:8]) {
		t.Errorf("the sessions were changed: %v", l[:8])
	}
	filters, kept := l[0].Chain, want[0].Chain
	if !slices.EqualFunc(filters[:8], kept[:8], slices.Equal[[]api.Ins]) || !slices.Equal(filters[0][:16], kept[0][:16]) {
		t.Errorf("the filters were changed: %v, %v", filters[:8], filters[0][:16])
	}
	wantCrowdedPolicy(t, l[0].P)
}

// crowdedRecords has a record of each kind that makes something of crowded sessions, and some that make nothing.
func crowdedRecords(p api.Policy) (right, wrong []api.Rec) {
	right = []api.Rec{{Kind: api.ROpen, Cell: 1, P: p}, {Kind: api.RTight, Cell: 2, P: p}, tight(0, "kill"), fork(3, 0), shut(2)}
	wrong = []api.Rec{{}, shut(1), fork(1, 3), tight(0, "allow"), open(0, "log"), open(1, longText("log"))}
	return right, wrong
}

func TestWhatIsHandedInStaysAsItIs(t *testing.T) {
	l, p := crowded(), crowdedPolicy()
	right, wrong := crowdedRecords(p)
	for range 3 {
		Check(l)
		Same(l, l)
		Copy(l)
		for _, r := range slices.Concat(right, wrong) {
			Next(l, r)
			Next(l[:3], r)
		}
		Replay(right)
		Replay([]api.Rec{right[0], {Kind: api.RTight, Cell: 1, P: p}, fork(2, 1), shut(1)})
	}
	wantCrowded(t, l)
	wantCrowdedPolicy(t, p)
}

func TestAnswersShareNothing(t *testing.T) {
	l, p := crowded(), crowdedPolicy()
	given := append(cellSpans(l), policySpans(p)...)
	wantOwn(t, "New", New(), cellSpans(New()))
	wantOwn(t, "Copy", Copy(l), given)
	right, _ := crowdedRecords(p)
	for _, r := range right {
		got, e := Next(l, r)
		if e != api.OK {
			t.Fatalf("%v: %d", r, e)
		}
		other, _ := Next(l, r)
		wantOwn(t, "Next", got, append(cellSpans(other), given...))
	}
	// one policy in many records
	log := []api.Rec{{Kind: api.ROpen, Cell: 1, P: p}, {Kind: api.ROpen, Cell: 3, P: p}, {Kind: api.RTight, Cell: 1, P: p}, fork(2, 1), fork(0, 2)}
	got, e := Replay(log)
	if e != api.OK {
		t.Fatalf("Replay: %d", e)
	}
	other, _ := Replay(log)
	wantOwn(t, "Replay", got, append(cellSpans(other), given...))
}

func TestCopy(t *testing.T) {
	for _, l := range [][]api.Cell{nil, {}, New(), crowded(), slices.Repeat([]api.Cell{sampleCell()}, 9), {{Chain: [][]api.Ins{nil, always(9)}}, session(api.Policy{Rules: make([]api.Rule, 200), Default: -9})}} {
		if got := Copy(l); !alike(got, l) {
			t.Errorf("a copy of %v is %v", l, got)
		}
	}
}

// Whatever is handed in, there is an answer: right sessions, or an error and nothing beside it.
func TestAnything(t *testing.T) {
	r := rand.New(rand.NewSource(1212))
	numbers := []int{0, 1, 2, 3, 4, 5, -1, 63, 64, 65535, 65536, math.MinInt, math.MaxInt}
	pick := func() int { return numbers[r.Intn(len(numbers))] }
	wildPolicy := func() api.Policy {
		p := mixed(r, 2, 2)
		if r.Intn(6) == 0 {
			p.Rules = append(p.Rules, api.Rule{Verdict: pick(), Conds: []api.Cond{{Field: pick(), Op: pick(), Value: pick()}}})
		}
		return p
	}
	wildCell := func() api.Cell {
		c := api.Cell{Open: r.Intn(8) > 0, P: wildPolicy()}
		for range r.Intn(8) {
			filter := compiled(mixed(r, 2, 2))
			if r.Intn(12) == 0 {
				filter[r.Intn(len(filter))] = api.Ins{Kind: pick(), A: pick(), B: pick(), C: pick()}
			}
			c.Chain = append(c.Chain, filter)
		}
		return c
	}
	seen := map[api.Errno]int{}
	for range 6000 {
		l := New()
		for range r.Intn(3) {
			l[r.Intn(4)] = wildCell()
		}
		l = append(l, make([]api.Cell, r.Intn(30)/29)...)
		x := api.Rec{Kind: r.Intn(5), Cell: r.Intn(4), P: wildPolicy()}
		if x.Kind == api.RFork || x.Kind == api.RShut {
			x.P = api.Policy{}
		}
		if x.Kind == api.RFork || r.Intn(20) == 0 {
			x.From = r.Intn(5)
		}
		want := found(l)
		seen[want]++
		wantCheck(t, "wild", l, want)
		if want != api.OK {
			wantNoNext(t, "wild", l, x, want)
		} else if next, want := worded(l, x); want != api.OK {
			wantNoNext(t, "wild", l, x, want)
		} else {
			wantNext(t, "wild", l, x, next)
		}
		Replay([]api.Rec{x, {Kind: pick(), Cell: pick(), From: pick(), P: wildPolicy()}, x})
	}
	for _, e := range []api.Errno{api.OK, api.ErrForm, api.ErrMany, api.ErrRange, api.ErrWho} {
		if seen[e] < 40 {
			t.Errorf("error %d: only %d times", e, seen[e])
		}
	}
}

// found tells what is wrong with sessions as the document words it.
func found(l []api.Cell) api.Errno {
	if len(l) != 4 {
		return api.ErrForm
	}
	for _, c := range l {
		rest := len(c.Chain) + len(c.P.Rules)
		switch {
		case !c.Open && (rest != 0 || c.P.Default != 0), c.Open && len(c.Chain) == 0:
			return api.ErrForm
		case !c.Open:
			continue
		}
		if e := chain.Check(c.Chain); e != api.OK {
			return e
		}
		if e := policy.Check(c.P); e != api.OK {
			return e
		}
	}
	return api.OK
}

func TestTheReadmesExamples(t *testing.T) {
	p, q := read("kill nr=3;log"), read("kill nr=3;trap a<5;log")
	log := []api.Rec{{Kind: api.ROpen, Cell: 1, P: p}, {Kind: api.RTight, Cell: 1, P: q}, {Kind: api.RFork, Cell: 2, From: 1}}
	l := New()
	for _, r := range log {
		next, e := Next(l, r)
		if e != api.OK {
			t.Fatalf("%v: %d", r, e)
		}
		l = next
	}
	if len(l[1].Chain) != 2 || len(l[2].Chain) != 1 || !policy.Same(l[1].P, q) || !policy.Same(l[2].P, q) {
		t.Errorf("the sessions are %v", l)
	}
	if v, e := chain.Ask(l[1].Chain, api.Call{4, 0, 4}); v != api.Trap || e != api.OK {
		t.Errorf("session 1 says %d, %d", v, e)
	}
	wantNoNext(t, "looser", l, api.Rec{Kind: api.RTight, Cell: 1, P: p}, api.ErrLoose)
	wantNoNext(t, "open already", l, api.Rec{Kind: api.ROpen, Cell: 1, P: p}, api.ErrLate)
	wantNoNext(t, "not open", l, api.Rec{Kind: api.RFork, Cell: 3}, api.ErrWho)
	over, e := Next(l, api.Rec{Kind: api.RShut, Cell: 1})
	wantCells(t, "shut", over, e, cells(api.Cell{}, api.Cell{}, l[2]))
	again, e := Replay(log)
	wantCells(t, "replayed", again, e, l)
	wantSame(t, "replayed", again, l, true)
	wantCheck(t, "not as many as there must be", l[:3], api.ErrForm)
}
