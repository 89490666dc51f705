package note

import (
	"math"
	"math/rand"
	"reflect"
	"regexp"
	"slices"
	"strconv"
	"strings"
	"testing"

	"turnkey/api"
	"turnkey/policy"
	"turnkey/text"
)

const sampleText = "kill nr=3 a<5;log kind!0;allow"

// sample is what sampleText says, made anew, so that a test may change it.
func sample() api.Policy {
	return api.Policy{
		Rules: []api.Rule{
			{Conds: []api.Cond{{Field: 0, Op: api.Is, Value: 3}, {Field: 2, Op: api.Below, Value: 5}}, Verdict: api.Kill},
			{Conds: []api.Cond{{Field: 1, Op: api.Isnt, Value: 0}}, Verdict: api.Log},
		},
		Default: api.Allow,
	}
}

// longest has the longest text of all policies.
func longest() api.Policy {
	p := api.Policy{Default: api.Allow}
	for range 120 {
		r := api.Rule{Verdict: api.Allow}
		for i := range 10 {
			r.Conds = append(r.Conds, api.Cond{Field: 2 + i%3, Op: 1 + i%4, Value: 65535 - i})
		}
		p.Rules = append(p.Rules, r)
	}
	return p
}

func withCond(c api.Cond) api.Policy {
	return api.Policy{Rules: []api.Rule{{Conds: []api.Cond{c}, Verdict: api.Trap}}, Default: api.Allow}
}

// wrongPolicies has policies with one thing wrong each.
func wrongPolicies() map[api.Errno][]api.Policy {
	return map[api.Errno][]api.Policy{
		api.ErrMany:  {{Rules: make([]api.Rule, 121)}, {Rules: []api.Rule{{}, {Conds: make([]api.Cond, 11)}}}},
		api.ErrRange: {{Default: 5}, {Default: -1}, {Rules: []api.Rule{{Verdict: math.MaxInt}}}, withCond(api.Cond{Op: api.Is, Value: 64}), withCond(api.Cond{Field: 4, Op: api.From, Value: -1})},
		api.ErrWho:   {withCond(api.Cond{Field: 5, Op: api.Is}), withCond(api.Cond{Field: -1, Op: api.Is})},
		api.ErrForm:  {withCond(api.Cond{}), withCond(api.Cond{Op: 5})},
	}
}

func wantCheck(t *testing.T, what string, r api.Rec, want api.Errno) {
	t.Helper()
	if got := Check(r); got != want {
		t.Errorf("%s: Check(%v) = %d, want %d", what, r, got, want)
	}
}

// wantWrong: the record is refused by Check, and by Print with that error alone.
func wantWrong(t *testing.T, what string, r api.Rec, want api.Errno) {
	t.Helper()
	wantCheck(t, what, r, want)
	if s, e := Print(r); s != "" || e != want {
		t.Errorf("%s: Print(%v) = %q, %d, want error %d alone", what, r, s, e, want)
	}
}

// wantText: a record is right, is printed as s, and s is read as the record.
func wantText(t *testing.T, r api.Rec, s string) {
	t.Helper()
	wantCheck(t, s, r, api.OK)
	if got, e := Print(r); got != s || e != api.OK {
		t.Errorf("Print(%v) = %q, %d, want %q", r, got, e, s)
	}
	if got, e := Parse(s); !Same(got, r) || e != api.OK {
		t.Errorf("Parse(%q) = %v, %d, want %v", s, got, e, r)
	}
}

// wantRefused: the text is refused, and nothing but the error is answered.
func wantRefused(t *testing.T, s string, want api.Errno) {
	t.Helper()
	shown := s
	if len(shown) > 60 {
		shown = shown[:60] + ".."
	}
	r, e := Parse(s)
	if e != want {
		t.Errorf("Parse(%q) answers error %d, want %d", shown, e, want)
	}
	if !reflect.DeepEqual(r, api.Rec{}) {
		t.Errorf("Parse(%q) answers %v beside the error", shown, r)
	}
}

func TestOrdinaryRecords(t *testing.T) {
	wantText(t, api.Rec{Kind: api.ROpen, P: sample()}, "open 0 "+sampleText)
	wantText(t, api.Rec{Kind: api.RTight, Cell: 2, P: sample()}, "tight 2 "+sampleText)
	wantText(t, api.Rec{Kind: api.RFork, Cell: 1, From: 2}, "fork 1 2")
	wantText(t, api.Rec{Kind: api.RShut, Cell: 3}, "shut 3")
	for v, name := range []string{"kill", "trap", "fail", "log", "allow"} {
		wantText(t, api.Rec{Kind: api.ROpen, Cell: 3, P: api.Policy{Default: v}}, "open 3 "+name)
		wantText(t, api.Rec{Kind: api.RTight, P: api.Policy{Rules: []api.Rule{{Verdict: v}}}}, "tight 0 "+name+";kill")
	}
}

func TestEachCell(t *testing.T) {
	for cell := range 4 {
		c := strconv.Itoa(cell)
		wantText(t, api.Rec{Kind: api.ROpen, Cell: cell, P: sample()}, "open "+c+" "+sampleText)
		wantText(t, api.Rec{Kind: api.RTight, Cell: cell, P: sample()}, "tight "+c+" "+sampleText)
		wantText(t, api.Rec{Kind: api.RShut, Cell: cell}, "shut "+c)
		// a session that begins as it is itself is out of turn, but written well
		for from := range 4 {
			wantText(t, api.Rec{Kind: api.RFork, Cell: cell, From: from}, "fork "+c+" "+strconv.Itoa(from))
		}
	}
}

func TestTheLongestRecord(t *testing.T) {
	s, _ := text.Print(longest())
	wantText(t, api.Rec{Kind: api.ROpen, Cell: 1, P: longest()}, "open 1 "+s)
	wantText(t, api.Rec{Kind: api.RTight, Cell: 3, P: longest()}, "tight 3 "+s)
}

func TestKindsThatAreNone(t *testing.T) {
	for _, kind := range []int{0, 5, -1, math.MinInt, math.MaxInt} {
		wantWrong(t, "Kind", api.Rec{Kind: kind}, api.ErrForm)
		wantWrong(t, "Kind", api.Rec{Kind: kind, Cell: 1, From: 2, P: sample()}, api.ErrForm)
	}
}

func TestCellsThatAreNone(t *testing.T) {
	for kind := api.ROpen; kind <= api.RShut; kind++ {
		for _, cell := range []int{4, 5, -1, math.MinInt, math.MaxInt} {
			wantWrong(t, "Cell", api.Rec{Kind: kind, Cell: cell}, api.ErrRange)
			wantWrong(t, "From", api.Rec{Kind: kind, From: cell}, api.ErrRange)
			wantWrong(t, "both", api.Rec{Kind: kind, Cell: cell, From: cell}, api.ErrRange)
		}
	}
}

func TestFromIsOfForksAlone(t *testing.T) {
	for _, kind := range []int{api.ROpen, api.RTight, api.RShut} {
		wantCheck(t, "no From", api.Rec{Kind: kind}, api.OK)
		for from := 1; from < 4; from++ {
			wantWrong(t, "From", api.Rec{Kind: kind, From: from}, api.ErrForm)
		}
	}
}

func TestPoliciesAreOfOpenAndTightAlone(t *testing.T) {
	for _, kind := range []int{api.RFork, api.RShut} {
		wantCheck(t, "no rules", api.Rec{Kind: kind, P: api.Policy{Rules: []api.Rule{}}}, api.OK)
		wantCheck(t, "no rules, and room behind", api.Rec{Kind: kind, P: api.Policy{Rules: sample().Rules[:0]}}, api.OK)
		for _, p := range []api.Policy{sample(), {Default: 1}, {Default: -1}, {Default: 9}, {Rules: []api.Rule{{}}}, {Rules: make([]api.Rule, 121)}} {
			wantWrong(t, "a policy", api.Rec{Kind: kind, P: p}, api.ErrForm)
		}
		for _, l := range wrongPolicies() {
			for _, p := range l {
				wantWrong(t, "a wrong policy", api.Rec{Kind: kind, P: p}, api.ErrForm)
			}
		}
	}
	for _, kind := range []int{api.ROpen, api.RTight} {
		for want, l := range wrongPolicies() {
			for _, p := range l {
				wantWrong(t, "a wrong policy", api.Rec{Kind: kind, Cell: 3, P: p}, want)
			}
		}
	}
}

// All that can be wrong is wrong at the start; what is told is mended, and the next thing in the order of the document must be told.
func TestCheckTellsTheFirst(t *testing.T) {
	r := api.Rec{Kind: 5, Cell: 4, From: -1, P: api.Policy{Rules: make([]api.Rule, 121)}}
	wantWrong(t, "Kind", r, api.ErrForm)
	r.Kind = api.RTight
	wantWrong(t, "Cell", r, api.ErrRange)
	r.Cell = 3
	wantWrong(t, "From that is none", r, api.ErrRange)
	r.From = 3
	wantWrong(t, "From that isn't 0", r, api.ErrForm)
	r.From = 0
	wantWrong(t, "the policy", r, api.ErrMany)
	r.Kind = api.RShut
	wantWrong(t, "a policy of a shut", r, api.ErrForm)
	r.Kind, r.From = api.RFork, 4
	wantWrong(t, "From ahead of a policy of a fork", r, api.ErrRange)
	r.From = 3
	wantWrong(t, "a policy of a fork", r, api.ErrForm)
	r.P = api.Policy{}
	wantCheck(t, "nothing", r, api.OK)
}

func TestSame(t *testing.T) {
	made := func() api.Rec { return api.Rec{Kind: api.RTight, Cell: 2, From: 1, P: sample()} }
	if !Same(made(), made()) || !Same(api.Rec{}, api.Rec{}) {
		t.Error("made anew: Same = false")
	}
	if !Same(api.Rec{}, api.Rec{P: api.Policy{Rules: []api.Rule{}}}) {
		t.Error("no rules: nil isn't like empty")
	}
	for what, change := range map[string]func(*api.Rec){
		"Kind":                   func(r *api.Rec) { r.Kind = api.ROpen },
		"a Kind that is none":    func(r *api.Rec) { r.Kind = math.MinInt },
		"Cell":                   func(r *api.Rec) { r.Cell = 3 },
		"a Cell that is none":    func(r *api.Rec) { r.Cell = -1 },
		"From":                   func(r *api.Rec) { r.From = 0 },
		"a From that is none":    func(r *api.Rec) { r.From = math.MaxInt },
		"Cell and From":          func(r *api.Rec) { r.Cell, r.From = r.From, r.Cell },
		"Default":                func(r *api.Rec) { r.P.Default = 9 },
		"Verdict":                func(r *api.Rec) { r.P.Rules[1].Verdict = api.Trap },
		"Field":                  func(r *api.Rec) { r.P.Rules[0].Conds[1].Field = 77 },
		"Op":                     func(r *api.Rec) { r.P.Rules[0].Conds[0].Op = api.Isnt },
		"Value":                  func(r *api.Rec) { r.P.Rules[1].Conds[0].Value = 1 },
		"a rule less":            func(r *api.Rec) { r.P.Rules = r.P.Rules[:1] },
		"more rules than may be": func(r *api.Rec) { r.P.Rules = make([]api.Rule, 300) },
		"no policy":              func(r *api.Rec) { r.P = api.Policy{} },
	} {
		r, again := made(), made()
		change(&r)
		change(&again)
		if Same(r, made()) || Same(made(), r) {
			t.Errorf("%s: Same = true", what)
		}
		if !Same(r, again) {
			t.Errorf("%s in both: Same = false", what)
		}
	}
}

func TestWordsThatAreNot(t *testing.T) {
	for _, word := range []string{"", "Open", "OPEN", "ope", "opens", "o", "1", "close", "tighten", "forks", "shutt", "open\x00", "\x00open", "оpen", "open:", "kill", "open,", "\xff"} {
		for _, behind := range []string{"", " ", " 0", " 0 ", " 0 kill", " 0 1", " 0 " + sampleText} {
			wantRefused(t, word+behind, api.ErrText)
		}
	}
}

func TestHowManyWords(t *testing.T) {
	for _, s := range []string{
		"open", "open ", "open 0", "open 0 ", "open  ", "open   ", "open 0  ", "open 0  kill", "open  0 kill", " open 0 kill", "open 0 kill ", "open 0 0 kill", "open kill", "open kill 0", "open0 kill", "open 0kill", "open 0;kill", "open\t0 kill", "open 0\tkill",
		"tight", "tight ", "tight 0", "tight 0 ", "tight 0  kill", "tight  0 kill", " tight 0 kill", "tight 0 kill ", "tight 0 1", "tight 0 kill;", "tight 0 kill\n", "tight 0 kill\ntight 0 kill",
		"fork", "fork ", "fork 1", "fork 1 ", "fork  1", "fork 1  2", "fork  1 2", " fork 1 2", "fork 1 2 ", "fork 1 2 3", "fork 1 2 kill", "fork 1 kill", "fork 1 2\n", "fork 12", "fork 1,2", "fork 1\t2",
		"shut", "shut ", "shut  ", "shut  1", " shut 1", "shut 1 ", "shut 1  ", "shut 1 2", "shut 1 kill", "shut 1 " + sampleText, "shut1", "shut 1\n", "shut 1\r", "shut 1;", "shut\t1", "\nshut 1",
	} {
		wantRefused(t, s, api.ErrText)
	}
}

func TestNumbersThatAreNot(t *testing.T) {
	for _, number := range []string{
		"", "-", "+", "+1", "+0", "-0", "00", "01", "-01", "0000000000000000000001", "1.", "1.0", ".1", "1e0", "0x1", "0b1", "1_0", "1a", "a", "１", "١", "1\x00", "\xff",
		"9223372036854775808", "-9223372036854775809", "18446744073709551617", strings.Repeat("9", 5000),
	} {
		wantRefused(t, "open "+number+" kill", api.ErrText)
		wantRefused(t, "tight "+number+" "+sampleText, api.ErrText)
		wantRefused(t, "fork "+number+" 1", api.ErrText)
		wantRefused(t, "fork 1 "+number, api.ErrText)
		wantRefused(t, "shut "+number, api.ErrText)
	}
}

// Numbers may be any, as they are written: it is Check that says which cells there are.
func TestNumbersThatMayNotBe(t *testing.T) {
	for _, number := range []int{4, 5, 10, -1, -3, math.MinInt, math.MaxInt} {
		n := strconv.Itoa(number)
		wantRefused(t, "open "+n+" kill", api.ErrRange)
		wantRefused(t, "tight "+n+" "+sampleText, api.ErrRange)
		wantRefused(t, "fork "+n+" 1", api.ErrRange)
		wantRefused(t, "fork 1 "+n, api.ErrRange)
		wantRefused(t, "fork "+n+" "+n, api.ErrRange)
		wantRefused(t, "shut "+n, api.ErrRange)
	}
}

func TestPoliciesThatAreWrittenWrong(t *testing.T) {
	many := strings.Repeat("kill;", 121) + "kill"
	for p, want := range map[string]api.Errno{
		"stop": api.ErrText, "kill;": api.ErrText, ";kill": api.ErrText, "kill nr=3": api.ErrText, "kill nr=03;allow": api.ErrText, "kill nr=3;allow\n": api.ErrText,
		"kill nr=64;allow": api.ErrRange, "kill a=-1;allow": api.ErrRange, "kill kind!4;allow": api.ErrRange,
		many: api.ErrMany, "kill" + strings.Repeat(" a=1", 11) + ";allow": api.ErrMany,
	} {
		for _, ahead := range []string{"open 0 ", "tight 3 "} {
			wantRefused(t, ahead+p, want)
		}
	}
}

// How long a text is comes first, then its words and numbers, then its policy, then what the record says.
func TestWhichErrorIsTold(t *testing.T) {
	many := strings.Repeat("kill;", 121) + "kill"
	wantRefused(t, "open 4 "+many, api.ErrMany)
	wantRefused(t, "open -1 stop", api.ErrText)
	wantRefused(t, "open 4 kill nr=64;allow", api.ErrRange)
	wantRefused(t, "open 04 "+many, api.ErrText)
	wantRefused(t, "tight x kill nr=64;allow", api.ErrText)
	wantRefused(t, "opened 0 "+many, api.ErrText)
	wantRefused(t, "fork 4 x", api.ErrText)
	wantRefused(t, "fork x 4", api.ErrText)
	wantRefused(t, "shut 4 4", api.ErrText)

	for _, ahead := range []string{"", "open 0 ", "tight 4 ", "fork 1 ", "shut ", "stop "} {
		wantRefused(t, ahead+strings.Repeat("x", 60000-len(ahead)), api.ErrText)
		wantRefused(t, ahead+strings.Repeat("x", 60001-len(ahead)), api.ErrMany)
	}
	wantRefused(t, strings.Repeat(" ", 60000), api.ErrText)
	wantRefused(t, strings.Repeat(" ", 60001), api.ErrMany)
	wantRefused(t, "shut "+strings.Repeat("9", 70000), api.ErrMany)
	// the whole record is measured, not the policy alone
	wantRefused(t, "open 0 "+strings.Repeat("x", 60000), api.ErrMany)
}

// written is the document's form, told by another means than the program's.
var written = regexp.MustCompile(`(?s)^(?:(?:open|tight) (0|-?[1-9][0-9]*) (.*)|fork (0|-?[1-9][0-9]*) (0|-?[1-9][0-9]*)|shut (0|-?[1-9][0-9]*))$`)

// worded answers what the document says is wrong with a text of no more bytes than may be.
func worded(s string) api.Errno {
	found := written.FindStringSubmatch(s)
	if found == nil {
		return api.ErrText
	}
	wrong := api.OK
	for _, at := range []int{1, 3, 4, 5} {
		if found[at] == "" {
			continue
		}
		n, err := strconv.Atoi(found[at])
		if err != nil {
			return api.ErrText
		}
		if n < 0 || n > 3 {
			wrong = api.ErrRange
		}
	}
	if found[1] != "" {
		if _, e := text.Parse(found[2]); e != api.OK {
			return e
		}
	}
	return wrong
}

// Each text that is one byte away from a right one is read if it has the form, and is then printed as it was.
func TestTextsThatAreOneByteAway(t *testing.T) {
	try := func(s string) {
		r, e := Parse(s)
		if want := worded(s); e != want {
			t.Errorf("Parse(%q) answers error %d, want %d", s, e, want)
		}
		if e != api.OK {
			if !reflect.DeepEqual(r, api.Rec{}) {
				t.Errorf("Parse(%q) answers %v beside the error", s, r)
			}
			return
		}
		if again, e := Print(r); again != s || e != api.OK {
			t.Errorf("%q is read, but printed as %q, %d", s, again, e)
		}
	}
	const alphabet = "openightfrksuacldb =!<>;-+_0123456789.OT\x00\t\n\r\xc3"
	for _, s := range []string{"", "open 0 " + sampleText, "tight 3 trap;fail b>7 c!10 kind=2;log", "open 4 kill", "fork 1 2", "fork -1 0", "shut 3", "shut 10"} {
		for at := range len(s) + 1 {
			for _, c := range []byte(alphabet) {
				try(s[:at] + string([]byte{c}) + s[at:])
				if at < len(s) {
					try(s[:at] + string([]byte{c}) + s[at+1:])
				}
			}
			try(s[:at])
			try(s[at:])
			if at < len(s) {
				try(s[:at] + s[at+1:])
			}
		}
	}
}

// mixed answers a right policy, or now and then one with something wrong in it.
func mixed(r *rand.Rand) api.Policy {
	p := api.Policy{Default: r.Intn(5)}
	for range r.Intn(6) {
		rule := api.Rule{Verdict: r.Intn(5)}
		for range r.Intn(5) {
			field := r.Intn(5)
			rule.Conds = append(rule.Conds, api.Cond{Field: field, Op: 1 + r.Intn(4), Value: r.Intn([]int{64, 4, 65536, 65536, 65536}[field])})
		}
		p.Rules = append(p.Rules, rule)
	}
	switch r.Intn(12) {
	case 0:
		p.Default = 5
	case 1:
		p.Rules = append(p.Rules, api.Rule{Conds: []api.Cond{{Field: 5, Op: 1}}})
	}
	return p
}

// told answers what the document says is wrong with a record, by another order than the program's: the last thing that is wrong is overwritten by those that are told ahead of it.
func told(r api.Rec) api.Errno {
	e := api.OK
	empty := len(r.P.Rules) == 0 && r.P.Default == 0
	switch r.Kind {
	case 1, 2:
		e = policy.Check(r.P)
	case 3, 4:
		if !empty {
			e = api.ErrForm
		}
	}
	if r.Kind != 3 && r.From != 0 {
		e = api.ErrForm
	}
	for _, n := range []int{r.Cell, r.From} {
		if n < 0 || n > 3 {
			e = api.ErrRange
		}
	}
	if !slices.Contains([]int{1, 2, 3, 4}, r.Kind) {
		e = api.ErrForm
	}
	return e
}

// P10.3, of records of every shape, right and wrong.
func TestParseOfPrintIsTheRecord(t *testing.T) {
	r := rand.New(rand.NewSource(10))
	right := 0
	for range 20000 {
		x := api.Rec{Kind: 1 + r.Intn(4), Cell: r.Intn(4)}
		if x.Kind == api.RFork || r.Intn(10) == 0 {
			x.From = r.Intn(4)
		}
		if x.Kind <= api.RTight || r.Intn(10) == 0 {
			x.P = mixed(r)
		}
		switch r.Intn(20) {
		case 0:
			x.Kind = r.Intn(8) - 1
		case 1:
			x.Cell = r.Intn(8) - 2
		case 2:
			x.From = r.Intn(8) - 2
		}
		if want := told(x); want != api.OK {
			wantWrong(t, "mixed", x, want)
			continue
		}
		right++
		s, e := Print(x)
		if e != api.OK || !written.MatchString(s) || strings.Contains(s, "\n") {
			t.Fatalf("Print(%v) = %q, %d", x, s, e)
		}
		wantText(t, x, s)
	}
	if right < 10000 {
		t.Errorf("only %d right records", right)
	}
}

func TestNothingIsChanged(t *testing.T) {
	spare, behind := api.Rule{Verdict: 9}, api.Cond{Field: 8, Op: 7, Value: 6}
	p := sample()
	p.Rules[0].Conds = append(p.Rules[0].Conds, behind)[:2]
	p.Rules = append(p.Rules, spare)[:2]
	for kind := range 6 {
		for _, cell := range []int{0, 3, 4} {
			r := api.Rec{Kind: kind, Cell: cell, P: p}
			Check(r)
			Same(r, r)
			Print(r)
		}
	}
	if !reflect.DeepEqual(p, sample()) || !reflect.DeepEqual(p.Rules[:3][2], spare) || p.Rules[0].Conds[:3][2] != behind {
		t.Errorf("what was handed in is %v now", p.Rules[:3])
	}
}

// What is added behind one list of an answer is seen in no other list and in no other answer.
func TestAnswersShareNothing(t *testing.T) {
	s := "tight 1 " + sampleText
	r, _ := Parse(s)
	other, _ := Parse(s)
	for i := range r.P.Rules {
		r.P.Rules[i].Conds = append(r.P.Rules[i].Conds, api.Cond{Field: 4, Op: api.From, Value: 9})
	}
	wantText(t, r, "tight 1 kill nr=3 a<5 c>9;log kind!0 c>9;allow")
	wantText(t, other, s)
}

func TestTheReadmesExamples(t *testing.T) {
	p, _ := text.Parse("kill nr=3;log")
	wantText(t, api.Rec{Kind: api.ROpen, Cell: 2, P: p}, "open 2 kill nr=3;log")
	wantText(t, api.Rec{Kind: api.RFork, Cell: 1, From: 2}, "fork 1 2")
	wantText(t, api.Rec{Kind: api.RShut, Cell: 2}, "shut 2")
	wantWrong(t, "a shut with a policy", api.Rec{Kind: api.RShut, Cell: 2, P: p}, api.ErrForm)
	wantRefused(t, "open 02 kill", api.ErrText)
	wantRefused(t, "open 4 kill", api.ErrRange)
	wantRefused(t, "open 2 kill nr=64;log", api.ErrRange)
}
