package text

import (
	"math"
	"reflect"
	"regexp"
	"strconv"
	"strings"
	"testing"

	"turnkey/api"
	"turnkey/policy"
)

const sampleText = "kill nr=3 a<5;log kind!0;allow"

// sample is what sampleText says, made anew, so that a test may change it.
func sample() api.Policy {
	return api.Policy{
		Rules: []api.Rule{
			{Conds: []api.Cond{{Field: 0, Op: api.Is, Value: 3}, {Field: 2, Op: api.Below, Value: 5}}, Verdict: api.Kill},
			{Conds: []api.Cond{{Field: 1, Op: api.Isnt, Value: 0}}, Verdict: api.Log},
		},
		Default: api.Allow,
	}
}

func withCond(c api.Cond) api.Policy {
	return api.Policy{Rules: []api.Rule{{Conds: []api.Cond{c}, Verdict: api.Trap}}, Default: api.Allow}
}

// longest has the longest text of all: as many rules and conditions as may be, of the longest words.
func longest() api.Policy {
	p := api.Policy{Default: api.Allow}
	for range api.MaxRules {
		r := api.Rule{Verdict: api.Allow}
		for i := range api.MaxConds {
			r.Conds = append(r.Conds, api.Cond{Field: 2 + i%3, Op: 1 + i%4, Value: api.MaxArg - i})
		}
		p.Rules = append(p.Rules, r)
	}
	return p
}

// wantText: a policy is printed as s, and s is read as the policy.
func wantText(t *testing.T, p api.Policy, s string) {
	t.Helper()
	if got, e := Print(p); got != s || e != api.OK {
		t.Errorf("Print(%v) = %q, %d, want %q", p, got, e, s)
	}
	if got, e := Parse(s); !policy.Same(got, p) || e != api.OK {
		t.Errorf("Parse(%q) = %v, %d, want %v", s, got, e, p)
	}
}

// wantRefused: the text is refused, and nothing but the error is answered.
func wantRefused(t *testing.T, s string, want api.Errno) {
	t.Helper()
	shown := s
	if len(shown) > 60 {
		shown = shown[:60] + ".."
	}
	p, e := Parse(s)
	if e != want {
		t.Errorf("Parse(%q) answers error %d, want %d", shown, e, want)
	}
	if p.Rules != nil || p.Default != 0 {
		t.Errorf("Parse(%q) answers %v beside the error", shown, p)
	}
}

func wantNotPrinted(t *testing.T, what string, p api.Policy, want api.Errno) {
	t.Helper()
	if s, e := Print(p); s != "" || e != want {
		t.Errorf("%s: Print = %q, %d, want error %d alone", what, s, e, want)
	}
}

func TestOrdinaryPolicies(t *testing.T) {
	wantText(t, sample(), sampleText)
	wantText(t, api.Policy{}, "kill")
	wantText(t, api.Policy{Rules: []api.Rule{{}, {Verdict: api.Fail}}, Default: api.Log}, "kill;fail;log")
	wantText(t, api.Policy{
		Rules: []api.Rule{
			{Verdict: api.Trap},
			{Conds: []api.Cond{{Field: 3, Op: api.From, Value: 7}, {Field: 4, Op: api.Isnt, Value: 1}, {Field: 1, Op: api.Is, Value: 2}}, Verdict: api.Fail},
			{Conds: []api.Cond{{Field: 4, Op: api.Below, Value: 65535}, {Field: 4, Op: api.Below, Value: 65535}}, Verdict: api.Allow},
		},
		Default: api.Log,
	}, "trap;fail b>7 c!1 kind=2;allow c<65535 c<65535;log")
}

func TestEachVerdict(t *testing.T) {
	for v, name := range []string{"kill", "trap", "fail", "log", "allow"} {
		wantText(t, api.Policy{Default: v}, name)
		wantText(t, api.Policy{Rules: []api.Rule{{Verdict: v}}, Default: 4 - v}, name+";"+[]string{"allow", "log", "fail", "trap", "kill"}[v])
	}
}

func TestEachFieldAndOperation(t *testing.T) {
	mosts := []int{63, 3, 65535, 65535, 65535}
	for field, name := range []string{"nr", "kind", "a", "b", "c"} {
		for i, op := range []int{api.Is, api.Isnt, api.Below, api.From} {
			for _, value := range []int{0, 1, mosts[field]} {
				s := "trap " + name + []string{"=", "!", "<", ">"}[i] + strconv.Itoa(value) + ";allow"
				wantText(t, withCond(api.Cond{Field: field, Op: op, Value: value}), s)
			}
		}
	}
}

func TestNamesThatAreNot(t *testing.T) {
	for _, name := range []string{"", "stop", "Kill", "KILL", "kil", "killl", "k", "0", "4", "killtrap", "kill=", "kill:", "\x00kill", "kill\x00", "кill", "errno"} {
		wantRefused(t, name, api.ErrText)
		wantRefused(t, name+";allow", api.ErrText)
		wantRefused(t, name+" nr=3;allow", api.ErrText)
		wantRefused(t, "trap;"+name, api.ErrText)
	}
	for _, name := range []string{"", "d", "A", "NR", "n", "r", "nrr", "kin", "kinds", "ab", "aa", "0", "2", "-a", "arg", "а", "a\x00", "kill"} {
		wantRefused(t, "kill "+name+"=3;allow", api.ErrText)
		wantRefused(t, "kill a=1 "+name+"<3;allow", api.ErrText)
	}
	for _, op := range []string{"", "==", "!=", "<=", ">=", "=<", "<>", "~", "?", ":", "-=", "is", "\"", ";", "\xff"} {
		wantRefused(t, "kill a"+op+"3;allow", api.ErrText)
		wantRefused(t, "kill a"+op+";allow", api.ErrText)
		wantRefused(t, "kill a"+op+"0;allow", api.ErrText)
	}
}

func TestNumbersThatAreNot(t *testing.T) {
	for _, number := range []string{
		"", "-", "+", "--1", "-+1", "+3", "+0", "-0", "00", "03", "-03", "0000000000000000000003",
		"3.", "3.0", ".3", "3e1", "0x3", "0b1", "0o7", "1_0", "3a", "a3", "x", "３", "٣", "3\x00", "\xff",
		"9223372036854775808", "-9223372036854775809", "99999999999999999999", "18446744073709551619", strings.Repeat("9", 5000),
	} {
		for _, before := range []string{"nr=", "kind!", "a<", "b>", "c="} {
			wantRefused(t, "kill "+before+number+";allow", api.ErrText)
		}
	}
}

func TestNumber(t *testing.T) {
	for _, want := range []int{0, 1, 9, 10, 63, 65535, -1, -10, math.MaxInt, math.MinInt} {
		if got, ok := Number(strconv.Itoa(want)); got != want || !ok {
			t.Errorf("Number of %d = %d, %v", want, got, ok)
		}
	}
	for _, s := range []string{
		"", " ", "-", "+3", "-0", "00", "03", "-03", " 3", "3 ", "3\n", "3;", "3.0", "0x3", "1_0", "a",
		"9223372036854775808", "-9223372036854775809", strings.Repeat("9", 5000),
	} {
		if got, ok := Number(s); got != 0 || ok {
			t.Errorf("Number(%q) = %d, %v, want 0, false", s, got, ok)
		}
	}
}

// Numbers may be any, as they are written: it is Check that says which are too great.
func TestNumbersThatMayNotBe(t *testing.T) {
	for field, numbers := range map[string][]int{
		"nr":   {64, 100, 65535, -1, math.MinInt, math.MaxInt},
		"kind": {4, 63, -1, -3, math.MinInt, math.MaxInt},
		"a":    {65536, 100000, -1, -65535, math.MinInt, math.MaxInt},
		"b":    {65536, -1},
		"c":    {65536, -1},
	} {
		for _, number := range numbers {
			wantRefused(t, "kill "+field+"="+strconv.Itoa(number)+";allow", api.ErrRange)
			wantRefused(t, "kill;trap b=3 "+field+">"+strconv.Itoa(number)+";log", api.ErrRange)
		}
	}
}

func TestBlanksAndSemicolons(t *testing.T) {
	for _, s := range []string{
		" ", ";", ";;", "; ", " kill", "kill ", "\tkill", "kill\n", "kill\r\n", ";kill", "kill;", "kill;;", "kill;;allow", ";kill;allow", "kill;allow;",
		"kill; allow", "kill ;allow", "kill;allow ", " kill;allow", "kill allow", "kill,allow", "kill\nallow", "killallow",
		"kill  nr=3;allow", "kill nr=3 ;allow", "kill nr=3  a=1;allow", "kill\tnr=3;allow", "kill\u00a0nr=3;allow", "killnr=3;allow", "kill nr=3a=1;allow",
		"kill nr =3;allow", "kill nr= 3;allow", "kill n r=3;allow", "kill nr=3;;allow", "kill nr=3; ;allow", "kill;nr=3;allow", "nr=3;allow", "nr=3 kill;allow", " nr=3;allow",
	} {
		wantRefused(t, s, api.ErrText)
	}
}

func TestDefault(t *testing.T) {
	for _, s := range []string{"", "kill nr=3", "allow a<5", "kill nr=3;allow a<5", "kill;allow nr=3 a=1", "kill nr=3;", "kill nr=3 a<5;log kind!0;", "kill;trap;log;", "kill;nr=3", "kill;3", "kill;allow=3", "kill nr=3;stop"} {
		wantRefused(t, s, api.ErrText)
	}
}

func TestBytesThatAreNoLetters(t *testing.T) {
	for b := range 256 {
		if strings.IndexByte("abcdefghijklmnopqrstuvwxyz0123456789 ;=!<>-", byte(b)) >= 0 {
			continue
		}
		c := string([]byte{byte(b)})
		for at := range len(sampleText) + 1 {
			wantRefused(t, sampleText[:at]+c+sampleText[at:], api.ErrText)
		}
		wantRefused(t, c, api.ErrText)
	}
	wantRefused(t, "\xef\xbb\xbf"+sampleText, api.ErrText)
}

func TestAsManyAsMayBe(t *testing.T) {
	s, e := Print(longest())
	if e != api.OK || len(s) != 120*(5+10*8+1)+5 {
		t.Fatalf("Print of the longest: %d bytes, %d", len(s), e)
	}
	wantText(t, longest(), s)
	wantText(t, api.Policy{Rules: make([]api.Rule, 120)}, strings.Repeat("kill;", 120)+"kill")
	wantRefused(t, strings.Repeat("kill;", 121)+"kill", api.ErrMany)
	wantRefused(t, "allow;"+s, api.ErrMany)
	p := withCond(api.Cond{Op: api.Is, Value: 7})
	for len(p.Rules[0].Conds) < 10 {
		p.Rules[0].Conds = append(p.Rules[0].Conds, p.Rules[0].Conds[0])
	}
	wantText(t, p, "trap"+strings.Repeat(" nr=7", 10)+";allow")
	wantRefused(t, "trap"+strings.Repeat(" nr=7", 11)+";allow", api.ErrMany)
	wantRefused(t, "kill;trap"+strings.Repeat(" nr=7", 3000)+";allow", api.ErrMany)
}

// What is wrong with how a text is written is told ahead of what it says, wherever it stands; how long it is, ahead of both.
func TestWhichErrorIsTold(t *testing.T) {
	many := strings.Repeat("kill;", 121)
	wantRefused(t, many+"stop", api.ErrText)
	wantRefused(t, many, api.ErrText)
	wantRefused(t, "kill nr=64;stop", api.ErrText)
	wantRefused(t, "kill nr=64 a=03;allow", api.ErrText)
	wantRefused(t, "kill nr=64"+strings.Repeat(" nr=7", 10)+";allow", api.ErrMany)
	wantRefused(t, "kill nr=64;trap"+strings.Repeat(" nr=7", 11)+";allow", api.ErrRange)
	wantRefused(t, "kill nr=64;"+many+"allow", api.ErrMany)

	rules := strings.Repeat("kill;", 11999)
	wantRefused(t, rules+"allow", api.ErrMany)
	wantRefused(t, rules+"stop!", api.ErrText)
	wantRefused(t, rules+"stop!!", api.ErrMany)
	wantRefused(t, strings.Repeat(" ", 60000), api.ErrText)
	wantRefused(t, strings.Repeat(" ", 60001), api.ErrMany)
	wantRefused(t, strings.Repeat(";", 60000), api.ErrText)
	wantRefused(t, "kill nr="+strings.Repeat("0", 70000)+";allow", api.ErrMany)
}

func TestWrongPoliciesAreNotPrinted(t *testing.T) {
	wantNotPrinted(t, "too many rules", api.Policy{Rules: make([]api.Rule, 121)}, api.ErrMany)
	wantNotPrinted(t, "too many conditions", api.Policy{Rules: []api.Rule{{}, {Conds: make([]api.Cond, 11)}}}, api.ErrMany)
	for _, wrong := range []int{-1, 5, math.MinInt, math.MaxInt} {
		wantNotPrinted(t, "Default", api.Policy{Default: wrong}, api.ErrRange)
		wantNotPrinted(t, "Verdict", api.Policy{Rules: []api.Rule{{Verdict: wrong}}}, api.ErrRange)
		wantNotPrinted(t, "Field", withCond(api.Cond{Field: wrong, Op: api.Is}), api.ErrWho)
		wantNotPrinted(t, "Op", withCond(api.Cond{Op: wrong}), api.ErrForm)
	}
	wantNotPrinted(t, "no Op", withCond(api.Cond{}), api.ErrForm)
	for field, most := range []int{63, 3, 65535, 65535, 65535} {
		for _, wrong := range []int{-1, most + 1, math.MinInt, math.MaxInt} {
			wantNotPrinted(t, "Value", withCond(api.Cond{Field: field, Op: api.From, Value: wrong}), api.ErrRange)
		}
	}
	wantNotPrinted(t, "several", api.Policy{Default: 9, Rules: []api.Rule{{Conds: make([]api.Cond, 11)}}}, api.ErrRange)
}

// written is the document's form, told by another means than the program's.
var written = regexp.MustCompile(`^((kill|trap|fail|log|allow)( (nr|kind|a|b|c)[=!<>](0|-?[1-9][0-9]*))*;)*(kill|trap|fail|log|allow)$`)

// Each text that is one byte away from a right one is read if it has the form, and is then printed as it was.
func TestTextsThatAreOneByteAway(t *testing.T) {
	try := func(s string) {
		p, e := Parse(s)
		if written.MatchString(s) != (e != api.ErrText) {
			t.Errorf("Parse(%q) answers error %d", s, e)
		}
		if e != api.OK {
			return
		}
		if again, e := Print(p); again != s || e != api.OK {
			t.Errorf("%q is read, but printed as %q, %d", s, again, e)
		}
	}
	const alphabet = "kiltrapfogwnbdc =!<>;-+_0123456789.KA\x00\t\n\xc3"
	for _, s := range []string{sampleText, "trap;fail b>7 c!10 kind=2;log", "allow a<60000 nr!0;kill;trap", "kill", ""} {
		for at := range len(s) + 1 {
			for _, c := range []byte(alphabet) {
				try(s[:at] + string([]byte{c}) + s[at:])
				if at < len(s) {
					try(s[:at] + string([]byte{c}) + s[at+1:])
				}
			}
			try(s[:at])
			try(s[at:])
			if at < len(s) {
				try(s[:at] + s[at+1:])
			}
		}
	}
}

// P3.2, of policies of every shape: counts, verdicts, fields, operations and values go round at different speeds.
func TestParseOfPrintIsThePolicy(t *testing.T) {
	mosts := []int{63, 3, 65535, 65535, 65535}
	seed := 1
	next := func(n int) int {
		seed = (seed*1103515245 + 12345) % (1 << 31)
		return seed / 7 % n
	}
	for range 500 {
		p := api.Policy{Default: next(5)}
		for range next(8) {
			r := api.Rule{Verdict: next(5)}
			for range next(11) {
				field := next(5)
				r.Conds = append(r.Conds, api.Cond{Field: field, Op: 1 + next(4), Value: next(mosts[field] + 1)})
			}
			p.Rules = append(p.Rules, r)
		}
		s, e := Print(p)
		if e != api.OK || !written.MatchString(s) {
			t.Fatalf("Print(%v) = %q, %d", p, s, e)
		}
		wantText(t, p, s)
	}
}

func TestNothingIsChanged(t *testing.T) {
	spare := api.Rule{Verdict: 9}
	p := sample()
	p.Rules = append(p.Rules, spare)[:2]
	Print(p)
	if !reflect.DeepEqual(p, sample()) || !reflect.DeepEqual(p.Rules[:3][2], spare) {
		t.Errorf("what was handed in is %v now", p.Rules[:3])
	}
}

// What is added behind one list of an answer, or changed in it, is seen in no other list and in no other answer.
func TestAnswersShareNothing(t *testing.T) {
	p, _ := Parse(sampleText)
	other, _ := Parse(sampleText)
	for i := range p.Rules {
		p.Rules[i].Conds = append(p.Rules[i].Conds, api.Cond{Field: 4, Op: api.From, Value: 9})
	}
	wantText(t, p, "kill nr=3 a<5 c>9;log kind!0 c>9;allow")
	if !policy.Same(other, sample()) {
		t.Errorf("another answer is %v now", other)
	}
}
