package disk

import (
	"bytes"
	"math"
	"math/rand"
	"reflect"
	"slices"
	"strings"
	"testing"

	"turnkey/api"
	"turnkey/note"
	"turnkey/text"
)

const sampleText = "kill nr=3 a<5;log kind!0;allow"

func shut(cell int) api.Rec { return api.Rec{Kind: api.RShut, Cell: cell} }

func fork(cell, from int) api.Rec { return api.Rec{Kind: api.RFork, Cell: cell, From: from} }

// sample is what sampleText says, made anew, so that a test may change it.
func sample() api.Policy {
	p, _ := text.Parse(sampleText)
	return p
}

// disk of two texts.
func disk(safe, wait string) api.Disk {
	return api.Disk{Safe: []byte(safe), Wait: []byte(wait)}
}

// lines has n right lines.
func lines(n int) string { return strings.Repeat("shut 2\n", n) }

// longPolicy has the longest text of all policies: a disk has room for five records of it, and no more.
func longPolicy() api.Policy {
	p := api.Policy{Default: api.Allow}
	for range 120 {
		r := api.Rule{Verdict: api.Allow}
		for i := range 10 {
			r.Conds = append(r.Conds, api.Cond{Field: 2 + i%3, Op: 1 + i%4, Value: 65535 - i})
		}
		p.Rules = append(p.Rules, r)
	}
	return p
}

func printed(t *testing.T, l ...api.Rec) string {
	t.Helper()
	var b strings.Builder
	for _, r := range l {
		s, e := note.Print(r)
		if e != api.OK {
			t.Fatalf("Print(%v): error %d", r, e)
		}
		b.WriteString(s + "\n")
	}
	return b.String()
}

func short(d api.Disk) string {
	cut := func(b []byte) string {
		if len(b) > 300 {
			return string(b[:300]) + ".."
		}
		return string(b)
	}
	return "{" + cut(d.Safe) + "|" + cut(d.Wait) + "}"
}

func wantCheck(t *testing.T, what string, d api.Disk, want api.Errno) {
	t.Helper()
	if got := Check(d); got != want {
		t.Errorf("%s: Check(%q) = %d, want %d", what, short(d), got, want)
	}
}

// wantDisk: an answer is this disk, without an error; and it is a right one.
func wantDisk(t *testing.T, what string, got api.Disk, e api.Errno, safe, wait string) {
	t.Helper()
	if e != api.OK || string(got.Safe) != safe || string(got.Wait) != wait {
		t.Errorf("%s: %q, %d, want %q", what, short(got), e, short(disk(safe, wait)))
	}
	wantCheck(t, what, got, api.OK)
}

// wantNone: an answer is this error, and zero beside it.
func wantNone(t *testing.T, what string, got api.Disk, e, want api.Errno) {
	t.Helper()
	if e != want || got.Safe != nil || got.Wait != nil {
		t.Errorf("%s: %q, %d, want error %d alone", what, short(got), e, want)
	}
}

// wantWrong: Check tells this error, and all others tell it first, ahead of what is wrong beside it.
func wantWrong(t *testing.T, what string, d api.Disk, want api.Errno) {
	t.Helper()
	wantCheck(t, what, d, want)
	for _, r := range []api.Rec{shut(2), {}, {Kind: api.ROpen, Cell: 4}, {Kind: api.ROpen, P: longPolicy()}} {
		got, e := Put(d, r)
		wantNone(t, what+": Put", got, e, want)
	}
	for _, n := range []int{0, len(d.Wait), -1, len(d.Wait) + 1, math.MinInt, math.MaxInt} {
		got, e := Crash(d, n)
		wantNone(t, what+": Crash", got, e, want)
	}
	got, e := Sync(d)
	wantNone(t, what+": Sync", got, e, want)
	got, l, e := Recover(d)
	wantNone(t, what+": Recover", got, e, want)
	if l != nil {
		t.Errorf("%s: Recover answers %v beside the error", what, l)
	}
}

func wantRecords(t *testing.T, what string, got, want []api.Rec) {
	t.Helper()
	if !slices.EqualFunc(got, want, note.Same) {
		t.Errorf("%s: the records are %v, want %v", what, got, want)
	}
}

// wantRecover: this is safe then, nothing waits, and these are the records.
func wantRecover(t *testing.T, what string, d api.Disk, safe string, want ...api.Rec) {
	t.Helper()
	got, l, e := Recover(d)
	wantDisk(t, what, got, e, safe, "")
	wantRecords(t, what, l, want)
}

func TestRightDisks(t *testing.T) {
	wantCheck(t, "nothing", api.Disk{}, api.OK)
	wantCheck(t, "nothing, not nil", disk("", ""), api.OK)
	for _, safe := range []string{"", "shut 0\n", "open 1 " + sampleText + "\n", "tight 3 kill\nfork 1 2\n", lines(39), lines(40)} {
		for _, wait := range []string{"", "shut 0\n", "shut 0", "\n", "x\n", "x", lines(41), "\n\n\x00\xff", "shut 4\n"} {
			wantCheck(t, "right", disk(safe, wait), api.OK)
		}
	}
}

func TestHowManyBytes(t *testing.T) {
	for _, safe := range []string{"", "shut 0\n", lines(40)} {
		wantCheck(t, "as many", disk(safe, strings.Repeat("x", 60000-len(safe))), api.OK)
		wantCheck(t, "as many line feeds", disk(safe, strings.Repeat("\n", 60000-len(safe))), api.OK)
		wantWrong(t, "too many", disk(safe, strings.Repeat("x", 60001-len(safe))), api.ErrMany)
		wantWrong(t, "too many line feeds", disk(safe, strings.Repeat("\n", 60001-len(safe))), api.ErrMany)
	}
	// ahead of what is wrong with the lines
	for _, safe := range []string{"x\n", "shut 4\n", "shut 2", lines(41)} {
		wantWrong(t, "too many, and a wrong line", disk(safe, strings.Repeat("x", 60001-len(safe))), api.ErrMany)
	}
	wantWrong(t, "too many, all of them safe", disk(strings.Repeat("x", 60001), ""), api.ErrMany)
	wantWrong(t, "one torn line", disk(strings.Repeat("x", 60000), ""), api.ErrTorn)
	wantWrong(t, "one whole line", disk(strings.Repeat("x", 59999)+"\n", ""), api.ErrText)
	wantWrong(t, "empty lines", disk(strings.Repeat("\n", 60000), ""), api.ErrText)
}

func TestALineThatIsTorn(t *testing.T) {
	for _, ahead := range []string{"", "shut 1\n", lines(39), lines(40)} {
		for _, line := range []string{"shut 2", "s", "x", " ", "shut 4", "\r", "open 0 " + sampleText, "shut 2\r"} {
			wantWrong(t, "torn", disk(ahead+line, ""), api.ErrTorn)
			wantWrong(t, "torn, and the feed waits", disk(ahead+line, "\n"), api.ErrTorn)
		}
	}
	wantWrong(t, "torn behind too many", disk(lines(41)+"shut", ""), api.ErrMany)
}

func TestALineThatIsNoRecord(t *testing.T) {
	many := "open 0 " + strings.Repeat("kill;", 121) + "kill"
	for line, want := range map[string]api.Errno{
		"": api.ErrText, "x": api.ErrText, "shut": api.ErrText, "shut 02": api.ErrText, "shut 2 ": api.ErrText, " shut 2": api.ErrText, "shut 2\r": api.ErrText, "open 0 stop": api.ErrText, "shut 2;shut 2": api.ErrText, "\x00": api.ErrText,
		"shut 4": api.ErrRange, "fork 1 -1": api.ErrRange, "open 0 kill nr=64;log": api.ErrRange,
		many: api.ErrMany,
	} {
		for _, ahead := range []string{"", "shut 1\n", lines(39), lines(40)} {
			wantWrong(t, "the last one", disk(ahead+line+"\n", ""), want)
			wantWrong(t, "and a right one", disk(ahead+line+"\nshut 1\n", ""), want)
			wantWrong(t, "and a torn one", disk(ahead+line+"\nshut 1", ""), want)
			wantWrong(t, "and too many", disk(ahead+line+"\n"+lines(50), ""), want)
			wantWrong(t, "and an other one", disk(ahead+line+"\nfork 9 9\n\n", "shut 1\n"), want)
		}
		// what waits may be anything
		wantCheck(t, "it waits", disk(lines(3), line+"\n"), api.OK)
	}
}

func TestHowManyLines(t *testing.T) {
	for n := range 50 {
		if n <= 40 {
			wantCheck(t, "as many", disk(lines(n), lines(41)), api.OK)
			continue
		}
		wantWrong(t, "too many", disk(lines(n), ""), api.ErrMany)
		wantWrong(t, "too many, and something waits", disk(lines(n), "x"), api.ErrMany)
	}
	// of the 41st line this is told last, and none behind it is looked at
	wantWrong(t, "the 41st is torn", disk(lines(40)+"shut 2", ""), api.ErrTorn)
	wantWrong(t, "the 41st is no record", disk(lines(40)+"x\n", ""), api.ErrText)
	wantWrong(t, "the 41st is no right record", disk(lines(40)+"shut 4\n", ""), api.ErrRange)
	wantWrong(t, "the 42nd is no record", disk(lines(41)+"x\n", ""), api.ErrMany)
	wantWrong(t, "the 40th is no record", disk(lines(39)+"x\n"+lines(2), ""), api.ErrText)
}

func TestSame(t *testing.T) {
	for _, pair := range [][2]string{{"", ""}, {"shut 2\n", "x"}, {"x", "shut 2"}, {lines(50), strings.Repeat("x", 70000)}} {
		a, b := disk(pair[0], pair[1]), disk(pair[0], pair[1])
		if !Same(a, b) || !Same(a, Copy(b)) {
			t.Errorf("%q: not like one made anew", short(a))
		}
		for _, other := range []api.Disk{disk(pair[0]+"x", pair[1]), disk(pair[0], pair[1]+"x"), disk(pair[0], pair[1]+"\x00"), disk("y"+pair[0], pair[1]), disk(pair[0]+"y", pair[1]+"y")} {
			if Same(a, other) || Same(other, a) {
				t.Errorf("%q is like %q", short(a), short(other))
			}
		}
	}
	if !Same(api.Disk{}, disk("", "")) || !Same(disk("", ""), api.Disk{}) {
		t.Error("nil isn't like empty")
	}
	for at := range 3 {
		changed := []byte("abc")
		changed[at] = 'x'
		if Same(api.Disk{Safe: changed}, disk("abc", "")) || Same(disk("", "abc"), api.Disk{Wait: changed}) {
			t.Errorf("byte %d isn't looked at", at)
		}
	}
	if Same(disk("x", ""), disk("", "x")) || Same(disk("ab", "c"), disk("a", "bc")) || Same(disk("a", "b"), disk("b", "a")) {
		t.Error("it isn't told what is safe and what waits")
	}
	if room := []byte("abc"); !Same(api.Disk{Safe: room[:1]}, api.Disk{Safe: []byte("a")}) {
		t.Error("the room behind counts")
	}
}

func TestPut(t *testing.T) {
	open := api.Rec{Kind: api.ROpen, Cell: 1, P: sample()}
	tight := api.Rec{Kind: api.RTight, Cell: 3, P: api.Policy{Default: api.Trap}}
	for _, safe := range []string{"", "shut 0\n", lines(40)} {
		for _, wait := range []string{"", "shut 0\n", "shut", "x\n", lines(45)} {
			for line, r := range map[string]api.Rec{"shut 2\n": shut(2), "fork 1 0\n": fork(1, 0), "open 1 " + sampleText + "\n": open, "tight 3 trap\n": tight} {
				got, e := Put(disk(safe, wait), r)
				wantDisk(t, "Put", got, e, safe, wait+line)
			}
		}
	}
}

func TestPutOfNoRecord(t *testing.T) {
	wrong := map[api.Errno][]api.Rec{
		api.ErrForm:  {{}, {Kind: 5}, {Kind: -1}, {Kind: api.RShut, From: 1}, {Kind: api.RShut, P: sample()}, {Kind: api.RFork, P: sample()}},
		api.ErrRange: {{Kind: api.RShut, Cell: 4}, {Kind: api.RFork, From: -1}, {Kind: api.ROpen, P: api.Policy{Default: 5}}},
		api.ErrMany:  {{Kind: api.RTight, P: api.Policy{Rules: make([]api.Rule, 121)}}},
		api.ErrWho:   {{Kind: api.ROpen, P: api.Policy{Rules: []api.Rule{{Conds: []api.Cond{{Field: 5, Op: 1}}}}}}},
	}
	for want, l := range wrong {
		for _, r := range l {
			// the record is told ahead of how many bytes there would be
			for _, d := range []api.Disk{{}, disk(lines(3), "x"), disk("", strings.Repeat("x", 60000))} {
				got, e := Put(d, r)
				wantNone(t, "no record", got, e, want)
			}
		}
	}
}

func TestPutOfTooManyBytes(t *testing.T) {
	long := api.Rec{Kind: api.ROpen, Cell: 3, P: longPolicy()}
	for _, r := range []api.Rec{shut(2), fork(1, 2), long} {
		line := printed(t, r)
		for _, safe := range []string{"", "shut 1\n", lines(40)} {
			room := 60000 - len(safe) - len(line)
			for _, less := range []int{0, 1, 2} {
				wait := strings.Repeat("x", room-less)
				got, e := Put(disk(safe, wait), r)
				wantDisk(t, "as many", got, e, safe, wait+line)
			}
			for _, more := range []int{1, 2, len(line)} {
				got, e := Put(disk(safe, strings.Repeat("x", room+more)), r)
				wantNone(t, "too many", got, e, api.ErrMany)
			}
		}
	}
	// the bytes that are safe count, too
	line := printed(t, long)
	for safe := range 6 {
		d := disk(strings.Repeat(line, safe), strings.Repeat(line, 5-safe))
		got, e := Put(d, long)
		wantNone(t, "some are safe", got, e, api.ErrMany)
		got, e = Put(d, shut(2))
		wantDisk(t, "a short one", got, e, string(d.Safe), string(d.Wait)+"shut 2\n")
	}
}

func TestSync(t *testing.T) {
	for _, safe := range []string{"", "shut 0\n", lines(30)} {
		for _, wait := range []string{"", "shut 1\n", "open 1 " + sampleText + "\nfork 2 1\n", lines(10)} {
			got, e := Sync(disk(safe, wait))
			wantDisk(t, "Sync", got, e, safe+wait, "")
		}
	}
	got, e := Sync(api.Disk{})
	wantDisk(t, "nothing", got, e, "", "")
}

func TestSyncOfWhatIsWrong(t *testing.T) {
	for wait, want := range map[string]api.Errno{
		"x": api.ErrTorn, "shut 2": api.ErrTorn, "shut 2\nshut 2": api.ErrTorn, strings.Repeat("x", 59000): api.ErrTorn,
		"\n": api.ErrText, "x\n": api.ErrText, "x\nshut 2": api.ErrText, "shut 2\n\n": api.ErrText, "x\n" + lines(41): api.ErrText,
		"shut 4\n": api.ErrRange, "shut 2\nshut -1\nx": api.ErrRange,
		lines(41): api.ErrMany, lines(41) + "x": api.ErrMany, lines(41) + "x\n": api.ErrMany,
	} {
		for _, safe := range []string{"", "shut 0\n", lines(40)} {
			got, e := Sync(disk(safe, wait))
			if safe == lines(40) && strings.HasPrefix(wait, "shut 2\n") {
				// what is the 41st line then is a right one: those behind it aren't looked at
				wantNone(t, "too many", got, e, api.ErrMany)
				continue
			}
			wantNone(t, "what waits is wrong", got, e, want)
		}
	}
	for n := range 41 {
		got, e := Sync(disk(lines(n), lines(40-n)))
		wantDisk(t, "as many in all", got, e, lines(40), "")
		got, e = Sync(disk(lines(n), lines(41-n)))
		wantNone(t, "too many in all", got, e, api.ErrMany)
	}
}

func TestCrash(t *testing.T) {
	for _, safe := range []string{"", "shut 0\n", lines(40)} {
		for _, wait := range []string{"", "x", "shut 1\nshut 2\n", lines(41), "\x00\n\xff\n\n"} {
			for n := range len(wait) + 1 {
				got, e := Crash(disk(safe, wait), n)
				wantDisk(t, "Crash", got, e, safe, wait[:n])
			}
			for _, n := range []int{-1, -2, math.MinInt, len(wait) + 1, len(wait) + 2, len(safe) + len(wait) + 1, math.MaxInt} {
				got, e := Crash(disk(safe, wait), n)
				wantNone(t, "no such number", got, e, api.ErrRange)
			}
		}
	}
	// the room behind what waits is none of it
	room := []byte("shut 1\nshut 2\n")
	got, e := Crash(api.Disk{Wait: room[:7]}, 8)
	wantNone(t, "the room behind", got, e, api.ErrRange)
	got, e = Crash(api.Disk{Wait: room[:7]}, 7)
	wantDisk(t, "all", got, e, "", "shut 1\n")
}

func TestRecover(t *testing.T) {
	open := api.Rec{Kind: api.ROpen, Cell: 1, P: sample()}
	safe := "open 1 " + sampleText + "\n"
	wantRecover(t, "nothing", api.Disk{}, "")
	wantRecover(t, "nothing, not nil", disk("", ""), "")
	wantRecover(t, "nothing waits", disk(safe, ""), safe, open)
	wantRecover(t, "a line waits", disk(safe, "fork 2 1\n"), safe+"fork 2 1\n", open, fork(2, 1))
	wantRecover(t, "a line and a torn one", disk(safe, "fork 2 1\nshut 1"), safe+"fork 2 1\n", open, fork(2, 1))
	wantRecover(t, "a torn line", disk(safe, "fork 2 1"), safe, open)
	wantRecover(t, "nothing is safe", disk("", safe+"shut 1\n"), safe+"shut 1\n", open, shut(1))
	wantRecover(t, "out of turn", disk("shut 1\n", "shut 1\nshut 1\n"), strings.Repeat("shut 1\n", 3), shut(1), shut(1), shut(1))
}

// A line that can't be read ends it: none behind it is kept.
func TestRecoverEndsAtALineThatIsNone(t *testing.T) {
	for _, line := range []string{"", "x", "shut", "shut 4", "shut 02", "shut 1 ", "shut 1\r", "open 0 stop", "open 0 kill nr=64;log", "open 0 " + strings.Repeat("kill;", 121) + "kill", "\x00"} {
		for _, behind := range []string{"", "shut 3\n", "shut 3", "\n"} {
			wantRecover(t, "the first one", disk("", line+"\n"+behind), "")
			wantRecover(t, "the first that waits", disk("shut 0\n", line+"\n"+behind), "shut 0\n", shut(0))
			wantRecover(t, "behind a right one", disk("shut 0\n", "shut 1\n"+line+"\n"+behind), "shut 0\nshut 1\n", shut(0), shut(1))
		}
	}
	wantRecover(t, "as many bytes as may be", disk("shut 0\n", strings.Repeat("\n", 59993)), "shut 0\n", shut(0))
	wantRecover(t, "one line of as many bytes", disk("shut 0\n", strings.Repeat("x", 59992)+"\n"), "shut 0\n", shut(0))
}

// A line is whole by its line feed alone: that a record could be read without it doesn't count.
func TestRecoverOfEachBeginning(t *testing.T) {
	l := []api.Rec{{Kind: api.ROpen, Cell: 2, P: sample()}, fork(1, 2), {Kind: api.RTight, Cell: 2, P: api.Policy{}}, shut(2)}
	wait := printed(t, l...)
	for n := range len(wait) + 1 {
		d, e := Crash(disk("shut 0\n", wait), n)
		if e != api.OK {
			t.Fatalf("Crash at %d: error %d", n, e)
		}
		whole := strings.Count(wait[:n], "\n")
		wantRecover(t, "a beginning", d, "shut 0\n"+printed(t, l[:whole]...), append([]api.Rec{shut(0)}, l[:whole]...)...)
	}
}

func TestRecoverOfTooManyLines(t *testing.T) {
	for n := range 41 {
		for _, waiting := range []int{0, 1, 39 - n, 40 - n, 41 - n, 40, 41, 200} {
			waiting = max(waiting, 0)
			all := min(n+waiting, 40)
			wantRecover(t, "lines", disk(lines(n), lines(waiting)), lines(all), slices.Repeat([]api.Rec{shut(2)}, all)...)
			wantRecover(t, "lines and a torn one", disk(lines(n), lines(waiting)+"shut 2"), lines(all), slices.Repeat([]api.Rec{shut(2)}, all)...)
			wantRecover(t, "lines and none", disk(lines(n), lines(waiting)+"x\n"+lines(50)), lines(all), slices.Repeat([]api.Rec{shut(2)}, all)...)
		}
	}
}

func TestTheGreatestDisk(t *testing.T) {
	long := api.Rec{Kind: api.ROpen, Cell: 3, P: longPolicy()}
	l := []api.Rec{long, long, long, long, long}
	s := printed(t, l...)
	wantRecover(t, "all wait", disk("", s), s, l...)
	wantRecover(t, "some wait", disk(printed(t, l[:2]...), printed(t, l[2:]...)), s, l...)
	got, e := Sync(disk("", s))
	wantDisk(t, "synced", got, e, s, "")
}

// found answers what the document says is wrong with a disk, by other means than the program's.
func found(d api.Disk) api.Errno {
	if len(d.Safe)+len(d.Wait) > 60000 {
		return api.ErrMany
	}
	for at, line := range strings.SplitAfter(string(d.Safe), "\n") {
		if line == "" {
			break
		}
		if !strings.HasSuffix(line, "\n") {
			return api.ErrTorn
		}
		if _, e := note.Parse(line[:len(line)-1]); e != api.OK {
			return e
		}
		if at >= 40 {
			return api.ErrMany
		}
	}
	return api.OK
}

// left answers what the document says is safe when a right disk was recovered.
func left(d api.Disk) string {
	safe := string(d.Safe)
	for at, line := range strings.SplitAfter(string(d.Wait), "\n") {
		_, e := note.Parse(strings.TrimSuffix(line, "\n"))
		if e != api.OK || !strings.HasSuffix(line, "\n") || at+strings.Count(string(d.Safe), "\n") >= 40 {
			break
		}
		safe += line
	}
	return safe
}

// anyRecord answers a right record, or now and then a wrong one.
func anyRecord(r *rand.Rand) api.Rec {
	x := api.Rec{Kind: 1 + r.Intn(4), Cell: r.Intn(4)}
	switch {
	case r.Intn(20) == 0:
		x.Cell = 4
	case x.Kind == api.RFork:
		x.From = r.Intn(4)
	case x.Kind != api.RShut:
		x.P.Default = r.Intn(5)
		for range r.Intn(3) {
			x.P.Rules = append(x.P.Rules, api.Rule{Verdict: r.Intn(5), Conds: []api.Cond{{Field: r.Intn(5), Op: 1 + r.Intn(4), Value: r.Intn(4)}}})
		}
	}
	return x
}

// anyText has pieces of lines, whole ones most of all.
func anyText(r *rand.Rand, most int) string {
	pieces := []string{"shut 2\n", "fork 1 0\n", "open 1 " + sampleText + "\n", "tight 3 log a>7;kill\n", "shut 4\n", "\n", "x", "shut", " 2\n", "\x00", lines(20), strings.Repeat("x", 30000)}
	var b strings.Builder
	for range r.Intn(most + 1) {
		at := r.Intn(4)
		if r.Intn(12) == 0 {
			at = r.Intn(len(pieces))
		}
		b.WriteString(pieces[at])
	}
	return b.String()
}

// Whatever a disk has, each call answers what the document says.
func TestAnything(t *testing.T) {
	r := rand.New(rand.NewSource(11))
	seen := map[api.Errno]int{}
	for range 6000 {
		d := disk(anyText(r, 8), anyText(r, 8))
		if r.Intn(10) == 0 {
			d = disk(anyText(r, 60), anyText(r, 60))
		}
		want := found(d)
		seen[want]++
		if want != api.OK {
			wantWrong(t, "any", d, want)
			continue
		}
		wantCheck(t, "any", d, api.OK)
		synced, e := Sync(d)
		if want := found(disk(string(d.Safe)+string(d.Wait), "")); want != api.OK {
			wantNone(t, "any", synced, e, want)
		} else {
			wantDisk(t, "any", synced, e, string(d.Safe)+string(d.Wait), "")
		}
		safe := left(d)
		var l []api.Rec
		for line := range strings.Lines(safe) {
			x, _ := note.Parse(strings.TrimSuffix(line, "\n"))
			l = append(l, x)
		}
		wantRecover(t, "any", d, safe, l...)
	}
	for e, least := range map[api.Errno]int{api.OK: 1000, api.ErrTorn: 100, api.ErrText: 100, api.ErrRange: 50, api.ErrMany: 50} {
		if seen[e] < least {
			t.Errorf("only %d disks with %d", seen[e], e)
		}
	}
}

// P11.3: a log is written, and crashes again and again; what was synced is there, and of what wasn't a beginning.
func TestWhatWasSyncedIsThere(t *testing.T) {
	r := rand.New(rand.NewSource(111))
	crashes, kept, lost := 0, 0, 0
	for range 1500 {
		var d api.Disk
		var synced, waiting []api.Rec
		for range 30 {
			switch r.Intn(6) {
			case 0:
				after, e := Sync(d)
				if len(synced)+len(waiting) > 40 {
					wantNone(t, "too many", after, e, api.ErrMany)
					continue
				}
				synced, waiting = append(synced, waiting...), nil
				wantDisk(t, "synced", after, e, printed(t, synced...), "")
				d = after
			case 1:
				torn, e := Crash(d, r.Intn(len(d.Wait)+1))
				wantDisk(t, "torn", torn, e, string(d.Safe), string(d.Wait[:len(torn.Wait)]))
				after, l, e := Recover(torn)
				if e != api.OK || len(l) < len(synced) || len(l) > len(synced)+len(waiting) {
					t.Fatalf("recovered: %d records, %d, of %d and %d", len(l), e, len(synced), len(waiting))
				}
				crashes, kept, lost = crashes+1, kept+len(l)-len(synced), lost+len(synced)+len(waiting)-len(l)
				all := append(slices.Clone(synced), waiting...)
				wantRecords(t, "recovered", l, all[:len(l)])
				synced, waiting = all[:len(l):len(l)], nil
				wantDisk(t, "recovered", after, e, printed(t, synced...), "")
				wantRecover(t, "recovered again", after, printed(t, synced...), synced...)
				d = after
			default:
				x := anyRecord(r)
				after, e := Put(d, x)
				if want := note.Check(x); want != api.OK {
					wantNone(t, "a wrong record", after, e, want)
					continue
				}
				waiting = append(waiting, x)
				wantDisk(t, "put", after, e, printed(t, synced...), printed(t, waiting...))
				d = after
			}
		}
	}
	if crashes < 1000 || kept < 1000 || lost < 1000 {
		t.Errorf("only %d crashes that kept %d and lost %d", crashes, kept, lost)
	}
}

// crowded has something behind both lists, that mustn't be touched.
func crowded() api.Disk {
	safe := append(make([]byte, 0, 100), "shut 0\nBEHIND"...)
	wait := append(make([]byte, 0, 100), "open 1 "+sampleText+"\nshut 1\nBEHIND"...)
	return api.Disk{Safe: safe[:7], Wait: wait[:len(wait)-6]}
}

func wantCrowded(t *testing.T, d api.Disk) {
	t.Helper()
	want := crowded()
	if !bytes.Equal(d.Safe[:100], want.Safe[:100]) || !bytes.Equal(d.Wait[:100], want.Wait[:100]) {
		t.Errorf("what was handed in is %q and %q now", d.Safe[:100], d.Wait[:100])
	}
}

func TestWhatIsHandedInStaysAsItIs(t *testing.T) {
	d, p := crowded(), sample()
	p.Rules = append(p.Rules, api.Rule{Verdict: 9})[:2]
	for range 3 {
		Check(d)
		Same(d, d)
		Copy(d)
		Put(d, shut(2))
		Put(d, api.Rec{})
		Put(d, api.Rec{Kind: api.RTight, P: p})
		Sync(d)
		for n := -1; n <= len(d.Wait)+1; n++ {
			Crash(d, n)
		}
		Recover(d)
	}
	wantCrowded(t, d)
	if !reflect.DeepEqual(p, sample()) || p.Rules[:3][2].Verdict != 9 {
		t.Errorf("the policy is %v now", p.Rules[:3])
	}
}

// spoil writes over all of some bytes, and over the room behind them.
func spoil(b []byte) {
	b = b[:cap(b)]
	for at := range b {
		b[at] = '!'
	}
}

func TestAnswersShareNothing(t *testing.T) {
	d := crowded()
	for what, made := range map[string]func() api.Disk{
		"Copy":            func() api.Disk { return Copy(d) },
		"Put":             func() api.Disk { got, _ := Put(d, shut(2)); return got },
		"Sync":            func() api.Disk { got, _ := Sync(d); return got },
		"Sync of nothing": func() api.Disk { got, _ := Sync(api.Disk{Safe: d.Safe}); return got },
		"Crash":           func() api.Disk { got, _ := Crash(d, 9); return got },
		"Crash at 0":      func() api.Disk { got, _ := Crash(d, 0); return got },
		"Crash at the end": func() api.Disk {
			got, _ := Crash(d, len(d.Wait))
			return got
		},
		"Recover":            func() api.Disk { got, _, _ := Recover(d); return got },
		"Recover of nothing": func() api.Disk { got, _, _ := Recover(api.Disk{Safe: d.Safe}); return got },
	} {
		want := made()
		kept := disk(string(want.Safe), string(want.Wait))
		for _, field := range []func(api.Disk) []byte{func(d api.Disk) []byte { return d.Safe }, func(d api.Disk) []byte { return d.Wait }} {
			got := made()
			wait, safe := string(got.Wait), string(got.Safe)
			spoil(field(got))
			if string(got.Wait) != wait && string(got.Safe) != safe {
				t.Errorf("%s: both lists share memory", what)
			}
			if !Same(want, kept) {
				t.Errorf("%s: another answer was written over: %q", what, short(want))
			}
			wantCrowded(t, d)
		}
	}
}

// One list may be handed in as both; what is answered has two.
func TestOneListHandedInTwice(t *testing.T) {
	room := []byte("shut 1\nshut 1\n")
	for _, d := range []api.Disk{{Safe: room, Wait: room}, {Safe: room[:7], Wait: room[7:]}, {Safe: room[7:], Wait: room[:7]}, {Safe: room[:7], Wait: room}} {
		safe, wait := string(d.Safe), string(d.Wait)
		got, e := Put(d, shut(2))
		wantDisk(t, "Put", got, e, safe, wait+"shut 2\n")
		spoil(got.Wait)
		if string(got.Safe) != safe {
			t.Error("Put: both lists share memory")
		}
		got, e = Sync(d)
		wantDisk(t, "Sync", got, e, safe+wait, "")
		got, e = Crash(d, 3)
		wantDisk(t, "Crash", got, e, safe, wait[:3])
		spoil(got.Safe)
		if string(got.Wait) != wait[:3] {
			t.Error("Crash: both lists share memory")
		}
		got, _, e = Recover(d)
		wantDisk(t, "Recover", got, e, safe+wait, "")
		spoil(got.Safe)
		if string(room) != "shut 1\nshut 1\n" {
			t.Fatalf("what was handed in is %q now", room)
		}
	}
}

// What is written over in one record is seen in no other one, and in no disk.
func TestRecordsShareNothing(t *testing.T) {
	line := "open 1 " + sampleText + "\n"
	d := disk(line+line, line+line)
	got, l, _ := Recover(d)
	_, others, _ := Recover(d)
	want := api.Rec{Kind: api.ROpen, Cell: 1, P: sample()}
	for at, r := range l {
		for _, rule := range r.P.Rules {
			conds := rule.Conds[:cap(rule.Conds)]
			for i := range conds {
				conds[i] = api.Cond{Field: -9, Op: -9, Value: -9}
			}
		}
		rules := r.P.Rules[:cap(r.P.Rules)]
		for i := range rules {
			rules[i] = api.Rule{Verdict: -9}
		}
		l[at] = want
		wantRecords(t, "one was written over", l[at:], append([]api.Rec{want}, others[at+1:]...))
	}
	wantRecords(t, "another answer", others, []api.Rec{want, want, want, want})
	wantDisk(t, "the disk", got, api.OK, line+line+line+line, "")
}

func TestCopy(t *testing.T) {
	for _, d := range []api.Disk{{}, disk("", ""), disk("shut 2\n", "x"), disk("x", strings.Repeat("y", 70000)), crowded()} {
		if got := Copy(d); !Same(got, d) {
			t.Errorf("a copy of %q is %q", short(d), short(got))
		}
	}
}

func TestTheReadmesExamples(t *testing.T) {
	d, e := Put(api.Disk{}, shut(2))
	wantDisk(t, "put", d, e, "", "shut 2\n")
	d, e = Sync(d)
	wantDisk(t, "synced", d, e, "shut 2\n", "")
	d, e = Put(d, fork(1, 3))
	wantDisk(t, "put", d, e, "shut 2\n", "fork 1 3\n")
	torn, e := Crash(d, 6)
	wantDisk(t, "torn", torn, e, "shut 2\n", "fork 1")
	wantRecover(t, "torn", torn, "shut 2\n", shut(2))
	wantRecover(t, "whole", d, "shut 2\nfork 1 3\n", shut(2), fork(1, 3))
	got, e := Sync(torn)
	wantNone(t, "torn", got, e, api.ErrTorn)
	got, e = Crash(d, 10)
	wantNone(t, "too many", got, e, api.ErrRange)
	wantCheck(t, "torn", disk("shut 2", ""), api.ErrTorn)
	wantCheck(t, "no record", disk("shut 02\n", ""), api.ErrText)
	if !Same(d, Copy(d)) {
		t.Error("a copy isn't the same")
	}
}
