package world

import (
	"bytes"
	"math"
	"math/rand"
	"slices"
	"strconv"
	"strings"
	"testing"
	"unsafe"

	"turnkey/api"
	"turnkey/chain"
	"turnkey/disk"
	"turnkey/keeper"
	"turnkey/meet"
	"turnkey/note"
	"turnkey/policy"
	"turnkey/text"
)

const (
	sampleText = "kill nr=3 a<5;log kind!0;allow"
	tightText  = "kill nr=3 a<5;log kind!0;fail b>7;allow"
)

// greatest is written out by hand, so that calls aren't held against call.Most alone.
var greatest = api.Call{63, 3, 65535, 65535, 65535}

// read makes a policy of its text, which is a right one.
func read(s string) api.Policy {
	p, e := text.Parse(s)
	if e != api.OK {
		panic(s + " isn't read")
	}
	return p
}

func open(cell int, s string) api.Happening {
	return api.Happening{Kind: api.HOpen, Cell: cell, P: read(s)}
}

func tight(cell int, s string) api.Happening {
	return api.Happening{Kind: api.HTight, Cell: cell, P: read(s)}
}

func fork(cell, from int) api.Happening {
	return api.Happening{Kind: api.HFork, Cell: cell, From: from}
}

func shut(cell int) api.Happening { return api.Happening{Kind: api.HShut, Cell: cell} }

func torn(cell, kept int, s string) api.Happening {
	return api.Happening{Kind: api.HTear, Cell: cell, From: kept, P: read(s)}
}

func crash() api.Happening { return api.Happening{Kind: api.HCrash} }

func booted() api.Happening { return api.Happening{Kind: api.HBoot} }

// everyKind has a happening of each kind, none of them wrong in itself.
func everyKind() []api.Happening {
	return []api.Happening{open(0, "kill"), tight(1, "kill"), fork(3, 1), shut(1), crash(), booted(), torn(1, 3, "kill")}
}

// replayed has the sessions that lines of a log make, which are right ones.
func replayed(log string) []api.Cell {
	cells := keeper.New()
	for line := range strings.Lines(log) {
		r, e := note.Parse(strings.TrimSuffix(line, "\n"))
		if e != api.OK {
			panic(line + " isn't read")
		}
		if cells, e = keeper.Next(cells, r); e != api.OK {
			panic(line + " can't follow")
		}
	}
	return cells
}

// up is the world with this log.
func up(log string) api.World {
	return api.World{Cells: replayed(log), D: api.Disk{Safe: []byte(log)}, Up: true}
}

// lies is the world without power that has these bytes.
func lies(safe, wait string) api.World {
	return api.World{Cells: make([]api.Cell, 4), D: api.Disk{Safe: []byte(safe), Wait: []byte(wait)}}
}

const sampleLog = "open 1 " + sampleText + "\ntight 1 " + tightText + "\nfork 2 1\n"

// sample has sessions 1 and 2 open, the first one tightened.
func sample() api.World { return up(sampleLog) }

// fullLog has as many lines as may be, and leaves session 1 open.
func fullLog() string {
	return "open 1 log\n" + strings.Repeat("open 0 kill\nshut 0\n", 19) + "fork 3 1\n"
}

// longText has more rules and conditions than a filter has room for, all with one verdict.
func longText(verdict string) string {
	return strings.Repeat(verdict+strings.Repeat(" a<7", 10)+";", 100) + verdict
}

// wideText has many bytes, as rules that a filter has room for.
func wideText(rules int) string {
	return strings.Repeat("allow a<65535 b<65535 c<65535 a<65535 b<65535;", rules) + "log"
}

// alike is told without the program's Same.
func alike(a, b api.World) bool {
	cells := slices.EqualFunc(a.Cells, b.Cells, func(c, d api.Cell) bool {
		return c.Open == d.Open && slices.EqualFunc(c.Chain, d.Chain, slices.Equal[[]api.Ins]) && policy.Same(c.P, d.P)
	})
	return cells && bytes.Equal(a.D.Safe, b.D.Safe) && bytes.Equal(a.D.Wait, b.D.Wait) && a.Up == b.Up
}

func wantCheck(t *testing.T, what string, w api.World, want api.Errno) {
	t.Helper()
	if got := Check(w); got != want {
		t.Errorf("%s: Check = %d, want %d", what, got, want)
	}
}

func wantSame(t *testing.T, what string, a, b api.World, want bool) {
	t.Helper()
	if Same(a, b) != want || Same(b, a) != want {
		t.Errorf("%s: Same = %t, %t, want %t", what, Same(a, b), Same(b, a), want)
	}
}

// wantWorld: an answer is this world, without an error; and it is a right one.
func wantWorld(t *testing.T, what string, got api.World, e api.Errno, want api.World) {
	t.Helper()
	if e != api.OK || !alike(got, want) {
		t.Errorf("%s: %v, %q, %q, %t, %d, want %v, %q, %q, %t", what, got.Cells, got.D.Safe, got.D.Wait, got.Up, e, want.Cells, want.D.Safe, want.D.Wait, want.Up)
	}
	wantCheck(t, what, got, api.OK)
}

// wantDo: so it is of a single happening, and of a run of it.
func wantDo(t *testing.T, what string, w api.World, x api.Happening, want api.World) {
	t.Helper()
	got, e := Do(w, x)
	wantWorld(t, what, got, e, want)
	got, said, e := Run(w, []api.Happening{x})
	wantWorld(t, what+", run", got, e, want)
	wantSaid(t, what+", run", said, api.OK)
}

func wantSaid(t *testing.T, what string, said []api.Errno, want ...api.Errno) {
	t.Helper()
	if !slices.Equal(said, want) {
		t.Errorf("%s: the errors are %v, want %v", what, said, want)
	}
}

func zero(w api.World) bool {
	return w.Cells == nil && w.D.Safe == nil && w.D.Wait == nil && !w.Up
}

// wantNo: a happening has this error, and nothing beside it; a run of it changes nothing.
func wantNo(t *testing.T, what string, w api.World, x api.Happening, want api.Errno) {
	t.Helper()
	if got, e := Do(w, x); e != want || !zero(got) {
		t.Errorf("%s: Do = %v, %d, want error %d alone", what, got, e, want)
	}
	got, said, e := Run(w, []api.Happening{x})
	wantWorld(t, what+", run", got, e, w)
	wantSaid(t, what+", run", said, want)
}

func wantNoRun(t *testing.T, what string, w api.World, l []api.Happening, want api.Errno) {
	t.Helper()
	if got, said, e := Run(w, l); e != want || said != nil || !zero(got) {
		t.Errorf("%s: Run = %v, %v, %d, want error %d alone", what, got, said, e, want)
	}
}

func wantAsk(t *testing.T, what string, w api.World, cell int, x api.Call, want int, wrong api.Errno) {
	t.Helper()
	if got, e := Ask(w, cell, x); got != want || e != wrong {
		t.Errorf("%s: Ask of session %d = %d, %d, want %d, %d", what, cell, got, e, want, wrong)
	}
}

// wantWrong: Check tells this error, and all others tell it first, ahead of what is wrong beside it.
func wantWrong(t *testing.T, what string, w api.World, want api.Errno) {
	t.Helper()
	wantCheck(t, what, w, want)
	for _, x := range append(everyKind(), api.Happening{}, api.Happening{Kind: 8}, shut(9), tight(1, "allow"), open(0, longText("kill"))) {
		if got, e := Do(w, x); e != want || !zero(got) {
			t.Errorf("%s: Do = %v, %d, want error %d alone", what, got, e, want)
		}
		wantNoRun(t, what, w, []api.Happening{x}, want)
	}
	wantNoRun(t, what+", of nothing", w, nil, want)
	wantNoRun(t, what+", of too many", w, make([]api.Happening, 61), want)
	for _, cell := range []int{-1, 0, 1, 2, 3, 4, math.MaxInt} {
		wantAsk(t, what, w, cell, api.Call{}, 0, want)
		wantAsk(t, what+", of a wrong call", w, cell, api.Call{64}, 0, want)
	}
}

func TestNew(t *testing.T) {
	wantWorld(t, "New", New(), api.OK, api.World{Cells: make([]api.Cell, 4), Up: true})
	w := New()
	w.Cells[2] = sample().Cells[2]
	wantWorld(t, "New, again", New(), api.OK, up(""))
}

func TestRightWorlds(t *testing.T) {
	for _, log := range []string{"", "open 3 kill\n", sampleLog, "open 0 log\nshut 0\n", fullLog()} {
		wantCheck(t, "up", up(log), api.OK)
		for _, wait := range []string{"", "\n", "x", "open 3 kill\n", "shut 0", strings.Repeat("y", 60000-len(log))} {
			wantCheck(t, "without power", lies(log, wait), api.OK)
		}
	}
	// whether the log could be replayed isn't asked of one without power
	for _, log := range []string{"shut 0\n", "fork 1 2\n", "open 1 log\ntight 1 allow\n", "open 0 " + longText("kill") + "\n"} {
		wantCheck(t, "without power, no log", lies(log, ""), api.OK)
	}
	w := sample()
	w.D.Wait = []byte{}
	w.Cells[0] = api.Cell{Chain: [][]api.Ins{}, P: api.Policy{Rules: []api.Rule{}}}
	wantCheck(t, "lists with nothing in them", w, api.OK)
	wantCheck(t, "no list", api.World{Cells: make([]api.Cell, 4), Up: true}, api.OK)
	wantCheck(t, "no list, without power", api.World{Cells: make([]api.Cell, 4)}, api.OK)
}

// wrongDisks has what may be safe on a disk with one thing wrong each.
func wrongDisks() map[api.Errno][]string {
	return map[api.Errno][]string{
		api.ErrTorn:  {"open 1 log", sampleLog + "shut 1", "x"},
		api.ErrText:  {"\n", "shut 01\n", sampleLog + "open 3\n", "Open 1 log\n", sampleLog + "shut 1\r\n"},
		api.ErrRange: {"open 4 log\n", "open 1 kill nr=64;log\n", sampleLog + "fork 1 9\n"},
		api.ErrMany:  {strings.Repeat("shut 0\n", 41), fullLog() + "shut 1\n", strings.Repeat("x", 60001), "open 1 " + strings.Repeat("kill;", 121) + "log\n"},
	}
}

func TestWrongDisks(t *testing.T) {
	for want, l := range wrongDisks() {
		for _, safe := range l {
			w := sample()
			w.D.Safe = []byte(safe)
			wantWrong(t, "up", w, want)
			w.Cells = nil
			wantWrong(t, "up, and no sessions", w, want)
			wantWrong(t, "without power", lies(safe, ""), want)
			if len(safe) < 60000 {
				w.D.Wait = []byte("x")
				wantWrong(t, "up, and something waits", w, want)
				wantWrong(t, "without power, and something waits", lies(safe, "x"), want)
			}
		}
	}
	for _, w := range []api.World{sample(), lies(sampleLog, "")} {
		w.D.Wait = make([]byte, 60001-len(sampleLog))
		wantWrong(t, "too many bytes together", w, api.ErrMany)
	}
}

func TestWhatWaitsWhileItIsUp(t *testing.T) {
	for _, wait := range []string{"x", "\n", "shut 1\n", "shut 1"} {
		w := sample()
		w.D.Wait = []byte(wait)
		wantWrong(t, "something waits", w, api.ErrForm)
		w.D.Safe = []byte("open 1 log\nopen 1 log\n")
		wantWrong(t, "something waits, and no log", w, api.ErrForm)
		w = up("")
		w.D.Wait = []byte("shut 1\n")
		wantWrong(t, "something waits, that can't follow", w, api.ErrForm)
		w = api.World{D: api.Disk{Wait: []byte("open 1 log\n")}, Up: true}
		w.Cells = replayed("open 1 log\n")
		wantWrong(t, "the sessions are what waits", w, api.ErrForm)
	}
}

// wrongLogs has lines of which one can't follow.
func wrongLogs() map[api.Errno][]string {
	return map[api.Errno][]string{
		api.ErrLate:  {"shut 0\n", sampleLog + "open 1 log\n", sampleLog + "fork 2 0\n", "tight 1 log\n"},
		api.ErrWho:   {"fork 1 2\n", sampleLog + "fork 3 0\n"},
		api.ErrLoose: {"open 1 log\ntight 1 allow\n", sampleLog + "tight 2 " + sampleText + "\n"},
		api.ErrMany:  {"open 0 " + longText("kill") + "\n", "open 1 log\n" + strings.Repeat("tight 1 log\n", 6)},
	}
}

func TestLogsThatCantBeReplayed(t *testing.T) {
	for want, l := range wrongLogs() {
		for _, log := range l {
			w := sample()
			w.D.Safe = []byte(log)
			wantWrong(t, "up", w, want)
			w.Cells = make([]api.Cell, 4)
			wantWrong(t, "up, with no session", w, want)
			w.Cells = nil
			wantWrong(t, "up, with no sessions at all", w, want)
			wantNo(t, "boots", lies(log, ""), booted(), want)
			wantNo(t, "boots, and something is torn", lies(log, "shut 1"), booted(), want)
			cut := strings.LastIndexByte(strings.TrimSuffix(log, "\n"), '\n') + 1
			wantNo(t, "boots, and the last line waits", lies(log[:cut], log[cut:]), booted(), want)
			wantNo(t, "boots, and all waits", lies("", log), booted(), want)
			wantDo(t, "boots, and the last line is torn", lies(log[:cut], log[cut:len(log)-1]), booted(), up(log[:cut]))
		}
	}
}

func TestSessionsThatWerentWrittenDown(t *testing.T) {
	for what, change := range map[string]func(w *api.World){
		"none at all":          func(w *api.World) { w.Cells = nil },
		"one less":             func(w *api.World) { w.Cells = w.Cells[:3] },
		"one more":             func(w *api.World) { w.Cells = append(w.Cells, api.Cell{}) },
		"one shut":             func(w *api.World) { w.Cells[1] = api.Cell{} },
		"one opened":           func(w *api.World) { w.Cells[0] = w.Cells[2] },
		"only opened":          func(w *api.World) { w.Cells[3].Open = true },
		"another order":        func(w *api.World) { w.Cells[1], w.Cells[2] = w.Cells[2], w.Cells[1] },
		"no chain":             func(w *api.World) { w.Cells[1].Chain = nil },
		"a filter less":        func(w *api.World) { w.Cells[1].Chain = w.Cells[1].Chain[:1] },
		"a filter more":        func(w *api.World) { w.Cells[2].Chain = append(w.Cells[2].Chain, w.Cells[2].Chain[0]) },
		"a wrong filter":       func(w *api.World) { w.Cells[1].Chain[0][1].Kind = 9 },
		"another verdict":      func(w *api.World) { w.Cells[1].Chain[1][len(w.Cells[1].Chain[1])-1].A = api.Log },
		"another policy":       func(w *api.World) { w.Cells[2].P.Default = api.Log },
		"a wrong policy":       func(w *api.World) { w.Cells[1].P.Default = 5 },
		"a rule that is gone":  func(w *api.World) { w.Cells[1].P.Rules = w.Cells[1].P.Rules[:2] },
		"something isn't zero": func(w *api.World) { w.Cells[3].P.Default = api.Allow },
		"a log less":           func(w *api.World) { w.D.Safe = w.D.Safe[:len(w.D.Safe)-len("fork 2 1\n")] },
		"a log more":           func(w *api.World) { w.D.Safe = append(w.D.Safe, "shut 2\n"...) },
		"no log":               func(w *api.World) { w.D.Safe = nil },
		"no power":             func(w *api.World) { w.Up = false },
		"none, but a log":      func(w *api.World) { w.Cells = make([]api.Cell, 4) },
	} {
		w := sample()
		change(&w)
		wantWrong(t, what, w, api.ErrForm)
	}
	w := lies("", "")
	for at := range 4 {
		w.Cells[at].P.Default = api.Trap
		wantWrong(t, "without power, something isn't zero", w, api.ErrForm)
		w.Cells[at] = api.Cell{}
	}
	for n := range 9 {
		if n != 4 {
			wantWrong(t, "how many", api.World{Cells: make([]api.Cell, n), Up: true}, api.ErrForm)
			wantWrong(t, "how many, without power", api.World{Cells: make([]api.Cell, n)}, api.ErrForm)
		}
	}
	wantWrong(t, "nothing", api.World{}, api.ErrForm)
}

func TestSame(t *testing.T) {
	wantSame(t, "nothing", api.World{}, api.World{}, true)
	wantSame(t, "nil and empty", api.World{}, api.World{Cells: []api.Cell{}, D: api.Disk{Safe: []byte{}, Wait: []byte{}}}, true)
	wantSame(t, "new", New(), New(), true)
	wantSame(t, "new and nothing", New(), api.World{Up: true}, false)
	for what, change := range map[string]func(w *api.World){
		"up":         func(w *api.World) { w.Up = false },
		"safe":       func(w *api.World) { w.D.Safe[3] ^= 1 },
		"safe, less": func(w *api.World) { w.D.Safe = w.D.Safe[:9] },
		"none safe":  func(w *api.World) { w.D.Safe = nil },
		"wait":       func(w *api.World) { w.D.Wait[0] ^= 128 },
		"wait, more": func(w *api.World) { w.D.Wait = append(w.D.Wait, 0) },
		"none waits": func(w *api.World) { w.D.Wait = nil },
		"the other":  func(w *api.World) { w.D.Safe, w.D.Wait = w.D.Wait, w.D.Safe },
		"one less":   func(w *api.World) { w.Cells = w.Cells[:3] },
		"none":       func(w *api.World) { w.Cells = nil },
		"open":       func(w *api.World) { w.Cells[2].Open = false },
		"chain":      func(w *api.World) { w.Cells[1].Chain[1][0].A++ },
		"policy":     func(w *api.World) { w.Cells[1].P.Default = -1 },
		"the last":   func(w *api.World) { w.Cells[3].P.Default = 7 },
		"condition":  func(w *api.World) { w.Cells[2].P.Rules[0].Conds[1].Value++ },
	} {
		made := func() api.World {
			w := sample()
			w.D.Wait = []byte("waits")
			return w
		}
		w, same := made(), made()
		wantSame(t, what, w, made(), true)
		change(&w)
		wantSame(t, what, w, made(), false)
		change(&same)
		wantSame(t, what+", both", w, same, true)
	}
}

func TestKindsThatArentAny(t *testing.T) {
	for _, w := range []api.World{New(), sample(), lies("", ""), lies(sampleLog, "x")} {
		for _, kind := range []int{0, 8, 9, -1, math.MinInt, math.MaxInt} {
			wantNo(t, "no kind", w, api.Happening{Kind: kind}, api.ErrForm)
			wantNo(t, "no kind, and all else is wrong", w, api.Happening{Kind: kind, Cell: 9, From: 9, P: api.Policy{Default: 9}}, api.ErrForm)
		}
	}
}

// With the power on it can't boot; without it, it can do nothing else. That is told ahead of what is wrong with the happening.
func TestOutOfTurn(t *testing.T) {
	for _, w := range []api.World{New(), sample(), up(fullLog())} {
		wantNo(t, "boots twice", w, booted(), api.ErrLate)
		wantNo(t, "boots twice, with more", w, api.Happening{Kind: api.HBoot, Cell: 9, From: -1, P: api.Policy{Default: 9}}, api.ErrLate)
	}
	for _, w := range []api.World{lies("", ""), lies(sampleLog, ""), lies(sampleLog, "shut 1\n"), lies("shut 1\n", "x")} {
		for _, x := range everyKind() {
			if x.Kind == api.HBoot {
				continue
			}
			wantNo(t, "without power", w, x, api.ErrLate)
			x.Cell, x.From, x.P.Default = 9, 9, 9
			wantNo(t, "without power, and all else is wrong", w, x, api.ErrLate)
		}
	}
}

func TestSessionsOpenTightenForkAndShut(t *testing.T) {
	w := New()
	log := ""
	for _, step := range []struct {
		x    api.Happening
		line string
	}{
		{open(1, sampleText), "open 1 " + sampleText},
		{tight(1, tightText), "tight 1 " + tightText},
		{fork(2, 1), "fork 2 1"},
		{open(0, "trap"), "open 0 trap"},
		{tight(2, "kill"), "tight 2 kill"},
		{fork(3, 2), "fork 3 2"},
		{shut(1), "shut 1"},
		{tight(3, "kill"), "tight 3 kill"},
		{open(1, "allow"), "open 1 allow"},
		{shut(0), "shut 0"},
		{fork(0, 1), "fork 0 1"},
	} {
		log += step.line + "\n"
		wantDo(t, step.line, w, step.x, up(log))
		w = up(log)
	}
}

// A happening tells only what its kind has; all else in it may be anything.
func TestWhatAKindDoesntTell(t *testing.T) {
	wild := api.Policy{Rules: make([]api.Rule, 200), Default: -7}
	for _, far := range []int{-1, 1, 4, math.MinInt, math.MaxInt} {
		x := open(0, "log")
		x.From = far
		wantDo(t, "open", sample(), x, up(sampleLog+"open 0 log\n"))
		x = tight(2, "kill")
		x.From = far
		wantDo(t, "tight", sample(), x, up(sampleLog+"tight 2 kill\n"))
		x = shut(2)
		x.From, x.P = far, wild
		wantDo(t, "shut", sample(), x, up(sampleLog+"shut 2\n"))
		x = fork(0, 2)
		x.P = wild
		wantDo(t, "fork", sample(), x, up(sampleLog+"fork 0 2\n"))
		wantDo(t, "crash", sample(), api.Happening{Kind: api.HCrash, Cell: far, From: far, P: wild}, lies(sampleLog, ""))
		wantDo(t, "boot", lies(sampleLog, "x"), api.Happening{Kind: api.HBoot, Cell: far, From: far, P: wild}, sample())
	}
}

// What keeper.Next refuses is refused with its error, by a tightening that is torn, too.
func TestWhatCantFollow(t *testing.T) {
	tights := func(cell int, p api.Policy) []api.Happening {
		return []api.Happening{{Kind: api.HTight, Cell: cell, P: p}, {Kind: api.HTear, Cell: cell, P: p}, {Kind: api.HTear, Cell: cell, From: 999, P: p}}
	}
	wrong := map[api.Errno][]api.Happening{
		api.ErrLate:  append(tights(0, read("kill")), open(1, "log"), open(2, longText("log")), fork(1, 0), fork(2, 2), shut(0), shut(3)),
		api.ErrWho:   append(tights(1, api.Policy{Rules: []api.Rule{{Conds: []api.Cond{{Field: 5, Op: 1}}}}}), fork(0, 3), fork(3, 3)),
		api.ErrLoose: append(tights(1, read(sampleText)), tights(2, read("allow"))...),
		api.ErrMany:  append(tights(1, api.Policy{Rules: make([]api.Rule, 121)}), open(0, longText("log"))),
		api.ErrRange: append(slices.Concat(tights(4, read("kill")), tights(-1, read("kill")), tights(1, api.Policy{Default: 5})), open(4, "kill"), fork(4, 1), fork(0, 4), fork(0, -1), shut(4), shut(math.MinInt), api.Happening{Kind: api.HOpen, P: api.Policy{Default: -1}}),
		api.ErrForm:  append(tights(1, api.Policy{Rules: []api.Rule{{Conds: []api.Cond{{}}}}}), api.Happening{Kind: api.HOpen, P: api.Policy{Rules: []api.Rule{{Conds: []api.Cond{{Op: 5}}}}}}),
	}
	for want, l := range wrong {
		for _, x := range l {
			wantNo(t, "can't follow", sample(), x, want)
		}
	}
}

// A chain has room for six filters.
func TestTightenedOften(t *testing.T) {
	w, log := up("open 1 log\n"), "open 1 log\n"
	for range 5 {
		log += "tight 1 log\n"
		wantDo(t, "tightened", w, tight(1, "log"), up(log))
		w = up(log)
	}
	wantNo(t, "tightened too often", w, tight(1, "log"), api.ErrMany)
	wantNo(t, "tightened too often, and torn", w, torn(1, 0, "log"), api.ErrMany)
}

// A log that is full takes no line more. One that is torn isn't synced, so that nothing is told of it; but it doesn't come back.
func TestFullLog(t *testing.T) {
	full := up(fullLog())
	for _, x := range []api.Happening{open(0, "kill"), tight(1, "log"), tight(3, "kill"), fork(2, 3), shut(1)} {
		wantNo(t, "full", full, x, api.ErrMany)
	}
	wantNo(t, "full, and looser", full, tight(1, "allow"), api.ErrLoose)
	wantNo(t, "full, and not open", full, shut(2), api.ErrLate)
	wantNo(t, "full, and no such session", full, fork(2, 0), api.ErrWho)
	wantDo(t, "full, crash", full, crash(), lies(fullLog(), ""))
	wantDo(t, "full, boots", lies(fullLog(), ""), booted(), full)
	wantDo(t, "full, torn", full, torn(1, 99, "kill"), lies(fullLog(), "tight 1 kill\n"))
	wantDo(t, "full, torn, boots", lies(fullLog(), "tight 1 kill\n"), booted(), full)
	almost := strings.TrimSuffix(fullLog(), "fork 3 1\n")
	wantDo(t, "the last line", up(almost), fork(3, 1), full)
	wantDo(t, "the last line, torn", lies(almost, "fork 3 1\nshut 1\n"), booted(), full)
	wantDo(t, "what has no room isn't asked whether it can follow", lies(almost, "fork 3 1\nshut 2\n"), booted(), full)
}

// A disk has room for so many bytes, the line feed among them.
func TestFullDisk(t *testing.T) {
	log := ""
	for i := range 12 {
		log += "open " + strconv.Itoa(i%4) + " " + wideText(108) + "\nshut " + strconv.Itoa(i%4) + "\n"
	}
	log += "open 1 log\n"
	// lines that say the same, as long as it takes
	room := 60000 - len(log)
	line := func(n int) string {
		s := "tight 1 "
		for n-len(s) > 20 {
			s += "log a<7;"
		}
		for _, last := range []string{"log", "log a<7;log", "log a<17;log", "log a<117;log", "log a<1117;log", "log a<11117;log"} {
			for _, more := range []string{"", "log;", "log nr=3;", "log nr=13;", "log kind=3;", "log a=117;", "log a=1117;"} {
				if len(s+more+last) == n {
					return s + more + last
				}
			}
		}
		t.Fatalf("no line of %d bytes", n)
		return ""
	}
	if room < 40 || room > 1000 {
		t.Fatalf("%d bytes are left", room)
	}
	w := up(log)
	for n := room - 4; n <= room+2; n++ {
		s := line(n)
		r, e := note.Parse(s)
		if e != api.OK || r.Cell != 1 {
			t.Fatalf("%q isn't read: %d", s, e)
		}
		x := api.Happening{Kind: api.HTight, Cell: 1, P: r.P}
		y := api.Happening{Kind: api.HTear, Cell: 1, From: 2, P: r.P}
		if n < room {
			wantDo(t, "room", w, x, up(log+s+"\n"))
			wantDo(t, "room, torn", w, y, lies(log, s[:2]))
			continue
		}
		wantNo(t, "no room", w, x, api.ErrMany)
		wantNo(t, "no room, torn", w, y, api.ErrMany)
		r.P.Rules[0].Verdict = api.Allow
		wantNo(t, "no room, and looser", w, x, api.ErrLoose)
		wantNo(t, "no room, and looser, torn", w, y, api.ErrLoose)
	}
}

func TestCrash(t *testing.T) {
	for _, log := range []string{"", sampleLog, "open 0 kill\nshut 0\n"} {
		wantDo(t, "crash", up(log), crash(), lies(log, ""))
		wantDo(t, "boots", lies(log, ""), booted(), up(log))
	}
}

// Of a tightening that is torn as many bytes are kept as are told, if there are: only where that is all of them, it has been.
func TestTear(t *testing.T) {
	const line = "tight 1 kill\n"
	for _, kept := range []int{math.MinInt, -7, -1, 0, 1, 2, 3, 4, 5, 6, 7, 8, 9, 10, 11, 12, 13, 14, 15, 200, 60000, 60001, math.MaxInt} {
		down := lies(sampleLog, line[:min(max(0, kept), len(line))])
		wantDo(t, "torn", sample(), torn(1, kept, "kill"), down)
		want := sample()
		if kept >= len(line) {
			want = up(sampleLog + line)
		}
		wantDo(t, "torn, boots", down, booted(), want)
	}
	long := "tight 2 kill nr=3 a<5;log kind!0;fail b>7;trap c=65535;allow\n"
	for kept := range len(long) + 3 {
		x := torn(2, kept, "kill nr=3 a<5;log kind!0;fail b>7;trap c=65535;allow")
		down := lies(sampleLog, long[:min(kept, len(long))])
		wantDo(t, "torn, long", sample(), x, down)
		want := sample()
		if kept >= len(long) {
			want = up(sampleLog + long)
		}
		wantDo(t, "torn, long, boots", down, booted(), want)
	}
}

// What waits comes back as far as it is whole lines.
func TestBoot(t *testing.T) {
	for wait, more := range map[string]string{
		"":                                 "",
		"\n":                               "",
		"\nshut 1\n":                       "",
		"shut 1":                           "",
		"shut 1\n":                         "shut 1\n",
		"shut 1\nshut 2":                   "shut 1\n",
		"shut 1\nshut 2\n":                 "shut 1\nshut 2\n",
		"shut 1\nshut 9\nshut 2\n":         "shut 1\n",
		"shut 1\n\x00shut 2\n":             "shut 1\n",
		"shut 01\nshut 2\n":                "",
		"tight 2 kill\nfork 0 2\nshut 2\n": "tight 2 kill\nfork 0 2\nshut 2\n",
		"tight 2 kill nr=64;kill\n":        "",
	} {
		wantDo(t, wait, lies(sampleLog, wait), booted(), up(sampleLog+more))
	}
	wantDo(t, "all waits", lies("", sampleLog), booted(), sample())
	wantDo(t, "nothing", lies("", ""), booted(), New())
}

func TestRun(t *testing.T) {
	for _, l := range [][]api.Happening{nil, {}, make([]api.Happening, 99)[:0]} {
		for _, w := range []api.World{New(), sample(), lies(sampleLog, "shut")} {
			got, said, e := Run(w, l)
			wantWorld(t, "nothing", got, e, w)
			wantSaid(t, "nothing", said)
		}
	}
	got, said, e := Run(New(), []api.Happening{
		shut(1), open(1, sampleText), open(1, "kill"), tight(1, tightText), tight(1, sampleText), fork(2, 1), fork(0, 3),
		booted(), crash(), crash(), shut(1), {Kind: 8}, booted(), booted(), shut(4),
	})
	wantWorld(t, "some", got, e, sample())
	wantSaid(t, "some", said, api.ErrLate, 0, api.ErrLate, 0, api.ErrLoose, 0, api.ErrWho,
		api.ErrLate, 0, api.ErrLate, api.ErrLate, api.ErrForm, 0, api.ErrLate, api.ErrRange)
	got, said, e = Run(sample(), []api.Happening{torn(1, 12, "kill"), booted(), torn(2, 13, "kill"), booted(), crash()})
	wantWorld(t, "torn", got, e, lies(sampleLog+"tight 2 kill\n", ""))
	wantSaid(t, "torn", said, 0, 0, 0, 0, 0)
	got, said, e = Run(lies("open 1 log\n", "shut 1\nshut 1\n"), []api.Happening{booted(), booted(), crash()})
	wantWorld(t, "it can't boot", got, e, lies("open 1 log\n", "shut 1\nshut 1\n"))
	wantSaid(t, "it can't boot", said, api.ErrLate, api.ErrLate, api.ErrLate)
}

func TestHowManyHappenings(t *testing.T) {
	for n := range 70 {
		wrong, right := make([]api.Happening, n), slices.Repeat([]api.Happening{crash(), booted()}, 40)[:n]
		if n > 60 {
			wantNoRun(t, "too many", sample(), wrong, api.ErrMany)
			wantNoRun(t, "too many", sample(), right, api.ErrMany)
			continue
		}
		got, said, e := Run(sample(), wrong)
		wantWorld(t, "all of them wrong", got, e, sample())
		wantSaid(t, "all of them wrong", said, slices.Repeat([]api.Errno{api.ErrForm}, n)...)
		want := sample()
		if n%2 == 1 {
			want = lies(sampleLog, "")
		}
		got, said, e = Run(sample(), right)
		wantWorld(t, "crash and boot", got, e, want)
		wantSaid(t, "crash and boot", said, make([]api.Errno, n)...)
	}
}

func TestAsk(t *testing.T) {
	w := up(sampleLog + "open 3 trap\n")
	for x, want := range map[api.Call]int{
		{3, 0, 4, 0, 0}: api.Kill, {3, 0, 5, 0, 0}: api.Allow, {3, 1, 5, 8, 0}: api.Log, {0, 0, 0, 7, 0}: api.Fail, {0, 0, 0, 6, 0}: api.Allow, greatest: api.Log,
	} {
		wantAsk(t, "tightened", w, 1, x, want, api.OK)
		wantAsk(t, "forked", w, 2, x, want, api.OK)
		wantAsk(t, "opened", w, 3, x, api.Trap, api.OK)
		wantAsk(t, "not open", w, 0, x, 0, api.ErrLate)
		for _, cell := range []int{-1, 4, 5, math.MinInt, math.MaxInt} {
			wantAsk(t, "no such one", w, cell, x, 0, api.ErrWho)
		}
		for cell := range 4 {
			wantAsk(t, "without power", lies(sampleLog, ""), cell, x, 0, api.ErrLate)
		}
		wantAsk(t, "without power, no such one", lies(sampleLog, ""), 4, x, 0, api.ErrWho)
	}
	for field, top := range greatest {
		for _, far := range []int{-1, top + 1, math.MinInt, math.MaxInt} {
			var x api.Call
			x[field] = far
			wantAsk(t, "wrong call", w, 1, x, 0, api.ErrRange)
			wantAsk(t, "wrong call, not open", w, 0, x, 0, api.ErrLate)
			wantAsk(t, "wrong call, no such one", w, 4, x, 0, api.ErrWho)
		}
	}
}

// says tells what a policy says of a call, without the program's help.
func says(p api.Policy, x api.Call) int {
	for _, r := range p.Rules {
		holds := true
		for _, c := range r.Conds {
			v := x[c.Field]
			is := map[int]bool{api.Is: v == c.Value, api.Isnt: v != c.Value, api.Below: v < c.Value, api.From: v >= c.Value}
			holds = holds && is[c.Op]
		}
		if holds {
			return r.Verdict
		}
	}
	return p.Default
}

// mixed has small values that stand close together, so that rules hold, fail and cover each other often; now and then a value at the end of its field.
func mixed(r *rand.Rand, rules, conds int) api.Policy {
	p := api.Policy{Default: r.Intn(5)}
	for range r.Intn(rules + 1) {
		made := api.Rule{Verdict: r.Intn(5)}
		for range r.Intn(conds + 1) {
			field := r.Intn(api.Fields)
			value := r.Intn(4)
			if r.Intn(6) == 0 {
				value = greatest[field] - r.Intn(3)
			}
			made.Conds = append(made.Conds, api.Cond{Field: field, Op: api.Is + r.Intn(4), Value: value})
		}
		p.Rules = append(p.Rules, made)
	}
	return p
}

// tighter is a policy that is no looser than another one, most often.
func tighter(r *rand.Rand, from api.Policy) api.Policy {
	to, e := meet.Meet(from, mixed(r, 2, 2))
	if e != api.OK || r.Intn(8) == 0 {
		return mixed(r, 4, 2)
	}
	if short, e := meet.Short(to); e == api.OK && r.Intn(4) > 0 {
		return short
	}
	return to
}

// anyCall is one at small values, or at the end of a field, or anywhere.
func anyCall(r *rand.Rand) api.Call {
	var x api.Call
	for field, top := range greatest {
		x[field] = []int{r.Intn(4), r.Intn(4), min(r.Intn(6), top), r.Intn(top + 1), top - r.Intn(4)}[r.Intn(5)]
	}
	return x
}

// anyHappening is in turn most often, and now and then wrong.
func anyHappening(r *rand.Rand, w api.World) api.Happening {
	x := api.Happening{Kind: api.HOpen, Cell: r.Intn(4), From: r.Intn(4)}
	if w.Cells[x.Cell].Open {
		x.Kind = []int{api.HTight, api.HTight, api.HTight, api.HTight, api.HShut, api.HTear, api.HTear}[r.Intn(7)]
	} else if r.Intn(3) == 0 {
		x.Kind = api.HFork
	}
	switch x.Kind {
	case api.HOpen:
		x.P = mixed(r, 3, 2)
	case api.HTight:
		x.P = tighter(r, w.Cells[x.Cell].P)
	case api.HTear:
		x.P = tighter(r, w.Cells[x.Cell].P)
		x.From = []int{r.Intn(40), 9999, -1, r.Intn(200)}[r.Intn(4)]
	}
	if r.Intn(12) == 0 {
		x.Kind = api.HCrash
	}
	if !w.Up && r.Intn(6) > 0 {
		x.Kind = api.HBoot
	}
	switch r.Intn(50) {
	case 0:
		x.Kind = r.Intn(9)
	case 1:
		x.Cell = 4 - x.Cell
	case 2:
		x.P.Default = 5
	}
	return x
}

// worded makes of a right world what a happening leaves, as the document words it, by the layers above.
func worded(w api.World, x api.Happening) (api.World, api.Errno) {
	if x.Kind < 1 || x.Kind > 7 {
		return api.World{}, api.ErrForm
	}
	if x.Kind == api.HBoot {
		if w.Up {
			return api.World{}, api.ErrLate
		}
		d, l, _ := disk.Recover(w.D)
		cells, e := keeper.Replay(l)
		return api.World{Cells: cells, D: d, Up: true}, e
	}
	if !w.Up {
		return api.World{}, api.ErrLate
	}
	if x.Kind == api.HCrash {
		return api.World{Cells: keeper.New(), D: w.D}, api.OK
	}
	rec := map[int]api.Rec{
		api.HOpen:  {Kind: api.ROpen, Cell: x.Cell, P: x.P},
		api.HTight: {Kind: api.RTight, Cell: x.Cell, P: x.P},
		api.HTear:  {Kind: api.RTight, Cell: x.Cell, P: x.P},
		api.HFork:  {Kind: api.RFork, Cell: x.Cell, From: x.From},
		api.HShut:  {Kind: api.RShut, Cell: x.Cell},
	}[x.Kind]
	cells, e := keeper.Next(w.Cells, rec)
	if e != api.OK {
		return api.World{}, e
	}
	d, e := disk.Put(w.D, rec)
	if e != api.OK {
		return api.World{}, e
	}
	if x.Kind == api.HTear {
		n := x.From
		if n < 0 {
			n = 0
		}
		if n > len(d.Wait) {
			n = len(d.Wait)
		}
		return api.World{Cells: keeper.New(), D: api.Disk{Safe: d.Safe, Wait: d.Wait[:n]}}, api.OK
	}
	d, e = disk.Sync(d)
	return api.World{Cells: cells, D: d, Up: true}, e
}

// P13.4: what a session was tightened to, it says whenever it is asked, however often the power goes in between.
func TestSessionsStayTightened(t *testing.T) {
	r := rand.New(rand.NewSource(13))
	seen, steps := map[api.Errno]int{}, map[int]int{}
	for range 60 {
		w := New()
		last := w // as it was when it was up
		var script []api.Happening
		var said []api.Errno
		for range 60 {
			x := anyHappening(r, w)
			next, e := Do(w, x)
			want, f := worded(w, x)
			script, said = append(script, x), append(said, f)
			seen[f]++
			if f != api.OK {
				wantNo(t, "mixed", w, x, f)
				continue
			}
			wantWorld(t, "mixed", next, e, want)
			steps[x.Kind]++
			w = next
			if w.Up {
				wantFaithful(t, r, last, w, x)
				last = w
			}
		}
		got, errors, e := Run(New(), script)
		wantWorld(t, "in a run", got, e, w)
		wantSaid(t, "in a run", errors, said...)
	}
	for _, e := range []api.Errno{api.OK, api.ErrMany, api.ErrRange, api.ErrForm, api.ErrWho, api.ErrLate, api.ErrLoose} {
		if seen[e] < 10 {
			t.Errorf("error %d: only %d times", e, seen[e])
		}
	}
	for kind := api.HOpen; kind <= api.HTear; kind++ {
		if steps[kind] < 30 {
			t.Errorf("kind %d: only %d times", kind, steps[kind])
		}
	}
}

// wantFaithful asks each session of some calls: it says what its policy says, and no more than before; and none is gone but by being shut.
func wantFaithful(t *testing.T, r *rand.Rand, before, after api.World, x api.Happening) {
	t.Helper()
	for at, c := range after.Cells {
		if before.Cells[at].Open && !c.Open && (x.Kind != api.HShut || x.Cell != at) {
			t.Fatalf("session %d is gone by a happening of kind %d", at, x.Kind)
		}
		if !c.Open {
			continue
		}
		wantAsk(t, "its policy", after, at, greatest, says(c.P, greatest), api.OK)
		for range 6 {
			x := anyCall(r)
			// chain.Ask, since Ask checks the whole world for each call
			got, e := chain.Ask(c.Chain, x)
			if got != says(c.P, x) || e != api.OK {
				t.Fatalf("session %d says %d, %d of %v, its policy %d", at, got, e, x, says(c.P, x))
			}
			if was := before.Cells[at]; was.Open && got > says(was.P, x) {
				t.Fatalf("session %d said %d of %v, and now %d", at, says(was.P, x), x, got)
			}
		}
	}
}

// span is the memory of a list, with the room behind it.
type span struct{ from, to uintptr }

func spanOf[T any](l []T) span {
	from := uintptr(unsafe.Pointer(unsafe.SliceData(l)))
	return span{from, from + uintptr(cap(l))*unsafe.Sizeof(*new(T))}
}

func policySpans(p api.Policy) []span {
	l := []span{spanOf(p.Rules)}
	for _, r := range p.Rules {
		l = append(l, spanOf(r.Conds))
	}
	return l
}

func worldSpans(w api.World) []span {
	l := []span{spanOf(w.Cells), spanOf(w.D.Safe), spanOf(w.D.Wait)}
	for _, c := range w.Cells {
		l = append(l, spanOf(c.Chain))
		for _, filter := range c.Chain {
			l = append(l, spanOf(filter))
		}
		l = append(l, policySpans(c.P)...)
	}
	return l
}

// wantOwn: no two lists of an answer share memory, and none shares any with these.
func wantOwn(t *testing.T, what string, own, others []span) {
	t.Helper()
	for at, a := range own {
		for _, b := range append(slices.Clone(own[:at]), others...) {
			if a.from < b.to && b.from < a.to {
				t.Errorf("%s: list %d shares memory", what, at)
			}
		}
	}
}

// crowdedPolicy has something behind each of its lists, that mustn't be touched.
func crowdedPolicy() api.Policy {
	p := read(sampleText)
	conds := append(append(make([]api.Cond, 0, 4), p.Rules[0].Conds...), api.Cond{Field: 82})[:2]
	rules := append(make([]api.Rule, 0, 5), api.Rule{Conds: conds}, p.Rules[1], api.Rule{Verdict: 77})
	return api.Policy{Rules: rules[:2], Default: api.Allow}
}

const crowdedLog = "open 1 " + sampleText + "\ntight 1 " + sampleText + "\nfork 2 1\n"

// crowded is a right world that has something behind each of its lists, and lists in several places.
func crowded() api.World {
	w := up(crowdedLog)
	filter := w.Cells[1].Chain[0]
	filter = append(append(make([]api.Ins, 0, 16), filter...), api.Ins{Kind: 77})[:len(filter)]
	p := crowdedPolicy()
	w.Cells[1].Chain = append(make([][]api.Ins, 0, 8), filter, w.Cells[1].Chain[1], filter)[:2]
	w.Cells[2].Chain = w.Cells[1].Chain[:1]
	w.Cells[1].P, w.Cells[2].P = p, p
	w.Cells = append(append(make([]api.Cell, 0, 8), w.Cells...), w.Cells[1])[:4]
	// both lists of the disk in one piece of memory
	all := append(make([]byte, 0, 400), crowdedLog...)
	w.D.Safe = all
	w.D.Wait = append(all, "shut 1\nshut 2"...)[len(all):len(all)]
	return w
}

// crowdedDown is the same without power: something waits, right behind what is safe.
func crowdedDown() api.World {
	w := crowded()
	w.Cells = append(make([]api.Cell, 4, 8), w.Cells[1])[:4]
	w.D.Wait = w.D.Wait[:len("shut 1\nshut 2")]
	w.Up = false
	return w
}

func wantKept(t *testing.T, w, want api.World) {
	t.Helper()
	reach := func(w api.World) api.World {
		return api.World{Cells: w.Cells[:8], D: api.Disk{Safe: w.D.Safe[:400], Wait: w.D.Wait[:cap(w.D.Wait)]}, Up: w.Up}
	}
	if !alike(w, want) || !alike(reach(w), reach(want)) {
		t.Errorf("the world was changed: %v", reach(w))
	}
	filters, kept := w.Cells[:5][4].Chain, want.Cells[:5][4].Chain
	if !slices.EqualFunc(filters[:8], kept[:8], slices.Equal[[]api.Ins]) || !slices.Equal(filters[0][:16], kept[0][:16]) {
		t.Errorf("the filters were changed: %v, %v", filters[:8], filters[0][:16])
	}
	wantKeptPolicy(t, w.Cells[:5][4].P)
}

func wantKeptPolicy(t *testing.T, p api.Policy) {
	t.Helper()
	want := crowdedPolicy()
	whole := func(p api.Policy) api.Policy { return api.Policy{Rules: p.Rules[:5], Default: p.Default} }
	if !policy.Same(whole(p), whole(want)) || !slices.Equal(p.Rules[0].Conds[:4], want.Rules[0].Conds[:4]) {
		t.Errorf("the policy was changed: %v, %v", p.Rules[:5], p.Rules[0].Conds[:4])
	}
}

// crowdedHappenings has those that make something of a crowded world, each kind but a boot, and some that make nothing.
func crowdedHappenings(p api.Policy) (right, wrong []api.Happening) {
	right = []api.Happening{
		{Kind: api.HOpen, P: p}, {Kind: api.HTight, Cell: 1, P: p}, tight(2, "kill"), fork(3, 1), shut(2), crash(),
		{Kind: api.HTear, Cell: 1, P: p}, {Kind: api.HTear, Cell: 2, From: 20, P: p}, {Kind: api.HTear, Cell: 2, From: 999, P: p},
	}
	wrong = []api.Happening{{}, booted(), shut(0), fork(0, 3), tight(1, "allow"), open(1, "log"), {Kind: api.HOpen, Cell: 9, P: p}}
	return right, wrong
}

func TestWhatIsHandedInStaysAsItIs(t *testing.T) {
	w, d, p := crowded(), crowdedDown(), crowdedPolicy()
	right, wrong := crowdedHappenings(p)
	script := slices.Concat(wrong, right[:5], wrong, []api.Happening{right[5], booted(), right[8], booted()}, make([]api.Happening, 30))[:25]
	kept := slices.Clone(script[:cap(script)])
	for range 3 {
		for _, w := range []api.World{w, d} {
			wantCheck(t, "crowded", w, api.OK)
			Same(w, w)
			for _, x := range append(slices.Concat(right, wrong), booted()) {
				Do(w, x)
				Run(w, []api.Happening{x, x})
			}
			if _, _, e := Run(w, script); e != api.OK {
				t.Fatalf("Run: %d", e)
			}
			for cell := range 4 {
				Ask(w, cell, api.Call{3})
			}
		}
	}
	wantKept(t, w, crowded())
	wantKept(t, d, crowdedDown())
	wantKeptPolicy(t, p)
	for i, x := range script[:cap(script)] {
		if y := kept[i]; x.Kind != y.Kind || x.Cell != y.Cell || x.From != y.From || !policy.Same(x.P, y.P) {
			t.Errorf("happening %d was changed: %v", i, x)
		}
	}
}

func TestAnswersShareNothing(t *testing.T) {
	w, d, p := crowded(), crowdedDown(), crowdedPolicy()
	given := slices.Concat(worldSpans(w), worldSpans(d), policySpans(p))
	wantOwn(t, "New", worldSpans(New()), worldSpans(New()))
	do := func(w api.World, x api.Happening) {
		got, e := Do(w, x)
		if e != api.OK {
			t.Fatalf("%v: %d", x, e)
		}
		other, _ := Do(w, x)
		wantOwn(t, "Do", worldSpans(got), append(worldSpans(other), given...))
	}
	run := func(w api.World, l ...api.Happening) {
		given := append(slices.Clone(given), spanOf(l))
		got, said, e := Run(w, l)
		if e != api.OK {
			t.Fatalf("%v: %d", l, e)
		}
		other, others, _ := Run(w, l)
		given = append(append(given, spanOf(others)), worldSpans(other)...)
		wantOwn(t, "Run", append(worldSpans(got), spanOf(said)), given)
	}
	right, wrong := crowdedHappenings(p)
	for _, x := range right {
		do(w, x)
		run(w, x)
		run(w, x, booted())
		run(d, booted(), x)
	}
	do(d, booted())
	run(d, booted())
	for _, x := range []api.World{w, d} {
		run(x)
		run(x, api.Happening{}, api.Happening{})
	}
	run(w, wrong...)
	// one policy in many happenings
	run(w, api.Happening{Kind: api.HOpen, P: p}, api.Happening{Kind: api.HOpen, Cell: 3, P: p}, api.Happening{Kind: api.HTight, P: p}, api.Happening{Kind: api.HTight, P: p}, api.Happening{Kind: api.HTight, Cell: 2, P: p})
}

// found tells what is wrong with a world as the document words it.
func found(w api.World) api.Errno {
	if e := disk.Check(w.D); e != api.OK {
		return e
	}
	if w.Up && len(w.D.Wait) != 0 {
		return api.ErrForm
	}
	_, l, _ := disk.Recover(w.D)
	if !w.Up {
		l = nil
	}
	cells, e := keeper.Replay(l)
	if e == api.OK && !alike(api.World{Cells: cells}, api.World{Cells: w.Cells}) {
		return api.ErrForm
	}
	return e
}

// wild is a world that is made of pieces, right or wrong.
func wild(r *rand.Rand) api.World {
	lines := []string{"open 1 log\n", "open 0 trap a<5;allow\n", "tight 1 kill\n", "fork 2 1\n", "shut 2\n", "open 3 allow", "\n", "shut 9\n", "tight 1 allow\n", "x"}
	w := New()
	log := ""
	for range r.Intn(5) {
		log += lines[min(r.Intn(len(lines)), r.Intn(len(lines)))]
	}
	w.D.Safe, w.Up = []byte(log), r.Intn(3) > 0
	if r.Intn(8) == 0 || !w.Up && r.Intn(2) == 0 {
		w.D.Wait = []byte(lines[r.Intn(len(lines))])
	}
	if _, l, e := disk.Recover(w.D); e == api.OK && (w.Up || r.Intn(8) == 0) {
		if cells, e := keeper.Replay(l); e == api.OK {
			w.Cells = cells
		}
	}
	switch r.Intn(20) {
	case 0:
		w.Cells = w.Cells[:r.Intn(4)]
	case 1:
		w.Cells[r.Intn(4)].P.Default++
	case 2:
		w.Cells[r.Intn(4)].Open = true
	}
	return w
}

// Whatever is handed in, there is an answer: a right world, or an error and nothing beside it.
func TestAnything(t *testing.T) {
	r := rand.New(rand.NewSource(1313))
	numbers := []int{0, 1, 2, 3, 4, 5, -1, 63, 64, 65535, 65536, math.MinInt, math.MaxInt}
	pick := func() int { return numbers[r.Intn(len(numbers))] }
	seen := map[api.Errno]int{}
	for range 12000 {
		w := wild(r)
		x := api.Happening{Kind: r.Intn(9), Cell: r.Intn(4), From: pick(), P: mixed(r, 2, 2)}
		if r.Intn(9) == 0 {
			x.Cell, x.P.Default = pick(), pick()
		}
		call := anyCall(r)
		call[r.Intn(5)] = pick()
		want := found(w)
		seen[want]++
		wantCheck(t, "wild", w, want)
		if want != api.OK {
			if got, e := Do(w, x); e != want || !zero(got) {
				t.Errorf("wild: Do = %v, %d, want error %d alone", got, e, want)
			}
			wantNoRun(t, "wild", w, []api.Happening{x, x}, want)
			wantAsk(t, "wild", w, pick(), call, 0, want)
			continue
		}
		if next, want := worded(w, x); want != api.OK {
			wantNo(t, "wild", w, x, want)
		} else {
			wantDo(t, "wild", w, x, next)
		}
		for cell, c := range w.Cells {
			verdict, e := chain.Ask(c.Chain, call)
			if !c.Open {
				verdict, e = 0, api.ErrLate
			}
			wantAsk(t, "wild", w, cell, call, verdict, e)
		}
	}
	for _, e := range []api.Errno{api.OK, api.ErrForm, api.ErrRange, api.ErrWho, api.ErrLate, api.ErrLoose, api.ErrTorn, api.ErrText} {
		if seen[e] < 20 {
			t.Errorf("error %d: only %d times", e, seen[e])
		}
	}
}

func TestTheReadmesExamples(t *testing.T) {
	p, q := read("kill nr=3;log"), read("kill nr=3;trap a<5;log")
	open := api.Happening{Kind: api.HOpen, Cell: 1, P: p}
	tight := api.Happening{Kind: api.HTight, Cell: 1, P: q}
	loose := api.Happening{Kind: api.HTight, Cell: 1, P: p}
	boot := api.Happening{Kind: api.HBoot}
	w, e := Do(New(), open)
	wantWorld(t, "opened", w, e, up("open 1 kill nr=3;log\n"))
	w, said, e := Run(w, []api.Happening{tight, loose})
	wantWorld(t, "tightened", w, e, up("open 1 kill nr=3;log\ntight 1 kill nr=3;trap a<5;log\n"))
	wantSaid(t, "tightened", said, api.OK, api.ErrLoose)
	wantAsk(t, "tightened", w, 1, api.Call{4, 0, 4}, api.Trap, api.OK)
	down, e := Do(w, api.Happening{Kind: api.HCrash})
	wantWorld(t, "down", down, e, lies("open 1 kill nr=3;log\ntight 1 kill nr=3;trap a<5;log\n", ""))
	wantAsk(t, "down", down, 1, api.Call{4, 0, 4}, 0, api.ErrLate)
	wantNo(t, "down", down, open, api.ErrLate)
	again, e := Do(down, boot)
	wantWorld(t, "up again", again, e, w)
	wantSame(t, "up again", again, w, true)
	tear := api.Happening{Kind: api.HTear, Cell: 1, From: 8}
	w, said, e = Run(w, []api.Happening{tear, boot})
	wantWorld(t, "torn", w, e, again)
	wantSaid(t, "torn", said, api.OK, api.OK)
	tear.From = 99
	w, said, e = Run(w, []api.Happening{tear, boot})
	wantWorld(t, "kept", w, e, up(string(again.D.Safe)+"tight 1 kill\n"))
	wantSaid(t, "kept", said, api.OK, api.OK)
	wantAsk(t, "kept", w, 1, api.Call{4, 0, 4}, api.Kill, api.OK)
	wantAsk(t, "no such one", w, 4, api.Call{}, 0, api.ErrWho)
	wantCheck(t, "no sessions", api.World{Up: true}, api.ErrForm)
}
