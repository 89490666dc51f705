package code

import (
	"math"
	"math/rand"
	"slices"
	"testing"

	"turnkey/api"
)

func load(field int) api.Ins        { return api.Ins{Kind: api.Load, A: field} }
func equal(value, b, c int) api.Ins { return api.Ins{Kind: api.Equal, A: value, B: b, C: c} }
func less(value, b, c int) api.Ins  { return api.Ins{Kind: api.Less, A: value, B: b, C: c} }
func ret(verdict int) api.Ins       { return api.Ins{Kind: api.Return, A: verdict} }

// sample is "kill nr=3 a<5;allow" as a filter, made anew, so that a test may change it.
func sample() []api.Ins {
	return []api.Ins{load(0), equal(3, 0, 3), load(2), less(5, 0, 1), ret(api.Kill), ret(api.Allow)}
}

// loads has n instructions, of which the last one is a Return.
func loads(n int) []api.Ins {
	l := make([]api.Ins, 0, n)
	for i := range n - 1 {
		l = append(l, load(i%api.Fields))
	}
	return append(l, ret(api.Log))
}

// followed sets one instruction ahead of n Returns.
func followed(i api.Ins, n int) []api.Ins {
	l := []api.Ins{i}
	for range n {
		l = append(l, ret(api.Allow))
	}
	return l
}

func wantCheck(t *testing.T, what string, l []api.Ins, want api.Errno) {
	t.Helper()
	if got := Check(l); got != want {
		t.Errorf("%s: Check = %d, want %d", what, got, want)
	}
}

func wantRun(t *testing.T, what string, l []api.Ins, x api.Call, verdict, done int, errno api.Errno) {
	t.Helper()
	v, n, e := Run(l, x)
	if v != verdict || n != done || e != errno {
		t.Errorf("%s: Run of %v = %d, %d, %d, want %d, %d, %d", what, x, v, n, e, verdict, done, errno)
	}
}

func TestCheckLetsThrough(t *testing.T) {
	wantCheck(t, "the sample", sample(), api.OK)
	wantCheck(t, "one", followed(ret(api.Kill), 0), api.OK)
	wantCheck(t, "a Return in the midst", followed(ret(api.Kill), 3), api.OK)
	wantCheck(t, "what no way leads to", []api.Ins{ret(api.Kill), load(4), equal(7, 0, 1), less(7, 1, 0), ret(api.Fail), ret(api.Log)}, api.OK)
}

func TestCheckCounts(t *testing.T) {
	wantCheck(t, "nil", nil, api.ErrMany)
	wantCheck(t, "none", []api.Ins{}, api.ErrMany)
	wantCheck(t, "none, with room behind", sample()[:0], api.ErrMany)
	wantCheck(t, "one", loads(1), api.OK)
	wantCheck(t, "two", loads(2), api.OK)
	wantCheck(t, "one below", loads(1499), api.OK)
	wantCheck(t, "as many", loads(1500), api.OK)
	wantCheck(t, "one more", loads(1501), api.ErrMany)
	wantCheck(t, "many more", loads(40000), api.ErrMany)
}

func TestCheckKinds(t *testing.T) {
	for kind := -3; kind <= 9; kind++ {
		want := api.ErrForm
		if kind >= 1 && kind <= 4 {
			want = api.OK
		}
		wantCheck(t, "kind", followed(api.Ins{Kind: kind}, 2), want)
	}
	for _, kind := range []int{math.MinInt, math.MaxInt, 1 << 32, 1<<32 + 1, -1, 0, 5} {
		wantCheck(t, "no kind, first", followed(api.Ins{Kind: kind}, 2), api.ErrForm)
		wantCheck(t, "no kind, alone", followed(api.Ins{Kind: kind}, 0), api.ErrForm)
		wantCheck(t, "no kind, last", append(sample(), api.Ins{Kind: kind}), api.ErrForm)
	}
}

func TestCheckSteps(t *testing.T) {
	for _, row := range []struct {
		kind, a int
		want    api.Errno
	}{
		{api.Load, 0, api.OK}, {api.Load, 1, api.OK}, {api.Load, 2, api.OK}, {api.Load, 3, api.OK}, {api.Load, 4, api.OK},
		{api.Load, -1, api.ErrRange}, {api.Load, 5, api.ErrRange}, {api.Load, math.MinInt, api.ErrRange}, {api.Load, math.MaxInt, api.ErrRange},
		{api.Return, 0, api.OK}, {api.Return, 1, api.OK}, {api.Return, 2, api.OK}, {api.Return, 3, api.OK}, {api.Return, 4, api.OK},
		{api.Return, -1, api.ErrRange}, {api.Return, 5, api.ErrRange}, {api.Return, math.MinInt, api.ErrRange}, {api.Return, math.MaxInt, api.ErrRange},
	} {
		wantCheck(t, "A of a step", followed(api.Ins{Kind: row.kind, A: row.a}, 3), row.want)
		for _, n := range []int{-1, 1, 2, math.MinInt, math.MaxInt} {
			wantCheck(t, "B of a step", followed(api.Ins{Kind: row.kind, A: row.a, B: n}, 3), api.ErrForm)
			wantCheck(t, "C of a step", followed(api.Ins{Kind: row.kind, A: row.a, C: n}, 3), api.ErrForm)
			wantCheck(t, "B and C of a step", followed(api.Ins{Kind: row.kind, A: row.a, B: n, C: -n}, 3), api.ErrForm)
		}
	}
}

func TestCheckJumpValues(t *testing.T) {
	for _, kind := range []int{api.Equal, api.Less} {
		for _, a := range []int{0, 1, 3, 63, 64, 65534, 65535} {
			wantCheck(t, "A of a jump", followed(api.Ins{Kind: kind, A: a}, 1), api.OK)
		}
		for _, a := range []int{-1, 65536, math.MinInt, math.MaxInt} {
			wantCheck(t, "A past its bounds", followed(api.Ins{Kind: kind, A: a}, 1), api.ErrRange)
			wantCheck(t, "A and B past their bounds", followed(api.Ins{Kind: kind, A: a, B: 9}, 1), api.ErrRange)
			wantCheck(t, "A and C past their bounds", followed(api.Ins{Kind: kind, A: a, C: -1}, 1), api.ErrRange)
		}
	}
	wantCheck(t, "a value that the field loaded never has", []api.Ins{load(1), equal(65535, 0, 0), ret(api.Kill)}, api.OK)
}

func TestCheckJumpWays(t *testing.T) {
	for _, kind := range []int{api.Equal, api.Less} {
		for behind := range 6 {
			for n := -2; n <= behind+2; n++ {
				want := api.ErrWho
				if n >= 0 && n < behind {
					want = api.OK
				}
				wantCheck(t, "B and C", followed(api.Ins{Kind: kind, B: n, C: n}, behind), want)
				wantCheck(t, "B", followed(api.Ins{Kind: kind, B: n}, behind), want)
				wantCheck(t, "C", followed(api.Ins{Kind: kind, C: n}, behind), want)
			}
		}
		for _, n := range []int{math.MinInt, math.MaxInt, math.MaxInt - 1, 1 << 32} {
			wantCheck(t, "B far off", followed(api.Ins{Kind: kind, B: n}, 4), api.ErrWho)
			wantCheck(t, "C far off", followed(api.Ins{Kind: kind, C: n}, 4), api.ErrWho)
		}
	}
}

// Where a jump stands counts, not how long the filter is.
func TestCheckJumpInTheMidst(t *testing.T) {
	for at := range 5 {
		l := followed(ret(api.Kill), 5)
		l[at] = equal(0, 4-at, 0)
		wantCheck(t, "to the last one", l, api.OK)
		l[at] = less(0, 0, 4-at)
		wantCheck(t, "to the last one", l, api.OK)
		l[at] = equal(0, 5-at, 0)
		wantCheck(t, "just behind the end", l, api.ErrWho)
		l[at] = less(0, 0, 5-at)
		wantCheck(t, "just behind the end", l, api.ErrWho)
	}
	l := loads(api.MaxCode)
	l[0] = equal(0, 1498, 1498)
	wantCheck(t, "over all of the longest one", l, api.OK)
	l[0] = equal(0, 0, 1499)
	wantCheck(t, "over all of the longest one, and out", l, api.ErrWho)
}

func TestCheckEnd(t *testing.T) {
	for field := range api.Fields {
		wantCheck(t, "a Load alone", followed(load(field), 0), api.ErrForm)
		wantCheck(t, "a Load last", append(sample(), load(field)), api.ErrForm)
	}
	wantCheck(t, "an Equal alone", followed(equal(0, 0, 0), 0), api.ErrWho)
	wantCheck(t, "a Less last", append(sample(), less(0, 0, 0)), api.ErrWho)
	wantCheck(t, "a wrong Load last", append(sample(), load(5)), api.ErrRange)
	wantCheck(t, "a wrong jump last", append(sample(), equal(-1, 0, 0)), api.ErrRange)
}

func TestCheckTellsTheFirstError(t *testing.T) {
	none, who, wrong, form := api.Ins{Kind: 5}, equal(0, 99, 0), load(-1), api.Ins{Kind: api.Load, C: 1}
	for _, row := range []struct {
		what string
		l    []api.Ins
		want api.Errno
	}{
		{"no kind and all else wrong", followed(api.Ins{Kind: 7, A: -1, B: -1, C: -1}, 1), api.ErrForm},
		{"way, kind, range", []api.Ins{who, none, wrong, ret(api.Kill)}, api.ErrWho},
		{"kind, way, range", []api.Ins{none, who, wrong, ret(api.Kill)}, api.ErrForm},
		{"range, way, form", []api.Ins{wrong, who, form, ret(api.Kill)}, api.ErrRange},
		{"form, range", []api.Ins{form, wrong, ret(api.Kill)}, api.ErrForm},
		{"range, form", []api.Ins{wrong, form, ret(api.Kill)}, api.ErrRange},
		{"way, and no Return last", []api.Ins{who, load(0)}, api.ErrWho},
		{"range, and no Return last", []api.Ins{ret(5), load(0)}, api.ErrRange},
		{"behind a Return", []api.Ins{ret(api.Kill), who, ret(api.Kill)}, api.ErrWho},
		{"the last one", []api.Ins{load(0), load(1), ret(-1)}, api.ErrRange},
	} {
		wantCheck(t, row.what, row.l, row.want)
	}
	many := loads(1501)
	many[0], many[1500] = none, load(0)
	wantCheck(t, "too many, and no kind", many, api.ErrMany)
	many[0] = who
	wantCheck(t, "too many, and no such way", many, api.ErrMany)
}

func TestRunSample(t *testing.T) {
	wantRun(t, "both hold", sample(), api.Call{3, 0, 4}, api.Kill, 5, api.OK)
	wantRun(t, "the second one doesn't", sample(), api.Call{3, 0, 5}, api.Allow, 5, api.OK)
	wantRun(t, "the first one doesn't", sample(), api.Call{4, 0, 4}, api.Allow, 3, api.OK)
	wantRun(t, "none does", sample(), api.Call{63, 3, 65535, 65535, 65535}, api.Allow, 3, api.OK)
}

func TestRunReturns(t *testing.T) {
	for verdict := api.Kill; verdict <= api.Allow; verdict++ {
		wantRun(t, "a Return alone", followed(ret(verdict), 0), api.Call{}, verdict, 1, api.OK)
		wantRun(t, "the first Return says", []api.Ins{load(0), ret(verdict), ret(4 - verdict)}, api.Call{}, verdict, 2, api.OK)
	}
}

func TestRunBothWays(t *testing.T) {
	for _, row := range []struct {
		value        int
		equal, below bool
	}{
		{0, false, true}, {499, false, true}, {500, true, false}, {501, false, false}, {65535, false, false},
	} {
		x := api.Call{0, 0, row.value}
		equalSays, belowSays := api.Trap, api.Trap
		if row.equal {
			equalSays = api.Log
		}
		if row.below {
			belowSays = api.Log
		}
		ends := []api.Ins{ret(api.Kill), ret(api.Trap), ret(api.Kill), ret(api.Log)}
		wantRun(t, "Equal", append([]api.Ins{load(2), equal(500, 3, 1)}, ends...), x, equalSays, 3, api.OK)
		wantRun(t, "Less", append([]api.Ins{load(2), less(500, 3, 1)}, ends...), x, belowSays, 3, api.OK)
	}
}

func TestRunJumpEdges(t *testing.T) {
	ends := []api.Ins{ret(api.Trap), ret(api.Log)}
	of := func(i api.Ins) []api.Ins { return append([]api.Ins{load(4), i}, ends...) }
	top := api.Call{0, 0, 0, 0, 65535}
	wantRun(t, "nothing is below 0", of(less(0, 0, 1)), api.Call{}, api.Log, 3, api.OK)
	wantRun(t, "0 is below 1", of(less(1, 0, 1)), api.Call{}, api.Trap, 3, api.OK)
	wantRun(t, "0 is 0", of(equal(0, 0, 1)), api.Call{}, api.Trap, 3, api.OK)
	wantRun(t, "the greatest one is itself", of(equal(65535, 0, 1)), top, api.Trap, 3, api.OK)
	wantRun(t, "the greatest one isn't below itself", of(less(65535, 0, 1)), top, api.Log, 3, api.OK)
	wantRun(t, "both ways alike", of(equal(9, 1, 1)), top, api.Log, 3, api.OK)
}

// Each field is loaded by its own number, and takes the place of the one before it.
func TestRunLoads(t *testing.T) {
	x := api.Call{11, 2, 333, 4444, 55555}
	for field := range api.Fields {
		l := []api.Ins{load(field), equal(x[field], 0, 1), ret(api.Trap), ret(api.Log)}
		wantRun(t, "the field", l, x, api.Trap, 3, api.OK)
		for before := range api.Fields {
			wantRun(t, "the one loaded last", append([]api.Ins{load(before)}, l...), x, api.Trap, 4, api.OK)
		}
		l[1].A--
		wantRun(t, "not the field", l, x, api.Log, 3, api.OK)
	}
	stays := []api.Ins{load(2), equal(1, 0, 0), less(2, 0, 0), equal(333, 0, 1), ret(api.Trap), ret(api.Log)}
	wantRun(t, "jumps leave what is loaded", stays, x, api.Trap, 5, api.OK)
	passed := []api.Ins{load(2), equal(333, 1, 1), load(3), equal(333, 0, 1), ret(api.Trap), ret(api.Log)}
	wantRun(t, "a Load that is left out loads nothing", passed, x, api.Trap, 4, api.OK)
}

func TestRunNothingLoaded(t *testing.T) {
	x := api.Call{63, 3, 65535, 65535, 65535}
	wantRun(t, "it is 0", []api.Ins{equal(0, 1, 0), ret(api.Trap), ret(api.Log)}, x, api.Log, 2, api.OK)
	wantRun(t, "it isn't 1", []api.Ins{equal(1, 1, 0), ret(api.Trap), ret(api.Log)}, x, api.Trap, 2, api.OK)
	wantRun(t, "it isn't below 0", []api.Ins{less(0, 1, 0), ret(api.Trap), ret(api.Log)}, x, api.Trap, 2, api.OK)
	wantRun(t, "it is below 1", []api.Ins{less(1, 1, 0), ret(api.Trap), ret(api.Log)}, x, api.Log, 2, api.OK)
	// a filter that was run has nothing to say in the next one
	wantRun(t, "something is loaded", sample(), x, api.Allow, 3, api.OK)
	wantRun(t, "again it is 0", []api.Ins{equal(0, 1, 0), ret(api.Trap), ret(api.Log)}, x, api.Log, 2, api.OK)
}

func TestRunCounts(t *testing.T) {
	for _, n := range []int{1, 2, 3, 100, 1499, 1500} {
		wantRun(t, "all of them", loads(n), api.Call{}, api.Log, n, api.OK)
	}
	l := loads(api.MaxCode)
	l[0] = equal(0, 1498, 0)
	wantRun(t, "what is left out isn't counted", l, api.Call{}, api.Log, 2, api.OK)
	l[0] = equal(1, 1498, 0)
	wantRun(t, "none left out", l, api.Call{}, api.Log, 1500, api.OK)
	l[0] = equal(1, 0, 1000)
	wantRun(t, "many left out", l, api.Call{}, api.Log, 500, api.OK)
}

func TestRunWrong(t *testing.T) {
	for _, row := range []struct {
		what string
		l    []api.Ins
		want api.Errno
	}{
		{"nil", nil, api.ErrMany},
		{"too many", loads(1501), api.ErrMany},
		{"no kind", followed(api.Ins{}, 1), api.ErrForm},
		{"no such way", followed(less(0, 1, 0), 1), api.ErrWho},
		{"no such field", followed(load(5), 1), api.ErrRange},
		{"no Return", followed(load(0), 0), api.ErrForm},
		{"wrong where no way leads", []api.Ins{ret(api.Log), ret(5)}, api.ErrRange},
	} {
		wantRun(t, row.what, row.l, api.Call{}, 0, 0, row.want)
		wantRun(t, row.what+", and no call", row.l, api.Call{-1, 4, 65536}, 0, 0, row.want)
	}
	for field, most := range [api.Fields]int{63, 3, 65535, 65535, 65535} {
		var x api.Call
		x[field] = most
		wantRun(t, "the greatest one", followed(ret(api.Log), 0), x, api.Log, 1, api.OK)
		for _, value := range []int{most + 1, -1, math.MinInt, math.MaxInt} {
			x[field] = value
			wantRun(t, "no call", followed(ret(api.Log), 0), x, 0, 0, api.ErrRange)
			wantRun(t, "no call", sample(), x, 0, 0, api.ErrRange)
		}
	}
}

// says is what a filter says, told by what its rest says, so that Run is held against another way to go.
func says(l []api.Ins, x api.Call, loaded int) (int, int) {
	i, rest := l[0], l[1:]
	if i.Kind == api.Return {
		return i.A, 1
	}
	if i.Kind == api.Load {
		loaded = x[i.A]
	} else if i.Kind == api.Equal && loaded == i.A || i.Kind == api.Less && loaded < i.A {
		rest = rest[i.B:]
	} else {
		rest = rest[i.C:]
	}
	verdict, done := says(rest, x, loaded)
	return verdict, done + 1
}

// mixed makes a right filter of n instructions.
func mixed(r *rand.Rand, n int) []api.Ins {
	var l []api.Ins
	for behind := n - 1; behind > 0; behind-- {
		switch kind := 1 + r.Intn(4); kind {
		case api.Load, api.Return:
			l = append(l, api.Ins{Kind: kind, A: r.Intn(5)})
		default:
			l = append(l, api.Ins{Kind: kind, A: r.Intn(4), B: r.Intn(behind), C: r.Intn(behind)})
		}
	}
	return append(l, ret(r.Intn(5)))
}

func TestRunMixed(t *testing.T) {
	r := rand.New(rand.NewSource(4))
	for range 5000 {
		l := mixed(r, 1+r.Intn(12))
		wantCheck(t, "mixed", l, api.OK)
		x := api.Call{r.Intn(4), r.Intn(4), r.Intn(4), r.Intn(4), r.Intn(4)}
		verdict, done := says(l, x, 0)
		wantRun(t, "mixed", l, x, verdict, done, api.OK)
	}
}

// Whatever is handed in, Check and Run answer, and tell the same error.
func TestRunAnything(t *testing.T) {
	r := rand.New(rand.NewSource(44))
	numbers := []int{0, 0, 1, 2, 3, 4, 5, -1, 65535, 65536, math.MinInt, math.MaxInt}
	number := func() int { return numbers[r.Intn(len(numbers))] }
	for range 20000 {
		l := mixed(r, 1+r.Intn(5))
		l[r.Intn(len(l))] = api.Ins{Kind: number(), A: number(), B: number(), C: number()}
		want := Check(l)
		if v, n, e := Run(l, api.Call{}); e != want || e != api.OK && (v != 0 || n != 0) {
			t.Fatalf("Run of %v = %d, %d, %d, Check says %d", l, v, n, e, want)
		}
	}
}

func TestInputsStayAsTheyAre(t *testing.T) {
	room := append(append(make([]api.Ins, 0, 9), sample()...), ret(api.Fail), api.Ins{Kind: 77}, api.Ins{A: 78})
	kept := slices.Clone(room)
	l := room[:6]
	for range 3 {
		wantCheck(t, "again", l, api.OK)
		wantRun(t, "again", l, api.Call{3, 0, 4}, api.Kill, 5, api.OK)
		wantCheck(t, "again", room, api.ErrForm)
	}
	if !slices.Equal(room, kept) {
		t.Errorf("the filter was changed: %v, was %v", room, kept)
	}
}
