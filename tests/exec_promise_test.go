package tests

import (
	"fmt"
	"math"
	"math/rand"
	"slices"
	"strings"
	"testing"

	"loop.example/s02245/impl"
)

// Promise 13, on sources by chance: what they show is told by their meaning.
func TestExecShowsWhatTheSourceMeans(t *testing.T) {
	r := rand.New(rand.NewSource(91))
	codes, told, shown := map[int]int{}, map[int]int{}, map[string]int{}
	check := func(src string) {
		t.Helper()
		inputs := someInputs(r)
		report := executed(t, src, inputs, 5000)
		codes[report.Code]++
		if report.Code == impl.CodeLimit || report.Code == impl.CodeName {
			return
		}
		for kind, n := range checkMeaning(t, src, inputs, 5000, report) {
			told[kind] += min(n, 1)
		}
		for _, line := range report.Prints {
			shown[strings.TrimPrefix(string(line), "false\t")]++
		}
		if t.Failed() {
			t.FailNow()
		}
	}
	for range 3000 {
		check(composed(r))
	}
	if codes[impl.CodeOK] < 1000 || codes[impl.CodeError] < 500 || codes[impl.CodeBudget] > 1000 || codes[impl.CodeName]+codes[impl.CodeSyntax] > 0 {
		t.Errorf("the reports are not mixed: %v", codes)
	}
	for kind := impl.NodeLocal; kind <= impl.NodeLocFunc; kind++ {
		if told[kind] < 200 {
			t.Errorf("only %d sources come to a node of kind %d", told[kind], kind)
		}
	}
	for _, fault := range []string{"call", "index", "arithmetic", "zero", "concatenation", "comparison", "for"} {
		if shown[fault] < 10 {
			t.Errorf("%s: only %d times", fault, shown[fault])
		}
	}
	// with coroutines too
	for range 1000 {
		src, _ := authored(r, (*author).story)
		check(src)
	}
}

// Trees by chance with all names declared ahead: most fail soon, but in ways
// that nobody would write.
func TestExecOfRandomTrees(t *testing.T) {
	r := rand.New(rand.NewSource(92))
	codes := map[int]int{}
	for range 3000 {
		tr := randomTree(r, 1+r.Intn(60))
		if names := toStrings(impl.FreeNames(tr)); len(names) > 0 && r.Intn(8) > 0 {
			tr = declaredAhead(tr, names...)
		}
		src := writtenByHand(r, tr)
		report := executed(t, src, nil, 2000)
		codes[report.Code]++
		free := len(impl.FreeNames(tr)) > 0
		switch {
		case report.Code == impl.CodeName || free:
			if report.Code != impl.CodeLimit && report.Code != impl.CodeName {
				t.Errorf("%s\n%s", src, showReport(report))
			}
		case report.Code != impl.CodeLimit:
			checkMeaning(t, src, nil, 2000, report)
		}
		if t.Failed() {
			t.Fatal(src)
		}
	}
	if codes[impl.CodeOK] < 300 || codes[impl.CodeError] < 300 || codes[impl.CodeName] < 50 {
		t.Errorf("the reports are not mixed: %v", codes)
	}
}

// changedSource takes bytes or words out of a source, puts some in or exchanges
// them.
func changedSource(r *rand.Rand, src string) string {
	b := []byte(src)
	for range 1 + r.Intn(3) {
		at := r.Intn(len(b) + 1)
		end := min(len(b), at+r.Intn(6))
		put := randomBytes(r, 3)
		switch r.Intn(4) {
		case 0:
			put = nil
		case 1:
			put = []byte(" " + written(alphabet[r.Intn(len(alphabet))]) + " ")
		case 2:
			from := r.Intn(len(b) + 1)
			put = slices.Clone(b[from:min(len(b), from+r.Intn(40))])
		}
		b = slices.Concat(b[:at], put, b[end:])
	}
	return string(b)
}

// swapped has tokens exchanged for others of the same kind, so that most of the
// time it is a source still.
func swapped(r *rand.Rand, src string) string {
	for range 1 + r.Intn(4) {
		tokens, code, _ := impl.Lex([]byte(src))
		if code != impl.CodeOK || len(tokens) == 0 {
			return src
		}
		out, in := tokens[r.Intn(len(tokens))], tokens[r.Intn(len(tokens))]
		if out.Kind == in.Kind {
			src = src[:out.At] + src[in.At:in.At+in.Len] + src[out.At+out.Len:]
		}
	}
	return src
}

// Promise 14: every list of bytes is answered, and what Tidy makes of it shows
// the same.
func TestExecAndTidyOfBytesByChance(t *testing.T) {
	r := rand.New(rand.NewSource(93))
	codes := map[int]int{}
	check := func(src string) {
		t.Helper()
		budget := r.Intn(3000)
		report := executed(t, src, someInputs(r), budget)
		codes[report.Code]++
		if report.At < 0 || report.At > len(src) || report.Steps > budget || report.Code < impl.CodeOK || report.Code > impl.CodeBudget || report.Code == impl.CodeBad || report.Code == impl.CodeZero {
			t.Errorf("%q: %s", src, showReport(report))
		}
		if t.Failed() {
			t.Fatalf("%q", src)
		}
	}
	for range 3000 {
		check(string(randomBytes(r, 40)))
	}
	for range 300 {
		check(string(randomBytes(r, 7000)))
	}
	for range 5000 {
		var words []string
		for range r.Intn(25) {
			words = append(words, written(alphabet[r.Intn(len(alphabet))]))
		}
		check(strings.Join(words, " "))
	}
	for range 2000 {
		src := composed(r)
		if r.Intn(3) == 0 {
			src, _ = authored(r, (*author).story)
		}
		check(changedSource(r, src))
		check(swapped(r, src))
		check(src[:r.Intn(len(src)+1)])
	}
	for _, code := range []int{impl.CodeOK, impl.CodeSyntax, impl.CodeName, impl.CodeLimit, impl.CodeError, impl.CodeBudget} {
		if codes[code] < 50 {
			t.Errorf("the reports are not mixed: %v", codes)
		}
	}
}

// A source that prints what it reads prints its inputs.
func TestExecPrintsWhatItReads(t *testing.T) {
	r := rand.New(rand.NewSource(94))
	for _, src := range []string{
		"local line = read() while line do print(line) line = read() end",
		"repeat local line = read() if line then print(line) end until line == nil",
		"local function copy() local line = read() if line == nil then return end print(line) return copy() end copy()",
		"local lines = create(function() while true do yield(read()) end end) while true do local ok, line = resume(lines) if line == nil then break end print(line) end",
		"local t, n = {}, 0 repeat n = n + 1 t[n] = read() until t[n] == nil for i = 1, n - 1 do print(t[i] .. '') end",
	} {
		for range 60 {
			inputs := make([][]byte, r.Intn(30))
			for i := range inputs {
				inputs[i] = randomBytes(r, 1+r.Intn(300))
			}
			report := executed(t, src, inputs, impl.MaxBudget)
			if report.Code != impl.CodeOK || !sameLines(report.Prints, inputs) {
				t.Fatalf("%s\n%q: %s", src, inputs, showReport(report))
			}
		}
	}
}

// Numbers and texts that are written into a source are printed as they are.
func TestExecPrintsWhatIsWritten(t *testing.T) {
	r := rand.New(rand.NewSource(95))
	printed := func(literal, want string) {
		t.Helper()
		report := executed(t, "print("+literal+")", nil, 10)
		if !sameReport(report, impl.Report{Prints: [][]byte{[]byte(want)}, Steps: 4}) {
			t.Errorf("%q: %s, want %q", literal, showReport(report), want)
		}
	}
	numbers := edgeInts()
	for range 500 {
		numbers = append(numbers, randomNumber(r))
	}
	for _, n := range numbers {
		want := fmt.Sprint(n)
		printed(fmt.Sprintf("0x%x", uint(n)), want)
		printed(fmt.Sprintf("0X%016X", uint(n)), want)
		printed(fmt.Sprint(uint(n)), want)
		printed(fmt.Sprintf("%040d", uint(n)), want)
	}
	for _, n := range numbers {
		if n < 0 {
			// a sign is an operator
			if report := executed(t, fmt.Sprintf("print(%d)", n), nil, 10); report.Steps != 5 || string(report.Prints[0]) != fmt.Sprint(n) {
				t.Errorf("%d: %s", n, showReport(report))
			}
		}
	}
	texts := [][]byte{nil, allBytes()}
	for range 500 {
		texts = append(texts, randomBytes(r, 1+r.Intn(100)))
	}
	for _, text := range texts {
		printed(string(impl.QuoteText(text)), string(text))
		h := &hand{Rand: r}
		h.text(text)
		printed(h.String(), string(text))
	}
	for c := range 256 {
		printed(string(impl.QuoteText([]byte{byte(c)})), string([]byte{byte(c)}))
		printed(fmt.Sprintf("'\\x%02X'", c), string([]byte{byte(c)}))
	}
}

// Promise 1 of whole sources: all operations on numbers by chance, each as two
// literals and as two variables.
func TestExecOfArithmetic(t *testing.T) {
	r := rand.New(rand.NewSource(96))
	signs := []string{"+", "-", "*", "//", "%", "..", "==", "~=", "<", "<=", ">", ">="}
	check := func(a, b int) {
		t.Helper()
		src, want := fmt.Sprintf("local a, b = 0x%x, %d local ok, v ", uint(a), uint(b)), []string{}
		for op, sign := range signs {
			n, code := wantArith(op, a, b)
			shown := fmt.Sprint("true ", n)
			switch {
			case op == impl.OpCat:
				shown = fmt.Sprint("true ", a, "", b)
			case code == impl.CodeZero:
				shown = "false zero"
			case op > impl.OpCat:
				shown = fmt.Sprint("true ", n == 1)
			}
			want = append(want, shown, shown)
			for _, both := range []string{"a " + sign + " b", fmt.Sprintf("%d %s 0X%X", uint(a), sign, uint(b))} {
				src += "ok, v = pcall(function() return " + both + " end) print(ok, v) "
			}
		}
		o := impl.Exec([]byte(src), nil, 1000)
		if got := endOf(impl.Outcome{Code: o.Code, Prints: o.Prints, Error: o.Error}); got != strings.Join(want, "|") {
			t.Fatalf("%s\nshows %s\nwant  %s", src, got, strings.Join(want, "|"))
		}
	}
	edges := edgeInts()
	for _, a := range edges {
		check(a, 0)
		check(a, a)
		for range 5 {
			check(a, edges[r.Intn(len(edges))])
			check(a, randomNumber(r))
		}
	}
	check(math.MinInt, -1)
}

// Promises 11 and 12 of whole sources: pcall gives what the call gives or
// raises, and a coroutine that never yields what pcall gives.
func TestExecOfPcallAndCoroutines(t *testing.T) {
	r := rand.New(rand.NewSource(97))
	counts := map[int]int{}
	for range 700 {
		src, _ := authored(r, func(a *author) string {
			a.calm = true
			return a.calledStory()
		})
		inputs := someInputs(r)
		exec := func(called string) impl.Report {
			return executed(t, strings.ReplaceAll(src, calledMark, called), inputs, 5000)
		}
		bare := exec("local v = run(7) print(true, v)")
		guarded, resumed := exec("local ok, v, w = pcall(run, 7) print(ok, v)"), exec("local ok, v, w = resume(create(run), 7) print(ok, v)")
		counts[bare.Code]++
		if bare.Code == impl.CodeBudget || guarded.Code == impl.CodeBudget || resumed.Code == impl.CodeBudget {
			continue
		}
		want := bare.Prints
		if bare.Code == impl.CodeError {
			want = append(slices.Clone(want), append([]byte("false\t"), bare.Error...))
		}
		if guarded.Code != impl.CodeOK || resumed.Code != impl.CodeOK || !sameLines(guarded.Prints, want) || !sameLines(resumed.Prints, want) {
			t.Fatalf("%s\n%s\nguarded %s\nresumed %s", src, showReport(bare), showReport(guarded), showReport(resumed))
		}
	}
	if counts[impl.CodeOK] < 100 || counts[impl.CodeError] < 100 {
		t.Errorf("the calls are not mixed: %v", counts)
	}
}

// Promises 2 and 3 of whole sources: what is no token or outside the grammar is
// refused where a second reading of the rules says so.
func TestExecRefusesWhatTheRulesDo(t *testing.T) {
	r := rand.New(rand.NewSource(98))
	counts := map[string]int{}
	for range 3000 {
		src := changedSource(r, composed(r)[len(composerPrelude):])
		if r.Intn(2) == 0 {
			src = string(randomBytes(r, 12))
		}
		if _, code, at := modelLex([]byte(src)); code != impl.CodeOK {
			checkRefusedSource(t, src, code, at)
			counts["no token"]++
		}
	}
	g := readGrammar()
	for range 800 {
		c, src := newChart(g), ""
		for range r.Intn(12) {
			token := alphabet[r.Intn(len(alphabet))]
			var possible []string
			for _, one := range alphabet {
				if len(c.behind(one)) > 0 {
					possible = append(possible, one)
				}
			}
			if r.Intn(10) > 0 && len(possible) > 0 {
				token = possible[r.Intn(len(possible))]
			}
			if len(c.behind(token)) == 0 {
				checkRefusedSource(t, src+" "+written(token), impl.CodeSyntax, len(src)+1)
				counts["wrong token"]++
				break
			}
			c.read(token)
			src += " " + written(token)
		}
		if !c.whole() {
			checkRefusedSource(t, src, impl.CodeSyntax, len(src))
			counts["more needed"]++
		} else if report := executed(t, src, nil, 100); report.Code == impl.CodeSyntax {
			t.Errorf("%q: %s", src, showReport(report))
		}
	}
	for _, what := range []string{"no token", "wrong token", "more needed"} {
		if counts[what] < 100 {
			t.Errorf("the sources are not mixed: %v", counts)
		}
	}
}
