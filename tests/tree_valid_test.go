package tests

import (
	"bytes"
	"fmt"
	"math"
	"math/rand"
	"regexp"
	"slices"
	"strings"
	"testing"

	"loop.example/s02245/impl"
)

// kindLetters has a letter for each kind of node: L to Z are the expressions.
const kindLetters = "ABCDEFGHIJKLMNOPQRSTUVWXYZa"

// childPatterns are the rows of the table of trees, as patterns of the letters
// of the children; the row of an assignment hangs on its N.
var childPatterns = [...]string{
	impl.NodeBlock: "[B-HKa]*[B-Ka]?", impl.NodeLocal: "[L-Z]{0,50}", impl.NodeAssign: "[QR]{%d}[L-Z]{1,50}",
	impl.NodeDo: "A", impl.NodeWhile: "[L-Z]A", impl.NodeRepeat: "A[L-Z]", impl.NodeIf: "([L-Z]A)+A?",
	impl.NodeFor: "[L-Z]{2,3}A", impl.NodeBreak: "", impl.NodeReturn: "[L-Z]{0,50}", impl.NodeCallStat: "S",
	impl.NodeNil: "", impl.NodeTrue: "", impl.NodeFalse: "", impl.NodeInt: "", impl.NodeText: "", impl.NodeName: "",
	impl.NodeIndex: "[L-Z]{2}", impl.NodeCall: "[L-Z]{1,51}", impl.NodeFunc: "A", impl.NodeTable: "([L-Z]{2})*",
	impl.NodeBin: "[L-Z]{2}", impl.NodeAnd: "[L-Z]{2}", impl.NodeOr: "[L-Z]{2}",
	impl.NodeNot: "[L-Z]", impl.NodeNeg: "[L-Z]", impl.NodeLocFunc: "T",
}

var (
	patternsMade = map[string]*regexp.Regexp{}
	nameForm     = regexp.MustCompile(`^[A-Za-z_][A-Za-z0-9_]*$`)
	wordForm     = regexp.MustCompile(`^(?:` + strings.ReplaceAll(lexWords, " ", "|") + `)$`)
)

func matches(pattern, s string) bool {
	made := patternsMade[pattern]
	if made == nil {
		made = regexp.MustCompile("^(?:" + pattern + ")$")
		patternsMade[pattern] = made
	}
	return made.MatchString(s)
}

func modelName(name []byte) bool {
	return nameForm.Match(name) && !wordForm.Match(name) && len(name) <= 5000
}

// modelFields holds the fields of a node, but for Count, against the table.
func modelFields(n impl.Node) bool {
	low, high := 0, 0
	switch n.Kind {
	case impl.NodeLocal:
		low, high = 1, 50
	case impl.NodeLocFunc, impl.NodeFor, impl.NodeName:
		low, high = 1, 1
	case impl.NodeFunc:
		high = 50
	}
	if len(n.Names) < low || len(n.Names) > high || slices.ContainsFunc(n.Names, func(s []byte) bool { return !modelName(s) }) {
		return false
	}
	if n.Kind != impl.NodeText && len(n.Text) > 0 || len(n.Text) > 5000 {
		return false
	}
	switch n.Kind {
	case impl.NodeInt:
		return true
	case impl.NodeAssign:
		return 1 <= n.N && n.N <= 50
	case impl.NodeBin:
		return 0 <= n.N && n.N <= 11
	}
	return n.N == 0
}

// modelNode answers how many nodes the valid node at the front has, 0 if there
// is none.
func modelNode(t tree, deep int, looped bool) int {
	if len(t) == 0 || deep > 200 || t[0].Kind < 0 || t[0].Kind > 26 || t[0].Count < 0 || !modelFields(t[0]) {
		return 0
	}
	n := t[0]
	if n.Kind == impl.NodeBreak && !looped {
		return 0
	}
	looped = n.Kind != impl.NodeFunc && (looped || n.Kind == impl.NodeWhile || n.Kind == impl.NodeRepeat || n.Kind == impl.NodeFor)
	size, letters := 1, ""
	for range n.Count {
		more := modelNode(t[size:], deep+1, looped)
		if more == 0 {
			return 0
		}
		letters += kindLetters[t[size].Kind:][:1]
		size += more
	}
	pattern := childPatterns[n.Kind]
	if n.Kind == impl.NodeAssign {
		pattern = fmt.Sprintf(pattern, n.N)
	}
	if !matches(pattern, letters) {
		return 0
	}
	return size
}

func modelValid(t tree) bool {
	return len(t) > 0 && len(t) <= 6000 && t[0].Kind == impl.NodeBlock && modelNode(t, 1, false) == len(t)
}

func checkValid(t *testing.T, what string, list tree, want bool) {
	t.Helper()
	if impl.ValidTree(list) != want {
		t.Errorf("%s: valid is not %v: %.300s", what, want, show(list))
	}
	if !want && len(impl.PrintTree(list)) != 0 {
		t.Errorf("%s: a tree that is not valid is printed", what)
	}
}

func checkValidLikeModel(t *testing.T, list tree) {
	t.Helper()
	checkValid(t, "like the model", list, modelValid(list))
}

// smallest answers a valid node of each kind, with one name or target where
// there must be some.
func smallest(kind int) tree {
	nothing, empty := of(impl.NodeNil), of(impl.NodeBlock)
	switch kind {
	case impl.NodeLocal, impl.NodeName:
		return with(kind, []string{"a"})
	case impl.NodeLocFunc:
		return with(kind, []string{"f"}, of(impl.NodeFunc, empty))
	case impl.NodeAssign:
		return assignOf([]tree{nameOf("a")}, nothing)
	case impl.NodeDo, impl.NodeFunc:
		return of(kind, empty)
	case impl.NodeWhile, impl.NodeIf:
		return of(kind, nothing, empty)
	case impl.NodeRepeat:
		return of(kind, empty, nothing)
	case impl.NodeFor:
		return with(kind, []string{"i"}, nothing, nothing, empty)
	case impl.NodeCallStat:
		return of(kind, of(impl.NodeCall, nothing))
	case impl.NodeCall, impl.NodeNot, impl.NodeNeg:
		return of(kind, nothing)
	case impl.NodeIndex, impl.NodeBin, impl.NodeAnd, impl.NodeOr:
		return of(kind, nothing, nothing)
	}
	return of(kind)
}

// planted puts a node where one of its kind may stand, in a loop.
func planted(n tree) tree {
	body := blockOf(n)
	switch {
	case n[0].Kind == impl.NodeBlock:
		body = n
	case impl.NodeNil <= n[0].Kind && n[0].Kind <= impl.NodeNeg:
		body = returnOf(n)
	}
	return blockOf(of(impl.NodeWhile, of(impl.NodeTrue), body))
}

func TestValidTreeSmallestOfEveryKind(t *testing.T) {
	for kind := range 27 {
		checkValid(t, "smallest", planted(smallest(kind)), true)
	}
	checkValid(t, "empty block", tree{{}}, true)
	checkValid(t, "no node", nil, false)
	checkValid(t, "two blocks", tree{{}, {}}, false)
}

func TestValidTreeOtherKinds(t *testing.T) {
	for _, kind := range []int{-1, 27, 28, 255, 256, 256 + impl.NodeNil, math.MinInt, math.MaxInt} {
		checkValid(t, "in a block", blockOf(of(kind)), false)
		checkValid(t, "in a return", returnOf(of(kind)), false)
		checkValid(t, "alone", of(kind), false)
	}
	for kind := 1; kind < 27; kind++ {
		checkValid(t, "not a block", smallest(kind), false)
	}
}

func TestValidTreeEveryListOfChildren(t *testing.T) {
	var parts []tree
	for kind := range 27 {
		parts = append(parts, smallest(kind))
	}
	try := func(kind int, children ...tree) {
		n := join(smallest(kind)[0], children...)
		checkValidLikeModel(t, planted(n))
	}
	few := []tree{smallest(impl.NodeBlock), smallest(impl.NodeReturn), smallest(impl.NodeBreak), smallest(impl.NodeName), smallest(impl.NodeCall), smallest(impl.NodeFunc)}
	for kind := range 27 {
		try(kind)
		for _, a := range parts {
			try(kind, a)
			for _, b := range parts {
				try(kind, a, b)
			}
		}
		for _, a := range few {
			for _, b := range few {
				for _, c := range few {
					try(kind, a, b, c)
					for _, d := range few {
						try(kind, a, b, c, d)
					}
				}
			}
		}
	}
}

func TestValidTreeFieldsThatMustBeEmpty(t *testing.T) {
	for kind := range 27 {
		for _, n := range []int{-1, 1, 2, 11, 12, 50, 51, math.MinInt, math.MaxInt} {
			list := smallest(kind)
			list[0].N = n
			checkValidLikeModel(t, planted(list))
		}
		for _, size := range []int{1, 5000, 5001} {
			list := smallest(kind)
			list[0].Text = make([]byte, size)
			checkValidLikeModel(t, planted(list))
		}
		for _, count := range []int{0, 1, 2, 3, 49, 50, 51, 52} {
			list := smallest(kind)
			list[0].Names = namesOf(slices.Repeat([]string{"a"}, count)...)
			checkValidLikeModel(t, planted(list))
		}
	}
}

func TestValidTreeNames(t *testing.T) {
	names := append(strings.Fields(lexWords), "", "1", "1a", "a1", "_", "A_9z", "a b", " a", "a ", "a-b", "a.b", "\"a\"",
		"a\x00", "\xe9", "End", "endo", "--a", "a\n", "break_", strings.Repeat("n", 5000), strings.Repeat("n", 5001))
	for c := range 256 {
		names = append(names, string([]byte{byte(c)}), string([]byte{'a', byte(c)}))
	}
	for _, name := range names {
		want := modelName([]byte(name))
		checkValid(t, "name", returnOf(nameOf(name)), want)
		checkValid(t, "local", blockOf(with(impl.NodeLocal, []string{"a", name})), want)
		checkValid(t, "parameter", returnOf(with(impl.NodeFunc, []string{name, "a"}, of(impl.NodeBlock))), want)
		checkValid(t, "for", blockOf(with(impl.NodeFor, []string{name}, of(impl.NodeNil), of(impl.NodeNil), of(impl.NodeBlock))), want)
		checkValid(t, "local function", blockOf(with(impl.NodeLocFunc, []string{name}, of(impl.NodeFunc, of(impl.NodeBlock)))), want)
		if len(name) <= 5000 {
			checkValid(t, "text", returnOf(textOf(name)), true)
		}
	}
}

func TestValidTreeArgumentLimits(t *testing.T) {
	for _, n := range []int{1, 49, 50, 51, 100} {
		values, want := repeated(n, of(impl.NodeNil)), n <= impl.MaxArgs
		targets := repeated(n, nameOf("a"))
		checkValid(t, "return", returnOf(values...), want)
		checkValid(t, "local", blockOf(with(impl.NodeLocal, []string{"a"}, values...)), want)
		checkValid(t, "targets", blockOf(assignOf(targets, of(impl.NodeNil))), want)
		checkValid(t, "values", blockOf(assignOf(targets[:1], values...)), want)
		checkValid(t, "both", blockOf(assignOf(targets, values...)), want)
		checkValid(t, "call", returnOf(of(impl.NodeCall, append(values, of(impl.NodeNil))...)), want)
		checkValid(t, "table", returnOf(of(impl.NodeTable, append(values, values...)...)), true)
	}
	for n := range 5 {
		list := blockOf(join(impl.Node{Kind: impl.NodeAssign, N: n}, repeated(3, nameOf("a"))...))
		checkValid(t, "targets of three", list, n == 1 || n == 2)
	}
}

func TestValidTreeSize(t *testing.T) {
	for _, n := range []int{5998, 5999, 6000} {
		checkValid(t, "statements", blockOf(repeated(n, with(impl.NodeLocal, []string{"a"}))...), n+1 <= impl.MaxNodes)
	}
	for _, n := range []int{2997, 2998, 2999, 3000} {
		fields := repeated(2*n, of(impl.NodeNil))
		checkValid(t, "fields", blockOf(with(impl.NodeLocal, []string{"a"}, of(impl.NodeTable, fields...))), 2*n+3 <= impl.MaxNodes)
	}
}

// stacked puts n of the nodes above, each with one child, over a tree.
func stacked(n int, above, below tree) tree {
	return append(slices.Repeat(above, n), below...)
}

func TestValidTreeDepth(t *testing.T) {
	not := tree{{Kind: impl.NodeNot, Count: 1}}
	do := tree{{Kind: impl.NodeBlock, Count: 1}, {Kind: impl.NodeDo, Count: 1}}
	for _, deep := range []int{3, 199, 200, 201, 202, 300, 5990} {
		want := deep <= impl.MaxDeep
		checkValid(t, "unary", returnOf(stacked(deep-3, not, of(impl.NodeNil))), want)
		if deep%2 == 1 {
			checkValid(t, "do", stacked(deep/2, do, of(impl.NodeBlock)), want)
		}
		// The deepest node need not be the last one of the list.
		checkValid(t, "not the last", returnOf(stacked(deep-3, not, of(impl.NodeNil)), of(impl.NodeNil)), want)
	}
}

func TestValidTreeBreaks(t *testing.T) {
	stop, test := of(impl.NodeBreak), of(impl.NodeTrue)
	function := func(body ...tree) tree {
		return with(impl.NodeLocFunc, []string{"f"}, of(impl.NodeFunc, blockOf(body...)))
	}
	loops := []func(body ...tree) tree{
		func(body ...tree) tree { return of(impl.NodeWhile, test, blockOf(body...)) },
		func(body ...tree) tree { return of(impl.NodeRepeat, blockOf(body...), test) },
		func(body ...tree) tree { return with(impl.NodeFor, []string{"i"}, test, test, blockOf(body...)) },
	}
	checkValid(t, "in no loop", blockOf(stop), false)
	checkValid(t, "in a do", blockOf(of(impl.NodeDo, blockOf(stop))), false)
	checkValid(t, "in a function", blockOf(function(stop)), false)
	for _, loop := range loops {
		checkValid(t, "in a loop", blockOf(loop(stop)), true)
		checkValid(t, "behind a loop", blockOf(loop(), stop), false)
		checkValid(t, "in a do in a loop", blockOf(loop(of(impl.NodeDo, blockOf(stop)))), true)
		checkValid(t, "in an if in a loop", blockOf(loop(of(impl.NodeIf, test, blockOf(stop), blockOf(stop)))), true)
		checkValid(t, "in a function in a loop", blockOf(loop(function(stop))), false)
		checkValid(t, "in a loop in a function in a loop", blockOf(loop(function(loop(stop)))), true)
		checkValid(t, "behind a function in a loop", blockOf(loop(function(), stop)), true)
		checkValid(t, "not the last", blockOf(loop(stop, smallest(impl.NodeLocal))), false)
		checkValid(t, "twice", blockOf(loop(stop, stop)), false)
		checkValid(t, "return not the last", blockOf(loop(of(impl.NodeReturn), stop)), false)
	}
	hidden := of(impl.NodeCall, of(impl.NodeFunc, blockOf(stop)))
	checkValid(t, "in the expression of a while", blockOf(of(impl.NodeWhile, hidden, blockOf())), false)
	checkValid(t, "in the expression of a repeat", blockOf(of(impl.NodeRepeat, blockOf(), hidden)), false)
}

func TestValidTreeWrongCounts(t *testing.T) {
	for kind := range 27 {
		for _, count := range []int{-1, math.MinInt, math.MaxInt, 7, 6000} {
			list := smallest(kind)
			list[0].Count = count
			checkValid(t, "count", planted(list), false)
		}
	}
	greedy := make(tree, 6000)
	for i := range greedy {
		greedy[i] = impl.Node{Kind: impl.NodeTable, Count: len(greedy) - 1 - i}
	}
	checkValid(t, "each claims the rest", greedy, false)
}

// spoilt changes one thing about one node of a tree.
func spoilt(r *rand.Rand, list tree) tree {
	list = copyTree(list)
	i := r.Intn(len(list))
	switch r.Intn(8) {
	case 0:
		list[i].Kind = r.Intn(29) - 1
	case 1:
		list[i].N += r.Intn(5) - 2
	case 2:
		list[i].Count += r.Intn(3) - 1
	case 3:
		list[i].Names = append(list[i].Names, []byte("a"))
	case 4:
		list[i].Names = list[i].Names[:len(list[i].Names)/2]
	case 5:
		list[i].Text = append(list[i].Text, 'x')
	case 6:
		list = slices.Delete(list, i, i+1)
	case 7:
		list = slices.Insert(list, i, smallest(r.Intn(27))...)
	}
	return list
}

func TestValidTreeMixed(t *testing.T) {
	r := rand.New(rand.NewSource(3))
	for range 3000 {
		list := randomTree(r, 1+r.Intn(40))
		checkValid(t, "made by the table", list, true)
		for range 5 {
			list = spoilt(r, list)
			checkValidLikeModel(t, list)
			if len(list) == 0 {
				break
			}
		}
	}
}

func TestTreesAreNotWrittenInto(t *testing.T) {
	r := rand.New(rand.NewSource(4))
	for range 50 {
		list := randomTree(r, 60)
		before := copyTree(list)
		impl.ValidTree(list)
		spoil(impl.PrintTree(list))
		if !sameTree(list, before) {
			t.Fatalf("the tree was changed: %s", show(before))
		}
	}
}

func TestParseSharesNoMemory(t *testing.T) {
	src := []byte("local a, b = 'x', c.d; f(function(p, q) return {e = 1} end)")
	kept := bytes.Clone(src)
	list, _, _ := impl.Parse(src)
	want := copyTree(list)
	spoilAndMend := func(b []byte, good []byte) {
		spoil(b)
		if !bytes.Equal(src, kept) {
			t.Errorf("the source was changed: %q", src)
		}
		copy(b, good)
		if !sameTree(list, want) {
			t.Errorf("two lists of the tree share memory: %s", show(list))
		}
	}
	for i, n := range list {
		spoilAndMend(n.Text, want[i].Text)
		for k, name := range n.Names {
			spoilAndMend(name, want[i].Names[k])
		}
	}
	spoil(src)
	if !sameTree(list, want) {
		t.Errorf("the tree is made of the source: %s", show(list))
	}
}
