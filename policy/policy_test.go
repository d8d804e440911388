package policy_test

import (
	"math"
	"slices"
	"strings"
	"testing"
	"unicode/utf8"

	"winnow/api"
	"winnow/policy"
)

// longest is a text of as many bytes as a name may have.
func longest() string { return strings.Repeat("x", api.MaxName) }

// told is a rule, and the line that tells it.
type told struct {
	r    policy.Rule
	line string
}

// tolds has rules of each What, at the edges of what is right.
func tolds() []told {
	return []told{
		{policy.Rule{Keep: true, What: "always"}, "keep always"},
		{policy.Rule{What: "always"}, "drop always"},
		{policy.Rule{Keep: true, What: "fail"}, "keep fail"},
		{policy.Rule{What: "fail"}, "drop fail"},
		{policy.Rule{Keep: true, What: "root"}, "keep root"},
		{policy.Rule{What: "root"}, "drop root"},
		{policy.Rule{Keep: true, What: "slow"}, "keep slow 0"},
		{policy.Rule{What: "slow", Num: 1}, "drop slow 1"},
		{policy.Rule{Keep: true, What: "slow", Num: 907}, "keep slow 907"},
		{policy.Rule{What: "slow", Num: api.MaxTime}, "drop slow 1099511627776"},
		{policy.Rule{Keep: true, What: "many", Num: 1}, "keep many 1"},
		{policy.Rule{What: "many", Num: api.MaxSpans}, "drop many 16"},
		{policy.Rule{Keep: true, What: "hash"}, "keep hash 0"},
		{policy.Rule{What: "hash", Num: 100}, "drop hash 100"},
		{policy.Rule{Keep: true, What: "hash", Num: 1000}, "keep hash 1000"},
		{policy.Rule{Keep: true, What: "service", Text: "a"}, "keep service a"},
		{policy.Rule{What: "service", Text: longest()}, "drop service " + longest()},
		{policy.Rule{Keep: true, What: "service", Text: "*"}, "keep service *"},
		{policy.Rule{What: "service", Text: "always"}, "drop service always"},
		{policy.Rule{Keep: true, What: "name", Text: "*"}, "keep name *"},
		{policy.Rule{What: "name", Text: "/é?*\ufffd"}, "drop name /é?*\ufffd"},
		{policy.Rule{Keep: true, What: "name", Text: longest()}, "keep name " + longest()},
		{policy.Rule{What: "name", Text: "0"}, "drop name 0"},
		{policy.Rule{Keep: true, What: "name", Text: "a\u00a0b"}, "keep name a\u00a0b"},
	}
}

// wrongs has what is no rule.
func wrongs() []policy.Rule {
	l := []policy.Rule{
		{What: "slow", Num: api.MaxTime + 1}, {What: "slow", Num: math.MaxUint64}, {What: "slow", Num: 5, Text: "5"},
		{What: "many"}, {What: "many", Num: api.MaxSpans + 1}, {What: "many", Num: math.MaxUint64}, {What: "many", Num: 1, Text: "a"},
		{What: "hash", Num: 1001}, {What: "hash", Num: math.MaxUint64}, {What: "hash", Num: 1, Text: "a"},
	}
	for _, what := range []string{"", "keep", "drop", "Always", "FAIL", "always ", " always", "root\n", "slow 5", "service a", "fai", "names", "\xff", longest()} {
		l = append(l, policy.Rule{What: what}, policy.Rule{What: what, Num: 1}, policy.Rule{What: what, Text: "a"})
	}
	for _, what := range []string{"always", "fail", "root"} {
		l = append(l, policy.Rule{What: what, Num: 1}, policy.Rule{What: what, Num: math.MaxUint64}, policy.Rule{What: what, Text: "a"})
	}
	for _, what := range []string{"service", "name"} {
		l = append(l, policy.Rule{What: what, Num: 1, Text: "a"}, policy.Rule{What: what, Num: 1})
		for _, text := range []string{"", longest() + "x", "\n", "a\nb", "\x1f", "\x7f", "\u0080", "\u009f", "\xff", "a\xffb", " ", " a", "a ", "a b"} {
			l = append(l, policy.Rule{What: what, Text: text})
		}
	}
	keeping := slices.Clone(l)
	for i := range keeping {
		keeping[i].Keep = true
	}
	return append(l, keeping...)
}

// so is n times the rule.
func so(n int, r policy.Rule) []policy.Rule { return slices.Repeat([]policy.Rule{r}, n) }

// rightIs holds Right of l to that kind, and Show of what is not right to it.
func rightIs(t *testing.T, l []policy.Rule, want api.Kind) {
	t.Helper()
	if k := policy.Right(l); k != want {
		t.Errorf("Right of %d rules, %#v: %d, not %d", len(l), l, k, want)
	}
	if want == api.OK {
		return
	}
	if s, k := policy.Show(l); s != "" || k != want {
		t.Errorf("Show of %d rules, %#v: %q %d, not nothing and %d", len(l), l, s, k, want)
	}
}

func parseTells(t *testing.T, s string, want []policy.Rule) {
	t.Helper()
	if l, k := policy.Parse(s); !slices.Equal(l, want) || k != api.OK {
		t.Errorf("Parse of %q: %#v %d, not %#v 0", s, l, k, want)
	}
}

func parseFails(t *testing.T, s string, want api.Kind) {
	t.Helper()
	if l, k := policy.Parse(s); len(l) != 0 || k != want {
		t.Errorf("Parse of %q: %#v %d, not nothing and %d", s, l, k, want)
	}
}

func showTells(t *testing.T, l []policy.Rule, want string) {
	t.Helper()
	if s, k := policy.Show(l); s != want || k != api.OK {
		t.Errorf("Show of %#v: %q %d, not %q 0", l, s, k, want)
	}
}

func TestP401RightOfRules(t *testing.T) {
	rightIs(t, nil, api.OK)
	rightIs(t, []policy.Rule{}, api.OK)
	for _, c := range tolds() {
		rightIs(t, []policy.Rule{c.r}, api.OK)
		rightIs(t, so(api.MaxRules, c.r), api.OK)
		rightIs(t, so(api.MaxRules+1, c.r), api.TooLarge)
		rightIs(t, so(300, c.r), api.TooLarge)
	}
}

func TestP401RightOfWhatIsNoRule(t *testing.T) {
	rightIs(t, []policy.Rule{{}}, api.BadRule)
	rightIs(t, []policy.Rule{{Keep: true}}, api.BadRule)
	fine := policy.Rule{Keep: true, What: "always"}
	for _, r := range wrongs() {
		rightIs(t, []policy.Rule{r}, api.BadRule)
		for _, n := range []int{2, 3, api.MaxRules} {
			for i := range n {
				l := so(n, fine)
				l[i] = r
				rightIs(t, l, api.BadRule)
			}
		}
		rightIs(t, so(api.MaxRules, r), api.BadRule)
		rightIs(t, so(api.MaxRules+1, r), api.TooLarge)
	}
}

func TestP401ParseAndShowOfOneRule(t *testing.T) {
	for _, c := range tolds() {
		parseTells(t, c.line, []policy.Rule{c.r})
		showTells(t, []policy.Rule{c.r}, c.line)
	}
}

func TestP401ParseAndShowOfNoRule(t *testing.T) {
	parseTells(t, "", nil)
	showTells(t, nil, "")
	showTells(t, []policy.Rule{}, "")
}

func TestP401ParseAndShowOfSeveral(t *testing.T) {
	l := []policy.Rule{{Keep: true, What: "fail"}, {Keep: true, What: "hash", Num: 100}}
	parseTells(t, "keep fail\nkeep hash 100", l)
	showTells(t, l, "keep fail\nkeep hash 100")
	l = []policy.Rule{{What: "name", Text: "/health*"}, {Keep: true, What: "slow", Num: 500}, {What: "always"}}
	parseTells(t, "drop name /health*\nkeep slow 500\ndrop always", l)
	showTells(t, l, "drop name /health*\nkeep slow 500\ndrop always")
	for _, c := range tolds() {
		for _, n := range []int{2, 15, api.MaxRules} {
			text := strings.Repeat(c.line+"\n", n-1) + c.line
			parseTells(t, text, so(n, c.r))
			showTells(t, so(n, c.r), text)
		}
	}
}

// lines has what is no line of a rule, each for a reason of its own.
func lines() []string {
	l := []string{
		"keep", "drop", "keep ", "always", "fail", " ", "k", "\x00",
		"Keep always", "KEEP always", "keepalways", "kee always", "keep\talways", " keep always", "keep  always", "hold always", "keep keep always",
		"keep Always", "keep always ", "keep always 0", "keep always 1", "keep always a", "keep alway", "keep always always", "keep\u00a0always",
		"keep fail ", "keep fail 0", "keep fail true", "keep root ", "keep root 0", "keep fail,", "keep fail\r", "keep fail;",
		"keep many 0", "keep many 17", "keep hash 1001", "keep slow 1099511627777", "keep slow 18446744073709551615",
		"keep slow 18446744073709551616", "keep many 18446744073709551617", "keep hash 99999999999999999999999999", // 2^64, and above it
		"keep service", "keep service ", "keep service  a", "keep service a ", "keep service a b", "keep service\ta", "keep service a\r",
		"keep name", "keep name ", "keep name  a", "keep name a ", "keep name * *", "keep name a\x7f", "keep name a\u0085",
		"keep service \xff", "keep name \xff", "keep name a\xef\xbf", "keep service " + longest() + "x", "keep name " + longest() + "x",
	}
	for _, what := range []string{"slow", "many", "hash"} {
		for _, num := range []string{"", " ", "  5", " 5 ", " 05", " 00", " 005", " +5", " -5", " -0", " 5.0", " 5e0", " 0x5", " 1_0", " five", " ५", " 5,", " 5 5", "5", " 5a", " 5\r", "\t5", " \"5\""} {
			l = append(l, "keep "+what+num)
		}
	}
	for _, line := range slices.Clone(l) {
		if rest, is := strings.CutPrefix(line, "keep "); is {
			l = append(l, "drop "+rest)
		}
	}
	return l
}

func TestP401ParseOfWhatIsNoLine(t *testing.T) {
	for _, line := range lines() {
		parseFails(t, line, api.BadRule)
		parseFails(t, line+"\nkeep always", api.BadRule)
		parseFails(t, "keep always\n"+line, api.BadRule)
		parseFails(t, "keep always\n"+line+"\ndrop fail", api.BadRule)
	}
}

func TestP401ParseOfEmptyLines(t *testing.T) {
	for _, s := range []string{"\n", "\n\n", "keep always\n", "\nkeep always", "keep always\n\ndrop fail", "keep always\r\ndrop fail", "keep always\rdrop fail"} {
		parseFails(t, s, api.BadRule)
	}
}

func TestP401ParseAtTheLimitOfLines(t *testing.T) {
	parseFails(t, strings.Repeat("\n", api.MaxRules-1), api.BadRule) // MaxRules lines, all empty
	parseFails(t, strings.Repeat("\n", api.MaxRules), api.TooLarge)
	parseFails(t, strings.Repeat("\n", api.MaxText), api.TooLarge)
	parseFails(t, strings.Repeat("keep always\n", api.MaxRules-1), api.BadRule)
	parseFails(t, strings.Repeat("keep always\n", api.MaxRules), api.TooLarge)
	parseFails(t, strings.Repeat("keep always\n", api.MaxRules)+"keep always", api.TooLarge)
	parseFails(t, strings.Repeat("no rule\n", api.MaxRules)+"no rule", api.TooLarge)
}

func TestP401ParseAtTheLimitOfBytes(t *testing.T) {
	line := "keep name "
	parseFails(t, line+strings.Repeat("x", api.MaxText-len(line)), api.BadRule)
	parseFails(t, line+strings.Repeat("x", api.MaxText+1-len(line)), api.TooLarge)
	parseFails(t, strings.Repeat(" ", api.MaxText), api.BadRule)
	parseFails(t, strings.Repeat(" ", api.MaxText+1), api.TooLarge)
	// Bytes count, not runes.
	parseFails(t, strings.Repeat("é", api.MaxText/2), api.BadRule)
	parseFails(t, strings.Repeat("é", api.MaxText/2)+"a", api.TooLarge)
	parseFails(t, strings.Repeat("x", 1<<20), api.TooLarge)
}

func TestP401ShowOfTheLongestRules(t *testing.T) {
	for _, r := range []policy.Rule{{What: "service", Text: longest()}, {What: "slow", Num: api.MaxTime}, {What: "name", Text: longest()}} {
		l := so(api.MaxRules, r)
		s, k := policy.Show(l)
		if k != api.OK || len(s) > api.MaxText {
			t.Fatalf("Show of %d times %#v: %d bytes, kind %d", api.MaxRules, r, len(s), k)
		}
		parseTells(t, s, l)
	}
}

func TestP401WhatIsHandedInAndOut(t *testing.T) {
	room := so(api.MaxRules+5, policy.Rule{Keep: true, What: "hash", Num: 7})
	was := slices.Clone(room)
	spans := []api.Span{good(), good()}
	policy.Right(room[:3])
	policy.Show(room[:3])
	policy.Eval(room[:3], spans[:1])
	if !slices.Equal(room, was) || !slices.Equal(spans, []api.Span{good(), good()}) {
		t.Error("what was handed in was changed")
	}
	one, _ := policy.Parse("keep fail\nkeep hash 100")
	two, _ := policy.Parse("keep fail\nkeep hash 100")
	clear(one[:cap(one)])
	if !slices.Equal(two, []policy.Rule{{Keep: true, What: "fail"}, {Keep: true, What: "hash", Num: 100}}) {
		t.Error("what Parse answered is no memory of its own")
	}
	parseTells(t, "keep fail\nkeep hash 100", two)
}

func TestP402MixOfKnownNumbers(t *testing.T) {
	const step = 0x9e3779b97f4a7c15
	// What a known generator gives whose state grows by that step.
	known := []struct {
		first uint64
		mixed []uint64
	}{
		{0, []uint64{0xe220a8397b1dcdaf, 0x6e789e6aa1b965f4, 0x06c45d188009454f, 0xf88bb8a8724c81ec, 0x1b39896a51a8749b}},
		{1234567, []uint64{6457827717110365317, 3203168211198807973, 9817491932198370423, 4593380528125082431, 16408922859458223821}},
	}
	for _, c := range known {
		n := c.first
		for _, want := range c.mixed {
			if got := policy.Mix(n); got != want {
				t.Errorf("Mix of %d: %016x, not %016x", n, got, want)
			}
			n += step
		}
	}
}

// unmixed is the number that has that Mix: the words' steps, turned back.
func unmixed(n uint64) uint64 {
	back := func(n uint64, places int) uint64 {
		was := n
		for range 64 / places {
			was = n ^ was>>places
		}
		return was
	}
	// A factor's inverse: what it is multiplied by to give 1.
	inverse := func(f uint64) uint64 {
		i := f
		for range 6 {
			i *= 2 - f*i
		}
		return i
	}
	n = back(n, 31) * inverse(0x94d049bb133111eb)
	n = back(n, 27) * inverse(0xbf58476d1ce4e5b9)
	return back(n, 30) - 0x9e3779b97f4a7c15
}

func TestP402MixIsTurnedBack(t *testing.T) {
	for _, n := range []uint64{0, 1, 2, 1000, math.MaxUint32, 1 << 63, math.MaxInt64, math.MaxUint64 - 1, math.MaxUint64} {
		if got := unmixed(policy.Mix(n)); got != n {
			t.Errorf("Mix of %x: %x, which is that of %x", n, policy.Mix(n), got)
		}
		if got := policy.Mix(unmixed(n)); got != n {
			t.Errorf("Mix of %x: %x, not %x", unmixed(n), got, n)
		}
	}
	for n := range uint64(10000) {
		if got := unmixed(policy.Mix(n)); got != n {
			t.Fatalf("Mix of %d: that of %d", n, got)
		}
	}
}

func matchIs(t *testing.T, pattern, name string, want bool) {
	t.Helper()
	if got := policy.Match(pattern, name); got != want {
		t.Errorf("Match of %q and %q: %t", pattern, name, got)
	}
}

func TestP402Match(t *testing.T) {
	for _, c := range []struct {
		pattern, name string
		want          bool
	}{
		{"get", "get", true}, {"get", "Get", false}, {"get", "gets", false}, {"get", "ge", false}, {"get", "put", false}, {"get", "", false},
		{"", "", true}, {"", "a", false}, {"*", "", true}, {"*", "anything", true}, {"?", "", false}, {"?", "a", true}, {"?", "ab", false},
		{"**", "", true}, {"**", "a", true}, {"*?", "", false}, {"?*", "a", true}, {"??", "a", false}, {"*?*?*", "a", false}, {"*?*?*", "ab", true},
		{"/buy*", "/buy", true}, {"/buy*", "/buy/5", true}, {"/buy*", "/bu", false}, {"*buy", "/buy", true}, {"*buy", "/buy/", false},
		{"*a*b*", "xaxbx", true}, {"*a*b*", "xbxax", false}, {"a*a", "a", false}, {"a*a", "aa", true}, {"a*ab", "aaab", true}, {"a*ab", "aab", true}, {"a*ab", "ab", false},
		{"*ab*abc", "ababcabc", true}, {"*ab*abd*", "ababcabc", false}, {"*aab", "aaaab", true}, {"a?c*", "abcabc", true},
		{"?", "é", true}, {"??", "é", false}, {"?", "日", true}, {"??", "日本", true}, {"日*", "日本", true}, {"*本", "日本", true}, {"*é", "è", false},
		{"?", "\U0010ffff", true}, {"?", "\ufffd", true}, {"\ufffd", "\ufffd", true}, {"*", "\ufffd", true}, {"\ufffd", "é", false},
		{"?", "e\u0301", false}, {"é", "e\u0301", false}, // one letter to the eye, two runes
		{"*", "*", true}, {"?", "?", true}, {"a*", "a*", true}, {"*", "?*", true}, {"a", "*", false}, {"a", "?", false},
		{"[a]", "[a]", true}, {"[a]", "a", false}, {`\*`, "*", false}, {`\*`, `\x`, true}, {"a.c", "abc", false}, {"a|b", "a", false},
		{"a b", "a b", true}, {"a\nb", "a\nb", true}, {"?", "\x00", true},
	} {
		matchIs(t, c.pattern, c.name, c.want)
	}
}

func TestP402MatchOfWhatIsNoUTF8(t *testing.T) {
	for _, s := range []string{"\xff", "\x80", "a\xff", "\xffa", "\xef\xbf", "\xef\xbf\xbd\xff", "\xc3", "\xed\xa0\x80", "\xc0\x80", "\xf4\x90\x80\x80"} {
		for _, other := range []string{"", "a", "?", "*", "??", "*?", "?*", "**", "\ufffd", "a*", "*a", s, s + "*", "*" + s, "a" + s} {
			matchIs(t, s, other, false)
			matchIs(t, other, s, false)
			matchIs(t, s+"*", other, false)
			matchIs(t, "*"+s, other, false)
		}
	}
}

// matches is the chapter's word, one rune after another.
func matches(pattern, name string) bool {
	if pattern == "" {
		return name == ""
	}
	p, size := utf8.DecodeRuneInString(pattern)
	pattern = pattern[size:]
	if p == '*' && matches(pattern, name) {
		return true
	}
	if name == "" {
		return false
	}
	n, size := utf8.DecodeRuneInString(name)
	if p == '*' {
		return matches("*"+pattern, name[size:])
	}
	return (p == '?' || p == n) && matches(pattern, name[size:])
}

// texts has all texts of at most so many of these runes.
func texts(most int, runes string) []string {
	all := []string{""}
	last := all
	for range most {
		var next []string
		for _, s := range last {
			for _, r := range runes {
				next = append(next, s+string(r))
			}
		}
		all = append(all, next...)
		last = next
	}
	return all
}

func TestP402MatchOfAllShortTexts(t *testing.T) {
	names := append(texts(5, "aé"), texts(3, "aé*?")...)
	for _, pattern := range texts(5, "aé*?") {
		for _, name := range names {
			if want := matches(pattern, name); policy.Match(pattern, name) != want {
				t.Fatalf("Match of %q and %q: not %t", pattern, name, want)
			}
		}
	}
}

func TestP402MatchOfLongTextsEnds(t *testing.T) {
	name := strings.Repeat("a", 3000)
	matchIs(t, strings.Repeat("a*", 1000)+"b", name, false)
	matchIs(t, strings.Repeat("*a", 1000)+"*", name, true)
	matchIs(t, strings.Repeat("*", 3000)+"?", name, true)
	matchIs(t, strings.Repeat("*?", 3001), name, false)
	matchIs(t, strings.Repeat("*?", 3000), name, true)
	matchIs(t, strings.Repeat("é", 3000), strings.Repeat("é", 3000), true)
}

// good is a span of which, as it stands, no rule says much: no root, no failure.
func good() api.Span {
	return api.Span{Trace: 5, Id: 1, Parent: 9, Start: 3, Length: 100, Service: "shop", Name: "/buy é"}
}

// with is the good span, changed.
func with(change func(s *api.Span)) api.Span {
	s := good()
	change(&s)
	return s
}

// holdsIs holds Holds to that, whether the rule keeps or drops.
func holdsIs(t *testing.T, r policy.Rule, l []api.Span, want bool) {
	t.Helper()
	for _, keep := range []bool{true, false} {
		r.Keep = keep
		if got := policy.Holds(r, l); got != want {
			t.Errorf("Holds of %#v and %d spans, %#v: %t", r, len(l), l, got)
		}
	}
}

// oneOf holds the rule to that of the span alone, and, with others of which it
// does not hold, in each place.
func oneOf(t *testing.T, r policy.Rule, s api.Span, want bool, others api.Span) {
	t.Helper()
	holdsIs(t, r, []api.Span{s}, want)
	holdsIs(t, r, []api.Span{others, others}, false)
	for _, n := range []int{2, 3, api.MaxSpans, 40} {
		for i := range n {
			l := slices.Repeat([]api.Span{others}, n)
			l[i] = s
			holdsIs(t, r, l, want)
		}
	}
}

func TestP403HoldsOfOneSpanAtLeast(t *testing.T) {
	length := func(n uint64) api.Span { return with(func(s *api.Span) { s.Length = n }) }
	service := func(text string) api.Span { return with(func(s *api.Span) { s.Service = text }) }
	name := func(text string) api.Span { return with(func(s *api.Span) { s.Name = text }) }
	fail := with(func(s *api.Span) { s.Fail = true })
	root := with(func(s *api.Span) { s.Parent = 0 })
	for _, c := range []struct {
		r    policy.Rule
		s    api.Span
		want bool
	}{
		{policy.Rule{What: "fail"}, fail, true}, {policy.Rule{What: "fail"}, root, false},
		{policy.Rule{What: "root"}, root, true}, {policy.Rule{What: "root"}, fail, false},
		{policy.Rule{What: "root"}, with(func(s *api.Span) { s.Parent = 1 }), false},
		{policy.Rule{What: "slow", Num: 101}, length(101), true}, {policy.Rule{What: "slow", Num: 101}, length(102), true},
		{policy.Rule{What: "slow", Num: 102}, length(101), false}, {policy.Rule{What: "slow", Num: api.MaxTime}, length(api.MaxTime), true},
		{policy.Rule{What: "slow", Num: api.MaxTime}, length(api.MaxTime - 1), false}, {policy.Rule{What: "slow", Num: api.MaxTime}, length(math.MaxUint64), true},
		{policy.Rule{What: "slow", Num: 101}, length(1 << 63), true}, {policy.Rule{What: "slow", Num: 101}, length(0), false},
		{policy.Rule{What: "service", Text: "pay"}, service("pay"), true}, {policy.Rule{What: "service", Text: "pay"}, service("pays"), false},
		{policy.Rule{What: "service", Text: "pay"}, service("Pay"), false}, {policy.Rule{What: "service", Text: "pay"}, name("pay"), false},
		{policy.Rule{What: "service", Text: "p*"}, service("pay"), false}, {policy.Rule{What: "service", Text: "p*"}, service("p*"), true},
		{policy.Rule{What: "service", Text: "pa?"}, service("pay"), false}, {policy.Rule{What: "service", Text: "é"}, service("é"), true},
		{policy.Rule{What: "service", Text: "\ufffd"}, service("\xff"), false},
		{policy.Rule{What: "name", Text: "/pay*"}, name("/pay/5"), true}, {policy.Rule{What: "name", Text: "/pay*"}, name("/pa"), false},
		{policy.Rule{What: "name", Text: "/pay*"}, service("/pay/5"), false}, {policy.Rule{What: "name", Text: "??"}, name("éé"), true},
		{policy.Rule{What: "name", Text: "/pay?now"}, name("/pay now"), true}, {policy.Rule{What: "name", Text: "\ufffd"}, name("\xff"), false},
	} {
		oneOf(t, c.r, c.s, c.want, good())
	}
	// With others that have nothing these rules ask for.
	oneOf(t, policy.Rule{What: "name", Text: "*"}, good(), true, name("\xff"))
	oneOf(t, policy.Rule{What: "slow", Num: 1}, length(1), true, length(0))
}

func TestP403HoldsOfAlwaysAndOfAllThatIsLong(t *testing.T) {
	for _, s := range []api.Span{good(), {}, with(func(s *api.Span) { s.Trace = math.MaxUint64 })} {
		for _, n := range []int{1, 2, api.MaxSpans, api.MaxSpans + 1, 100} {
			l := slices.Repeat([]api.Span{s}, n)
			holdsIs(t, policy.Rule{What: "always"}, l, true)
			holdsIs(t, policy.Rule{What: "slow"}, l, true)
			holdsIs(t, policy.Rule{What: "many", Num: 1}, l, true)
		}
	}
}

func TestP403HoldsOfMany(t *testing.T) {
	for n := range 40 {
		for num := 1; num <= api.MaxSpans; num++ {
			holdsIs(t, policy.Rule{What: "many", Num: uint64(num)}, slices.Repeat([]api.Span{good()}, n), n >= num)
		}
	}
}

func TestP403HoldsOfHash(t *testing.T) {
	of := func(trace uint64) []api.Span { return []api.Span{with(func(s *api.Span) { s.Trace = trace })} }
	traces := []uint64{0, 1, 2, math.MaxUint64, 1 << 63}
	for _, mixed := range []uint64{0, 1, 499, 500, 998, 999, 1000, 1001, math.MaxInt64, 1 << 63, math.MaxUint64} {
		traces = append(traces, unmixed(mixed))
	}
	for _, trace := range traces {
		rest := policy.Mix(trace) % 1000
		for num := range uint64(1001) {
			holdsIs(t, policy.Rule{What: "hash", Num: num}, of(trace), rest < num)
		}
	}
	// Known ones: Mix of 0 is e220a8397b1dcdaf, whose rest is 535.
	holdsIs(t, policy.Rule{What: "hash", Num: 535}, of(0), false)
	holdsIs(t, policy.Rule{What: "hash", Num: 536}, of(0), true)
	kept := 0
	for trace := range uint64(10000) {
		if policy.Holds(policy.Rule{What: "hash", Num: 100}, of(trace)) {
			kept++
		}
	}
	if kept < 900 || kept > 1100 {
		t.Errorf("a tenth of 10000 traces: %d", kept)
	}
	low, high := with(func(s *api.Span) { s.Trace = unmixed(3) }), with(func(s *api.Span) { s.Trace = unmixed(900) })
	oneOf(t, policy.Rule{What: "hash", Num: 4}, low, true, high)
}

func TestP403HoldsOfNoSpans(t *testing.T) {
	for _, c := range tolds() {
		holdsIs(t, c.r, nil, false)
		holdsIs(t, c.r, []api.Span{}, false)
	}
}

func TestP403HoldsOfWhatIsNoRule(t *testing.T) {
	s := api.Span{Trace: unmixed(0), Id: 1, Length: math.MaxUint64, Service: "a", Name: "a", Fail: true}
	l := slices.Repeat([]api.Span{s}, 20)
	for _, r := range wrongs() {
		for _, text := range []string{r.Text, s.Service} {
			l[0].Service, l[0].Name = text, text
			holdsIs(t, r, l, false)
			holdsIs(t, r, nil, false)
		}
	}
}

func evalIs(t *testing.T, rules []policy.Rule, l []api.Span, want api.Verdict) {
	t.Helper()
	if got := policy.Eval(rules, l); got != want {
		t.Errorf("Eval of %#v and %#v: %d, not %d", rules, l, got, want)
	}
}

// parsed is the rules of a text that is a policy's.
func parsed(t *testing.T, s string) []policy.Rule {
	t.Helper()
	l, k := policy.Parse(s)
	if k != api.OK {
		t.Fatalf("Parse of %q: %d", s, k)
	}
	return l
}

func TestP403EvalOfNoSpansOrNoRules(t *testing.T) {
	for _, c := range tolds() {
		evalIs(t, []policy.Rule{c.r}, nil, api.None)
		evalIs(t, []policy.Rule{c.r}, []api.Span{}, api.None)
	}
	evalIs(t, nil, nil, api.None)
	evalIs(t, so(20, policy.Rule{}), nil, api.None)
	evalIs(t, nil, []api.Span{good()}, api.Drop)
	evalIs(t, []policy.Rule{}, []api.Span{good()}, api.Drop)
}

func TestP403EvalOfTheFirstThatHolds(t *testing.T) {
	plain := []api.Span{good(), with(func(s *api.Span) { s.Id = 2 })}
	failed := []api.Span{good(), with(func(s *api.Span) { s.Fail = true })}
	for _, c := range []struct {
		text          string
		plain, failed api.Verdict
	}{
		{"keep always", api.Keep, api.Keep}, {"drop always", api.Drop, api.Drop},
		{"keep fail", api.Drop, api.Keep}, {"drop fail", api.Drop, api.Drop},
		{"drop fail\nkeep always", api.Keep, api.Drop}, {"keep fail\ndrop always", api.Drop, api.Keep},
		{"keep always\ndrop fail", api.Keep, api.Keep}, {"keep many 3\nkeep fail", api.Drop, api.Keep},
		{"keep many 3\ndrop many 2\nkeep always", api.Drop, api.Drop}, {"keep many 3\nkeep many 2\ndrop always", api.Keep, api.Keep},
		{"keep root\nkeep slow 101\nkeep service pay\nkeep name pay\nkeep hash 0", api.Drop, api.Drop},
		{"keep fail\nkeep hash 0", api.Drop, api.Keep}, {"drop fail\nkeep hash 1000", api.Keep, api.Drop},
		{"drop root\ndrop slow 101\nkeep service shop\ndrop always", api.Keep, api.Keep},
	} {
		evalIs(t, parsed(t, c.text), plain, c.plain)
		evalIs(t, parsed(t, c.text), failed, c.failed)
	}
}

func TestP403EvalPassesOverWhatIsNoRule(t *testing.T) {
	l := []api.Span{with(func(s *api.Span) { s.Fail = true })}
	always := policy.Rule{Keep: true, What: "always"}
	for _, r := range wrongs() {
		evalIs(t, []policy.Rule{r}, l, api.Drop)
		r.Keep = !r.Keep
		evalIs(t, []policy.Rule{r}, l, api.Drop)
		r.Keep = false
		evalIs(t, []policy.Rule{r, always}, l, api.Keep)
	}
	evalIs(t, append(so(api.MaxRules, policy.Rule{What: "root"}), always), l, api.Keep)
}

func TestP403ExampleOfTheChapter(t *testing.T) {
	rules := parsed(t, "keep fail\nkeep hash 100")
	kept := 0
	for trace := range uint64(10000) {
		s := with(func(s *api.Span) { s.Trace = trace })
		if policy.Eval(rules, []api.Span{s}) == api.Keep {
			kept++
		}
		s.Fail = true
		evalIs(t, rules, []api.Span{s}, api.Keep)
	}
	if kept < 900 || kept > 1100 {
		t.Errorf("a tenth of 10000 traces that did not fail: %d", kept)
	}
}

// different has spans that differ in all that a rule may ask for.
func different() []api.Span {
	return []api.Span{
		good(),
		with(func(s *api.Span) { s.Fail, s.Length = true, 0 }),
		with(func(s *api.Span) { s.Parent, s.Service = 0, "a" }),
		with(func(s *api.Span) { s.Length, s.Name = api.MaxTime, "0" }),
		with(func(s *api.Span) { s.Trace, s.Length, s.Name = unmixed(50), 907, "\xff" }),
	}
}

// orders has all orders of l.
func orders(l []api.Span) [][]api.Span {
	if len(l) < 2 {
		return [][]api.Span{slices.Clone(l)}
	}
	var all [][]api.Span
	for i := range l {
		for _, rest := range orders(slices.Concat(l[:i], l[i+1:])) {
			all = append(all, append(rest, l[i]))
		}
	}
	return all
}

func TestP404TheOrderOfSpansChangesNothing(t *testing.T) {
	for n := range len(different()) + 1 {
		first := different()[:n]
		for _, l := range orders(first) {
			for _, c := range tolds() {
				if policy.Holds(c.r, l) != policy.Holds(c.r, first) {
					t.Fatalf("%s of %#v: not that of the same spans in another order", c.line, l)
				}
				rules := []policy.Rule{c.r, {Keep: true, What: "many", Num: 3}}
				if policy.Eval(rules, l) != policy.Eval(rules, first) {
					t.Fatalf("Eval of %#v: not that of the same spans in another order", l)
				}
			}
		}
	}
}

func TestP404BehindAlwaysNothingCounts(t *testing.T) {
	for _, keep := range []bool{true, false} {
		always := policy.Rule{Keep: keep, What: "always"}
		for _, s := range different() {
			for _, ahead := range tolds() {
				first := []policy.Rule{ahead.r, always}
				for _, behind := range tolds() {
					if policy.Eval(append(first, behind.r), []api.Span{s}) != policy.Eval(first, []api.Span{s}) {
						t.Errorf("%q behind always counts", behind.line)
					}
				}
			}
		}
	}
}

func TestP404WhatWasShownIsParsed(t *testing.T) {
	l := tolds()
	for i := range l {
		for n := range api.MaxRules + 1 {
			var rules []policy.Rule
			for j := range n {
				rules = append(rules, l[(i+j*(i+1))%len(l)].r)
			}
			s, k := policy.Show(rules)
			if k != api.OK {
				t.Fatalf("Show of %#v: %d", rules, k)
			}
			parseTells(t, s, rules)
		}
	}
}

func TestP404WhatWasParsedIsShown(t *testing.T) {
	seen := 0
	for _, c := range tolds() {
		text := "keep hash 100\n" + c.line + "\ndrop root"
		for at := range len(text) {
			for b := range 256 {
				s := text[:at] + string([]byte{byte(b)}) + text[at+1:]
				if l, k := policy.Parse(s); k == api.OK {
					seen++
					rightIs(t, l, api.OK)
					showTells(t, l, s)
				}
			}
		}
	}
	if seen < 5000 {
		t.Errorf("only %d texts were parsed", seen)
	}
}
