package label

import (
	"errors"
	"regexp"
	"slices"
	"sort"
	"strings"
	"testing"

	"tidegauge/api"
)

// of names and values in turn are labels.
func of(words ...string) []api.Label {
	var l []api.Label
	for i := 0; i+1 < len(words); i += 2 {
		l = append(l, api.Label{Name: words[i], Value: words[i+1]})
	}
	return l
}

const longest = "abcdefghijkl" // MaxName bytes

// texts of labels, each the only one of its list.
func texts() map[string][]api.Label {
	return map[string][]api.Label{
		"a=x":                              of("a", "x"),
		"z=-":                              of("z", "-"),
		"a=0":                              of("a", "0"),
		"a-=9":                             of("a-", "9"),
		"a=---":                            of("a", "---"),
		"z9=az":                            of("z9", "az"),
		"a=x,b=x":                          of("a", "x", "b", "x"),
		"a=x,a-=x,a0=x,aa=x":               of("a", "x", "a-", "x", "a0", "x", "aa", "x"),
		"a=z,b=y,c=x":                      of("a", "z", "b", "y", "c", "x"),
		"a=1,b=2,c=3,d=4,e=5,f=6":          of("a", "1", "b", "2", "c", "3", "d", "4", "e", "5", "f", "6"),
		longest + "=" + longest:            of(longest, longest),
		"a=x," + longest + "=------------": of("a", "x", longest, "------------"),
		"host=h-7,job=tide,unit=m":         of("host", "h-7", "job", "tide", "unit", "m"),
	}
}

// wrongs are lists that are no labels: the place of the first fault, or -1.
var wrongs = []struct {
	l    []api.Label
	at   int
	want error
}{
	{nil, -1, api.ErrNone},
	{[]api.Label{}, -1, api.ErrNone},
	{of("a", "1", "b", "2", "c", "3", "d", "4", "e", "5", "f", "6", "g", "7"), -1, api.ErrBound},
	{make([]api.Label, api.MaxLabels+1), -1, api.ErrBound},
	{make([]api.Label, 100), -1, api.ErrBound},
	{make([]api.Label, api.MaxLabels), 0, api.ErrName},
	{of("", "x"), 0, api.ErrName},
	{of("a", ""), 0, api.ErrName},
	{of("0", "x"), 0, api.ErrName},
	{of("-", "x"), 0, api.ErrName},
	{of("-a", "x"), 0, api.ErrName},
	{of("9a", "x"), 0, api.ErrName},
	{of("A", "x"), 0, api.ErrName},
	{of("aB", "x"), 0, api.ErrName},
	{of("a", "X"), 0, api.ErrName},
	{of("a_b", "x"), 0, api.ErrName},
	{of("a b", "x"), 0, api.ErrName},
	{of("a", "x y"), 0, api.ErrName},
	{of("a", " x"), 0, api.ErrName},
	{of("a", "x\n"), 0, api.ErrName},
	{of("a", "x,y"), 0, api.ErrName},
	{of("a=", "x"), 0, api.ErrName},
	{of("a", "=x"), 0, api.ErrName},
	{of("a,b", "x"), 0, api.ErrName},
	{of("a\x00", "x"), 0, api.ErrName},
	{of("a", "\xff"), 0, api.ErrName},
	{of("ä", "x"), 0, api.ErrName},
	{of("a", "ä"), 0, api.ErrName},
	{of("a", "١"), 0, api.ErrName}, // a digit, but not 0 to 9
	{of(longest+"m", "x"), 0, api.ErrName},
	{of("a", longest+"m"), 0, api.ErrName},
	{of(strings.Repeat("a", 256), "x"), 0, api.ErrName},
	{of("a", strings.Repeat("a", 1<<20)), 0, api.ErrName},
	{of("a", "x", "", "x"), 1, api.ErrName},
	{of("a", "x", "b", ""), 1, api.ErrName},
	{of("a", "x", "b", "x", "C", "x"), 2, api.ErrName},
	{of("b", "x", "a", "x"), 1, api.ErrShape},
	{of("b", "x", "b", "y"), 1, api.ErrShape},
	{of("b", "x", "b", "x"), 1, api.ErrShape},
	{of("aa", "x", "a", "x"), 1, api.ErrShape},
	{of("a0", "x", "a-", "x"), 1, api.ErrShape},
	{of("aa", "x", "a9", "x"), 1, api.ErrShape},
	{of("a", "x", "c", "x", "b", "x", "a", "x"), 2, api.ErrShape},
	{of("a", "1", "b", "2", "c", "3", "d", "4", "e", "5", "e", "6"), 5, api.ErrShape},
	// Of two faults the first label's, and of one label's ErrName.
	{of("a", "", "a", "x"), 0, api.ErrName},
	{of("b", "x", "a", "x", "", "x"), 1, api.ErrShape},
	{of("b", "x", "a", ""), 1, api.ErrName},
	{of("b", "x", "A", "x"), 1, api.ErrName},
	{of("b", "x", "", ""), 1, api.ErrName},
}

// isWrong tells whether an error is the one wanted: bare, or with its place.
func isWrong(err error, at int, want error) bool {
	if at < 0 {
		return err == want
	}
	f, ok := err.(*api.Fault)
	return ok && f.At == at && f.Err == want && errors.Is(err, want)
}

// P50.

func TestCheck(t *testing.T) {
	for s, l := range texts() {
		if err := Check(l); err != nil {
			t.Error(s, err)
		}
	}
	for i, c := range wrongs {
		if err := Check(c.l); !isWrong(err, c.at, c.want) {
			t.Errorf("%d: %#v; not %d, %v", i, err, c.at, c.want)
		}
	}
}

func TestCheckEachByte(t *testing.T) {
	letter, part := regexp.MustCompile(`^[a-z]$`), regexp.MustCompile(`^[a-z0-9-]$`)
	for c := range 256 {
		s := string([]byte{byte(c)})
		for i, x := range []struct {
			l    []api.Label
			want bool
		}{
			{of(s, "x"), letter.MatchString(s)},
			{of("a"+s, "x"), part.MatchString(s)},
			{of("a"+s+"a", "x"), part.MatchString(s)},
			{of("a", s), part.MatchString(s)},
			{of("a", "x"+s), part.MatchString(s)},
			{of("a", s+"x"), part.MatchString(s)},
		} {
			if err := Check(x.l); (err == nil) != x.want || err != nil && !isWrong(err, 0, api.ErrName) {
				t.Errorf("%d, %q: %v", i, s, err)
			}
		}
	}
}

func TestCheckEachLength(t *testing.T) {
	for n := range 3 * api.MaxName {
		s := strings.Repeat("a", n)
		want := n >= 1 && n <= api.MaxName
		for _, l := range [][]api.Label{of(s, "x"), of("a", s), of(s, s)} {
			if err := Check(l); (err == nil) != want {
				t.Error(n, err)
			}
		}
	}
}

func TestText(t *testing.T) {
	for want, l := range texts() {
		if s, err := Text(l); s != want || err != nil {
			t.Errorf("%q, %v; not %q", s, err, want)
		}
	}
	for i, c := range wrongs {
		if s, err := Text(c.l); s != "" || !isWrong(err, c.at, c.want) {
			t.Errorf("%d: %q, %#v; not %d, %v", i, s, err, c.at, c.want)
		}
	}
}

func TestRead(t *testing.T) {
	for s, want := range texts() {
		if l, err := Read(s); !slices.Equal(l, want) || err != nil {
			t.Errorf("%q: %v, %v", s, l, err)
		}
	}
}

func TestReadWrong(t *testing.T) {
	for i, c := range []struct {
		s    string
		at   int
		want error
	}{
		{"", -1, api.ErrText},
		{",", -1, api.ErrText},
		{"a", -1, api.ErrText},
		{"a:x", -1, api.ErrText},
		{"a=x,", -1, api.ErrText},
		{",a=x", -1, api.ErrText},
		{"a=x,,b=x", -1, api.ErrText},
		{"a=x,b", -1, api.ErrText},
		{"a,b=x", -1, api.ErrText},
		{strings.Repeat(",", 1<<16), -1, api.ErrText},
		// A part without its sign is told ahead of what Check would tell.
		{"A=x,b", -1, api.ErrText},
		{"=,b", -1, api.ErrText},
		{"b=x,a=x,c", -1, api.ErrText},
		{"a=1,b=2,c=3,d=4,e=5,f=6,g", -1, api.ErrText},
		{"a=1,b=2,c=3,d=4,e=5,f=6,g=7,", -1, api.ErrText},
		{strings.Repeat("a=x,", 1000) + "a", -1, api.ErrText},
		{"a=1,b=2,c=3,d=4,e=5,f=6,g=7", -1, api.ErrBound},
		{"=,=,=,=,=,=,=", -1, api.ErrBound},
		{strings.Repeat("a=x,", 1000) + "a=x", -1, api.ErrBound},
		{"=", 0, api.ErrName},
		{"=x", 0, api.ErrName},
		{"a=", 0, api.ErrName},
		{"a==", 0, api.ErrName},
		{"a==x", 0, api.ErrName},
		{"a=b=c", 0, api.ErrName},
		{"A=x", 0, api.ErrName},
		{"a=X", 0, api.ErrName},
		{" a=x", 0, api.ErrName},
		{"a=x ", 0, api.ErrName},
		{"a=x\n", 0, api.ErrName},
		{"a=x, b=x", 1, api.ErrName},
		{"a=x,=", 1, api.ErrName},
		{"a=x,b=", 1, api.ErrName},
		{"a=x,b=y,0=z", 2, api.ErrName},
		{longest + "m=x", 0, api.ErrName},
		{"a=" + longest + "m", 0, api.ErrName},
		{"b=x,a=x", 1, api.ErrShape},
		{"a=x,a=x", 1, api.ErrShape},
		{"a=x,b=x,b=y,A=x", 2, api.ErrShape},
		{"=,=,=,=,=,=", 0, api.ErrName},
	} {
		if l, err := Read(c.s); len(l) > 0 || !isWrong(err, c.at, c.want) {
			t.Errorf("%d: %v, %#v; not %d, %v", i, l, err, c.at, c.want)
		}
	}
}

func TestPartsEndEarlyAndAgain(t *testing.T) {
	all := parts("a,,b")
	for range all {
		break
	}
	if l := slices.Collect(all); !slices.Equal(l, []string{"a", "", "b"}) {
		t.Errorf("%q", l)
	}
}

// P51.

// match of a kind.
func match(kind byte, name, value string) api.Match {
	return api.Match{Kind: kind, Label: api.Label{Name: name, Value: value}}
}

func TestFits(t *testing.T) {
	l := of("a", "x1", "host", "h-7")
	for i, c := range []struct {
		m    []api.Match
		want bool
	}{
		{nil, true},
		{[]api.Match{}, true},
		{[]api.Match{match('=', "a", "x1")}, true},
		{[]api.Match{match('=', "a", "x")}, false},
		{[]api.Match{match('=', "a", "x12")}, false},
		{[]api.Match{match('=', "a", "")}, false},
		{[]api.Match{match('=', "a", "h-7")}, false},
		{[]api.Match{match('=', "host", "h-7")}, true},
		{[]api.Match{match('=', "hos", "h-7")}, false},
		{[]api.Match{match('!', "a", "x1")}, false},
		{[]api.Match{match('!', "a", "x")}, true},
		{[]api.Match{match('!', "a", "")}, true},
		{[]api.Match{match('!', "host", "h-7")}, false},
		{[]api.Match{match('~', "a", "")}, true},
		{[]api.Match{match('~', "a", "x")}, true},
		{[]api.Match{match('~', "a", "x1")}, true},
		{[]api.Match{match('~', "a", "x12")}, false},
		{[]api.Match{match('~', "a", "1")}, false},
		{[]api.Match{match('~', "host", "h-")}, true},
		{[]api.Match{match('~', "host", "-7")}, false},
		// Of a name that there is not the value is empty.
		{[]api.Match{match('=', "b", "")}, true},
		{[]api.Match{match('=', "b", "x1")}, false},
		{[]api.Match{match('!', "b", "")}, false},
		{[]api.Match{match('!', "b", "x1")}, true},
		{[]api.Match{match('~', "b", "")}, true},
		{[]api.Match{match('~', "b", "x")}, false},
		// A value may be anything.
		{[]api.Match{match('=', "a", "A, =\xff")}, false},
		{[]api.Match{match('!', "a", strings.Repeat("x", 1000))}, true},
		{[]api.Match{match('~', "a", "X")}, false},
		// All of them; one name more than once.
		{[]api.Match{match('=', "a", "x1"), match('~', "host", "h-"), match('!', "b", "x")}, true},
		{[]api.Match{match('=', "a", "x1"), match('~', "host", "g"), match('!', "b", "x")}, false},
		{[]api.Match{match('=', "a", "y"), match('~', "host", "h"), match('!', "b", "x")}, false},
		{[]api.Match{match('=', "a", "x1"), match('~', "host", "h"), match('!', "b", "")}, false},
		{[]api.Match{match('~', "a", "x"), match('!', "a", "x2")}, true},
		{[]api.Match{match('~', "a", "x"), match('!', "a", "x1")}, false},
		{slices.Repeat([]api.Match{match('=', "a", "x1")}, api.MaxMatches), true},
		{append(slices.Repeat([]api.Match{match('=', "a", "x1")}, api.MaxMatches-1), match('=', "a", "x2")), false},
	} {
		if fit, err := Fits(l, c.m); fit != c.want || err != nil {
			t.Error(i, c.m, fit, err)
		}
	}
}

func TestFitsWrong(t *testing.T) {
	l := of("a", "x1", "host", "h-7")
	for i, c := range []struct {
		m    []api.Match
		at   int
		want error
	}{
		{slices.Repeat([]api.Match{match('=', "a", "x1")}, api.MaxMatches+1), -1, api.ErrBound},
		{make([]api.Match, api.MaxMatches+1), -1, api.ErrBound},
		{make([]api.Match, api.MaxMatches), 0, api.ErrKind},
		{[]api.Match{match(0, "a", "x1")}, 0, api.ErrKind},
		{[]api.Match{match('?', "a", "x1")}, 0, api.ErrKind},
		{[]api.Match{match('=', "", "x1")}, 0, api.ErrName},
		{[]api.Match{match('=', "A", "x1")}, 0, api.ErrName},
		{[]api.Match{match('!', "0", "x1")}, 0, api.ErrName},
		{[]api.Match{match('~', longest+"m", "x1")}, 0, api.ErrName},
		{[]api.Match{match('=', "a", "x1"), match('=', "-", "x1")}, 1, api.ErrName},
		// The kind is named first; the first match counts.
		{[]api.Match{match('x', "A", "x1")}, 0, api.ErrKind},
		{[]api.Match{match('=', "A", "x1"), match('x', "a", "x1")}, 0, api.ErrName},
		{[]api.Match{match('=', "a", "x1"), match('x', "a", "x1"), match('=', "A", "")}, 1, api.ErrKind},
		// One that does not fit hides none behind it.
		{[]api.Match{match('=', "a", "y"), match('x', "a", "x1")}, 1, api.ErrKind},
		{[]api.Match{match('!', "b", ""), match('=', "b", ""), match('=', "B", "")}, 2, api.ErrName},
	} {
		if fit, err := Fits(l, c.m); fit || !isWrong(err, c.at, c.want) {
			t.Errorf("%d: %v, %#v; not %d, %v", i, fit, err, c.at, c.want)
		}
		if err := CheckMatches(c.m); !isWrong(err, c.at, c.want) {
			t.Errorf("%d: %#v; not %d, %v", i, err, c.at, c.want)
		}
	}
}

func TestCheckMatches(t *testing.T) {
	for i, m := range [][]api.Match{nil, {}, {match('=', "a", "")}, {match('!', "a-0", "A, ="), match('~', longest, longest+"m")}, slices.Repeat([]api.Match{match('=', "a", "x1")}, api.MaxMatches)} {
		if err := CheckMatches(m); err != nil {
			t.Error(i, err)
		}
	}
}

func TestFitsEachKind(t *testing.T) {
	for k := range 256 {
		_, err := Fits(of("a", "x"), []api.Match{match(byte(k), "a", "x")})
		if strings.ContainsRune("=!~", rune(k)) != (err == nil) || err != nil && !isWrong(err, 0, api.ErrKind) {
			t.Error(k, err)
		}
	}
}

func TestFitsTellsWrongLabelsFirst(t *testing.T) {
	for _, m := range [][]api.Match{nil, {match('=', "a", "x")}, make([]api.Match, 1), make([]api.Match, api.MaxMatches+1)} {
		for i, c := range wrongs {
			if fit, err := Fits(c.l, m); fit || !isWrong(err, c.at, c.want) {
				t.Errorf("%d: %v, %#v; not %d, %v", i, fit, err, c.at, c.want)
			}
		}
	}
}

func TestOrder(t *testing.T) {
	for i, c := range []struct {
		l    [][]api.Label
		want []int
	}{
		{nil, nil},
		{[][]api.Label{}, nil},
		{[][]api.Label{of("a", "x")}, []int{0}},
		{[][]api.Label{of("b", "x"), of("a", "x", "b", "x"), of("a", "x"), of("b", "x")}, []int{2, 1, 0, 3}},
		{[][]api.Label{of("a", "x"), of("a", "x"), of("a", "w"), of("a", "x"), of("a", "w")}, []int{2, 4, 0, 1, 3}},
		// By texts, not by names: "a-=x" is less than "a=x".
		{[][]api.Label{of("a", "x"), of("a-", "x"), of("a0", "x"), of("aa", "x")}, []int{1, 2, 0, 3}},
		// And "a=x,b=x" is less than "a=x-".
		{[][]api.Label{of("a", "x-"), of("a", "x", "b", "x"), of("a", "x0"), of("a", "x")}, []int{3, 1, 0, 2}},
	} {
		if o, err := Order(c.l); !slices.Equal(o, c.want) || err != nil {
			t.Error(i, o, err)
		}
	}
}

// made lists, by a fixed rule, some of them the same.
func made(n int, seed uint64) [][]api.Label {
	var all [][]api.Label
	for range n {
		var l []api.Label
		for _, name := range []string{"a", "a-", "a0", "aa", "b"} {
			seed = seed*6364136223846793005 + 1442695040888963407
			if seed>>33%3 == 0 || name == "b" && len(l) == 0 {
				l = append(l, api.Label{Name: name, Value: []string{"-", "0", "x", "x-", "xx"}[seed>>40%5]})
			}
		}
		all = append(all, l)
	}
	return all
}

func TestOrderOfMany(t *testing.T) {
	for seed := range 200 {
		l := made(api.MaxSeries, uint64(seed))
		var want []int
		var texts []string
		for i, x := range l {
			s, err := Text(x)
			if err != nil {
				t.Fatal(err)
			}
			want, texts = append(want, i), append(texts, s)
		}
		sort.SliceStable(want, func(a, b int) bool { return texts[want[a]] < texts[want[b]] })
		if o, err := Order(l); !slices.Equal(o, want) || err != nil {
			t.Fatal(seed, o, want, err)
		}
	}
}

func TestOrderWrong(t *testing.T) {
	good := of("a", "x")
	for i, c := range wrongs {
		for at := range 3 {
			l := [][]api.Label{good, good, good, nil}
			l[at] = c.l
			o, err := Order(l)
			// Of the place within the list nothing is told.
			if len(o) > 0 || !isWrong(err, at, c.want) {
				t.Errorf("%d: %v, %#v; not %d, %v", i, o, err, at, c.want)
			}
		}
	}
	for _, n := range []int{api.MaxSeries + 1, 1000} {
		for _, l := range [][][]api.Label{make([][]api.Label, n), made(n, 1)} {
			if o, err := Order(l); len(o) > 0 || err != api.ErrBound {
				t.Error(n, o, err)
			}
		}
	}
	if o, err := Order(append(made(api.MaxSeries-1, 1), nil)); len(o) > 0 || !isWrong(err, api.MaxSeries-1, api.ErrNone) {
		t.Error(o, err)
	}
}

// P52.

func TestOneTextOfAList(t *testing.T) {
	seen := map[string][]api.Label{}
	for seed := range 100 {
		for _, l := range made(api.MaxSeries, uint64(seed)) {
			s, err := Text(l)
			if err != nil {
				t.Fatal(err)
			}
			if x, ok := seen[s]; ok && !slices.Equal(x, l) {
				t.Errorf("%q is the text of %v and of %v", s, x, l)
			}
			seen[s] = l
			if x, err := Read(s); !slices.Equal(x, l) || err != nil {
				t.Errorf("%q: %v, %v; not %v", s, x, err, l)
			}
		}
	}
}

// form of a text of labels, the rising of their names aside.
var form = regexp.MustCompile(`^[a-z][a-z0-9-]{0,11}=[a-z0-9-]{1,12}(,[a-z][a-z0-9-]{0,11}=[a-z0-9-]{1,12}){0,5}$`)

// isRead asks of any text whether it is read if, and only if, it is one, and made again.
func isRead(t *testing.T, s string) {
	t.Helper()
	var names []string
	for _, part := range strings.Split(s, ",") {
		names = append(names, strings.SplitN(part, "=", 2)[0])
	}
	want := form.MatchString(s) && slices.IsSorted(names) && len(slices.Compact(names)) == strings.Count(s, ",")+1
	l, err := Read(s)
	if (err == nil) != want {
		t.Errorf("%q: %v, %v", s, l, err)
	}
	if err != nil && len(l) > 0 {
		t.Errorf("%q: %v with %v", s, l, err)
	}
	if err != nil {
		return
	}
	if again, err := Text(l); again != s || err != nil {
		t.Errorf("%q: made again %q, %v", s, again, err)
	}
}

func TestOneListOfAText(t *testing.T) {
	for s := range texts() {
		isRead(t, s)
		for i := range len(s) {
			isRead(t, s[:i])
			isRead(t, s[i:])
			isRead(t, s[:i]+s[i+1:])
			for _, c := range "a0-=,A \xff" {
				isRead(t, s[:i]+string(c)+s[i:])
				isRead(t, s[:i]+string(c)+s[i+1:])
			}
		}
	}
}

// all texts of a few bytes.
func TestShortTexts(t *testing.T) {
	for n := range 1 << 18 { // six bytes of eight kinds
		b := make([]byte, 6)
		for i := range b {
			b[i] = "ab-0=,=,"[n>>(3*i)&7]
		}
		isRead(t, string(b))
		isRead(t, "a="+string(b))
	}
}

func FuzzRead(f *testing.F) {
	for s := range texts() {
		f.Add(s)
	}
	f.Fuzz(isRead)
}

// P3, P4.

func TestOnlyRead(t *testing.T) {
	room := of("a", "x", "b", "y", "", "")
	l := room[:2]
	matches := []api.Match{match('=', "a", "x"), match('x', "", "")}
	lists := [][]api.Label{of("b", "x"), of("a", "x"), nil}
	if s, err := Text(l); s != "a=x,b=y" || err != nil {
		t.Error(s, err)
	}
	if fit, err := Fits(l, matches[:1]); !fit || err != nil {
		t.Error(fit, err)
	}
	if o, err := Order(lists[:2]); !slices.Equal(o, []int{1, 0}) || err != nil {
		t.Error(o, err)
	}
	if !slices.Equal(room, of("a", "x", "b", "y", "", "")) || !slices.Equal(matches, []api.Match{match('=', "a", "x"), match('x', "", "")}) {
		t.Error(room, matches)
	}
	if !slices.Equal(lists[0], of("b", "x")) || !slices.Equal(lists[1], of("a", "x")) || lists[2] != nil {
		t.Error(lists)
	}
}

func TestNewMemory(t *testing.T) {
	a, _ := Read("a=x,b=y")
	b, _ := Read("a=x,b=y")
	a[0].Value = "z"
	_ = append(a[:1], api.Label{})
	if !slices.Equal(b, of("a", "x", "b", "y")) {
		t.Error(b)
	}
	l := [][]api.Label{of("b", "x"), of("a", "x")}
	o, _ := Order(l)
	o[0] = 7
	if again, _ := Order(l); !slices.Equal(again, []int{1, 0}) {
		t.Error(again)
	}
}
