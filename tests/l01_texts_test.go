package tests

import (
	"math"
	"regexp"
	"slices"
	"strconv"
	"strings"
	"testing"

	"loop.example/g01050/impl"
)

func repeated[T any](n int, element T) []T {
	list := make([]T, n)
	for i := range list {
		list[i] = element
	}
	return list
}

// textsOver returns all texts of at most n bytes over an alphabet, the empty one among them.
func textsOver(alphabet string, n int) []string {
	all := []string{""}
	shorter := all
	for range n {
		var longer []string
		for _, s := range shorter {
			for _, letter := range alphabet {
				longer = append(longer, s+string(letter))
			}
		}
		all = append(all, longer...)
		shorter = longer
	}
	return all
}

func TestConstantsOfChapter1(t *testing.T) {
	codes := []int64{impl.ErrNone, impl.ErrInvalid, impl.ErrRange, impl.ErrLimit, impl.ErrNotFound, impl.ErrState, impl.ErrSyntax}
	for i, code := range codes {
		if code != int64(i) {
			t.Errorf("error code %d is %d", i, code)
		}
	}
	if impl.MaxValue != 1000000000000 || impl.MaxWord != 16 || impl.MaxList != 60 {
		t.Error("limits", impl.MaxValue, impl.MaxWord, impl.MaxList)
	}
}

func TestIsWord(t *testing.T) {
	for _, s := range []string{"a", "z", "az", "ada", strings.Repeat("a", 16), strings.Repeat("z", 16), "abcdefghijklmnop", "qrstuvwxyz"} {
		if !impl.IsWord(s) {
			t.Errorf("%q is a word", s)
		}
	}
	wrong := []string{"", strings.Repeat("a", 17), strings.Repeat("a", 1000), "A", "Z", "aB", "a b", " a", "a ", "a,b", ",", "-", "a-b", "a1", "0", "`", "{", "a`", "a{", "@", "[", "a\n", "\n", "\x00", "a\x00", "é", "aé", "\xff", "a.b"}
	for _, s := range wrong {
		if impl.IsWord(s) {
			t.Errorf("%q is no word", s)
		}
	}
	for b := range 256 {
		s := string([]byte{byte(b)})
		if impl.IsWord(s) != (b >= 'a' && b <= 'z') || impl.IsWord("x"+s+"x") != (b >= 'a' && b <= 'z') {
			t.Errorf("byte %d", b)
		}
	}
}

func TestWordsAreRecovered(t *testing.T) {
	long := strings.Repeat("w", 16)
	lists := []struct {
		words []string
		text  string
	}{
		{nil, "-"},
		{[]string{}, "-"},
		{[]string{"a"}, "a"},
		{[]string{"ada", "karl"}, "ada,karl"},
		{[]string{"karl", "ada", "karl"}, "karl,ada,karl"},
		{[]string{long, "b", long}, long + ",b," + long},
		{repeated(60, "z"), strings.Repeat("z,", 59) + "z"},
		{repeated(60, long), strings.Repeat(long+",", 59) + long},
	}
	for _, c := range lists {
		text, code := impl.WordsText(c.words)
		if code != impl.ErrNone || text != c.text {
			t.Errorf("WordsText(%q) = %q, %d", c.words, text, code)
		}
		words, code := impl.ReadWords(c.text)
		if code != impl.ErrNone || !slices.Equal(words, c.words) {
			t.Errorf("ReadWords(%q) = %q, %d", c.text, words, code)
		}
	}
}

func TestWordsTextErrors(t *testing.T) {
	cases := []struct {
		words []string
		code  int64
	}{
		{[]string{""}, impl.ErrInvalid},
		{[]string{"ada", ""}, impl.ErrInvalid},
		{[]string{"ada", "Karl"}, impl.ErrInvalid},
		{[]string{"-"}, impl.ErrInvalid},
		{[]string{"a,b"}, impl.ErrInvalid},
		{[]string{"ada", strings.Repeat("a", 17), "karl"}, impl.ErrInvalid},
		{repeated(61, "a"), impl.ErrLimit},
		{repeated(1000, "a"), impl.ErrLimit},
		{append(repeated(61, "a"), "A"), impl.ErrInvalid},
		{append([]string{"a1"}, repeated(61, "a")...), impl.ErrInvalid},
		{append(repeated(60, "a"), ""), impl.ErrInvalid},
	}
	for _, c := range cases {
		if text, code := impl.WordsText(c.words); code != c.code || text != "" {
			t.Errorf("WordsText(%q) = %q, %d, not %d", c.words, text, code, c.code)
		}
	}
}

func TestReadWordsErrors(t *testing.T) {
	wrong := []string{"", ",", "a,", ",a", "a,,b", "--", "-,-", "-,a", "a,-", "-a", "a-", "A", "a, b", " a", "a ", "a\n", "- ", " -", "a;b", "1", "é", "a,\xff",
		strings.Repeat("a", 17), "b," + strings.Repeat("a", 17),
		strings.Repeat("a,", 60) + "a", strings.Repeat("a,", 61) + "a", strings.Repeat("a,", 5000) + "a", strings.Repeat("a,", 60)}
	for _, s := range wrong {
		if words, code := impl.ReadWords(s); code != impl.ErrSyntax || len(words) != 0 {
			t.Errorf("ReadWords(%q) = %q, %d", s, words, code)
		}
	}
}

func TestReadWordsReadsNothingElse(t *testing.T) {
	form := regexp.MustCompile(`^(-|[a-z]+(,[a-z]+)*)$`)
	for _, s := range textsOver("az,-A1", 6) {
		words, code := impl.ReadWords(s)
		if (code == impl.ErrNone) != form.MatchString(s) {
			t.Fatalf("ReadWords(%q) = %q, %d", s, words, code)
		}
		if code != impl.ErrNone {
			continue
		}
		if text, code := impl.WordsText(words); text != s || code != impl.ErrNone {
			t.Fatalf("WordsText(%q) = %q, %d, not %q", words, text, code, s)
		}
	}
}

func TestNumbersAreRecovered(t *testing.T) {
	lists := []struct {
		list []int64
		text string
	}{
		{nil, "-"},
		{[]int64{}, "-"},
		{[]int64{0}, "0"},
		{[]int64{-1}, "-1"},
		{[]int64{1, -2}, "1,-2"},
		{[]int64{0, 0, 0}, "0,0,0"},
		{[]int64{10, 9, -10, 100}, "10,9,-10,100"},
		{[]int64{1000000000000, -1000000000000}, "1000000000000,-1000000000000"},
		{[]int64{999999999999, -999999999999}, "999999999999,-999999999999"},
		{repeated(60, int64(7)), strings.Repeat("7,", 59) + "7"},
		{repeated(60, int64(-1000000000000)), strings.Repeat("-1000000000000,", 59) + "-1000000000000"},
	}
	for _, c := range lists {
		text, code := impl.ListText(c.list)
		if code != impl.ErrNone || text != c.text {
			t.Errorf("ListText(%d) = %q, %d", c.list, text, code)
		}
		list, code := impl.ReadList(c.text)
		if code != impl.ErrNone || !slices.Equal(list, c.list) {
			t.Errorf("ReadList(%q) = %d, %d", c.text, list, code)
		}
	}
	for n := int64(-1200); n <= 1200; n++ {
		text, code := impl.ListText([]int64{n, -n})
		if code != impl.ErrNone || text != strconv.FormatInt(n, 10)+","+strconv.FormatInt(-n, 10) {
			t.Fatalf("ListText of %d = %q, %d", n, text, code)
		}
		if list, code := impl.ReadList(text); code != impl.ErrNone || !slices.Equal(list, []int64{n, -n}) {
			t.Fatalf("ReadList(%q) = %d, %d", text, list, code)
		}
	}
}

// wrongLists are the lists that ListText and SortNumbers reject, with their codes.
func wrongLists() map[string]struct {
	list []int64
	code int64
} {
	return map[string]struct {
		list []int64
		code int64
	}{
		"one more than the greatest value": {[]int64{1000000000001}, impl.ErrRange},
		"one less than the least value":    {[]int64{-1000000000001}, impl.ErrRange},
		"greatest integer":                 {[]int64{1, math.MaxInt64}, impl.ErrRange},
		"least integer":                    {[]int64{math.MinInt64, 1}, impl.ErrRange},
		"one number too many":              {repeated(61, int64(1)), impl.ErrLimit},
		"many numbers too many":            {repeated(1000, int64(1000000000000)), impl.ErrLimit},
		"range before limit, at the end":   {append(repeated(61, int64(1)), 1000000000001), impl.ErrRange},
		"range before limit, at the limit": {append(repeated(60, int64(1)), -1000000000001), impl.ErrRange},
		"range before limit, in front":     {append([]int64{math.MinInt64}, repeated(61, int64(1))...), impl.ErrRange},
	}
}

func TestListTextErrors(t *testing.T) {
	for name, c := range wrongLists() {
		if text, code := impl.ListText(c.list); code != c.code || text != "" {
			t.Errorf("%s: %q, %d, not %d", name, text, code, c.code)
		}
	}
}

func TestReadListErrors(t *testing.T) {
	wrong := []string{"", ",", "--", "-,-", "-,1", "1,-", "1,", ",1", "1,,2", "00", "01", "-0", "-01", "+1", "+0", "1,+2", "--1", "1-", " 1", "1 ", "1, 2", "1\n", "1.0", "1e3", "0x1", "1_000", "a", "1;2", "٣",
		"1000000000001", "-1000000000001", "1,1000000000001", "9223372036854775807", "9223372036854775808", "-9223372036854775808", "-9223372036854775809", "18446744073709551616", strings.Repeat("9", 1000),
		strings.Repeat("1,", 60) + "1", strings.Repeat("1,", 61) + "1", strings.Repeat("1,", 5000) + "1", strings.Repeat("1,", 60)}
	for _, s := range wrong {
		if list, code := impl.ReadList(s); code != impl.ErrSyntax || len(list) != 0 {
			t.Errorf("ReadList(%q) = %d, %d", s, list, code)
		}
	}
}

func TestReadListReadsNothingElse(t *testing.T) {
	form := regexp.MustCompile(`^(-|(0|-?[1-9][0-9]*)(,(0|-?[1-9][0-9]*))*)$`)
	for _, s := range textsOver("019-+,", 6) {
		list, code := impl.ReadList(s)
		if (code == impl.ErrNone) != form.MatchString(s) {
			t.Fatalf("ReadList(%q) = %d, %d", s, list, code)
		}
		if code != impl.ErrNone {
			continue
		}
		if text, code := impl.ListText(list); text != s || code != impl.ErrNone {
			t.Fatalf("ListText(%d) = %q, %d, not %q", list, text, code, s)
		}
	}
}

func TestMeasuresAreRecovered(t *testing.T) {
	measures := []struct {
		n    int64
		text string
	}{
		{0, "0.0"}, {1, "0.1"}, {-1, "-0.1"}, {-5, "-0.5"}, {9, "0.9"}, {-9, "-0.9"}, {10, "1.0"}, {-10, "-1.0"}, {-11, "-1.1"},
		{1234, "123.4"}, {-1234, "-123.4"}, {1000, "100.0"}, {6220, "622.0"},
		{999999999999, "99999999999.9"}, {-999999999999, "-99999999999.9"},
		{1000000000000, "100000000000.0"}, {-1000000000000, "-100000000000.0"},
	}
	for _, c := range measures {
		text, code := impl.MeasureText(c.n)
		if code != impl.ErrNone || text != c.text {
			t.Errorf("MeasureText(%d) = %q, %d", c.n, text, code)
		}
		n, code := impl.ReadMeasure(c.text)
		if code != impl.ErrNone || n != c.n {
			t.Errorf("ReadMeasure(%q) = %d, %d", c.text, n, code)
		}
	}
	for n := int64(-1200); n <= 1200; n++ {
		text, _ := impl.MeasureText(n)
		if read, code := impl.ReadMeasure(text); code != impl.ErrNone || read != n {
			t.Fatalf("ReadMeasure(%q) = %d, %d, not %d", text, read, code, n)
		}
	}
}

func TestMeasureTextErrors(t *testing.T) {
	for _, n := range []int64{1000000000001, -1000000000001, math.MaxInt64, math.MinInt64} {
		if text, code := impl.MeasureText(n); code != impl.ErrRange || text != "" {
			t.Errorf("MeasureText(%d) = %q, %d", n, text, code)
		}
	}
}

func TestReadMeasureErrors(t *testing.T) {
	wrong := []string{"", ".", "-", "-.", "0", "5", "123", "-5", "1.", "-1.", ".5", "-.5", "0.", ".0", "-0.0", "00.0", "01.5", "-01.5", "0.50", "0.05", "1.00", "1.23", "+1.0", "+0.0", "--1.0", "-+1.0", "1.-5", "1.+5", ".-5", "1..0", "1.0.", ".1.0", "1.2.3", "1,5", "1.a", "a.1", " 1.0", "1.0 ", "1. 0", "1.0\n", "1_0.0", "0x1.0", "1e1.0", "٣.0",
		"100000000000.1", "-100000000000.1", "922337203685477580.7", "922337203685477580.8", "-922337203685477580.8", "-922337203685477580.9", strings.Repeat("9", 1000) + ".0", "1." + strings.Repeat("0", 1000)}
	for _, s := range wrong {
		if n, code := impl.ReadMeasure(s); code != impl.ErrSyntax || n != 0 {
			t.Errorf("ReadMeasure(%q) = %d, %d", s, n, code)
		}
	}
}

func TestReadMeasureReadsNothingElse(t *testing.T) {
	form := regexp.MustCompile(`^(-?[1-9][0-9]*\.[0-9]|0\.[0-9]|-0\.[1-9])$`)
	for _, s := range textsOver("019-+.", 6) {
		n, code := impl.ReadMeasure(s)
		if (code == impl.ErrNone) != form.MatchString(s) {
			t.Fatalf("ReadMeasure(%q) = %d, %d", s, n, code)
		}
		if code != impl.ErrNone {
			continue
		}
		if text, code := impl.MeasureText(n); text != s || code != impl.ErrNone {
			t.Fatalf("MeasureText(%d) = %q, %d, not %q", n, text, code, s)
		}
	}
}

func TestSortNumbers(t *testing.T) {
	cases := []struct {
		list, sorted []int64
	}{
		{nil, nil},
		{[]int64{}, nil},
		{[]int64{0}, []int64{0}},
		{[]int64{3, -1, 3}, []int64{-1, 3, 3}},
		{[]int64{1, 2, 3}, []int64{1, 2, 3}},
		{[]int64{10, 9, 100, -10, -9}, []int64{-10, -9, 9, 10, 100}},
		{[]int64{1000000000000, 0, -1000000000000}, []int64{-1000000000000, 0, 1000000000000}},
		{repeated(60, int64(5)), repeated(60, int64(5))},
	}
	for _, c := range cases {
		sorted, code := impl.SortNumbers(c.list)
		if code != impl.ErrNone || !slices.Equal(sorted, c.sorted) {
			t.Errorf("SortNumbers(%d) = %d, %d", c.list, sorted, code)
		}
	}
	var down, up []int64
	for i := int64(0); i < 60; i++ {
		down = append(down, 29-i)
		up = append(up, i-30)
	}
	if sorted, code := impl.SortNumbers(down); code != impl.ErrNone || !slices.Equal(sorted, up) {
		t.Errorf("SortNumbers(%d) = %d, %d", down, sorted, code)
	}
}

func TestSortNumbersErrors(t *testing.T) {
	for name, c := range wrongLists() {
		if sorted, code := impl.SortNumbers(c.list); code != c.code || len(sorted) != 0 {
			t.Errorf("%s: %d, %d, not %d", name, sorted, code, c.code)
		}
	}
}

func TestArgumentsOfChapter1AreLeftAlone(t *testing.T) {
	list := []int64{3, 1, 2, 8, 7}
	sorted, _ := impl.SortNumbers(list[:3])
	if !slices.Equal(list, []int64{3, 1, 2, 8, 7}) {
		t.Error("SortNumbers changed its argument or what is behind it:", list)
	}
	sorted[0] = 100
	_ = append(sorted, 100)
	if !slices.Equal(list, []int64{3, 1, 2, 8, 7}) {
		t.Error("the result of SortNumbers shares memory with its argument:", list)
	}
	if empty, _ := impl.SortNumbers(list[:0]); len(empty) != 0 {
		t.Error("SortNumbers of no numbers:", empty)
	} else if _ = append(empty, 100); list[0] != 3 {
		t.Error("the empty result of SortNumbers shares memory with its argument:", list)
	}
	impl.ListText(list[:2])
	words := []string{"karl", "ada", "eva"}
	impl.WordsText(words[:2])
	if !slices.Equal(list, []int64{3, 1, 2, 8, 7}) || !slices.Equal(words, []string{"karl", "ada", "eva"}) {
		t.Error("ListText or WordsText changed its argument:", list, words)
	}
}
