package impl

import (
	"slices"
	"strconv"
	"strings"
)

// Error codes, shared by all chapters.
const (
	ErrNone = iota
	ErrInvalid
	ErrRange
	ErrLimit
	ErrNotFound
	ErrState
	ErrSyntax
)

// Limits of chapter 1.
const (
	MaxValue = 1000000000000
	MaxWord  = 16
	MaxList  = 60
)

// IsWord reports whether s is a word.
func IsWord(s string) bool {
	if len(s) < 1 || len(s) > MaxWord {
		return false
	}
	for i := range len(s) {
		if s[i] < 'a' || s[i] > 'z' {
			return false
		}
	}
	return true
}

// WordsText returns words, separated by commas, or a minus sign for none, and ErrNone.
func WordsText(words []string) (string, int64) {
	if code := checkWords(words); code != ErrNone {
		return "", code
	}
	return joinElements(words...), ErrNone
}

// ReadWords returns the words with the WordsText s, and ErrNone. It returns nil and ErrSyntax if
// there are none.
func ReadWords(s string) ([]string, int64) {
	words := splitElements(s)
	if checkWords(words) != ErrNone {
		return nil, ErrSyntax
	}
	return words, ErrNone
}

// ListText returns numbers in decimal, with a minus sign if they are negative, separated by
// commas, or a minus sign alone for none, and ErrNone.
func ListText(list []int64) (string, int64) {
	if code := checkList(list); code != ErrNone {
		return "", code
	}
	var texts []string
	for _, n := range list {
		texts = append(texts, strconv.FormatInt(n, 10))
	}
	return joinElements(texts...), ErrNone
}

// ReadList returns the numbers with the ListText s, and ErrNone. It returns nil and ErrSyntax if
// there are none.
func ReadList(s string) ([]int64, int64) {
	var list []int64
	for _, text := range splitElements(s) {
		n, ok := readNumber(text)
		if !ok {
			return nil, ErrSyntax
		}
		list = append(list, n)
	}
	if checkList(list) != ErrNone {
		return nil, ErrSyntax
	}
	return list, ErrNone
}

// MeasureText returns a measure in millimetres: a minus sign if it is negative, its tenths
// divided by 10, rounded towards 0, in decimal, a full stop, and the last digit of its tenths;
// and ErrNone.
func MeasureText(n int64) (string, int64) {
	if !isValue(n) {
		return "", ErrRange
	}
	sign := ""
	if n < 0 {
		sign = "-"
		n = -n
	}
	return sign + strconv.FormatInt(n/10, 10) + "." + strconv.FormatInt(n%10, 10), ErrNone
}

// ReadMeasure returns the measure with the MeasureText s, and ErrNone. It returns 0 and ErrSyntax
// if there is none.
func ReadMeasure(s string) (int64, int64) {
	millimetres, tenth, _ := strings.Cut(s, ".")
	n, err := strconv.ParseInt(millimetres+tenth, 10, 64)
	if err != nil {
		return 0, ErrSyntax
	}
	// Without its full stop a text tells only which measure it may be: 12.3, 1.23 and 123 all
	// lead to 123 tenths, whose text is 12.3 alone.
	text, code := MeasureText(n)
	if code != ErrNone || text != s {
		return 0, ErrSyntax
	}
	return n, ErrNone
}

// SortNumbers returns a list in an order in which the numbers do not decrease, and ErrNone.
func SortNumbers(list []int64) ([]int64, int64) {
	if code := checkList(list); code != ErrNone {
		return nil, code
	}
	sorted := append([]int64(nil), list...)
	slices.Sort(sorted)
	return sorted, ErrNone
}

func isValue(n int64) bool {
	return n >= -MaxValue && n <= MaxValue
}

// checkWords looks at every word before it looks at their number, as the order of errors asks.
func checkWords(words []string) int64 {
	for _, word := range words {
		if !IsWord(word) {
			return ErrInvalid
		}
	}
	if len(words) > MaxList {
		return ErrLimit
	}
	return ErrNone
}

// checkList looks at every number before it looks at how many there are, as the order of errors
// asks.
func checkList(list []int64) int64 {
	for _, n := range list {
		if !isValue(n) {
			return ErrRange
		}
	}
	if len(list) > MaxList {
		return ErrLimit
	}
	return ErrNone
}

// joinElements writes no elements as a minus sign, because the empty text is the text of nothing.
func joinElements(elements ...string) string {
	if len(elements) == 0 {
		return "-"
	}
	return strings.Join(elements, ",")
}

// splitElements undoes joinElements. It stops one element after the limit, so that the work on a
// text that is far too long stays small.
func splitElements(s string) []string {
	if s == "-" {
		return nil
	}
	return strings.SplitN(s, ",", MaxList+1)
}

// readNumber accepts a text only if the number is written so: other ways of writing it, such as
// +1, 01 or -0, are no texts of numbers.
func readNumber(s string) (int64, bool) {
	n, err := strconv.ParseInt(s, 10, 64)
	if err != nil || strconv.FormatInt(n, 10) != s {
		return 0, false
	}
	return n, true
}
