package tests

import (
	"regexp"
	"slices"
	"strconv"
	"strings"
	"time"

	"loop.example/g00221/impl"
)

// How a product's text goes on, told apart from the program: a list of what is still to come, in words that stand for
// themselves, and in words with a capital that are made of others.
var (
	nameForm  = regexp.MustCompile(`^[a-z][a-z0-9_]*$`)
	intForm   = regexp.MustCompile(`^(0|-?[1-9][0-9]*)$`)
	moneyForm = regexp.MustCompile(`^-?(0|[1-9][0-9]*)\.[0-9][0-9]$`)
	rateForm  = regexp.MustCompile(`^(0|[1-9][0-9]*)\.[0-9]{4}%$`)
	dateForm  = regexp.MustCompile(`^20[0-9][0-9]-[0-9][0-9]-[0-9][0-9]$`)
	noDigits  = strings.NewReplacer("-", "", ".", "", "%", "")
)

// textStart: a whole product.
const textStart = "product Name basis Int { Contras Slots Params open Block pay Block tick Block } End"

// isNameWord: may it stand for a name?
func isNameWord(word string) bool {
	return nameForm.MatchString(word) && !slices.Contains(reservedList(), word)
}

// isBounded: is the number that its digits make no further from 0 than that?
func isBounded(word string, most int64) bool {
	n, err := strconv.ParseInt(noDigits.Replace(word), 10, 64)
	return err == nil && n <= most
}

// isNumberWord: is it a number of that type, by its word?
func isNumberWord(word string, kind string) bool {
	switch kind {
	case "int":
		return intForm.MatchString(word) && isBounded(word, impl.MaxMoney)
	case "money":
		return moneyForm.MatchString(word) && word != "-0.00" && isBounded(word, impl.MaxMoney)
	case "rate":
		return rateForm.MatchString(word) && isBounded(word, impl.RateUnit)
	case "date":
		_, err := time.Parse("2006-01-02", word)
		return dateForm.MatchString(word) && err == nil
	}
	return kind == "bool" && (word == "true" || word == "false")
}

// typeNames: the five.
func typeNames() []string {
	return []string{"int", "money", "rate", "date", "bool"}
}

// unfold: what a word with a capital is made of, if that word comes next: of "Name" and its like the word itself,
// where it fits, and the end, where nothing does.
func unfold(what string, word string) string {
	fits := false
	switch what {
	case "Contras":
		return listForm("contra Name ; Contras", word)
	case "Slots":
		return listForm("slot Name ; Slots", word)
	case "Params":
		return listForm("param Name Type Params", word)
	case "Type":
		if slices.Contains(typeNames(), word) {
			return word + " Number:" + word + " Number:" + word + " ;"
		}
	case "Block":
		return "{ States"
	case "States":
		if word == "}" {
			return word
		}
		return "State States"
	case "State":
		return stateForm(word)
	case "Value":
		return valueForm(word)
	case "Kids":
		if word == ")" {
			return word
		}
		return "Value Kids"
	case "Name":
		fits = isNameWord(word)
	case "Int":
		fits = isNumberWord(word, "int")
	case "Reject":
		fits = intForm.MatchString(word) && word[0] != '-' && word != "0" && len(word) <= 2
	case "Op":
		fits = slices.Contains(operatorList(), word)
	default:
		fits = isNumberWord(word, strings.TrimPrefix(what, "Number:"))
	}
	if fits {
		return word
	}
	return "End"
}

// listForm: one more of a list, or nothing, if another word comes next.
func listForm(form string, word string) string {
	if strings.HasPrefix(form, word+" ") {
		return form
	}
	return ""
}

// stateForm: of a statement that begins with that word.
func stateForm(word string) string {
	forms := []string{"let Name = Value ;", "set Name = Value ;", "if Value Block else Block", "post Value from Name to Name ;",
		"reject Reject ;", "next Value ;", "repeat Value Block", "{ States"}
	for _, form := range forms {
		if strings.HasPrefix(form, word+" ") {
			return form
		}
	}
	return "End"
}

// valueForm: of an expression that begins with that word.
func valueForm(word string) string {
	forms := []string{"bal Name", "today", "since", "count", "amount", "( Value Op Value )", "not Value"}
	for _, form := range forms {
		if form == word || strings.HasPrefix(form, word+" ") {
			return form
		}
	}
	if slices.Contains(functionList(), word) {
		return word + " ( Kids"
	}
	if isNameWord(word) {
		return word
	}
	for _, kind := range typeNames() {
		if isNumberWord(word, kind) {
			return word
		}
	}
	return "End"
}

// misfit: how many words stand ahead of the first one that cannot stand there, or -1, if all are a product's text.
func misfit(words []string) int {
	dues := strings.Fields(textStart)
	for i, word := range words {
		for dues[0] != word {
			if c := dues[0][0]; dues[0] == "End" || c < 'A' || c > 'Z' {
				return i
			}
			dues = append(strings.Fields(unfold(dues[0], word)), dues[1:]...)
		}
		dues = dues[1:]
	}
	if len(dues) == 1 {
		return -1
	}
	return len(words)
}
