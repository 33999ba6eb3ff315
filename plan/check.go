package plan

import (
	"slices"

	"cullet/api"
)

// Check returns the first error of a season, or OK.
func Check(s api.Season) api.Errno {
	_, e := worksOf(s)
	return e
}

// checkParts returns the first error of a season but the last one, which asks for its shifts.
func checkParts(s api.Season) api.Errno {
	if !between(s.Days, 1, api.MaxDays) {
		return api.ErrArg
	}
	for _, check := range []func(api.Season) api.Errno{checkArticles, checkOvens, checkMakers, checkTurns, checkOrders} {
		if e := check(s); e != api.OK {
			return e
		}
	}
	return api.OK
}

func checkArticles(s api.Season) api.Errno {
	if len(s.Articles) > api.MaxArticles {
		return api.ErrLimit
	}
	for i, x := range s.Articles {
		if !isName(x.Name) {
			return api.ErrName
		}
		if findArticle(s.Articles[:i], x.Name) >= 0 {
			return api.ErrTwice
		}
		if !isIndex(x.Colour, len(s.Colours)) {
			return api.ErrNone
		}
		if !between(x.Weight, 1, api.MaxGob) {
			return api.ErrArg
		}
	}
	return api.OK
}

func checkOvens(s api.Season) api.Errno {
	if len(s.Ovens) > api.MaxOvens {
		return api.ErrLimit
	}
	for _, x := range s.Ovens {
		if !between(x.Most, 0, api.MaxHold) || !between(x.Least, 0, x.Most) {
			return api.ErrArg
		}
	}
	return api.OK
}

func checkMakers(s api.Season) api.Errno {
	if len(s.Makers) > api.MaxMakers {
		return api.ErrLimit
	}
	for _, x := range s.Makers {
		if !isIndex(x.Oven, len(s.Ovens)) {
			return api.ErrNone
		}
		if !allBetween(x.Rates, len(s.Articles), 0, api.MaxRate) || !between(x.Idle, 0, api.MaxCosts) || !between(x.Start, none, len(s.Articles)-1) {
			return api.ErrArg
		}
	}
	return api.OK
}

func checkTurns(s api.Season) api.Errno {
	if !isTable(s.Jobs, len(s.Articles)) {
		return api.ErrArg
	}
	if len(s.Colours) > api.MaxColours {
		return api.ErrLimit
	}
	if !isTable(s.Colours, len(s.Colours)) {
		return api.ErrArg
	}
	return api.OK
}

// isTable tells whether there are changes from each of so many things to each of them, all as they may be.
func isTable(all [][]api.Turn, count int) bool {
	isWrong := func(x api.Turn) bool {
		return !between(x.Minutes, 0, dayMinutes) || !between(x.Cost, 0, api.MaxCosts)
	}
	for _, row := range all {
		if len(row) != count || slices.ContainsFunc(row, isWrong) {
			return false
		}
	}
	return len(all) == count
}

func checkOrders(s api.Season) api.Errno {
	if len(s.Orders) > len(s.Articles) {
		return api.ErrLimit
	}
	for i, x := range s.Orders {
		if !isIndex(x.Article, len(s.Articles)) {
			return api.ErrNone
		}
		if findOrder(s.Orders[:i], x.Article) >= 0 {
			return api.ErrTwice
		}
		if !between(x.Quantity, 0, api.MaxRate) || !between(x.Due, 0, s.Days-1) || !between(x.Penalty, 0, api.MaxCosts) {
			return api.ErrArg
		}
	}
	return api.OK
}

// findArticle returns the number of the first article with this name, or -1.
func findArticle(articles []api.Article, name string) int {
	return slices.IndexFunc(articles, func(x api.Article) bool { return x.Name == name })
}

// findOrder returns the number of the order of an article, or -1.
func findOrder(orders []api.Order, article int) int {
	return slices.IndexFunc(orders, func(x api.Order) bool { return x.Article == article })
}

// allBetween tells whether there are so many numbers, all from least to most.
func allBetween(numbers []int, count, least, most int) bool {
	isOutside := func(n int) bool { return !between(n, least, most) }
	return len(numbers) == count && !slices.ContainsFunc(numbers, isOutside)
}

func isIndex(n, count int) bool { return between(n, 0, count-1) }

func between(n, least, most int) bool { return least <= n && n <= most }

func isName(s string) bool {
	if len(s) == 0 || len(s) > api.MaxName || !isLetter(s[0]) {
		return false
	}
	for i := range len(s) {
		if c := s[i]; !isLetter(c) && c != '-' && (c < '0' || c > '9') {
			return false
		}
	}
	return true
}

func isLetter(c byte) bool { return 'a' <= c && c <= 'z' }
