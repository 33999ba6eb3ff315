package ledger

import (
	"slices"

	"cullet/api"
)

// endless is more grams than any account ever has.
const endless = 1 << 60

// accounts returns all accounts: the furnace, the floor, then the heaps.
func (r *record) accounts() []account {
	all := []account{furnaceAccount(), floorAccount()}
	for n := range r.heaps {
		all = append(all, heapAccount(n))
	}
	return all
}

// bounds returns what an account may have before the posts, and at each moment.
func (r *record) bounds(a account) (first, always api.Span) {
	if a.kind != api.AcFurnace {
		return exactly(0), api.Span{Low: 0, High: endless}
	}
	always = grams(r.book.Hold)
	return common(grams(r.book.First), always), always
}

// steps returns a start, and what comes of it with each of some changes.
func steps[S, C any](start S, changes []C, step func(S, C) S) []S {
	all := []S{start}
	for _, c := range changes {
		start = step(start, c)
		all = append(all, start)
	}
	return all
}

// moved returns how a change moves amounts that must stay within others. No amounts stay none.
func moved(always api.Span) func(amounts, change api.Span) api.Span {
	return func(amounts, change api.Span) api.Span {
		if isEmpty(amounts) {
			return amounts
		}
		return common(sum(amounts, change), always)
	}
}

// ahead returns, behind each number of posts, the amounts that an account has in the true stories of these posts.
func (r *record) ahead(a account) []api.Span {
	first, always := r.bounds(a)
	return steps(first, r.changes[a], moved(always))
}

// behind returns, behind each number of posts, the amounts with which the other posts have a true story.
func (r *record) behind(a account) []api.Span {
	var undone []api.Span
	for _, change := range slices.Backward(r.changes[a]) {
		undone = append(undone, opposite(change))
	}
	_, always := r.bounds(a)
	all := steps(always, undone, moved(always))
	slices.Reverse(all)
	return all
}

// Wrong returns the first post with which an account cannot be right.
func Wrong(b api.Book) (post int, a api.Account, heap int, e api.Errno) {
	r, e := recordOf(b)
	if e != api.OK {
		return 0, 0, 0, e
	}
	post = len(b.Posts)
	var wrong account
	for _, x := range r.accounts() {
		// Before the posts every account is right, so the first one of them is behind a post.
		count := slices.IndexFunc(r.ahead(x), isEmpty)
		if count > 0 && count-1 < post {
			post, wrong = count-1, x
		}
	}
	return post, wrong.kind, wrong.heap, api.OK
}

// Amount returns what an account has behind so many posts, in grams.
func Amount(b api.Book, a api.Account, heap, posts int) (grams api.Span, e api.Errno) {
	r, e := recordOf(b)
	if e != api.OK {
		return api.Span{}, e
	}
	if a > api.AcHeap || !between(posts, 0, len(b.Posts)) {
		return api.Span{}, api.ErrArg
	}
	x := account{a, heap}
	if !slices.Contains(r.accounts(), x) {
		return api.Span{}, api.ErrNone
	}
	ahead := r.ahead(x)
	if isEmpty(ahead[len(b.Posts)]) {
		return api.Span{}, api.ErrClash
	}
	return common(ahead[posts], r.behind(x)[posts]), api.OK
}
