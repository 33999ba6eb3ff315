package house

import (
	"slices"
	"strings"

	"cullet/api"
	"cullet/ledger"
)

// The words of posts that are not taken as they are written.
const (
	packWord  = "pack"
	claimWord = "claim"
)

func isPack(p api.Post) bool { return p.Kind == api.PoPack }

// bookError returns the error of a book of which no true story can be told, or that certifies more than is covered.
func bookError(b api.Book) api.Errno {
	if post, _, _, e := ledger.Wrong(b); e != api.OK {
		return e
	} else if post < len(b.Posts) {
		return api.ErrClash
	}
	if post, e := ledger.Covered(b); e != api.OK {
		return e
	} else if post < len(b.Posts) {
		return api.ErrSum
	}
	return api.OK
}

// enter puts posts behind the book.
func (d *deed) enter(posts ...api.Post) string {
	b := d.book.Book
	b.Posts = behind(b.Posts, posts...)
	needOK(bookError(b))
	d.book = bookThing{b}
	d.keep(theBook, d.book)
	return d.counted(len(b.Posts), "posts")
}

// post puts a post behind the book as the line has it.
func (d *deed) post() string {
	row := d.words[theRow] + "\n"
	needPost(row)
	word := strings.Split(row, " ")[1]
	need(word != packWord && word != claimWord, api.ErrScope)
	before := got(ledger.Write(d.book.Book))
	all := parsed(ledger.Read(before + row)).Posts
	return d.enter(all[len(all)-1])
}

// needPost leaves the line unless a line of a text is that of a post, be it allowed or not.
func needPost(row string) {
	const head = "hold 0 0 0 0\n"
	_, _, e := ledger.Read(head + row)
	// What is too long to be read has more digits than any post.
	needForm(e != api.ErrForm && e != api.ErrLimit)
}

// pack puts a lot into the book that may leave.
func (d *deed) pack() string {
	lot := d.numbers[theLot]
	need(slices.Contains(d.released(), lot), api.ErrState)
	d.enter(api.Post{Time: d.numbers[theTime], Kind: api.PoPack, Lot: lot, Kilos: d.span()})
	return joined(d.name+":", "packed", digits(lot))
}

// certify puts the greatest share of a lot into the book that may be certified.
func (d *deed) certify() string {
	lot := d.numbers[theLot]
	share := got(ledger.Most(d.book.Book, lot))
	need(share > 0, api.ErrSum)
	d.enter(api.Post{Time: d.numbers[theTime], Kind: api.PoClaim, Lot: lot, Share: share})
	return joined("certified:", digits(share), d.paper(api.Paper{Kind: api.PaClaim}, d.book))
}

// share tells how much of a period's glass is recycled.
func (d *deed) share() string {
	s := got(ledger.Share(d.book.Book, d.numbers[thePeriod]))
	return joined("share:", digits(s.Low), digits(s.High))
}

// charge puts what a recipe brings into the book.
func (d *deed) charge() string {
	b := d.batch.Batch
	nothing := make([]api.Span, len(b.Materials))
	posts := got(ledger.Recipe(b, d.kilos, nothing))
	heaps := len(got(ledger.Heaps(d.book.Book)))
	for i := range posts {
		posts[i].Time = d.numbers[theTime]
		if posts[i].Kind == api.PoCharge {
			posts[i].Heap += heaps
		}
	}
	return d.enter(posts...)
}

// audit tells whether all papers are good.
func (d *deed) audit() string {
	for i, p := range d.stock.papers {
		if Verify(p) != api.OK {
			return joined("audit:", "bad", digits(i))
		}
	}
	return joined("audit:", "good", digits(len(d.stock.papers)))
}
