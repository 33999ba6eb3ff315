package ledger

import "cullet/api"

// entry is a post by its kind.
type entry interface {
	// word is what the kind is called in a text.
	word() string
	// fields are those that the kind names besides the time, as they follow one another in a text.
	fields() []*int
	// check returns the error of what the post says behind the posts of a record.
	check(r *record) api.Errno
	// enter adds a post without an error to a record.
	enter(r *record)
}

// entryOf returns a post by its kind, or nil if that is not a listed one.
func entryOf(p *api.Post) entry {
	switch p.Kind {
	case api.PoIn:
		return inPost{weighed{p}}
	case api.PoCharge:
		return chargePost{weighed{p}}
	case api.PoPull:
		return pullPost{weighed{p}}
	case api.PoPack:
		return packPost{weighed{p}}
	case api.PoBack:
		return backPost{weighed{p}}
	case api.PoClose:
		return closePost{p}
	case api.PoClaim:
		return claimPost{ofLot{p}}
	case api.PoReturn:
		return returnPost{ofLot{p}}
	}
	return nil
}

// hasMore tells whether a field of a post is not zero that its kind does not name.
func hasMore(p api.Post) bool {
	for _, field := range entryOf(&p).fields() {
		*field = 0
	}
	return p != api.Post{Time: p.Time, Kind: p.Kind}
}

// weighed is a post of something that has a weight.
type weighed struct{ *api.Post }

func (x weighed) fields() []*int { return ends(&x.Kilos) }

func (x weighed) check(*record) api.Errno {
	if !within(x.Kilos, 0, api.MaxMass) {
		return api.ErrArg
	}
	return api.OK
}

// ofLot is a post about a lot that was packed.
type ofLot struct{ *api.Post }

func (x ofLot) fields() []*int { return []*int{&x.Lot} }

func (x ofLot) check(r *record) api.Errno { return r.checkLot(x.Lot) }

// inPost says that a heap came in.
type inPost struct{ weighed }

func (inPost) word() string { return "in" }

func (x inPost) fields() []*int { return append(x.weighed.fields(), ends(&x.Recycled, &x.Loss)...) }

func (x inPost) check(r *record) api.Errno {
	if e := x.weighed.check(r); e != api.OK {
		return e
	}
	if !isSpan(x.Recycled) || !isSpan(x.Loss) {
		return api.ErrArg
	}
	if isAbove(x.Recycled.High, x.Loss.High, whole) {
		return api.ErrSum
	}
	return r.checkHeap()
}

func (x inPost) enter(r *record) {
	r.bring(api.Heap{Kilos: x.Kilos, Recycled: x.Recycled, Loss: x.Loss})
}

// chargePost says that something of a heap was charged into the furnace.
type chargePost struct{ weighed }

func (chargePost) word() string { return "charge" }

func (x chargePost) fields() []*int { return append([]*int{&x.Heap}, x.weighed.fields()...) }

func (x chargePost) check(r *record) api.Errno {
	if e := x.weighed.check(r); e != api.OK {
		return e
	}
	if !isIndex(x.Heap, len(r.heaps)) {
		return api.ErrNone
	}
	return api.OK
}

func (x chargePost) enter(r *record) {
	h := r.heaps[x.Heap]
	glass := product(x.Kilos, rest(h.Loss))
	r.change(furnaceAccount(), glass)
	r.change(heapAccount(x.Heap), opposite(grams(x.Kilos)))
	p := r.now()
	p.Glass = sum(p.Glass, glass)
	p.Recycled = sum(p.Recycled, product(x.Kilos, h.Recycled))
	p.Gases = sum(p.Gases, product(x.Kilos, h.Loss))
}

// pullPost says that glass was pulled from the furnace.
type pullPost struct{ weighed }

func (pullPost) word() string { return "pull" }

func (x pullPost) enter(r *record) {
	r.change(furnaceAccount(), opposite(grams(x.Kilos)))
	r.change(floorAccount(), grams(x.Kilos))
}

// packPost says that glass was packed as a lot.
type packPost struct{ weighed }

func (packPost) word() string { return "pack" }

func (x packPost) fields() []*int { return append([]*int{&x.Lot}, x.weighed.fields()...) }

func (x packPost) check(r *record) api.Errno {
	if e := x.weighed.check(r); e != api.OK {
		return e
	}
	if !between(x.Lot, 0, api.MaxLotNo) {
		return api.ErrArg
	}
	if _, is := r.lots[x.Lot]; is {
		return api.ErrTwice
	}
	return api.OK
}

func (x packPost) enter(r *record) {
	r.change(floorAccount(), opposite(grams(x.Kilos)))
	r.lots[x.Lot] = &lot{period: len(r.periods) - 1, most: x.Kilos.High}
	p := r.now()
	p.Packed = sum(p.Packed, x.Kilos)
}

// backPost says that glass was broken, and is a heap.
type backPost struct{ weighed }

func (backPost) word() string { return "back" }

func (x backPost) check(r *record) api.Errno {
	if e := x.weighed.check(r); e != api.OK {
		return e
	}
	return r.checkHeap()
}

func (x backPost) enter(r *record) {
	r.change(floorAccount(), opposite(grams(x.Kilos)))
	recycled := api.Span{Low: 0, High: whole}
	if before := len(r.periods) - 2; before >= 0 {
		recycled = shareOf(r.periods[before])
	}
	r.bring(api.Heap{Kilos: x.Kilos, Recycled: recycled})
}

// closePost says that a period ends. That another one begins is seen to where periods are told apart.
type closePost struct{ *api.Post }

func (closePost) word() string { return "close" }

func (closePost) fields() []*int { return nil }

func (closePost) check(*record) api.Errno { return api.OK }

func (closePost) enter(*record) {}

// claimPost certifies how much of a lot is recycled.
type claimPost struct{ ofLot }

func (claimPost) word() string { return "claim" }

func (x claimPost) fields() []*int { return append(x.ofLot.fields(), &x.Share) }

func (x claimPost) check(r *record) api.Errno {
	if e := x.ofLot.check(r); e != api.OK {
		return e
	}
	if !between(x.Share, 1, whole) {
		return api.ErrArg
	}
	return r.checkClaim(x.Lot)
}

func (x claimPost) enter(r *record) { r.certify(r.lots[x.Lot], x.Share) }

// returnPost says that a lot came back.
type returnPost struct{ ofLot }

func (returnPost) word() string { return "return" }

func (x returnPost) enter(r *record) { r.lots[x.Lot].returned = true }
