package ledger

import (
	"cullet/api"
	"cullet/batch"
	"cullet/furnace"
)

// Recipe returns the posts of a recipe: what comes in of each of its materials, then what is charged of it.
func Recipe(x api.Batch, recipe []int, recycled []api.Span) ([]api.Post, api.Errno) {
	if _, e := batch.Grams(x, recipe); e != api.OK {
		return nil, e
	}
	if e := checkRecycled(x, recycled); e != api.OK {
		return nil, e
	}
	var come, charged []api.Post
	for i, m := range x.Materials {
		if recipe[i] == 0 {
			continue
		}
		kilos := exactly(recipe[i])
		charged = append(charged, api.Post{Kind: api.PoCharge, Heap: len(come), Kilos: kilos})
		come = append(come, api.Post{Kind: api.PoIn, Kilos: kilos, Recycled: recycled[i], Loss: lossOf(m)})
	}
	return append(come, charged...), api.OK
}

// checkRecycled returns the error of what of each material of a batch is recycled.
func checkRecycled(x api.Batch, recycled []api.Span) api.Errno {
	if len(recycled) != len(x.Materials) {
		return api.ErrArg
	}
	for _, s := range recycled {
		if !within(s, 0, whole) {
			return api.ErrArg
		}
	}
	for i, m := range x.Materials {
		if isAbove(recycled[i].High, lossOf(m).High, whole) {
			return api.ErrSum
		}
	}
	return api.OK
}

// Loss returns how many thousandths of a material are lost on melting.
func Loss(x api.Batch, material int) (api.Span, api.Errno) {
	if e := batch.Check(x); e != api.OK {
		return api.Span{}, e
	}
	if !isIndex(material, len(x.Materials)) {
		return api.Span{}, api.ErrNone
	}
	return lossOf(x.Materials[material]), api.OK
}

// lossOf returns what is lost of a material of a batch that may be.
func lossOf(m api.Material) api.Span {
	var glass api.Span
	for _, s := range m.Content {
		glass = sum(glass, s)
	}
	// Each oxide may have its High, but not all of them together.
	glass.High = min(whole, glass.High)
	return rest(glass)
}

// Furnace returns how many kilograms a furnace holds.
func Furnace(f api.Furnace, mode int) (hold api.Span, e api.Errno) {
	if e := furnace.Check(f); e != api.OK {
		return api.Span{}, e
	}
	if !isIndex(mode, len(f.Modes)) {
		return api.Span{}, api.ErrNone
	}
	kilos := 0
	for _, z := range f.Zones {
		kilos += z.Hold
	}
	if kilos > api.MaxMass {
		return api.Span{}, api.ErrLimit
	}
	return exactly(kilos), api.OK
}
