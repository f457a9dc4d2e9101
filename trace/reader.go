package trace

import (
	"frustum/api"
	"frustum/command"
	"frustum/format"
)

// clearWords is the number of words of a pass that clears its target.
const clearWords = 8

// reader reads the words behind the name of a command, one after the other.
type reader struct {
	words []string
	// isWrong notes a word that cannot be there, and isFar a number that is out of range.
	isWrong, isFar bool
}

// code returns the error of the words that were read.
func (r *reader) code() api.Errno {
	switch {
	case r.isWrong:
		return api.ErrSyntax
	case r.isFar:
		return api.ErrRange
	}
	return api.OK
}

// command reads the words of a command.
func (r *reader) command(k api.CommandKind) api.Command {
	c := api.Command{Kind: k}
	if !r.hasLength(k) {
		r.isWrong = true
		return c
	}
	switch k {
	case api.BindPipeline, api.BeginQuery, api.EndQuery:
		c.ID = r.number()
	case api.BindVertex, api.BindBuffer:
		c.Slot, c.ID = r.number(), r.number()
	case api.CopyToImage, api.Resolve:
		c.ID, c.Slot = r.number(), r.number()
	case api.BindIndex:
		c.ID, c.Index = r.number(), r.index()
	case api.BindTexture:
		c.Slot, c.ID, c.Sampler = r.number(), r.number(), r.sampler()
	case api.SetUniforms:
		c.First = r.number()
		for len(r.words) > 0 {
			c.Values = append(c.Values, r.number())
		}
	case api.BeginPass:
		r.pass(&c)
	case api.Draw:
		c.First, c.Count = r.number(), r.number()
	case api.Barrier:
		c.ID, c.From, c.To = r.number(), r.state(), r.state()
	}
	return c
}

// hasLength reports whether there are as many words as a kind has.
func (r *reader) hasLength(k api.CommandKind) bool {
	count := Words(k)
	switch k {
	case api.SetUniforms:
		return len(r.words) >= count
	case api.BeginPass:
		return len(r.words) == count || len(r.words) == clearWords
	}
	return len(r.words) == count
}

// next reads a word.
func (r *reader) next() string {
	word := r.words[0]
	r.words = r.words[1:]
	return word
}

// number reads a number.
func (r *reader) number() int {
	n, code := format.ParseInt(r.next())
	switch code {
	case api.ErrSyntax:
		r.isWrong = true
	case api.ErrRange:
		r.isFar = true
	}
	return n
}

// color reads four components.
func (r *reader) color() api.Vec4 {
	return api.Vec4{X: r.number(), Y: r.number(), Z: r.number(), W: r.number()}
}

// pass reads the words of a pass.
func (r *reader) pass(c *api.Command) {
	c.ID = r.number()
	word := r.next()
	c.LoadContents = len(r.words) == 0
	if c.LoadContents {
		r.isWrong = r.isWrong || word != loadWord
		return
	}
	r.isWrong = r.isWrong || word != clearWord
	c.Clear, c.ClearDepth, c.ClearStencil = r.color(), r.number(), r.number()
}

// sampler reads the words of a sampler.
func (r *reader) sampler() api.Sampler {
	return api.Sampler{
		AddressU: api.AddressMode(r.number()),
		AddressV: api.AddressMode(r.number()),
		Magnify:  api.Filter(r.number()),
		Minify:   api.Filter(r.number()),
		Mipmap:   api.Filter(r.number()),
		Border:   r.color(),
		LODBias:  r.number(),
		MinLOD:   r.number(),
		MaxLOD:   r.number(),
	}
}

// index reads the word for an index type.
func (r *reader) index() api.IndexType {
	word := r.next()
	for t := api.NoIndex; t <= api.Index32; t++ {
		if IndexWord(t) == word {
			return t
		}
	}
	r.isWrong = true
	return 0
}

// state reads the word for a resource state.
func (r *reader) state() api.ResourceState {
	word := r.next()
	for s := api.Undefined; s <= api.CopyTarget; s++ {
		if StateWord(s) == word {
			return s
		}
	}
	r.isWrong = true
	return 0
}

// kindOf returns the kind with a name, or 0 if there is none.
func kindOf(name string) api.CommandKind {
	for k := api.BindPipeline; k <= api.Resolve; k++ {
		if command.Name(k) == name {
			return k
		}
	}
	return 0
}
