package syntax

import "majordomo/api"

// parser reads tokens from the front. At the first token that no text can have there it panics, and keeps that token in front.
type parser struct {
	tokens []api.Token
	end    int // the number of bytes of the text
}

// reader reads what stands behind the first word of a clause or an item.
type reader func(p *parser) api.Clause

func clauseReaders() map[string]reader {
	return map[string]reader{
		"service": (*parser).service,
		"window":  (*parser).window,
		"approve": (*parser).approve,
		"blast":   (*parser).blast,
		"cap":     (*parser).limit,
	}
}

func itemReaders() map[string]reader {
	return map[string]reader{
		"cores":    (*parser).cores,
		"replicas": (*parser).replicas,
		"least":    (*parser).least,
		"spread":   (*parser).spread,
		"apart":    (*parser).apart,
		"near":     (*parser).near,
		"firmware": (*parser).firmware,
	}
}

func (p *parser) text() []api.Clause {
	readers := clauseReaders()
	var l []api.Clause
	for len(p.tokens) > 0 {
		l = append(l, p.clause(readers))
	}
	return l
}

// clause reads a clause or an item whose first word is a key of readers.
func (p *parser) clause(readers map[string]reader) api.Clause {
	first := p.next(func(t api.Token) bool { return readers[t.Text] != nil })
	c := readers[first.Text](p)
	c.At = first.At
	return c
}

func (p *parser) service() api.Clause {
	c := api.Clause{Kind: api.ClauseService, Names: []string{p.name()}}
	p.literal("{")
	readers := itemReaders()
	for p.front().Text != "}" {
		c.Items = append(c.Items, p.clause(readers))
	}
	p.literal("}")
	return c
}

func (p *parser) window() api.Clause {
	c := api.Clause{Kind: api.ClauseWindow}
	c.Domain, c.Index = p.area()
	p.literal("from")
	c.A = p.number()
	p.literal("to")
	c.B = p.number()
	p.literal(";")
	return c
}

func (p *parser) approve() api.Clause {
	c := api.Clause{Kind: api.ClauseApprove}
	c.Domain, c.Index = p.area()
	p.literal(";")
	return c
}

func (p *parser) limit() api.Clause {
	c := api.Clause{Kind: api.ClauseCap}
	p.literal("feed")
	c.Index = p.number()
	p.literal("at")
	c.A = p.number()
	p.literal(";")
	return c
}

func (p *parser) spread() api.Clause {
	c := api.Clause{Kind: api.ClauseSpread, A: p.number()}
	p.literal("per")
	c.Domain = p.scope()
	p.literal(";")
	return c
}

func (p *parser) apart() api.Clause {
	c := api.Clause{Kind: api.ClauseApart, Names: []string{p.name()}}
	for p.front().Text == "," {
		p.literal(",")
		c.Names = append(c.Names, p.name())
	}
	p.literal(";")
	return c
}

func (p *parser) near() api.Clause {
	c := api.Clause{Kind: api.ClauseNear, Names: []string{p.name()}}
	p.literal("within")
	c.A = p.number()
	p.literal(";")
	return c
}

func (p *parser) blast() api.Clause { return p.counted(api.ClauseBlast) }

func (p *parser) cores() api.Clause { return p.counted(api.ClauseCores) }

func (p *parser) replicas() api.Clause { return p.counted(api.ClauseReplicas) }

func (p *parser) least() api.Clause { return p.counted(api.ClauseLeast) }

func (p *parser) firmware() api.Clause { return p.counted(api.ClauseFirmware) }

// counted reads the rest of a clause or an item that has nothing but a number.
func (p *parser) counted(k api.ClauseKind) api.Clause {
	c := api.Clause{Kind: k, A: p.number()}
	p.literal(";")
	return c
}

func (p *parser) area() (api.Domain, int) {
	d := p.scope()
	return d, p.number()
}

func (p *parser) scope() api.Domain {
	d := api.DomainNone
	p.next(func(t api.Token) bool {
		d = domainOf(t.Text)
		return d != api.DomainNone
	})
	return d
}

func (p *parser) name() string {
	return p.next(func(t api.Token) bool { return t.Kind == api.TokenName && !isWord(t.Text) }).Text
}

func (p *parser) number() int {
	return p.next(func(t api.Token) bool { return t.Kind == api.TokenNumber }).Number
}

// literal takes a word or a sign that must stand here.
func (p *parser) literal(text string) {
	p.next(func(t api.Token) bool { return t.Text == text })
}

// next takes the token in front, if a text can have it here.
func (p *parser) next(fits func(t api.Token) bool) api.Token {
	t := p.front()
	if !fits(t) {
		panic(api.ErrSyntax)
	}
	p.tokens = p.tokens[1:]
	return t
}

// front returns the token in front; where the tokens end it is one of no kind, whose text no token has.
func (p *parser) front() api.Token {
	if len(p.tokens) == 0 {
		return api.Token{At: p.end}
	}
	return p.tokens[0]
}

// domainOf returns the domain that a word stands for, or DomainNone if it stands for none.
func domainOf(s string) api.Domain {
	for d := api.DomainHost; d <= api.DomainLoop; d++ {
		if scopeOf(d) == s {
			return d
		}
	}
	return api.DomainNone
}
