package syntax

import (
	"strconv"

	"majordomo/api"
)

// printer gathers the tokens of a well-formed tree.
type printer struct {
	tokens []api.Token
}

func (p *printer) clause(c api.Clause) {
	switch c.Kind {
	case api.ClauseService:
		p.names("service", c.Names[0]).sign("{")
		for _, i := range c.Items {
			p.item(i)
		}
		p.sign("}")
	case api.ClauseWindow:
		p.names("window", scopeOf(c.Domain)).number(c.Index).names("from").number(c.A).names("to").number(c.B).sign(";")
	case api.ClauseApprove:
		p.names("approve", scopeOf(c.Domain)).number(c.Index).sign(";")
	case api.ClauseBlast:
		p.names("blast").number(c.A).sign(";")
	case api.ClauseCap:
		p.names("cap", "feed").number(c.Index).names("at").number(c.A).sign(";")
	}
}

func (p *printer) item(c api.Clause) {
	switch c.Kind {
	case api.ClauseCores:
		p.names("cores").number(c.A)
	case api.ClauseReplicas:
		p.names("replicas").number(c.A)
	case api.ClauseLeast:
		p.names("least").number(c.A)
	case api.ClauseSpread:
		p.names("spread").number(c.A).names("per", scopeOf(c.Domain))
	case api.ClauseApart:
		p.names("apart", c.Names[0])
		for _, name := range c.Names[1:] {
			p.sign(",").names(name)
		}
	case api.ClauseNear:
		p.names("near", c.Names[0], "within").number(c.A)
	case api.ClauseFirmware:
		p.names("firmware").number(c.A)
	}
	p.sign(";")
}

// names adds words and names.
func (p *printer) names(texts ...string) *printer {
	for _, s := range texts {
		p.tokens = append(p.tokens, nameToken(s))
	}
	return p
}

func (p *printer) number(n int) *printer {
	p.tokens = append(p.tokens, numberToken(n))
	return p
}

func (p *printer) sign(s string) *printer {
	p.tokens = append(p.tokens, api.Token{Kind: api.TokenSign, Text: s})
	return p
}

func nameToken(s string) api.Token {
	return api.Token{Kind: api.TokenName, Text: s}
}

func numberToken(n int) api.Token {
	return api.Token{Kind: api.TokenNumber, Text: strconv.Itoa(n), Number: n}
}
