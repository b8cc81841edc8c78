package sign

import (
	"latticekeys/api"
	"latticekeys/text"
	"latticekeys/throw"
)

// contextBytes are how many a context has at most: its length is told in one byte.
const contextBytes = 255

// SignWith is Sign of a message in a context. It throws what Sign throws, and ErrLength of a context that is too long.
func (p *Parameters) SignWith(sk, ctx, m, rnd string, fuel int) string {
	throw.Unless(len(ctx) <= contextBytes, api.ErrLength)
	return p.Sign(sk, inContext(ctx, m), rnd, fuel)
}

// VerifyWith is Verify of a message in a context.
func (p *Parameters) VerifyWith(pk, ctx, m, signature string) bool {
	return len(ctx) <= contextBytes && p.Verify(pk, inContext(ctx, m), signature)
}

// inContext is what is signed for a message. The length parts the context from the message, so that no two pairs give one text; the nought says that it is the message itself, no hash of it.
func inContext(ctx, m string) string {
	return text.Number(0, 1) + text.Number(len(ctx), 1) + ctx + m
}
