// Package text has what texts are laid together of, and how they are taken apart again.
package text

// Number is n in so many bytes, the low one first: the document's [n] and [n, 2].
func Number(n, bytes int) string {
	number := make([]byte, bytes)
	for i := range number {
		number[i] = byte(n >> (8 * i))
	}
	return string(number)
}

// Cut takes the first n bytes off a text.
func Cut(text *string, n int) string {
	head := (*text)[:n]
	*text = (*text)[n:]
	return head
}
