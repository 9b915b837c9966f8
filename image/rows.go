package image

const (
	mark     = "TPT1" // the first bytes of every image
	sizeEnd  = 8      // where the number of bytes ends, which stands behind the mark
	headSize = 28
	sumSize  = 2
)

// rows goes through n rows, from the first on, and answers what is made of each: its bytes where a writer makes it, the row itself where a reader does.
func rows[R any](n int, row func(id int) R) []R {
	var out []R
	for id := range n {
		out = append(out, row(id))
	}
	return out
}
