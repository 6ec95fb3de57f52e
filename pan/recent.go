package pan

// recent is what is remembered of the last strikes: the newest one, and all to which a wait can go back from it.
type recent[T any] struct {
	count   int // How many strikes there were.
	strikes [MaxBack + 1]T
}

// add begins a strike, and returns the place of what is remembered of it.
func (r *recent[T]) add() *T {
	var nothing T
	r.count++
	newest := r.back(0)
	*newest = nothing
	return newest
}

// back returns the place of what is remembered of the strike that was so many before the newest one, or nil if there was
// none.
func (r *recent[T]) back(strikes int) *T {
	if strikes >= r.count {
		return nil
	}
	return &r.strikes[(r.count-1-strikes)%len(r.strikes)]
}
