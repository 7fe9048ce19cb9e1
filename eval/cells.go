package eval

import "billhook/api"

// room is how many numbers the cell of a Var of that Size has.
func room(size int) int {
	return min(max(size, 1), api.MaxSize)
}

// add puts a cell behind the others. Of two of one name the first one stays the
// one that is meant.
func (e *Env) add(cell Cell) {
	if _, known := e.first[cell.Name]; !known {
		e.first[cell.Name] = len(e.cells)
	}
	e.cells = append(e.cells, cell)
}

// place is where number i of the cell of that name is kept; nil, if there is no
// such, or if it is an array and must be none, or the other way round.
func (e *Env) place(name string, array bool, i int64) *int64 {
	k, known := e.first[name]
	if !known || e.cells[k].Array != array {
		return nil
	}
	v := e.cells[k].V
	if i < 0 || i >= int64(len(v)) {
		return nil
	}
	return &v[i]
}

func load(place *int64) (int64, bool) {
	if place == nil {
		return 0, false
	}
	return *place, true
}

func store(place *int64, n int64) bool {
	if place == nil {
		return false
	}
	*place = n
	return true
}
