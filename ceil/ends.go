package ceil

import "tappet/api"

// ends is for which resource each stands at its end, once that was found.
type ends map[int]int

// never is the end of a resource whose way goes on: whoever comes back to it goes round.
const never = -1

// endsOf finds the ends of all resources, whose links are numbers of resources; false: a way never ends.
func endsOf(l []api.Resource) (ends, bool) {
	found := ends{}
	for id := range l {
		if found.find(l, id) == never {
			return nil, false
		}
	}
	return found, true
}

// find finds the end of a resource and of all that lie on its way, so that no link is gone along twice, however many ways lead over it.
func (found ends) find(l []api.Resource, id int) int {
	var way []int
	end, met := found[id]
	for !met {
		way = append(way, id)
		if l[id].Kind != api.ResLinked {
			end = id
			break
		}
		found[id] = never
		id = l[id].Link
		end, met = found[id]
	}
	for _, id := range way {
		found[id] = end
	}
	return end
}
