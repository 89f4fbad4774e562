package watch

import "dipworks/api"

// given is watches that are valid.
type given struct{ api.Watches }

func (g given) owner(n int) owner {
	return owner{g.Owners[n]}
}

func (g given) find(n int) find {
	f := going{g.Finds[n]}
	if f.Stopped {
		return stopped{f}
	}
	return f
}

// fit returns the owners whose a find can be by itself.
func (g given) fit(find int) set {
	var fit set
	for n := range g.Owners {
		if g.owner(n).canHave(g.find(find)) {
			fit = union(fit, one(n))
		}
	}
	return fit
}

// fits returns the owners whose each find can be by itself.
func (g given) fits() fits {
	var list fits
	for n := range g.Finds {
		list = append(list, g.fit(n))
	}
	return list
}
