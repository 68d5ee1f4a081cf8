// Package met is for lists that are gone through name by name. It is no layer of the document.
package met

// Names answers what tells of one name behind the other whether it was told of it already.
func Names() func(name string) bool {
	told := map[string]bool{}
	return func(name string) bool {
		is := told[name]
		told[name] = true
		return is
	}
}
