package route

import (
	"strings"

	"ostler/path"
)

// kind is what a part is: the lesser, the finer.
type kind uint8

const (
	isPlain kind = iota
	isCatching
	isRest
)

// part is a part of a pattern, without its name.
type part interface {
	kind() kind

	// shape is the same for parts that are alike alone.
	shape() string

	// take is how many of the parts that are left of a path it stands for; false, if it does not fit them.
	take(left []string) (int, bool)

	// catch lays what it catches of the parts that it took behind other values.
	catch(values, taken []string, folder bool) []string
}

// target is a clean path as patterns see it.
type target struct {
	parts  []string
	folder bool // whether it ends in a slash
}

func newTarget(clean string) target {
	return target{path.Parts(clean), strings.HasSuffix(clean, "/")}
}

// fits tells whether a pattern fits a path.
func fits(parts []part, left []string) bool {
	for _, p := range parts {
		n, is := p.take(left)
		if !is {
			return false
		}
		left = left[n:]
	}
	return len(left) == 0
}

// caught is what a pattern catches of a path that it fits.
func caught(parts []part, asked target) []string {
	var values []string
	left := asked.parts
	for _, p := range parts {
		n, _ := p.take(left)
		values = p.catch(values, left[:n], asked.folder)
		left = left[n:]
	}
	return values
}

// finer tells whether the first of two patterns that fit one path is the finer one.
func finer(a, b []part) bool {
	for i := range min(len(a), len(b)) {
		if x, y := a[i].kind(), b[i].kind(); x != y {
			return x < y
		}
	}
	// As both fit, the longer one goes on with a rest, and a pattern that has ended is finer than that.
	return len(a) < len(b)
}

// plain is a part that stands for itself.
type plain string

func (p plain) kind() kind { return isPlain }

func (p plain) shape() string { return string(p) }

func (p plain) take(left []string) (int, bool) {
	if len(left) == 0 || left[0] != string(p) {
		return 0, false
	}
	return 1, true
}

func (p plain) catch(values, taken []string, folder bool) []string { return values }

// catching is a part that stands for any one.
type catching struct{}

func (c catching) kind() kind { return isCatching }

func (c catching) shape() string { return "{}" }

func (c catching) take(left []string) (int, bool) {
	if len(left) == 0 {
		return 0, false
	}
	return 1, true
}

func (c catching) catch(values, taken []string, folder bool) []string {
	return append(values, taken...)
}

// rest is a part that stands for all that are left.
type rest struct{}

func (r rest) kind() kind { return isRest }

func (r rest) shape() string { return "{...}" }

func (r rest) take(left []string) (int, bool) { return len(left), true }

func (r rest) catch(values, taken []string, folder bool) []string {
	value := strings.Join(taken, "/")
	if folder && len(taken) > 0 {
		value += "/"
	}
	return append(values, value)
}
