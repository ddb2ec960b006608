package msg

import (
	"slices"
	"strings"
	"testing"

	"ostler/api"
)

// get is a list that lacks nothing.
func get() []api.Field { return of(":method", "GET", ":scheme", "http", ":path", "/a") }

// asked is what get is, with more fields.
func asked(authority string, fields ...string) api.Request {
	return api.Request{Method: "GET", Scheme: "http", Authority: authority, Path: "/a", Fields: of(fields...)}
}

func wantTwo(t *testing.T, list []api.Field, want api.Request) {
	t.Helper()
	if r, err := Two(list); err != api.OK || !sameRequest(r, want) {
		t.Errorf("Two(%q) = %q, %d, not %q", list, r, int(err), want)
	}
}

func wantNoTwo(t *testing.T, list []api.Field, want api.Errno) {
	t.Helper()
	if r, err := Two(list); err != want || !sameRequest(r, api.Request{}) {
		t.Errorf("Two(%q) = %q, %d, not %d", list, r, int(err), int(want))
	}
}

// holdTwo holds Two against the plain reading.
func holdTwo(t *testing.T, list []api.Field) {
	t.Helper()
	if want, err := twoByWords(list); err != api.OK {
		wantNoTwo(t, list, err)
	} else {
		wantTwo(t, list, want)
	}
}

// The plain reading of P14.2: each field is held against all that stand ahead of it.

func twoByWords(list []api.Field) (api.Request, api.Errno) {
	for i, f := range list {
		if err := fieldByWords(list[:i], f); err != api.OK {
			return api.Request{}, err
		}
	}
	method, hasMethod := valueOf(list, ":method")
	scheme, hasScheme := valueOf(list, ":scheme")
	path, hasPath := valueOf(list, ":path")
	if !hasMethod || !hasScheme || !hasPath || !isToken(method) || scheme != "http" && scheme != "https" || !pathByWords(method, path) {
		return api.Request{}, api.ErrPseudo
	}
	authority, hasAuthority := valueOf(list, ":authority")
	host, hasHost := valueOf(list, "host")
	if hasAuthority && hasHost && authority != host {
		return api.Request{}, api.ErrField
	}
	if _, _, err := lengthByWords(list); err != api.OK {
		return api.Request{}, err
	}
	if !hasAuthority {
		authority = host
	}
	r := api.Request{Method: method, Scheme: scheme, Authority: authority, Path: path}
	for _, f := range list {
		if !strings.HasPrefix(f.Name, ":") && f.Name != "host" && f.Name != "te" {
			r.Fields = append(r.Fields, f)
		}
	}
	return r, api.OK
}

func fieldByWords(ahead []api.Field, f api.Field) api.Errno {
	_, stood := valueOf(ahead, f.Name)
	if strings.HasPrefix(f.Name, ":") {
		behind := slices.ContainsFunc(ahead, func(g api.Field) bool { return !strings.HasPrefix(g.Name, ":") })
		known := slices.Contains([]string{":method", ":scheme", ":path", ":authority"}, f.Name)
		if behind || !known || stood {
			return api.ErrPseudo
		}
		return api.OK
	}
	if !plainField(f) || f.Name == "te" && f.Value != "trailers" || f.Name == "host" && stood {
		return api.ErrField
	}
	return api.OK
}

// valueOf is the value of the first field of a name.
func valueOf(list []api.Field, name string) (string, bool) {
	for _, f := range list {
		if f.Name == name {
			return f.Value, true
		}
	}
	return "", false
}

func pathByWords(method, path string) bool {
	if path == "" || path == "*" && method != "OPTIONS" || path[0] != '/' && path != "*" {
		return false
	}
	for i := range len(path) {
		if c := path[i]; c < 0x21 || c > 0x7E || c == '#' {
			return false
		}
	}
	return true
}

// The chapter's examples.

func TestExamplesOfTwo(t *testing.T) {
	wantTwo(t, of(":method", "GET", ":scheme", "http", ":path", "/a", ":authority", "h", "x", "1"), asked("h", "x", "1"))
	wantNoTwo(t, of(":method", "GET", ":path", "/"), api.ErrPseudo)
	wantNoTwo(t, of(":method", "GET", "x", "1", ":scheme", "http", ":path", "/"), api.ErrPseudo)
	wantNoTwo(t, with(get(), "X", "1"), api.ErrField)
	wantNoTwo(t, with(get(), "te", "gzip"), api.ErrField)
	wantNoTwo(t, with(get(), "connection", "close"), api.ErrField)
	wantNoTwo(t, of(":method", "GET", ":scheme", "http", ":path", "*"), api.ErrPseudo)
}

// P14.2

func TestTwoInAnyOrderOfPseudoFields(t *testing.T) {
	pseudo := of(":method", "GET", ":scheme", "http", ":path", "/a", ":authority", "h")
	count := 0
	rows(pseudo, len(pseudo), func(row []api.Field) {
		list := with(row, "x", "1")
		holdTwo(t, list)
		if r, err := Two(list); err == api.OK && sameRequest(r, asked("h", "x", "1")) {
			count++
		}
	})
	if count != 24 {
		t.Error(count, "orders are fine, not 24")
	}
}

func TestTwoWithoutAPseudoField(t *testing.T) {
	all := of(":method", "GET", ":scheme", "http", ":path", "/a", ":authority", "h")
	for i, f := range all {
		list := slices.Delete(slices.Clone(all), i, i+1)
		if f.Name == ":authority" {
			wantTwo(t, list, asked(""))
		} else {
			wantNoTwo(t, list, api.ErrPseudo)
		}
	}
	wantNoTwo(t, nil, api.ErrPseudo)
	wantNoTwo(t, of("x", "1"), api.ErrPseudo)
}

func TestTwoOfAPseudoFieldTwice(t *testing.T) {
	for _, f := range with(get(), ":authority", "h") {
		wantNoTwo(t, with(get(), ":authority", "h", f.Name, f.Value), api.ErrPseudo)
		wantNoTwo(t, with(get(), ":authority", "h", f.Name, ""), api.ErrPseudo)
	}
	wantNoTwo(t, of(":authority", "", ":authority", ""), api.ErrPseudo)
}

func TestTwoOfStrangePseudoFields(t *testing.T) {
	for _, name := range []string{":", ":status", ":protocol", ":Method", ":PATH", ":path ", ":host", "::path", ":te", ":connection", ":\x00"} {
		wantNoTwo(t, with(get(), name, "/"), api.ErrPseudo)
		wantNoTwo(t, slices.Concat(of(name, "/"), get()), api.ErrPseudo)
	}
}

func TestTwoOfAPseudoFieldBehindAnother(t *testing.T) {
	for _, f := range of("x", "1", "te", "trailers", "host", "h", "content-length", "0") {
		wantNoTwo(t, with(get(), f.Name, f.Value, ":authority", "h"), api.ErrPseudo)
		wantNoTwo(t, slices.Concat([]api.Field{f}, get()), api.ErrPseudo)
	}
}

func TestTwoByTheFirstFieldThatIsWrong(t *testing.T) {
	wantNoTwo(t, with(get(), "X", "1", ":no", ""), api.ErrField)
	wantNoTwo(t, with(get(), ":no", "", "X", "1"), api.ErrPseudo)
	wantNoTwo(t, with(get(), "x", "1", ":authority", "h", "X", "1"), api.ErrPseudo)
	// What is wrong with one field is told ahead of what is wrong with them all.
	wantNoTwo(t, of(":method", "", "X", "1"), api.ErrField)
	wantNoTwo(t, of(":method", "", ":scheme", "ftp", ":path", "", "te", "gzip"), api.ErrField)
	// Of what is wrong with them all: the pseudo-fields, the hosts, the length.
	bad := of(":authority", "a", "host", "b", "content-length", "x")
	wantNoTwo(t, slices.Concat(of(":method", "GET", ":scheme", "http", ":path", ""), bad), api.ErrPseudo)
	wantNoTwo(t, slices.Concat(get(), bad), api.ErrField)
	wantNoTwo(t, slices.Concat(get(), bad[:1], bad[2:]), api.ErrLength)
	wantNoTwo(t, with(get(), "content-length", "x", "host", "b", "host", "b"), api.ErrField)
	wantNoTwo(t, slices.Concat(of(":method", "GET", ":scheme", "http"), bad[2:]), api.ErrPseudo)
}

func TestTwoOfEachByte(t *testing.T) {
	for c := range 256 {
		b := oneByte(c)
		for _, s := range []string{b, b + "a", "a" + b, "a" + b + "a"} {
			holdTwo(t, of(":method", s, ":scheme", "http", ":path", "/a"))
			holdTwo(t, of(":method", "GET", ":scheme", s, ":path", "/a"))
			holdTwo(t, of(":method", "GET", ":scheme", "http", ":path", s))
			holdTwo(t, of(":method", "GET", ":scheme", "http", ":path", "/"+s))
			holdTwo(t, of(":method", "OPTIONS", ":scheme", "http", ":path", "*"+s))
			holdTwo(t, with(get(), s, "1"))
			holdTwo(t, with(get(), "x", s))
			holdTwo(t, with(get(), "host", s))
			holdTwo(t, with(get(), "te", s))
			holdTwo(t, with(get(), "content-length", s))
		}
	}
}

// The chapter judges no byte of :authority, but holds it against host.
func TestTwoOfAnyAuthority(t *testing.T) {
	for c := range 256 {
		b := oneByte(c)
		wantTwo(t, with(get(), ":authority", b), asked(b))
	}
}

func TestTwoOfMethods(t *testing.T) {
	for _, method := range []string{"GET", "get", "X-1", "!", "OPTIONS", "CONNECT"} {
		wantTwo(t, of(":method", method, ":scheme", "http", ":path", "/"), api.Request{Method: method, Scheme: "http", Path: "/"})
	}
	for _, method := range []string{"", " ", "GET ", " GET", "G T", "GET\x00", "G:", "(", "\u00c4"} {
		wantNoTwo(t, of(":method", method, ":scheme", "http", ":path", "/"), api.ErrPseudo)
	}
}

func TestTwoOfSchemes(t *testing.T) {
	for _, scheme := range []string{"http", "https"} {
		wantTwo(t, of(":method", "GET", ":scheme", scheme, ":path", "/"), api.Request{Method: "GET", Scheme: scheme, Path: "/"})
	}
	for _, scheme := range []string{"", "htt", "httpss", "HTTP", "Https", "http ", "http:", "http://", "ftp", "*"} {
		wantNoTwo(t, of(":method", "GET", ":scheme", scheme, ":path", "/"), api.ErrPseudo)
	}
}

func TestTwoOfPaths(t *testing.T) {
	for _, path := range []string{"/", "//", "/*", "/a?b=/&c", "/%zz", "/..", "/?", "/~!", "/" + strings.Repeat("a", 70000)} {
		wantTwo(t, of(":method", "GET", ":scheme", "http", ":path", path), api.Request{Method: "GET", Scheme: "http", Path: path})
	}
	for _, path := range []string{"", "*", "**", "*/", "a", "?", "?/a", "http://h/", " /", "/ ", "/a b", "/\x7f", "/\x80", "/\t", "/#", "/a#b", "#"} {
		wantNoTwo(t, of(":method", "GET", ":scheme", "http", ":path", path), api.ErrPseudo)
	}
}

func TestTwoOfTheStar(t *testing.T) {
	wantTwo(t, of(":method", "OPTIONS", ":scheme", "http", ":path", "*"), api.Request{Method: "OPTIONS", Scheme: "http", Path: "*"})
	wantTwo(t, of(":path", "*", ":scheme", "https", ":method", "OPTIONS"), api.Request{Method: "OPTIONS", Scheme: "https", Path: "*"})
	for _, method := range []string{"GET", "options", "OPTION", "OPTIONSS", "HEAD", "CONNECT"} {
		wantNoTwo(t, of(":method", method, ":scheme", "http", ":path", "*"), api.ErrPseudo)
	}
	for _, path := range []string{"**", "*a", "*/", "a*", ""} {
		wantNoTwo(t, of(":method", "OPTIONS", ":scheme", "http", ":path", path), api.ErrPseudo)
	}
}

func TestTwoOfAllShortPaths(t *testing.T) {
	texts("/*a?#. \x7f", 4, func(path string) {
		holdTwo(t, of(":method", "GET", ":scheme", "http", ":path", path))
		holdTwo(t, of(":method", "OPTIONS", ":scheme", "http", ":path", path))
	})
}

func TestTwoOfAHost(t *testing.T) {
	wantTwo(t, with(get(), "host", "g"), asked("g"))
	wantTwo(t, with(get(), "host", ""), asked(""))
	wantTwo(t, with(get(), ":authority", ""), asked(""))
	wantTwo(t, with(get(), ":authority", "h", "x", "1", "host", "h", "y", "2"), asked("h", "x", "1", "y", "2"))
	wantTwo(t, with(get(), ":authority", "", "host", ""), asked(""))
	for _, pair := range [][2]string{{"a", "b"}, {"a", ""}, {"", "a"}, {"a", "A"}, {"a", "a:80"}, {"ab", "a"}} {
		wantNoTwo(t, with(get(), ":authority", pair[0], "host", pair[1]), api.ErrField)
	}
	wantNoTwo(t, with(get(), "host", "a", "host", "a"), api.ErrField)
	wantNoTwo(t, with(get(), "host", "", "host", ""), api.ErrField)
	wantNoTwo(t, with(get(), ":authority", "a", "host", "a", "x", "1", "host", "a"), api.ErrField)
	wantNoTwo(t, with(get(), "Host", "a"), api.ErrField)
}

func TestTwoOfTe(t *testing.T) {
	wantTwo(t, with(get(), "te", "trailers", "x", "1", "te", "trailers"), asked("", "x", "1"))
	for _, value := range []string{"", "gzip", "Trailers", "TRAILERS", "trailer", "trailerss", "trailers, gzip", "trailers ", "trailers;q=1"} {
		wantNoTwo(t, with(get(), "te", value), api.ErrField)
	}
	wantNoTwo(t, with(get(), "te", "trailers", "te", "gzip"), api.ErrField)
	wantNoTwo(t, with(get(), "Te", "trailers"), api.ErrField)
}

func TestTwoOfFieldsThatAreNotPlain(t *testing.T) {
	for _, f := range of("", "1", "X", "1", "xY", "1", "x y", "1", "x:", "1", "x", " 1", "x", "1\t", "x", "\x00", "x", "a\r\nb", "x", "\x7f") {
		wantNoTwo(t, with(get(), f.Name, f.Value), api.ErrField)
		wantNoTwo(t, with(get(), "a", "1", f.Name, f.Value), api.ErrField)
	}
	for _, name := range ownOfConnection {
		wantNoTwo(t, with(get(), name, "a"), api.ErrField)
		wantNoTwo(t, with(get(), name, ""), api.ErrField)
		wantNoTwo(t, with(get(), strings.ToUpper(name), "a"), api.ErrField)
	}
}

func TestTwoOfFieldsThatArePlain(t *testing.T) {
	fields := []string{"b", "2", "a", "", "b", "1", "trailer", "x", "expect", "100-continue", "cookie", "a=\x80\xff; b", "!~", "a\tb", "content-length", "12", "content-length", "12", "accept", "X"}
	wantTwo(t, with(get(), fields...), asked("", fields...))
}

func TestTwoOfLengths(t *testing.T) {
	wantTwo(t, with(get(), "content-length", "0"), asked("", "content-length", "0"))
	wantTwo(t, with(get(), "content-length", "999999999999999"), asked("", "content-length", "999999999999999"))
	for _, value := range []string{"", "x", "+1", "-1", "01", "1000000000000000", "1, 1"} {
		wantNoTwo(t, with(get(), "content-length", value), api.ErrLength)
	}
	wantNoTwo(t, with(get(), "content-length", "1", "x", "1", "content-length", "2"), api.ErrLength)
}

// kinds are fields of all sorts that the chapter tells apart.
func kinds() []api.Field {
	return of(
		":method", "GET", ":method", "OPTIONS", ":method", "", ":scheme", "http", ":scheme", "ftp",
		":path", "/", ":path", "*", ":authority", "h", ":authority", "", ":no", "",
		"x", "1", "X", "1", "x", " 1", "", "", "te", "trailers", "te", "gzip",
		"host", "h", "host", "", "connection", "x", "content-length", "1", "content-length", "2", "content-length", "x",
	)
}

func TestTwoOfAllShortLists(t *testing.T) {
	for count := range 4 {
		rows(kinds(), count, func(row []api.Field) {
			holdTwo(t, row)
			holdTwo(t, slices.Concat(get(), row))
			holdTwo(t, slices.Concat(row, get()))
			holdTwo(t, slices.Concat(of(":path", "*", ":scheme", "https"), row))
		})
	}
}

func TestTwoOfScatteredLists(t *testing.T) {
	next := numbers(14)
	all := kinds()
	fine := 0
	for range 60000 {
		list := of(":scheme", "http", ":path", "/", ":method", "GET")
		if next(2) == 0 {
			list = with(list, ":authority", "h")
		}
		for range next(6) {
			f := all[10+next(len(all)-10)]
			if next(9) == 0 {
				f = all[next(len(all))]
			}
			if f.Name == "x" {
				f.Name = string(rune('a' + next(26)))
			}
			list = append(list, f)
		}
		holdTwo(t, list)
		if _, err := Two(list); err == api.OK {
			fine++
		}
	}
	if fine < 5000 {
		t.Error("only", fine, "lists were fine")
	}
}

// P14.9

func TestWhatTwoMakes(t *testing.T) {
	for count := range 4 {
		rows(kinds()[10:], count, func(row []api.Field) {
			r, _ := Two(slices.Concat(get(), row))
			for _, f := range r.Fields {
				if strings.HasPrefix(f.Name, ":") || Bound(f.Name) {
					t.Errorf("Two made %q of %q", r.Fields, row)
				}
			}
		})
	}
}

func TestTwoOfManyFields(t *testing.T) {
	list := get()
	var fields []api.Field
	for range 100000 {
		fields = append(fields, api.Field{Name: "x", Value: "1"})
	}
	want := asked("")
	want.Fields = fields
	if r, err := Two(slices.Concat(list, fields)); err != api.OK || !sameRequest(r, want) {
		t.Error(len(r.Fields), int(err))
	}
	if r, err := Two(slices.Concat(list, fields, of("X", ""))); err != api.ErrField || !sameRequest(r, api.Request{}) {
		t.Error(len(r.Fields), int(err))
	}
}
