package msg

import (
	"slices"
	"strconv"
	"strings"
	"testing"

	"ostler/api"
)

func wantOne(t *testing.T, method, target string, fields []api.Field, want api.Request) {
	t.Helper()
	if r, err := One(method, target, fields); err != api.OK || !sameRequest(r, want) {
		t.Errorf("One(%q, %q, %q) = %q, %d, not %q", method, target, fields, r, int(err), want)
	}
}

func wantNoOne(t *testing.T, method, target string, fields []api.Field, want api.Errno) {
	t.Helper()
	if r, err := One(method, target, fields); err != want || !sameRequest(r, api.Request{}) {
		t.Errorf("One(%q, %q, %q) = %q, %d, not %d", method, target, fields, r, int(err), int(want))
	}
}

// holdOne holds One against the plain reading.
func holdOne(t *testing.T, method, target string, fields []api.Field) {
	t.Helper()
	if want, err := oneByWords(method, target, fields); err != api.OK {
		wantNoOne(t, method, target, fields, err)
	} else {
		wantOne(t, method, target, fields, want)
	}
}

// root is a request for / of the host h.
func root(fields ...string) api.Request {
	return api.Request{Method: "GET", Scheme: "http", Authority: "h", Path: "/", Fields: of(fields...)}
}

// The plain reading of P14.3.

func oneByWords(method, target string, fields []api.Field) (api.Request, api.Errno) {
	if !isToken(method) {
		return api.Request{}, api.ErrPseudo
	}
	var hosts []string
	for _, f := range fields {
		if !isToken(f.Name) || !isValue(f.Value) {
			return api.Request{}, api.ErrField
		}
		if lower(f.Name) == "host" {
			hosts = append(hosts, f.Value)
		}
	}
	if len(hosts) != 1 {
		return api.Request{}, api.ErrField
	}
	r, fine := targetByWords(method, target, hosts[0])
	if !fine {
		return api.Request{}, api.ErrPseudo
	}
	if _, _, err := lengthByWords(fields); err != api.OK {
		return api.Request{}, err
	}
	r.Fields = keptByWords(fields)
	return r, api.OK
}

func targetByWords(method, target, host string) (api.Request, bool) {
	r := api.Request{Method: method, Scheme: "http", Authority: host, Path: target}
	switch {
	case target == "*":
		return r, method == "OPTIONS"
	case strings.HasPrefix(target, "http://"), strings.HasPrefix(target, "https://"):
		r.Scheme = target[:strings.IndexByte(target, ':')]
		rest := target[len(r.Scheme)+3:]
		i := 0
		for i < len(rest) && rest[i] != '/' && rest[i] != '?' {
			i++
		}
		r.Authority, r.Path = rest[:i], rest[i:]
		if r.Path == "" || r.Path[0] != '/' {
			r.Path = "/" + r.Path
		}
		if r.Authority == "" {
			return r, false
		}
	case !strings.HasPrefix(target, "/"):
		return r, false
	}
	for _, c := range []byte(r.Path) {
		if c < 0x21 || c > 0x7E || c == '#' {
			return r, false
		}
	}
	return r, true
}

func keptByWords(fields []api.Field) []api.Field {
	var kept []api.Field
	for _, f := range fields {
		name := lower(f.Name)
		if name == "host" || name == "te" || slices.Contains(ownOfConnection, name) || name != "content-length" && namedByWords(fields, name) {
			continue
		}
		kept = append(kept, api.Field{Name: name, Value: f.Value})
	}
	return kept
}

func namedByWords(fields []api.Field, name string) bool {
	for _, f := range fields {
		if lower(f.Name) != "connection" {
			continue
		}
		for _, piece := range strings.Split(f.Value, ",") {
			if lower(strings.Trim(piece, " \t")) == name {
				return true
			}
		}
	}
	return false
}

// The chapter's examples.

func TestExamplesOfOne(t *testing.T) {
	wantOne(t, "GET", "/a?b", of("Host", "h", "X", "1"), api.Request{Method: "GET", Scheme: "http", Authority: "h", Path: "/a?b", Fields: of("x", "1")})
	wantOne(t, "GET", "http://h2?q", of("Host", "h"), api.Request{Method: "GET", Scheme: "http", Authority: "h2", Path: "/?q"})
	wantNoOne(t, "GET", "/", nil, api.ErrField)
	wantNoOne(t, "GET", "a", of("Host", "h"), api.ErrPseudo)
	wantOne(t, "GET", "/", of("Host", "h", "Connection", "a , X", "x", "1", "y", "2"), root("y", "2"))
}

// P14.3

func TestOneOfMethods(t *testing.T) {
	for _, method := range []string{"GET", "get", "!", "X-1", "CONNECT"} {
		wantOne(t, method, "/", of("Host", "h"), api.Request{Method: method, Scheme: "http", Authority: "h", Path: "/"})
	}
	for _, method := range []string{"", " ", "G T", "GET ", "GET\r", "(", "\x80"} {
		wantNoOne(t, method, "/", of("Host", "h"), api.ErrPseudo)
	}
}

func TestOneByWhatIsNamedFirst(t *testing.T) {
	// The method, the fields, the target, the length.
	wantNoOne(t, "", "a", of("", ""), api.ErrPseudo)
	wantNoOne(t, "", "/", nil, api.ErrPseudo)
	wantNoOne(t, "GET", "a", nil, api.ErrField)
	wantNoOne(t, "GET", "a", of("Host", "h", "", ""), api.ErrField)
	wantNoOne(t, "GET", "", of("Host", "h", "Host", "h"), api.ErrField)
	wantNoOne(t, "GET", "*", of("Host", "h", "content-length", "x"), api.ErrPseudo)
	wantNoOne(t, "GET", "http://", of("Host", "h", "content-length", "x"), api.ErrPseudo)
	wantNoOne(t, "GET", "/", of("content-length", "x"), api.ErrField)
	wantNoOne(t, "GET", "/", of("Host", "h", "content-length", "x"), api.ErrLength)
}

func TestOneOfFieldsThatMayNotBe(t *testing.T) {
	for _, f := range of("", "1", "x y", "1", "x:", "1", ":path", "/", "x ", "1", "\u00e4", "1", "x", " 1", "x", "1 ", "x", "\t1", "x", "a\nb", "x", "\x00", "x", "\x7f") {
		wantNoOne(t, "GET", "/", with(of("Host", "h"), f.Name, f.Value), api.ErrField)
		wantNoOne(t, "GET", "/", slices.Concat([]api.Field{f}, of("Host", "h")), api.ErrField)
	}
	// Those that are not passed on are judged as well.
	for _, name := range with(of("te", ""), "connection", "", "upgrade", "", "host", "") {
		wantNoOne(t, "GET", "/", of("Host", "h", name.Name, "\x00"), api.ErrField)
	}
	wantNoOne(t, "GET", "/", of("Host", "h ", "x", "1"), api.ErrField)
	wantNoOne(t, "GET", "/", of("Host", "h", "connection", "x", "x", "\x00"), api.ErrField)
}

func TestOneOfHosts(t *testing.T) {
	for _, name := range capitals("host") {
		wantOne(t, "GET", "/", of("a", "1", name, "h", "b", "2"), root("a", "1", "b", "2"))
		wantNoOne(t, "GET", "/", of("host", "h", name, "h"), api.ErrField)
		wantNoOne(t, "GET", "/", of(name, "", "x", "1", "Host", "h"), api.ErrField)
	}
	empty := root()
	empty.Authority = ""
	wantOne(t, "GET", "/", of("Host", ""), empty)
	wantNoOne(t, "GET", "/", of("hosts", "h", "hos", "h"), api.ErrField)
	wantNoOne(t, "GET", "http://h/", nil, api.ErrField)
	wantNoOne(t, "GET", "/", of("host", "h", "host", "h", "host", "h"), api.ErrField)
}

func TestOneOfTargets(t *testing.T) {
	long := strings.Repeat("a", 70000)
	for _, c := range []struct{ target, scheme, authority, path string }{
		{"/", "http", "h", "/"},
		{"//", "http", "h", "//"},
		{"/*", "http", "h", "/*"},
		{"/a?b=http://x/", "http", "h", "/a?b=http://x/"},
		{"/http://x", "http", "h", "/http://x"},
		{"/%zz/..", "http", "h", "/%zz/.."},
		{"/" + long, "http", "h", "/" + long},
		{"http://g", "http", "g", "/"},
		{"http://g/", "http", "g", "/"},
		{"https://g", "https", "g", "/"},
		{"https://g:8/a/b?c", "https", "g:8", "/a/b?c"},
		{"http://g?", "http", "g", "/?"},
		{"http://g?/a", "http", "g", "/?/a"},
		{"http://g/?a", "http", "g", "/?a"},
		{"http://g//a", "http", "g", "//a"},
		{"http://g?a?b/c", "http", "g", "/?a?b/c"},
		{"http://u@[::1]:80/", "http", "u@[::1]:80", "/"},
		{"http://https://g", "http", "https:", "//g"},
		{"http://*", "http", "*", "/"},
		{"http://" + long + "/" + long, "http", long, "/" + long},
		// The chapter judges the bytes of the path alone.
		{"http://g#a", "http", "g#a", "/"},
		{"http://g\x00 \x80/a", "http", "g\x00 \x80", "/a"},
	} {
		wantOne(t, "GET", c.target, of("Host", "h"), api.Request{Method: "GET", Scheme: c.scheme, Authority: c.authority, Path: c.path})
	}
	for _, target := range []string{
		"", "a", "*", "**", "?a", "#", " /", "/ ", "/a b", "/\x00", "/\x7f", "/\x80", "/#", "/a#b", "//h#",
		"http", "http:", "http:/", "http://", "https://", "http:///", "http:///a", "http://?", "http://?a", "https:///",
		"HTTP://g/", "Http://g/", "hTTps://g", "ftp://g/", "httpss://g", " http://g/", "xhttp://g/", "://g", "http:g", "https:/g",
		"http://g/#", "http://g?#", "http://g/ ", "http://g/\x80", "http://g?\x1f", "g:80", "h",
	} {
		wantNoOne(t, "GET", target, of("Host", "h"), api.ErrPseudo)
		wantNoOne(t, "GET", target, of("Host", ""), api.ErrPseudo)
	}
}

func TestOneOfTheStar(t *testing.T) {
	wantOne(t, "OPTIONS", "*", of("Host", "h"), api.Request{Method: "OPTIONS", Scheme: "http", Authority: "h", Path: "*"})
	wantOne(t, "OPTIONS", "http://g", of("Host", "h"), api.Request{Method: "OPTIONS", Scheme: "http", Authority: "g", Path: "/"})
	for _, method := range []string{"GET", "options", "OPTION", "OPTIONSS"} {
		wantNoOne(t, method, "*", of("Host", "h"), api.ErrPseudo)
	}
	for _, target := range []string{"**", "*/", "*a", "", "a"} {
		wantNoOne(t, "OPTIONS", target, of("Host", "h"), api.ErrPseudo)
	}
}

func TestOneOfAllShortTargets(t *testing.T) {
	texts("/*?#a: ", 4, func(s string) {
		for _, ahead := range []string{"", "http", "http:/", "http://", "https://", "HTTP://"} {
			holdOne(t, "GET", ahead+s, of("Host", "h"))
			holdOne(t, "OPTIONS", ahead+s, of("Host", ""))
		}
	})
}

func TestOneOfEachByte(t *testing.T) {
	for c := range 256 {
		b := oneByte(c)
		for _, s := range []string{b, b + "a", "a" + b, "a" + b + "a"} {
			holdOne(t, s, "/", of("Host", "h"))
			holdOne(t, "GET", s, of("Host", "h"))
			holdOne(t, "GET", "/"+s, of("Host", "h"))
			holdOne(t, "GET", "http://"+s, of("Host", "h"))
			holdOne(t, "GET", "http://g/"+s, of("Host", "h"))
			holdOne(t, "GET", "http"+s+"://g/", of("Host", "h"))
			holdOne(t, "GET", "/", of("Host", s))
			holdOne(t, "GET", "/", of("Host", "h", s, "1"))
			holdOne(t, "GET", "/", of("Host", "h", "x", s))
			holdOne(t, "GET", "/", of("Host", "h", "connection", s, "a", "1", "aa", "2", "A", "3"))
			holdOne(t, "GET", "/", of("Host", "h", "connection", "x,"+s+",y", "a", "1", "x", "2", "Y", "3"))
			holdOne(t, "GET", "/", of("Host", "h", "content-length", s))
		}
	}
}

func TestOneMakesNamesSmall(t *testing.T) {
	wantOne(t, "GET", "/", of("B", "X", "aB-C", "Y", "HOST", "h", "b", "Z", "!A~", "\xc3\x84A"), root("b", "X", "ab-c", "Y", "b", "Z", "!a~", "\xc3\x84A"))
}

func TestOneLeavesOut(t *testing.T) {
	for _, name := range slices.Concat(ownOfConnection, []string{"te"}) {
		for _, s := range []string{name, strings.ToUpper(name), strings.ToUpper(name[:1]) + name[1:]} {
			wantOne(t, "GET", "/", of("x", "1", s, "a", "Host", "h", s, "a", "y", "2"), root("x", "1", "y", "2"))
		}
		wantOne(t, "GET", "/", of("Host", "h", "x"+name, "1", name+"x", "2"), root("x"+name, "1", name+"x", "2"))
	}
	wantOne(t, "GET", "/", of("Host", "h", "TE", "gzip", "te", ""), root())
	wantOne(t, "GET", "/", of("Host", "h", "Trailer", "t", "Expect", "100-continue"), root("trailer", "t", "expect", "100-continue"))
}

func TestOneOfConnectionFields(t *testing.T) {
	for _, c := range []struct {
		value string
		left  []string // of x, y, content-length
	}{
		{"", []string{"x", "1", "y", "2", "content-length", "3"}},
		{",", []string{"x", "1", "y", "2", "content-length", "3"}},
		{"x", []string{"y", "2", "content-length", "3"}},
		{"X,Y", []string{"content-length", "3"}},
		{"x \t,\t y", []string{"content-length", "3"}},
		{",,x,,", []string{"y", "2", "content-length", "3"}},
		{"x;y", []string{"x", "1", "y", "2", "content-length", "3"}},
		{"x y", []string{"x", "1", "y", "2", "content-length", "3"}},
		{"content-length", []string{"x", "1", "y", "2", "content-length", "3"}},
		{"Content-Length, y", []string{"x", "1", "content-length", "3"}},
		{"close, keep-alive, upgrade, host, te", []string{"x", "1", "y", "2", "content-length", "3"}},
		// Quotes are bytes as others are: each comma cuts.
		{`"x,y"`, []string{"x", "1", "y", "2", "content-length", "3"}},
		{`"x, y, z"`, []string{"x", "1", "content-length", "3"}},
		{`"\", x`, []string{"y", "2", "content-length", "3"}},
	} {
		wantOne(t, "GET", "/", of("X", "1", "Host", "h", "Connection", c.value, "y", "2", "Content-Length", "3"), root(c.left...))
		wantOne(t, "GET", "/", of("CONNECTION", c.value, "X", "1", "Host", "h", "y", "2", "Content-Length", "3", "connection", "z"), root(c.left...))
	}
}

func TestOneOfMoreConnectionFields(t *testing.T) {
	wantOne(t, "GET", "/", of("connection", "x", "x", "1", "y", "2", "x", "3", "Host", "h", "z", "4", "Connection", "y"), root("z", "4"))
	// Fields that only look like it name nothing.
	wantOne(t, "GET", "/", of("proxy-connection", "x", "keep-alive", "x", "upgrade", "x", "connections", "x", "x", "1", "Host", "h"), root("connections", "x", "x", "1"))
	// A host that is named is the request's host all the same, and a length that is named is held.
	wantOne(t, "GET", "/", of("connection", "host, content-length", "Host", "h", "content-length", "0"), root("content-length", "0"))
	wantNoOne(t, "GET", "/", of("connection", "content-length", "Host", "h", "content-length", "x"), api.ErrLength)
	wantNoOne(t, "GET", "/", of("connection", "host", "x", "1"), api.ErrField)
}

func TestOneOfLengths(t *testing.T) {
	wantOne(t, "GET", "/", of("Host", "h", "Content-Length", "5", "content-length", "5"), root("content-length", "5", "content-length", "5"))
	for _, value := range []string{"", "x", "+1", "-1", "01", "1000000000000000", "5, 5"} {
		wantNoOne(t, "GET", "/", of("Host", "h", "Content-Length", value), api.ErrLength)
	}
	wantNoOne(t, "GET", "/", of("Host", "h", "Content-Length", "5", "content-length", "6"), api.ErrLength)
}

func TestOneOfAllShortLists(t *testing.T) {
	some := of("Host", "h", "host", "", "x", "1", "X", "2", "", "", "x", " 1", ":path", "/", "TE", "gzip", "Connection", "x", "connection", "a, X", "Connection", "content-length", "Upgrade", "", "a", "1", "Content-Length", "1", "content-length", "2", "content-length", "x")
	for count := range 4 {
		rows(some, count, func(row []api.Field) {
			for _, method := range []string{"GET", "OPTIONS", ""} {
				for _, target := range []string{"/", "*", "http://g?a", "a"} {
					holdOne(t, method, target, row)
					holdOne(t, method, target, with(row, "HOST", "h"))
				}
			}
		})
	}
}

func TestOneOfScatteredLists(t *testing.T) {
	next := numbers(3)
	values := []string{"", "x", "a, b", "c ,\tD", "b,,e", "1", "content-length"}
	names := []string{"a", "B", "c", "d", "E", "connection", "Connection", "upgrade", "te", "x", "content-length"}
	fine := 0
	for range 60000 {
		var fields []api.Field
		for range next(8) {
			fields = append(fields, api.Field{Name: names[next(len(names))], Value: values[next(len(values))]})
		}
		fields = slices.Insert(fields, next(len(fields)+1), api.Field{Name: "Host", Value: "h"})
		holdOne(t, "GET", "/", fields)
		if _, err := One("GET", "/", fields); err == api.OK {
			fine++
		}
	}
	if fine < 5000 {
		t.Error("only", fine, "lists were fine")
	}
}

// P14.9

func TestOneAndTwoMakeTheSame(t *testing.T) {
	next := numbers(2)
	names := []string{"a", "b", "x-y", "te", "expect", "content-length", "cookie", "~"}
	values := []string{"", "1", "a b", "\x80", "100-continue", "7", "trailers"}
	paths := []string{"/", "/a?b", "//", "*", "", "/#", "a", "/\x7f"}
	methods := []string{"GET", "OPTIONS", "", "x"}
	fine := 0
	for range 60000 {
		method, path := methods[next(len(methods))], paths[next(len(paths))]
		var fields []api.Field
		for range next(6) {
			f := api.Field{Name: names[next(len(names))], Value: values[next(len(values))]}
			if f.Name == "te" {
				f.Value = "trailers"
			}
			fields = append(fields, f)
		}
		one, errOne := One(method, path, slices.Concat(of("host", "h"), fields))
		two, errTwo := Two(slices.Concat(of(":method", method, ":scheme", "http", ":path", path, ":authority", "h"), fields))
		other, errOther := Two(slices.Concat(of(":method", method, ":scheme", "http", ":path", path, "host", "h"), fields))
		if errOne != errTwo || errOne != errOther || !sameRequest(one, two) || !sameRequest(one, other) {
			t.Errorf("%q %q %q: %q, %d and %q, %d and %q, %d", method, path, fields, one, int(errOne), two, int(errTwo), other, int(errOther))
		}
		if errOne == api.OK {
			fine++
		}
	}
	if fine < 5000 {
		t.Error("only", fine, "requests were fine")
	}
}

// What a client names is looked up once for each field, however much it names.
func TestOneOfManyNames(t *testing.T) {
	const count = 100000
	var value strings.Builder
	fields := of("Host", "h")
	want := root()
	for i := range count {
		value.WriteString(",n" + strconv.Itoa(2*i))
		f := api.Field{Name: "n" + strconv.Itoa(i), Value: "1"}
		fields = append(fields, f)
		if i%2 == 1 {
			want.Fields = append(want.Fields, f)
		}
	}
	fields = append(fields, api.Field{Name: "Connection", Value: value.String()})
	if r, err := One("GET", "/", fields); err != api.OK || !sameRequest(r, want) {
		t.Error(len(r.Fields), int(err))
	}
}
