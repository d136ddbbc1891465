package console_test

import (
	"slices"
	"strings"
	"testing"

	"novation/api"
	"novation/console"
)

func TestP41_1_Lines(t *testing.T) {
	for s, want := range map[string][]string{
		"": nil, "\n\n": nil, "a": {"a"}, "a\nb": {"a", "b"}, "\na\n\n#x\n # y\nb#\n": {"a", " # y", "b#"}, "#": nil, "a\r\n": {"a\r"}, " \n": {" "},
	} {
		if l := console.Lines(s); !slices.Equal(l, want) {
			t.Errorf("Lines %q: %q", s, l)
		}
	}
}

// says tells whether a text says these lines.
func says(t *testing.T, text string, cells, each int, want string) {
	t.Helper()
	got, e := console.Run(text, cells, each)
	if e != api.OK || got != want {
		t.Errorf("%d\n%s-- not --\n%s", e, got, want)
	}
}

func TestP41_1_Run(t *testing.T) {
	says(t, "", 16, 4, "")
	says(t, "# nothing\n\n", 16, 4, "")
	says(t, "member 0 1 9\nday 0\nleft", 16, 4, "ok\nok 1\nleft 6\n")
	many := strings.Repeat("#\n", 1000) + strings.Repeat("left\n", 400)
	says(t, many, 16, 4, strings.Repeat("left 8\n", 400))
	long := "#" + strings.Repeat("x", 65535)
	says(t, long, 16, 4, "")
	for _, c := range []struct {
		s           string
		cells, each int
		e           api.Errno
	}{
		{long + "x", 0, 0, api.ErrBig}, {many + "left", 0, 0, api.ErrBig}, {"", 0, 4, api.ErrArg}, {"", 2049, 4, api.ErrArg}, {"", 8, 4, api.ErrArg}, {"", 8, 0, api.ErrArg},
	} {
		if s, e := console.Run(c.s, c.cells, c.each); s != "" || e != c.e {
			t.Error("Run", len(c.s), c.cells, c.each, s, e)
		}
	}
}

func TestP41_2(t *testing.T) {
	says(t, `member 0 1 9
member 0 1 9
member 1 2 9
account 0 1.0 1 1
cash 0 1.0
deposit 1 1.0 0 0 5
cash 1 1.0
phase 1 1
member 0 1
hello
report 0
report 9
report 01
report  1
report 1 
report 1
left
report 8
Report
left 1
report
left`, 16, 4, `ok
error 12
error 14
ok
ok 0
ok
ok 5
ok 0 0 0
error 3
error 3
error 3
error 3
error 3
error 3
error 3
member 1 active until 0 cap 9 used 0
account 1 house member 1
margin 1.0 need 0 excess 5
unit 1.0 cash 5
left 5
error 3
error 3
day 0
unit 0.0 cash 0
unit 0.1 cash 0
member 1 active until 0 cap 9 used 0
account 1 house member 1
margin 1.0 need 0 excess 5
unit 1.0 cash 5
left 5
`)
}

func TestP41_2_Power(t *testing.T) {
	says(t, `day 0
fuse 1
day 0
day 0
day 0
fuse 0
compact
left
report
power
day 0
compact
left
fuse 0 0
day 0
power
left
fuse 0
compact
power
report
day 8`, 16, 4, `ok 1
ok
ok 2
error 9
error 9
error 9
error 9
left 6
day 2
unit 0.0 cash 0
unit 0.1 cash 0
ok
ok 3
ok
left 8
ok
error 9
ok
left 7
ok
error 9
ok
day 4
unit 0.0 cash 0
unit 0.1 cash 0
error 14
`)
}

func TestP41_2_Close(t *testing.T) {
	says(t, `asset 0 1 3 0
member 0 1 100
account 0 1.0 1 1
deposit 0 1.0 1 7 4
deposit 0 1.0 0 0 9
default 0 1 0
day 0
liquidate 0 1
close 0 1`, 400, 40, `ok
ok
ok
ok
ok
ok
ok 1
ok
ok return 1.0 9 lot 1 7 4
`)
}

func TestP41_3(t *testing.T) {
	text := "member 0 1 9\n\n# a remark\nreport 1\nfuse 1\nday 0\nday 0\nday 0\nfoo\npower\nreport\nleft\ncompact\n#\nleft"
	all, _ := console.Run(text, 14, 4)
	for i := range text {
		if text[i] != '\n' {
			continue
		}
		part, e := console.Run(text[:i+1], 14, 4)
		if same, f := console.Run(text[:i], 14, 4); e != api.OK || f != e || part != same || !strings.HasPrefix(all, part) {
			t.Error("the beginning", i, part)
		}
	}
	bare, _ := console.Run(strings.ReplaceAll(strings.ReplaceAll(text, "# a remark", ""), "\n\n", "\n"), 14, 4)
	if bare != all {
		t.Error("what is empty, or a remark, says something", bare)
	}
}
