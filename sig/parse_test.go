package sig_test

import (
	"runtime"
	"strings"
	"sync"
	"sync/atomic"
	"testing"

	"armillary/api"
	"armillary/sig"
)

// What is read at a place of an encoding.
const (
	aNum     = "a number"
	aText    = "a text"
	aList    = "a list"
	theFns   = "the functions"
	theNodes = "the nodes"
)

// An item is a part of an encoding; of a list, of the functions and of the nodes it is their number alone.
type item struct{ what, s string }

// items are those of the encoding of a signature, in order.
func items(s api.Sig) (l []item) {
	add := func(what, s string) { l = append(l, item{what, s}) }
	list := func(nums []int) {
		add(aList, num(len(nums)))
		for _, n := range nums {
			add(aNum, num(n))
		}
	}
	names := func(names []string) {
		add(aList, num(len(names)))
		for _, name := range names {
			add(aText, text(name))
		}
	}
	add(aText, text(s.Module))
	names(s.Names)
	list(s.Types)
	add(theFns, num(len(s.Fns)))
	for _, f := range s.Fns {
		add(aText, text(f.Name))
		list(f.Bounds)
		list(f.Params)
		add(aNum, num(f.Ret))
	}
	add(theNodes, num(len(s.Graph)))
	for _, n := range s.Graph {
		add(aNum, num(n.Kind))
		add(aNum, num(n.Num))
		add(aText, text(n.Name))
		names(n.Keys)
		list(n.L)
	}
	return l
}

func written(l []item) string {
	var b strings.Builder
	for _, x := range l {
		b.WriteString(x.s)
	}
	return b.String()
}

const (
	rest7 = "\xFF\xFF\xFF\xFF\xFF\xFF\xFF" // all digits of a number but the 8th
	even7 = "\x80\x80\x80\x80\x80\x80\x80"
)

// cutOff are bytes behind which nothing follows: what is read is not there in full.
func cutOff(what string) []string {
	l := []string{"", "\x80", "\xFF", rest7, even7}
	switch what {
	case aText:
		l = append(l, "\x01", "\x02a", num(65536), num(65536)+strings.Repeat("a", 65535))
	case aList:
		l = append(l, "\x01", "\x02\x00", num(8000), num(8000)+strings.Repeat("\x00", 7999))
	case theFns:
		l = append(l, "\x01", "\x40", "\x02\x01a\x00\x00\x00")
	case theNodes:
		l = append(l, "\x01", num(2000), "\x02\x04\x00\x00\x00\x00")
	}
	return l
}

// faults are bytes at which something cannot be read, whatever follows, and the error.
func faults(what string) (l []item, errors []api.Errno) {
	add := func(e api.Errno, texts ...string) {
		for _, s := range texts {
			l, errors = append(l, item{what, s}), append(errors, e)
		}
	}
	add(api.ErrForm, "\x80\x00", "\x81\x00", "\xFF\x80\x00", even7+"\x00", rest7+"\x10", rest7+"\x7F", rest7+"\x80", rest7+"\x8F")
	most := map[string]int{aText: 65536, aList: 8000, theFns: 64, theNodes: 2000}
	if n, ok := most[what]; ok {
		add(api.ErrLimit, num(n+1), num(n+2), num(1<<32), num(1<<32+1), num(api.MaxNumber))
	}
	return l, errors
}

// behind are bytes that follow a fault; most of them have faults themselves.
func behind(rest string) []string {
	return []string{"", rest, "\x80\x00", "\x80", num(8001), num(65537), strings.Repeat("\x00", 9000), strings.Repeat("\xFF", 20), rest + "\x00"}
}

// Each part of an encoding, with each fault that it may have.
func TestP15_3_Faults(t *testing.T) {
	for _, s := range []api.Sig{nothing(), chapter(), rich()} {
		l := items(s)
		if written(l) != encoded(s) {
			t.Fatalf("% X is not % X", written(l), encoded(s))
		}
		for i, x := range l {
			before, rest := written(l[:i]), written(l[i+1:])
			for _, b := range cutOff(x.what) {
				if got := parsed(before + b); got != failed(api.ErrTrunc) {
					t.Errorf("item %d, %s cut off: %s: %s", i, x.what, head(before+b), got)
				}
			}
			bad, errors := faults(x.what)
			for k, b := range bad {
				for _, more := range behind(rest) {
					if got := parsed(before + b.s + more); got != failed(errors[k]) {
						t.Errorf("item %d, %s of %X: %s: %s, not error %d", i, x.what, b.s, head(before+b.s+more), got, errors[k])
					}
				}
			}
		}
	}
}

// An encoding whose end is missing, and one behind which more follows.
func TestP15_3_Ends(t *testing.T) {
	for _, s := range []api.Sig{nothing(), chapter(), rich()} {
		b := encoded(s)
		for n := range b {
			if got := parsed(b[:n]); got != failed(api.ErrTrunc) {
				t.Errorf("%d bytes of %d: %s", n, len(b), got)
			}
		}
		for _, more := range []string{"\x00", "\x80", "\x80\x00", "\x01", b, num(8001), strings.Repeat("\x00", 100)} {
			if got := parsed(b + more); got != failed(api.ErrForm) {
				t.Errorf("%s and % X: %s", showAll(s), more, got)
			}
		}
	}
	for _, b := range []string{"", "\x80", "\x01", "\x01m", "\x01m\x00", "\x01m\x00\x00\x00"} {
		if got := parsed(b); got != failed(api.ErrTrunc) {
			t.Errorf("% X: %s", b, got)
		}
	}
	if s, e := sig.Parse(nil); result(s, e) != failed(api.ErrTrunc) {
		t.Errorf("nil: %s", result(s, e))
	}
}

// All of it can be read, but it is no signature.
func TestP15_3_Invalid(t *testing.T) {
	for _, c := range wrong() {
		b := encoded(changed(c))
		if got := parsed(b); got != failed(api.ErrForm) {
			t.Errorf("%.50s: %s", c.what, got)
		}
		if got := parsed(b + "\x00"); got != failed(api.ErrForm) {
			t.Errorf("%.50s, and more: %s", c.what, got)
		}
		if got := parsed(b[:len(b)-1]); got != failed(api.ErrTrunc) {
			t.Errorf("%.50s, cut off: %s", c.what, got)
		}
	}
	for _, b := range []string{"\x00\x00\x00\x00\x00", "\x01M\x00\x00\x00\x00"} {
		if got := parsed(b); got != failed(api.ErrForm) {
			t.Errorf("% X: %s", b, got)
		}
	}
}

func TestP15_3_TooMany(t *testing.T) {
	for _, c := range tooMany() {
		b := encoded(changed(c))
		for _, s := range []string{b, b + "\x00", b[:len(b)-1]} {
			if got := parsed(s); got != failed(api.ErrLimit) {
				t.Errorf("%s: %s", c.what, got)
			}
		}
	}
}

// The number of functions is read ahead of them, that of nodes behind them: the first fault counts.
func TestP15_3_Points(t *testing.T) {
	f, n := text("f")+"\x00\x00\x00", "\x04\x00\x00\x00\x00"
	many := func(times int, s string) string { return num(times) + strings.Repeat(s, times) }
	for _, x := range []struct {
		what, s string
		want    api.Errno
	}{
		{"65 functions, and none of them there", "\x01m\x00\x00\x41", api.ErrLimit},
		{"65 functions, and nodes", "\x01m\x00\x00" + many(65, f) + "\x01" + n, api.ErrLimit},
		{"65 functions, and 2001 nodes", "\x01m\x00\x00" + many(65, f) + many(2001, n), api.ErrLimit},
		{"64 functions, and none of them there", "\x01m\x00\x00\x40", api.ErrTrunc},
		{"64 functions, and one of them missing", "\x01m\x00\x00\x40" + strings.Repeat(f, 63), api.ErrTrunc},
		{"64 functions of one name", "\x01m\x00\x00" + many(64, f) + "\x01" + n, api.ErrForm},
		{"a function with a fault, and 2001 nodes", "\x01m\x00\x00\x02" + f + "\x80\x00" + num(2001), api.ErrForm},
		{"2001 nodes, and none of them there", "\x01m\x00\x00\x00" + num(2001), api.ErrLimit},
		{"2001 nodes", "\x01m\x00\x00\x00" + many(2001, n), api.ErrLimit},
		{"2000 nodes, and none of them there", "\x01m\x00\x00\x00" + num(2000), api.ErrTrunc},
		{"2000 nodes, and one of them missing", "\x01m\x00\x00\x00" + num(2000) + strings.Repeat(n, 1999), api.ErrTrunc},
		{"2000 nodes that are not reached", "\x01m\x00\x00\x00" + many(2000, n), api.ErrForm},
		{"2000 nodes, one of them with a fault", "\x01m\x00\x00\x00" + num(2000) + n + "\x80\x00", api.ErrForm},
		// what is no signature is read to its end
		{"8000 types", "\x01m" + many(8000, "\x01T") + many(8000, "\x00") + "\x00\x00", api.ErrForm},
		{"8000 types, and a list that is too long", "\x01m" + many(8000, "\x01T") + num(8001), api.ErrLimit},
		{"65 types, and 65 functions", "\x01m" + many(65, "\x01T") + many(65, "\x00") + "\x41", api.ErrLimit},
		{"no module, and a fault", "\x00\x00\x00\x81\x00", api.ErrForm},
		{"no module, and 65 functions", "\x00\x00\x00\x41", api.ErrLimit},
		{"no module, and nothing", "\x00\x00\x00", api.ErrTrunc},
		{"a function of 8000 bounds and parameters", "\x01m\x00\x00\x01\x01f" + many(8000, "\x00") + many(8000, "\x00") + "\x00\x01" + n, api.ErrForm},
		{"a node of 8000 keys and children", "\x01m\x00\x00\x00\x01\x07\x00\x00" + many(8000, "\x01a") + many(8000, "\x00"), api.ErrForm},
		{"a node of a great name", "\x01m\x00\x00\x00\x01\x05\x00" + text(strings.Repeat("a", 65536)) + "\x00\x00", api.ErrForm},
		{"a node of no kind, and a fault", "\x01m\x00\x00\x00\x01\x06\x00\x00\x00" + num(8001), api.ErrLimit},
		{"a node of a great kind", "\x01m\x00\x00\x00\x01" + num(api.MaxNumber) + "\x00\x00\x00\x00", api.ErrForm},
		{"a great result", "\x01m\x00\x00\x01\x01f\x00\x00" + num(api.MaxNumber) + "\x01" + n, api.ErrForm},
	} {
		if got := parsed(x.s); got != failed(x.want) {
			t.Errorf("%s: %s, not error %d", x.what, got, x.want)
		}
	}
}

// The most that there may be.
func TestP15_3_Most(t *testing.T) {
	for _, s := range most(t) {
		b := encoded(s)
		if got := bytesOf(s); got != b {
			t.Errorf("%s, not %s", head(got), head(b))
		}
		if got, want := parsed(b), showAll(s); got != want {
			t.Errorf("%.300s, not %.300s", got, want)
		}
		for _, cut := range []int{1, 2, len(b) / 2, len(b)} {
			if got := parsed(b[:len(b)-cut]); got != failed(api.ErrTrunc) {
				t.Errorf("%d of %d bytes cut off: %.300s", cut, len(b), got)
			}
		}
	}
}

// grown calls itself so often that the stack must grow.
func grown(depth int) int {
	var l [512]byte
	l[depth%len(l)] = 1
	if depth == 0 {
		return int(l[0])
	}
	return grown(depth-1) + int(l[depth%len(l)])
}

// The same bytes are always the same signature, whatever the memory does meanwhile: stacks grow and shrink, and what is not needed is collected.
func TestP15_3_Always(t *testing.T) {
	var collecting sync.WaitGroup
	var over atomic.Bool
	collecting.Go(func() {
		for !over.Load() {
			runtime.GC()
		}
	})
	valid, invalid := []byte(encoded(rich())), []byte(encoded(changed(wrong()[0])))
	for k := range 20000 {
		grown(100)
		if s, e := sig.Parse(valid); !sig.Same(s, rich()) || e != api.OK {
			t.Errorf("time %d: %s", k, result(s, e))
		}
		if s, e := sig.Parse(invalid); result(s, e) != failed(api.ErrForm) {
			t.Errorf("time %d: %s", k, result(s, e))
		}
	}
	over.Store(true)
	collecting.Wait()
}
