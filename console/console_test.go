package console_test

import (
	"math/rand/v2"
	"strconv"
	"strings"
	"testing"

	"pedagogue/api"
	"pedagogue/codec"
	"pedagogue/console"
	"pedagogue/dataset"
	"pedagogue/journal"
	"pedagogue/model"
	"pedagogue/sample"
	"pedagogue/tensor"
	"pedagogue/trainer"
)

// hyper is First's.
var hyper = api.Hyper{Batch: 2, Width: 5, Rate: 2, Momentum: 3}

// examples are First's.
func examples() api.Dataset {
	rows := [][]int8{{-20, -15, -10, -5}, {-13, -8, -3, 2}, {-6, -1, 4, 9}, {1, 6, 11, 16}, {8, 13, 18, -18}, {15, 20, -16, -11}}
	d := api.Dataset{In: [3]int{1, 2, 2}, Exp: -5, Classes: 2}
	for i, row := range rows {
		d.Examples = append(d.Examples, api.Example{Data: row, Label: i % 2})
	}
	return d
}

// another is a trainer as the console's own.
func another(t *testing.T, seed uint64, rate, every, sectors int) *trainer.Trainer {
	t.Helper()
	h := hyper
	h.Rate, h.Every = rate, every
	tr, e := trainer.New(sample.Net("in 1 2 2; flat; dense 4; relu; dense 2"), examples(), h, seed, sectors)
	if e != api.OK {
		t.Fatalf("New: %d", e)
	}
	return tr
}

// says tells lines to a console, with what each tells behind it.
func says(t *testing.T, c *console.Console, lines ...string) {
	t.Helper()
	for i := 0; i < len(lines); i += 2 {
		if got := c.Line(lines[i]); got != lines[i+1] {
			t.Errorf("%q tells %q, want %q", lines[i], got, lines[i+1])
		}
	}
}

// P26.1: First, and what a new console has.
func TestFirst(t *testing.T) {
	m, d, h := console.First()
	if !model.Same(m, sample.Net("in 1 2 2; flat; dense 4; relu; dense 2")) || !dataset.Same(d, examples()) || h != hyper {
		t.Errorf("First: %+v %+v %+v", m, d, h)
	}
	d.Examples[0].Data[0], m.Layers[0].Kind = 9, 9
	if m, d, _ := console.First(); !dataset.Same(d, examples()) || m.Layers[0].Kind != api.LFlat {
		t.Error("First is not new")
	}
	c := console.New()
	if !codec.Same(c.Trainer().State(), another(t, 1, 2, 0, 256).State()) || c.Trainer().Disk().Len() != 256 {
		t.Error("another trainer at first")
	}
	if c.Trainer() != c.Trainer() || c.Trainer() == console.New().Trainer() {
		t.Error("a console has a trainer of its own")
	}
}

// P26.1, P26.3: the known lines; a crash behind check takes nothing back.
func TestTheExample(t *testing.T) {
	says(t, console.New(), "train 3", "ok 3", "step", "3", "check", "ok 3", "crash -", "ok 3", "step", "3")
}

// P26.1: each line does what the trainer does.
func TestLinesAreTheTrainers(t *testing.T) {
	c, tr := console.New(), another(t, 1, 2, 0, 256)
	do := func(s api.Step) string {
		n, e := tr.Do(s)
		if e != api.OK {
			t.Fatalf("%+v: %d", s, e)
		}
		return "ok " + strconv.Itoa(n)
	}
	says(t, c, "saved", "-", "failed", "0", "step", "0", "net", "in 1 2 2; flat; dense 4; relu; dense 2; ")
	for range 5 {
		says(t, c, "train 7", do(api.Step{Kind: api.STrain, N: 7}), "eval", do(api.Step{Kind: api.SEval}), "check", do(api.Step{Kind: api.SCheck}))
		p := tr.State().Params
		says(t, c, "weights 1", "-", "bias 1", "-", "weights 3", "-", "bias 3", "-", "weights 2", tensor.Text(p[1].W), "bias 2", tensor.Text(p[1].B), "weights 4", tensor.Text(p[3].W), "bias 4", tensor.Text(p[3].B))
		step := strconv.Itoa(tr.State().Step)
		says(t, c, "step", step, "saved", step)
		if !codec.Same(c.Trainer().State(), tr.State()) {
			t.Fatal("another state")
		}
	}
	says(t, c, "train 0", "ok 0", "train 100", "ok 100", "fuse 0", "ok 0", "fuse -5", "ok 0")
}

// P26.1: errors of steps: train tells how many were done, too.
func TestErrorsOfSteps(t *testing.T) {
	c := console.New()
	says(t, c, "train 101", "error 1 0", "train -1", "error 1 0", "train 9223372036854775807", "error 1 0", "train 2", "ok 2", "check", "ok 2", "train 1", "ok 1")
	says(t, c, "fuse 1", "ok 0", "check", "error 9", "check", "error 11", "failed", "2", "saved", "2", "step", "3")
	says(t, c, "crash -", "ok 2", "failed", "2", "check", "ok 2")
	says(t, c, "new 1 2 0 4", "ok", "check", "error 8", "failed", "1", "saved", "-")
	j, e := journal.Open(c.Trainer().Disk())
	if e != api.OK || j.Commit([]byte("no state")) != api.OK {
		t.Fatal(e)
	}
	says(t, c, "crash -", "error 5", "train 1", "error 11 0", "eval", "error 11", "fuse 1", "error 11", "check", "error 11", "step", "0", "saved", "-")
}

// P26.1: an error in the midst of a train.
func TestTrainThatEnds(t *testing.T) {
	c := console.New()
	s := c.Trainer().State()
	s.Step = api.MaxSteps - 2
	b, e := codec.Encode(s)
	if e != api.OK {
		t.Fatal(e)
	}
	j, e := journal.Open(c.Trainer().Disk())
	if e != api.OK || j.Commit(b) != api.OK {
		t.Fatal(e)
	}
	says(t, c, "crash -", "ok 999998", "train 7", "error 11 2", "step", "1000000", "train 1", "error 11 0")
}

// P26.1: HEX says which writes stay.
func TestCrashTakesHex(t *testing.T) {
	known := map[string]string{"-": "ok 1", "00": "ok 1", "01": "ok 1", "02": "ok 3", "fe": "ok 3", "0203": "ok 3", "0002": "ok 1", "03": "ok 3", "aabbccddeeff00112233445566778899": "ok 3", "a1": "ok 1"}
	for i, digit := range "0123456789abcdef" {
		want := "ok 1"
		if i%4 >= 2 {
			want = "ok 3"
		}
		known["0"+string(digit)], known["f"+string(digit)+"02"] = want, want
	}
	for hex, want := range known {
		c := console.New()
		says(t, c, "train 1", "ok 1", "check", "ok 1", "train 2", "ok 2")
		b, _ := codec.Encode(c.Trainer().State())
		// The power goes at the last Flush: the head alone is not sure, and its first half is all of it that is not 0.
		says(t, c, "fuse "+strconv.Itoa((len(b)+63)/64+3), "ok 0", "check", "error 9", "crash "+hex, want)
	}
}

// P26.1: another trainer, all else as at first; what may not be leaves the one that is there.
func TestNew(t *testing.T) {
	c := console.New()
	says(t, c, "train 5", "ok 5", "new 77 0 3 40", "ok", "step", "0", "saved", "-", "failed", "0")
	tr := another(t, 77, 0, 3, 40)
	if !codec.Same(c.Trainer().State(), tr.State()) || c.Trainer().Disk().Len() != 40 {
		t.Error("another trainer than was asked for")
	}
	says(t, c, "train 8", "ok 8", "saved", "6")
	tr.Do(api.Step{Kind: api.STrain, N: 8})
	if !codec.Same(c.Trainer().State(), tr.State()) {
		t.Error("another state")
	}
	says(t, c, "new 1 21 0 256", "error 1", "new 1 -1 0 256", "error 1", "new 1 2 1000001 256", "error 1", "new 1 2 -1 256", "error 1", "new 1 2 0 3", "error 1", "new 1 2 0 -9", "error 1", "step", "8")
	says(t, c, "new -1 2 0 256", "error 5", "new -9223372036854775808 2 0 256", "error 5", "new 9223372036854775808 2 0 256", "error 5", "step", "8")
	says(t, c, "new 9223372036854775807 20 1000000 9223372036854775807", "ok", "step", "0", "new 0 0 0 4", "ok")
	if c.Trainer().State().Seed != 0 || c.Trainer().Disk().Len() != 4 {
		t.Error("another trainer than was asked for")
	}
}

// P26.1: layers that there are not.
func TestLayersThatThereAreNot(t *testing.T) {
	for _, word := range []string{"weights", "bias"} {
		for _, n := range []string{"0", "-1", "5", "-9223372036854775808", "9223372036854775807"} {
			says(t, console.New(), word+" "+n, "error 1")
		}
	}
}

// P26.1: lines that are none of those.
func TestWrongLines(t *testing.T) {
	c := console.New()
	says(t, c, "train 1", "ok 1")
	for _, line := range []string{
		"train", "train 1 1", "train x", "train 01", "train +1", "train -0", "train 1.0", "train 0x1", "train 1_0", "train 9223372036854775808", "train ١", "Train 1", "TRAIN 1", "trains 1", "train\t1", "train 1\r", "train 1\t",
		"fuse", "fuse 00", "fuse 1 2", "fuse -", "check 1", "check -", "eval 1", "step 1", "failed 0", "saved -", "net 1", "crash", "crash 0", "crash 000", "crash AA", "crash 0g", "crash - -", "crash 00 00", "crash --", "crash -0", "crash 0x00", "crash é",
		"new", "new 1 2 0", "new 1 2 0 256 1", "new 01 2 0 256", "new 1 +2 0 256", "new 1 2 a 256", "new 1 2 0 -", "weights", "weights a", "weights 1 1", "weights 02", "bias", "bias b", "bias 1 2", "in 1 2 2", "help", "\x00", "\t", "\n", "-", "state",
	} {
		says(t, c, line, "error 5", " "+line+"  ", "error 5")
	}
	says(t, c, "step", "1", "saved", "-", "failed", "0")
}

// P26.1: words stand between spaces, as many as there are; a line without words tells nothing.
func TestSpaces(t *testing.T) {
	says(t, console.New(), "", "", " ", "", strings.Repeat(" ", 2000), "", "  train   2 ", "ok 2", " step", "2", "step  ", "2", "new  1  2  0  256", "ok")
}

// P26.1: a line of 2000 bytes may be, a longer one may not.
func TestLongLines(t *testing.T) {
	c := console.New()
	says(t, c, "step"+strings.Repeat(" ", 1996), "0", "step"+strings.Repeat(" ", 1997), "error 5", strings.Repeat(" ", 2001), "error 5", "crash "+strings.Repeat("0", 1994), "ok 0", "crash "+strings.Repeat("0", 1996), "error 5")
	says(t, c, strings.Repeat("x", 100000), "error 5")
}

// P26.2: each line tells to a new console; those that tell nothing have no line feed.
func TestRun(t *testing.T) {
	known := map[string]string{
		"":                                      "",
		"\n\n \n":                               "",
		"step":                                  "0\n",
		"step\n":                                "0\n",
		"train 3\nstep\n\ncheck\ncrash -\nstep": "ok 3\n3\nok 3\nok 3\n3\n",
		"train 3\nstep\n\ncheck\ncrash -\nstep\n": "ok 3\n3\nok 3\nok 3\n3\n",
		"nonsense\nnet\nbias 4":                   "error 5\nin 1 2 2; flat; dense 4; relu; dense 2; \n2@-7:0,0\n",
		"step\r\nstep":                            "error 5\n0\n",
		strings.Repeat("step ", 401) + "\nstep":   "error 5\n0\n",
	}
	for lines, want := range known {
		for range 2 {
			if got, e := console.Run([]byte(lines)); got != want || e != api.OK {
				t.Errorf("Run of %q: %q %d, want %q", lines, got, e, want)
			}
		}
	}
	if got, e := console.Run([]byte(strings.Repeat("\n", 19996) + "step")); got != "0\n" || e != api.OK {
		t.Errorf("Run of 20000 bytes: %q %d", got, e)
	}
	if got, e := console.Run([]byte(strings.Repeat("\n", 19997) + "step")); got != "" || e != api.ErrLong {
		t.Errorf("Run of 20001 bytes: %q %d", got, e)
	}
	if got, e := console.Run(nil); got != "" || e != api.OK {
		t.Errorf("Run of nothing: %q %d", got, e)
	}
}

// P26.2: a nil console tells zero values.
func TestNilConsole(t *testing.T) {
	var c *console.Console
	if c.Trainer() != nil || c.Line("step") != "" || c.Line("") != "" || c.Line(strings.Repeat("x", 3000)) != "" {
		t.Error("a nil console tells something")
	}
}

// P26.3: whatever comes between, a crash behind check takes nothing back.
func TestACrashBehindCheck(t *testing.T) {
	dice := rand.New(rand.NewPCG(26, 26))
	for range 20 {
		c := console.New()
		for range 10 {
			says(t, c, "train 2", "ok 2")
			if dice.IntN(2) == 0 {
				continue
			}
			step := strconv.Itoa(c.Trainer().State().Step)
			was := c.Line("weights 2") + c.Line("weights 4") + c.Line("bias 2") + c.Line("bias 4")
			says(t, c, "check", "ok "+step, "train 1", "ok 1")
			says(t, c, "fuse "+strconv.Itoa(1+dice.IntN(2)), "ok 0", "check", "error 9", "crash 00", "ok "+step, "step", step, "saved", step)
			if is := c.Line("weights 2") + c.Line("weights 4") + c.Line("bias 2") + c.Line("bias 4"); is != was {
				t.Fatalf("%q became %q", was, is)
			}
		}
	}
}
