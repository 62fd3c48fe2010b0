package trainer_test

import (
	"math"
	"math/rand/v2"
	"testing"

	"pedagogue/api"
	"pedagogue/backward"
	"pedagogue/batch"
	"pedagogue/codec"
	"pedagogue/dataset"
	"pedagogue/forward"
	"pedagogue/journal"
	"pedagogue/loss"
	"pedagogue/optim"
	"pedagogue/params"
	"pedagogue/sample"
	"pedagogue/trainer"
)

// data is a dataset of so many examples by chance.
func data(in [3]int, classes, examples int) api.Dataset {
	d := api.Dataset{In: in, Exp: -5, Classes: classes}
	for i := range examples {
		x := sample.Tensor(uint64(i), 0, in[0], in[1], in[2])
		d.Examples = append(d.Examples, api.Example{Data: x.Data, Label: i % classes})
	}
	return d
}

// task is what a trainer takes.
type task struct {
	m       api.Model
	d       api.Dataset
	h       api.Hyper
	seed    uint64
	sectors int
}

func small() task {
	return task{sample.Net("in 1 2 2; flat; dense 4; relu; dense 2"), data([3]int{1, 2, 2}, 2, 7), api.Hyper{Batch: 3, Width: 5, Rate: 2, Momentum: 3, Decay: 7}, 5, 64}
}

func large() task {
	m := sample.Net("in 2 6 5; conv 3 3 1 1; relu; max 2 1; conv 3 1 1 0 frozen; add 3; avg 2 1; flat; dense 6; relu; add 8; dense 3")
	return task{m, data([3]int{2, 6, 5}, 3, 10), api.Hyper{Batch: 4, Width: 7, Rate: 3, Momentum: 2}, 99, 256}
}

func (k task) start(t *testing.T) *trainer.Trainer {
	t.Helper()
	tr, e := trainer.New(k.m, k.d, k.h, k.seed, k.sectors)
	if e != api.OK {
		t.Fatalf("New: %d", e)
	}
	return tr
}

// first is the state at step 0.
func (k task) first(t *testing.T) api.State {
	t.Helper()
	p, e := params.Init(k.m, k.seed)
	if e != api.OK {
		t.Fatalf("Init: %d", e)
	}
	return api.State{Seed: k.seed, Params: p}
}

// line is the states at steps 0 to n of a run that nothing breaks.
func (k task) line(t *testing.T, n int) []api.State {
	t.Helper()
	l := []api.State{k.first(t)}
	for range n {
		s, e := trainer.Next(k.m, k.d, k.h, l[len(l)-1])
		if e != api.OK {
			t.Fatalf("Next at %d: %d", len(l)-1, e)
		}
		l = append(l, s)
	}
	return l
}

func does(t *testing.T, tr *trainer.Trainer, s api.Step, want int, wantE api.Errno) {
	t.Helper()
	if n, e := tr.Do(s); n != want || e != wantE {
		t.Fatalf("Do(%+v): %d %d, want %d %d", s, n, e, want, wantE)
	}
}

func train(n int) api.Step { return api.Step{Kind: api.STrain, N: n} }

func crash(picks ...byte) api.Step { return api.Step{Kind: api.SCrash, Picks: picks} }

func fuse(n int) api.Step { return api.Step{Kind: api.SFuse, N: n} }

var checkpoint = api.Step{Kind: api.SCheck}

func saved(t *testing.T, tr *trainer.Trainer, want int, wantIs bool) {
	t.Helper()
	if n, is := tr.Saved(); n != want || is != wantIs {
		t.Fatalf("Saved: %d %t, want %d %t", n, is, want, wantIs)
	}
}

func stands(t *testing.T, tr *trainer.Trainer, want api.State) {
	t.Helper()
	if got := tr.State(); !codec.Same(got, want) {
		t.Fatalf("the state is at step %d, or another; want that of step %d", got.Step, want.Step)
	}
}

// P25.1: Next is what the layers tell, one behind another.
func TestNext(t *testing.T) {
	for _, k := range []task{small(), large()} {
		s := k.first(t)
		s.Step = 999
		for range 12 {
			ids := batch.Which(s.Seed, len(k.d.Examples), k.h.Batch, s.Step)
			x, labels, _ := batch.Of(k.d, ids)
			a, _, _ := forward.Run(k.m, s.Params, x, s.Seed, s.Step)
			g, _ := loss.Grad(a.T[len(a.T)-1], labels)
			grads, _, _ := backward.Run(k.m, s.Params, a, g, s.Seed, s.Step)
			p, _, e := optim.All(s.Params, grads, k.h, s.Seed, s.Step)
			if e != api.OK {
				t.Fatal(e)
			}
			got, e := trainer.Next(k.m, k.d, k.h, s)
			if e != api.OK || !codec.Same(got, api.State{Seed: s.Seed, Step: s.Step + 1, Params: p}) {
				t.Fatalf("Next of step %d: step %d, %d", s.Step, got.Step, e)
			}
			s = got
		}
	}
}

// P25.1: Next's errors, in their order.
func TestNextErrors(t *testing.T) {
	changes := []struct {
		name   string
		want   api.Errno
		change func(k *task, s *api.State)
	}{
		{"d", api.ErrArg, func(k *task, s *api.State) { k.d.Examples[0].Label = 2 }},
		{"h", api.ErrArg, func(k *task, s *api.State) { k.h.Width = 1 }},
		{"s", api.ErrArg, func(k *task, s *api.State) { s.Step = api.MaxSteps + 1 }},
		{"s below", api.ErrArg, func(k *task, s *api.State) { s.Step = -1 }},
		{"Params of another net", api.ErrArg, func(k *task, s *api.State) { k.m = sample.Net("in 1 2 2; flat; dense 3; relu; dense 2") }},
		{"no Params", api.ErrArg, func(k *task, s *api.State) { s.Params = nil }},
		{"no net", api.ErrArg, func(k *task, s *api.State) { k.m = api.Model{} }},
		{"the last step", api.ErrState, func(k *task, s *api.State) { s.Step = api.MaxSteps }},
		{"In", api.ErrShape, func(k *task, s *api.State) { k.d = data([3]int{1, 1, 4}, 2, 3) }},
		{"Classes", api.ErrShape, func(k *task, s *api.State) { k.d = data([3]int{1, 2, 2}, 3, 3) }},
	}
	for _, c := range changes {
		k := small()
		s := k.first(t)
		c.change(&k, &s)
		if got, e := trainer.Next(k.m, k.d, k.h, s); e != c.want || !codec.Same(got, api.State{}) {
			t.Errorf("%s: %d, want %d", c.name, e, c.want)
		}
	}
	k := small()
	s := k.first(t)
	s.Step = api.MaxSteps
	k.d = data([3]int{1, 1, 4}, 2, 3)
	if _, e := trainer.Next(k.m, k.d, k.h, s); e != api.ErrState {
		t.Errorf("the last step, and another In: %d", e)
	}
	k.h.Rate = 21
	if _, e := trainer.Next(k.m, k.d, k.h, s); e != api.ErrArg {
		t.Errorf("no hyper, the last step, and another In: %d", e)
	}
}

// P25.1: Net's error, with d's Classes and h's Batch; an error on the way.
func TestNextTellsTheFirstError(t *testing.T) {
	k := task{m: sample.Net("in 1 12 10; conv 1 1 1 0; avg 4 4; flat; dense 2"), d: data([3]int{1, 12, 10}, 2, 8), h: api.Hyper{Batch: 8, Width: 5}}
	s := k.first(t)
	if got, e := trainer.Next(k.m, k.d, k.h, s); e != api.ErrBound || !codec.Same(got, api.State{}) {
		t.Errorf("sums that might be too great: %d", e)
	}
	k.h.Batch = 7
	if _, e := trainer.Next(k.m, k.d, k.h, s); e != api.OK {
		t.Errorf("with a lesser batch: %d", e)
	}
	s.Params[3].W.Exp, s.Params[0].W.Exp = 64, 64
	if got, e := trainer.Next(k.m, k.d, k.h, s); e != api.ErrBound || !codec.Same(got, api.State{}) {
		t.Errorf("exponents that are too great: %d", e)
	}
	small := small()
	s = small.first(t)
	s.Params[1].W.Exp, s.Params[3].W.Exp = 30, -64
	if got, e := trainer.Next(small.m, small.d, small.h, s); e != api.ErrBound || !codec.Same(got, api.State{}) {
		t.Errorf("exponents that are too small on the way back: %d", e)
	}
	s = small.first(t)
	s.Params[1].W.Exp, s.Params[3].W.Exp, small.d.Exp = 30, -30, -64
	if got, e := trainer.Next(small.m, small.d, small.h, s); e != api.ErrBound || !codec.Same(got, api.State{}) {
		t.Errorf("exponents that are too small to move by: %d", e)
	}
}

// R2: Next changes nothing that is handed in, and shares nothing with it.
func TestNextIsNew(t *testing.T) {
	k := large()
	s := k.first(t)
	got, _ := trainer.Next(k.m, k.d, k.h, s)
	for _, p := range got.Params {
		clear(p.W.Data)
		clear(p.W.Dims)
		clear(p.M)
		clear(p.B.Data)
		clear(p.B.Dims)
	}
	if !codec.Same(s, k.first(t)) || !dataset.Same(k.d, large().d) {
		t.Error("what was handed in was changed")
	}
}

// P25.1: Eval counts what the net tells right, example by example.
func TestEval(t *testing.T) {
	for _, k := range []task{small(), large()} {
		p := k.line(t, 20)[20].Params
		want := 0
		for i := range k.d.Examples {
			x, labels, _ := batch.Of(k.d, []int{i})
			y, _, e := forward.Infer(k.m, p, x)
			right, eRight := loss.Right(y, labels)
			if e != api.OK || eRight != api.OK {
				t.Fatal(e, eRight)
			}
			want += right
		}
		if got, e := trainer.Eval(k.m, k.d, p); e != api.OK || got != want {
			t.Errorf("Eval: %d %d, want %d", got, e, want)
		}
	}
	k := small()
	p := k.first(t).Params
	for i := range p[3].W.Data {
		p[3].W.Data[i] = 0
	}
	if got, e := trainer.Eval(k.m, k.d, p); e != api.OK || got != 4 {
		t.Errorf("Eval of a net that always tells 0: %d %d", got, e)
	}
}

// P25.1: Eval's errors, in their order.
func TestEvalErrors(t *testing.T) {
	k := small()
	p := k.first(t).Params
	evals := func(name string, m api.Model, d api.Dataset, p []api.Param, want api.Errno) {
		t.Helper()
		if got, e := trainer.Eval(m, d, p); e != want || got != 0 {
			t.Errorf("%s: %d %d, want %d", name, got, e, want)
		}
	}
	evals("no data", k.m, api.Dataset{}, p, api.ErrArg)
	evals("no weights", k.m, k.d, nil, api.ErrArg)
	evals("no net", api.Model{}, k.d, p, api.ErrArg)
	evals("weights, and In", k.m, data([3]int{1, 1, 4}, 2, 3), p[:2], api.ErrArg)
	evals("In", k.m, data([3]int{1, 1, 4}, 2, 3), p, api.ErrShape)
	evals("In of other planes", k.m, data([3]int{2, 2, 1}, 2, 3), p, api.ErrShape)
	evals("Classes", k.m, data([3]int{1, 2, 2}, 3, 3), p, api.ErrShape)
	evals("not flat", sample.Net("in 1 2 2; relu"), k.d, []api.Param{{}}, api.ErrShape)
	evals("one length too many", sample.Net("in 2 1 1; relu"), data([3]int{2, 1, 1}, 2, 3), []api.Param{{}}, api.ErrShape)
	p[1].W.Exp, p[3].W.Exp = 64, 64
	evals("exponents", k.m, k.d, p, api.ErrBound)
}

// P25.2: New's errors, in their order.
func TestNewErrors(t *testing.T) {
	refused := func(name string, change func(k *task), want api.Errno) {
		t.Helper()
		k := small()
		change(&k)
		if tr, e := trainer.New(k.m, k.d, k.h, k.seed, k.sectors); tr != nil || e != want {
			t.Errorf("%s: %d, want %d", name, e, want)
		}
	}
	refused("d", func(k *task) { k.d.Classes = 1 }, api.ErrArg)
	refused("h", func(k *task) { k.h.Batch = 0 }, api.ErrArg)
	refused("h, and In", func(k *task) { k.h.Batch, k.m.In = 9, [3]int{1, 1, 4} }, api.ErrArg)
	refused("In", func(k *task) { k.m.In = [3]int{1, 1, 4} }, api.ErrShape)
	refused("In, and no layers", func(k *task) { k.m = api.Model{In: [3]int{1, 1, 4}} }, api.ErrShape)
	refused("no layers", func(k *task) { k.m.Layers = nil }, api.ErrArg)
	refused("layers", func(k *task) { k.m = sample.Net("in 1 2 2; dense 2") }, api.ErrShape)
	refused("Classes", func(k *task) { k.m = sample.Net("in 1 2 2; flat; dense 3") }, api.ErrShape)
	refused("sums", func(k *task) { k.m = sample.Net("in 1 2 2; flat; dense 960; dense 2") }, api.ErrBound)
	refused("weights", func(k *task) { k.m = sample.Net("in 1 2 2; flat; dense 2049; dense 2") }, api.ErrArg)
	for _, sectors := range []int{3, 2, 1, 0, -1, math.MinInt} {
		refused("sectors", func(k *task) { k.sectors = sectors }, api.ErrArg)
	}
	refused("sums, and sectors", func(k *task) { k.m, k.sectors = sample.Net("in 1 2 2; flat; dense 960; dense 2"), 0 }, api.ErrBound)
}

// P25.2, P25.4: a new trainer is at step 0, with Init's weights, nothing saved, a disk of so many sectors.
func TestNew(t *testing.T) {
	for sectors, want := range map[int]int{4: 4, 77: 77, 4096: 4096, 5000: 4096, math.MaxInt: 4096} {
		k := small()
		k.sectors = sectors
		tr := k.start(t)
		stands(t, tr, k.first(t))
		saved(t, tr, 0, false)
		if tr.Failed() != 0 || tr.Disk().Len() != want {
			t.Errorf("failed %d, %d sectors", tr.Failed(), tr.Disk().Len())
		}
	}
}

// R2: a trainer keeps nothing that was handed in, and tells nothing of its own but the disk.
func TestTrainerKeepsToItself(t *testing.T) {
	k := small()
	want := k.line(t, 5)
	tr := k.start(t)
	k.m.Layers[1].Out = 7
	for i := range k.d.Examples {
		for n := range k.d.Examples[i].Data {
			k.d.Examples[i].Data[n] ^= 64
		}
	}
	k.d.Examples[1].Label ^= 1
	does(t, tr, train(2), 2, api.OK)
	for range 2 {
		s := tr.State()
		for _, p := range s.Params {
			clear(p.W.Data)
			clear(p.W.Dims)
			clear(p.M)
			clear(p.B.Data)
			clear(p.B.Dims)
		}
		clear(s.Params)
	}
	does(t, tr, train(3), 3, api.OK)
	stands(t, tr, want[5])
	does(t, tr, crash(), 0, api.OK)
	stands(t, tr, want[0])
}

// P25.3: STrain goes step by step; its bounds.
func TestTrain(t *testing.T) {
	for _, k := range []task{small(), large()} {
		want := k.line(t, 12)
		tr := k.start(t)
		at := 0
		for _, n := range []int{0, 1, 3, 0, 8} {
			does(t, tr, train(n), n, api.OK)
			at += n
			stands(t, tr, want[at])
		}
		for _, n := range []int{-1, 101, math.MinInt, math.MaxInt} {
			does(t, tr, train(n), 0, api.ErrArg)
			stands(t, tr, want[12])
		}
		saved(t, tr, 0, false)
	}
	tr := small().start(t)
	does(t, tr, train(100), 100, api.OK)
}

// lay commits b on a trainer's disk, as another would.
func lay(t *testing.T, tr *trainer.Trainer, b []byte) {
	t.Helper()
	j, e := journal.Open(tr.Disk())
	if e != api.OK {
		t.Fatal(e)
	}
	if e := j.Commit(b); e != api.OK {
		t.Fatal(e)
	}
}

// layState commits a state on a trainer's disk.
func layState(t *testing.T, tr *trainer.Trainer, s api.State) {
	t.Helper()
	b, e := codec.Encode(s)
	if e != api.OK {
		t.Fatal(e)
	}
	lay(t, tr, b)
}

// P25.3: an error of Next ends STrain: what was done stays, and is told.
func TestTrainThatEnds(t *testing.T) {
	k := small()
	tr := k.start(t)
	s := k.first(t)
	s.Step = api.MaxSteps - 3
	layState(t, tr, s)
	does(t, tr, crash(), api.MaxSteps-3, api.OK)
	stands(t, tr, s)
	does(t, tr, train(5), 3, api.ErrState)
	if got := tr.State().Step; got != api.MaxSteps {
		t.Errorf("at step %d", got)
	}
	does(t, tr, train(0), 0, api.OK)
	does(t, tr, train(1), 0, api.ErrState)
	does(t, tr, checkpoint, api.MaxSteps, api.OK)
	other := large()
	layState(t, tr, other.first(t))
	does(t, tr, crash(), 0, api.OK)
	does(t, tr, train(2), 0, api.ErrArg)
	does(t, tr, api.Step{Kind: api.SEval}, 0, api.ErrArg)
	stands(t, tr, other.first(t))
}

// P25.3, P25.4: SCheck saves the state; SCrash goes back to it, or to the first.
func TestCheckAndCrash(t *testing.T) {
	k := small()
	want := k.line(t, 10)
	tr := k.start(t)
	does(t, tr, train(2), 2, api.OK)
	does(t, tr, crash(2, 2, 2), 0, api.OK)
	stands(t, tr, want[0])
	saved(t, tr, 0, false)
	does(t, tr, train(3), 3, api.OK)
	does(t, tr, checkpoint, 3, api.OK)
	saved(t, tr, 3, true)
	does(t, tr, train(2), 2, api.OK)
	saved(t, tr, 3, true)
	stands(t, tr, want[5])
	does(t, tr, crash(), 3, api.OK)
	stands(t, tr, want[3])
	saved(t, tr, 3, true)
	does(t, tr, train(7), 7, api.OK)
	stands(t, tr, want[10])
	does(t, tr, checkpoint, 10, api.OK)
	does(t, tr, checkpoint, 10, api.OK)
	does(t, tr, crash(1, 1), 10, api.OK)
	stands(t, tr, want[10])
	if tr.Failed() != 0 {
		t.Errorf("failed %d", tr.Failed())
	}
	k.h.Batch = 3
	tr = k.start(t)
	does(t, tr, checkpoint, 0, api.OK)
	saved(t, tr, 0, true)
}

// P25.3: Every so many steps there is a checkpoint; its error ends nothing, and counts.
func TestEvery(t *testing.T) {
	for every := 1; every <= 4; every++ {
		k := small()
		k.h.Every = every
		want := k.line(t, 11)
		tr := k.start(t)
		for step := 1; step <= 11; step++ {
			does(t, tr, train(1), 1, api.OK)
			saved(t, tr, step/every*every, step >= every)
		}
		ops := tr.Disk().Ops()
		does(t, tr, fuse(2), 0, api.OK)
		does(t, tr, train(9), 9, api.OK)
		stands(t, tr, k.line(t, 20)[20])
		saved(t, tr, 11/every*every, true)
		if failed := 20/every - 11/every; tr.Failed() != failed || tr.Disk().Ops() != ops+2 {
			t.Errorf("every %d: failed %d, want %d; %d operations", every, tr.Failed(), failed, tr.Disk().Ops()-ops)
		}
		does(t, tr, crash(), 11/every*every, api.OK)
		stands(t, tr, want[11/every*every])
		does(t, tr, train(every), every, api.OK)
		saved(t, tr, 11/every*every+every, true)
	}
}

// P25.3, P25.6: a checkpoint that fails: the state stays, the one ahead of it is there behind a crash.
func TestCheckpointsThatFail(t *testing.T) {
	k := small()
	want := k.line(t, 5)
	for n := 1; n <= 4; n++ {
		tr := k.start(t)
		does(t, tr, train(2), 2, api.OK)
		does(t, tr, checkpoint, 2, api.OK)
		does(t, tr, train(3), 3, api.OK)
		does(t, tr, fuse(n), 0, api.OK)
		does(t, tr, checkpoint, 0, api.ErrDown)
		does(t, tr, checkpoint, 0, api.ErrState)
		does(t, tr, fuse(0), 0, api.OK)
		does(t, tr, checkpoint, 0, api.ErrState)
		stands(t, tr, want[5])
		saved(t, tr, 2, true)
		if tr.Failed() != 3 {
			t.Errorf("failed %d", tr.Failed())
		}
		does(t, tr, crash(), 2, api.OK)
		stands(t, tr, want[2])
		saved(t, tr, 2, true)
		does(t, tr, checkpoint, 2, api.OK)
		if tr.Failed() != 3 {
			t.Errorf("failed %d", tr.Failed())
		}
	}
	k.sectors = 4
	tr := k.start(t)
	does(t, tr, train(1), 1, api.OK)
	does(t, tr, checkpoint, 0, api.ErrFull)
	does(t, tr, checkpoint, 0, api.ErrFull)
	saved(t, tr, 0, false)
	stands(t, tr, want[1])
	if tr.Failed() != 2 {
		t.Errorf("failed %d", tr.Failed())
	}
}

// P25.3: the power goes at the head: what was begun may be there, and then it is what is saved.
func TestCrashThatKeepsWhatWasBegun(t *testing.T) {
	k := small()
	want := k.line(t, 5)
	tr := k.start(t)
	does(t, tr, train(2), 2, api.OK)
	does(t, tr, checkpoint, 2, api.OK)
	does(t, tr, train(3), 3, api.OK)
	ops := tr.Disk().Copy().Ops()
	probe := k.start(t)
	does(t, probe, checkpoint, 0, api.OK)
	perCommit := probe.Disk().Ops() - 1
	does(t, tr, fuse(perCommit), 0, api.OK)
	does(t, tr, checkpoint, 0, api.ErrDown)
	if tr.Disk().Ops() != ops+perCommit || !tr.Disk().Down() {
		t.Errorf("%d operations", tr.Disk().Ops()-ops)
	}
	saved(t, tr, 2, true)
	does(t, tr, crash(2), 5, api.OK)
	stands(t, tr, want[5])
	saved(t, tr, 5, true)
}

// P25.3: SEval, SFuse, and a Kind that there is not.
func TestOtherSteps(t *testing.T) {
	k := small()
	tr := k.start(t)
	does(t, tr, train(30), 30, api.OK)
	right, e := trainer.Eval(k.m, k.d, tr.State().Params)
	if e != api.OK {
		t.Fatal(e)
	}
	does(t, tr, api.Step{Kind: api.SEval, N: 77}, right, api.OK)
	for _, kind := range []int{0, -1, 6, math.MinInt, math.MaxInt} {
		does(t, tr, api.Step{Kind: kind, N: 1}, 0, api.ErrArg)
	}
	for _, n := range []int{5, 0, -3, math.MinInt, math.MaxInt} {
		does(t, tr, fuse(n), 0, api.OK)
	}
	does(t, tr, fuse(1), 0, api.OK)
	if tr.Disk().Down() || tr.Disk().Flush() != api.ErrDown {
		t.Error("the disk has no fuse")
	}
	if tr.State().Step != 30 {
		t.Error("the state went on")
	}
}

// P25.3: behind a crash that found what is no state all is ErrState but another crash.
func TestCrashThatFindsNoState(t *testing.T) {
	k := small()
	for _, b := range [][]byte{[]byte("xy"), []byte("no state"), append([]byte("pdst"), make([]byte, 14)...)} {
		want := api.ErrForm
		if len(b) < 4 {
			want = api.ErrShort
		}
		tr := k.start(t)
		does(t, tr, train(4), 4, api.OK)
		does(t, tr, checkpoint, 4, api.OK)
		does(t, tr, train(1), 1, api.OK)
		lay(t, tr, b)
		does(t, tr, crash(), 0, want)
		for _, s := range []api.Step{train(1), train(-1), checkpoint, fuse(1), {Kind: api.SEval}, {Kind: 9}} {
			does(t, tr, s, 0, api.ErrState)
		}
		stands(t, tr, k.line(t, 5)[5])
		saved(t, tr, 4, true)
		does(t, tr, crash(), 0, want)
		if tr.Failed() != 0 || tr.Disk().Down() {
			t.Error("a step that was refused was done")
		}
		layState(t, tr, k.line(t, 7)[7])
		does(t, tr, crash(), 7, api.OK)
		does(t, tr, train(1), 1, api.OK)
		stands(t, tr, k.line(t, 8)[8])
		saved(t, tr, 7, true)
	}
}

// P25.4: Failed stays at its bound.
func TestFailedStaysAtItsBound(t *testing.T) {
	k := task{sample.Net("in 1 1 2; flat"), data([3]int{1, 1, 2}, 2, 1), api.Hyper{Batch: 1, Width: 8}, 1, 4}
	tr := k.start(t)
	lay(t, tr, make([]byte, 64))
	does(t, tr, fuse(1), 0, api.OK)
	does(t, tr, checkpoint, 0, api.ErrDown)
	for range api.MaxSteps + 5 {
		tr.Do(checkpoint)
	}
	if tr.Failed() != api.MaxSteps {
		t.Errorf("failed %d", tr.Failed())
	}
}

// P25.4: a nil trainer tells ErrArg and zero values.
func TestNilTrainer(t *testing.T) {
	var tr *trainer.Trainer
	for kind := range 7 {
		does(t, tr, api.Step{Kind: kind}, 0, api.ErrArg)
	}
	saved(t, tr, 0, false)
	stands(t, tr, api.State{})
	if tr.Disk() != nil || tr.Failed() != 0 {
		t.Error("a nil trainer has something")
	}
}

// P25.5: whatever crashes come between, the state at a step is that of the run that did not break off.
func TestTheStateAtAStep(t *testing.T) {
	dice := rand.New(rand.NewPCG(25, 25))
	for _, k := range []task{small(), large()} {
		k.h.Every = 4
		want := k.line(t, 60)
		for range 20 {
			tr := k.start(t)
			for range 60 {
				var s api.Step
				switch dice.IntN(6) {
				case 0:
					s = checkpoint
				case 1:
					s = fuse(dice.IntN(30))
				case 2:
					s = crash(byte(dice.Uint32()), byte(dice.Uint32()), byte(dice.Uint32()), byte(dice.Uint32()))
				default:
					s = train(min(dice.IntN(6), 60-tr.State().Step))
				}
				n, e := tr.Do(s)
				if s.Kind == api.STrain && (e != api.OK || n != s.N) {
					t.Fatalf("train %d: %d %d", s.N, n, e)
				}
				if s.Kind == api.SCrash {
					at, is := tr.Saved()
					if e != api.OK || n != tr.State().Step || is && at != n || !is && n != 0 {
						t.Fatalf("crash: %d %d, saved %d %t", n, e, at, is)
					}
				}
				stands(t, tr, want[tr.State().Step])
			}
		}
	}
}

// P25.5: the seed, the examples, the hypers make another run.
func TestWhatARunHangsOn(t *testing.T) {
	base := small().line(t, 10)[10]
	for name, change := range map[string]func(k *task){
		"seed": func(k *task) { k.seed++ }, "examples": func(k *task) { k.d.Examples[2].Data[0] ^= 64 }, "labels": func(k *task) { k.d.Examples[2].Label ^= 1 },
		"rate": func(k *task) { k.h.Rate = 1 }, "momentum": func(k *task) { k.h.Momentum = 0 }, "batch": func(k *task) { k.h.Batch = 2 }, "width": func(k *task) { k.h.Width = 2 },
	} {
		k := small()
		change(&k)
		s := k.line(t, 10)[10]
		s.Seed = base.Seed
		if codec.Same(s, base) {
			t.Errorf("another %s makes the same run", name)
		}
	}
	k := small()
	k.h.Every = 3
	if !codec.Same(k.line(t, 10)[10], base) {
		t.Error("checkpoints make another run")
	}
}
