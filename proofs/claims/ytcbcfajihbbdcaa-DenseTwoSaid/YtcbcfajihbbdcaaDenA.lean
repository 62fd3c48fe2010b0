/- Layer 10: rows of matrices, their products. -/
import Derived.Test.YtcbcfajihbbdcaaTt
namespace Go.Proofs.Ytcbcfajihbbdcaa
open Go.RowKit
set_option maxRecDepth 100000
set_option linter.unusedSimpArgs false
structure Ln where
  data : List Int
  rows : Int
  next : Int
  step : Int
abbrev lnTy : Ty := .st [.sl (.int .i8), .int .i64, .int .i64, .int .i64]
def Ln.sv (t : Ln) : SV := .agg [.iimm .i8 t.data, .v (.int .i64 t.rows), .v (.int .i64 t.next), .v (.int .i64 t.step)]
theorem argSV_ln {a : AV} {x : SV} (h : argSV lnTy a = some x) : ∃ t : Ln, a = .st [.l t.data, .z t.rows, .z t.next, .z t.step] ∧ x = t.sv := by
  obtain ⟨xa, l, rfl, rfl, h'⟩ := argSV_st h
  clear h
  obtain ⟨a1, as1, x1, m1, rfl, rfl, h1, h⟩ := svAVs_cons h'
  obtain ⟨a2, as2, x2, m2, rfl, rfl, h2, h⟩ := svAVs_cons h
  obtain ⟨a3, as3, x3, m3, rfl, rfl, h3, h⟩ := svAVs_cons h
  obtain ⟨a4, as4, x4, m4, rfl, rfl, h4, h⟩ := svAVs_cons h
  obtain ⟨rfl, rfl⟩ := svAVs_nil h
  obtain ⟨D, rfl, rfl⟩ := svAV_ints h1
  obtain ⟨e, rfl, rfl⟩ := svAV_int h2
  obtain ⟨L, rfl, rfl⟩ := svAV_int h3
  obtain ⟨M, rfl, rfl⟩ := svAV_int h4
  exact ⟨⟨D, e, L, M⟩, rfl, rfl⟩
def sumTo (g : Int → Int) (f : Int) : Nat → Int
  | 0 => 0
  | n + 1 => sumTo g f n + g (f + (n : Int))
theorem sumTo_in (g : Int → Int) (f : Int) (h : ∀ x, -16384 ≤ g x ∧ g x ≤ 16384) : ∀ n : Nat, -((n : Int) * 16384) ≤ sumTo g f n ∧ sumTo g f n ≤ (n : Int) * 16384
  | 0 => by simp [sumTo]
  | n + 1 => by
    have h1 := sumTo_in g f h n
    have h2 := h (f + (n : Int))
    unfold sumTo
    omega
/-- The product of two numbers of two rows. -/
def prI (a b : Ln) (i k x : Int) : Int := a.data.getD (i * a.next + x * a.step).toNat 0 * b.data.getD (k * b.next + x * b.step).toNat 0
theorem prI_in {a b : Ln} (ha : Fits .i8 a.data) (hb : Fits .i8 b.data) (i k x : Int) : -16384 ≤ prI a b i k x ∧ prI a b i k x ≤ 16384 := by
  have h1 := fits8 ha (i * a.next + x * a.step).toNat
  have h2 := fits8 hb (k * b.next + x * b.step).toNat
  exact mulAbs (A := 128) (B := 128) h1.1 (by omega) h2.1 (by omega)
def sm (x : Int) : Prop := 0 ≤ x ∧ x ≤ 8192
def partP (a b : Ln) (i k f t : Int) : Prop := sm i ∧ sm k ∧ sm a.next ∧ sm a.step ∧ sm b.next ∧ sm b.step ∧ 0 ≤ f ∧ f ≤ t ∧ t ≤ 1023 ∧
  ∀ x, f ≤ x → x < t → i * a.next + x * a.step < ci a.data.length ∧ k * b.next + x * b.step < ci b.data.length
def partR (a b : Ln) (i k f t : Int) : Int := sumTo (prI a b i k) f (t - f).toNat
def partC (p : Ln → Ln → Int → Int → Int → Int → Prop) (r : Ln → Ln → Int → Int → Int → Int → Int) : Ctr where
  tys := [lnTy, lnTy, .int .i64, .int .i64, .int .i64, .int .i64]
  pre := fun xa => match xa with
    | [.st [.l d, .z rows, .z next, .z step], .st [.l d', .z rows', .z next', .z step'], .z i, .z k, .z f, .z t] => some (p ⟨d, rows, next, step⟩ ⟨d', rows', next', step'⟩ i k f t)
    | _ => some False
  res := fun xa => match xa with
    | [.st [.l d, .z rows, .z next, .z step], .st [.l d', .z rows', .z next', .z step'], .z i, .z k, .z f, .z t] => .ret (.v (.int .i32 (r ⟨d, rows, next, step⟩ ⟨d', rows', next', step'⟩ i k f t))) []
    | _ => .ret .any []
theorem part_vc (A : Sy) (hA : A = std) (D1 D2 : List Int) (r1 n1 s1 r2 n2 s2 i k f t : Int) (n : Nat) (acc at' : Nat → Int) (h1 : Fits .i8 D1) (h2 : Fits .i8 D2) (hp : partP ⟨D1, r1, n1, s1⟩ ⟨D2, r2, n2, s2⟩ i k f t) (hn : (t - f).toNat = n)
    (hacc : acc = sumTo (prI ⟨D1, r1, n1, s1⟩ ⟨D2, r2, n2, s2⟩ i k) f) (hat : ∀ x : Nat, at' x = f + ci x) : vcFn ⟨A, tt, [], true, false, [], true⟩ Try.f66 [.agg [.iimm .i8 D1, .v (.int .i64 r1), .v (.int .i64 n1), .v (.int .i64 s1)], .agg [.iimm .i8 D2, .v (.int .i64 r2), .v (.int .i64 n2), .v (.int .i64 s2)], .v (.int .i64 i), .v (.int .i64 k), .v (.int .i64 f), .v (.int .i64 t)] (.ret (.v (.int .i32 (acc n))) []) := by
  cbv
  obtain ⟨q1, q2, q3, q4, q5, q6, q7, q8, q9, q10⟩ := hp
  simp only [sm] at q1 q2 q3 q4 q5 q6
  refine loop_at Nat 8 (fun x => [(13, .v (.int .i32 (acc x))), (14, .v (.int .i64 (at' x)))]) (fun _ o => o) (fun x => x ≤ n) (fun x => n - x) 0 (Nat.zero_le _) ?_ ?_
  · cbv
    simp [hacc, hat, sumTo, ci]
  · intro x hx
    cbv
    refine ⟨fun hg => ?_, fun hg => ?_⟩
    · rw [hA] at hg
      simp only [std, stdBin, stdCmp, stdUna, stdIn, ci, beq_iff_eq, bne_iff_ne, beq_eq_false_iff_ne, bne_eq_false_iff_eq, decide_eq_true_eq, decide_eq_false_iff_not, Bool.not_true, Bool.not_false, Bool.not_eq_true', Bool.not_eq_false', Bool.not_not, tn0, tn1, tn2, tn3, hat] at hg
      have hxn : x < n := by omega
      have b1 := mulB q1.1 q1.2 q3.1 q3.2
      have b2 := mulB q2.1 q2.2 q5.1 q5.2
      have b3 := mulB (a := f + (x : Int)) (A := 1023) (by omega) (by omega) q4.1 q4.2
      have b4 := mulB (a := f + (x : Int)) (A := 1023) (by omega) (by omega) q6.1 q6.2
      have hb := q10 (f + (x : Int)) (by omega) hg
      simp only [ci] at hb
      have g1 := fits8 h1 (i * n1 + (f + (x : Int)) * s1).toNat
      have g2 := fits8 h2 (k * n2 + (f + (x : Int)) * s2).toNat
      have g3 := mulAbs (A := 128) (B := 128) g1.1 (by omega) g2.1 (by omega)
      have g4 := sumTo_in _ f (prI_in (a := ⟨D1, r1, n1, s1⟩) (b := ⟨D2, r2, n2, s2⟩) h1 h2 i k) x
      rw [← hacc] at g4
      repeat' apply And.intro
      any_goals (rw [hA]; simp only [std, stdBin, stdCmp, stdUna, stdIn, ci, beq_iff_eq, bne_iff_ne, beq_eq_false_iff_ne, bne_eq_false_iff_eq, decide_eq_true_eq, decide_eq_false_iff_not, Bool.not_true, Bool.not_false, Bool.not_eq_true', Bool.not_eq_false', Bool.not_not, tn0, tn1, tn2, tn3, hat]; omega)
      refine ⟨x + 1, hxn, ?_, Nat.sub_lt_sub_left hxn (Nat.lt_succ_self x)⟩
      cbv
      rw [hA]
      simp only [std, hat, ci, hacc]
      repeat' apply And.intro
      all_goals first | exact True.intro | rfl | exact congrArg _ (by omega)
    · rw [hA] at hg
      simp only [std, stdBin, stdCmp, stdUna, stdIn, ci, beq_iff_eq, bne_iff_ne, beq_eq_false_iff_ne, bne_eq_false_iff_eq, decide_eq_true_eq, decide_eq_false_iff_not, Bool.not_true, Bool.not_false, Bool.not_eq_true', Bool.not_eq_false', Bool.not_not, tn0, tn1, tn2, tn3, hat] at hg
      have hxn : x = n := by omega
      subst hxn
      trivial
theorem part_ok : CtrOk Try.prog 66 (partC partP partR) := by
  refine fn_ok (ck := true) Try.func66 rfl tt_ok (G := []) trivial mixed (by kernel_rfl) ?_
  intro xa xs h hx hp
  obtain ⟨a1, as1, x1, xs1, rfl, rfl, h1, h⟩ := svArgs_cons h
  obtain ⟨a2, as2, x2, xs2, rfl, rfl, h2, h⟩ := svArgs_cons h
  obtain ⟨a3, as3, x3, xs3, rfl, rfl, h3, h⟩ := svArgs_cons h
  obtain ⟨a4, as4, x4, xs4, rfl, rfl, h4, h⟩ := svArgs_cons h
  obtain ⟨a5, as5, x5, xs5, rfl, rfl, h5, h⟩ := svArgs_cons h
  obtain ⟨a6, as6, x6, xs6, rfl, rfl, h6, h⟩ := svArgs_cons h
  obtain ⟨rfl, rfl⟩ := svArgs_nil h
  obtain ⟨a, rfl, rfl⟩ := argSV_ln h1
  obtain ⟨b, rfl, rfl⟩ := argSV_ln h2
  obtain ⟨i, rfl, rfl⟩ := argSV_int h3
  obtain ⟨k, rfl, rfl⟩ := argSV_int h4
  obtain ⟨f, rfl, rfl⟩ := argSV_int h5
  obtain ⟨t, rfl, rfl⟩ := argSV_int h6
  have hp := hp _ rfl
  have f1 := (hx a.sv (by simp)) (.iimm .i8 a.data) (by simp)
  have f2 := (hx b.sv (by simp)) (.iimm .i8 b.data) (by simp)
  exact part_vc _ rfl a.data b.data _ _ _ _ _ _ i k f t _ _ (fun x => f + ci x) f1.1 f2.1 hp rfl rfl (fun _ => rfl)
end Go.Proofs.Ytcbcfajihbbdcaa
