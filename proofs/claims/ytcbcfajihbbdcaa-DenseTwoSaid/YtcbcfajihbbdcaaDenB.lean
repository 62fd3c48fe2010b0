/- Layer 10: the product of two matrices, block by block. -/
import Derived.Test.YtcbcfajihbbdcaaDenA
import Derived.Test.YtcbcfajihbbdcaaResU
namespace Go.Proofs.Ytcbcfajihbbdcaa
open Go.RowKit
set_option maxRecDepth 100000
set_option linter.unusedSimpArgs false
set_option maxHeartbeats 2000000
theorem sumTo_add (g : Int → Int) (f : Int) (a : Nat) : ∀ b : Nat, sumTo g f (a + b) = sumTo g f a + sumTo g (f + (a : Int)) b
  | 0 => by simp [sumTo]
  | b + 1 => by
    rw [← Nat.add_assoc]
    simp only [sumTo]
    rw [sumTo_add g f a b, Int.natCast_add, Int.add_assoc, Int.add_assoc]
/-- The first n products of row j / m and row j % m. -/
def dt (a b : Ln) (m j n : Nat) : Int := sumTo (prI a b ((j / m : Nat) : Int) ((j % m : Nat) : Int)) 0 n
/-- Each row of a times each row of b. -/
def mulL (a b : Ln) (n m : Nat) (q : Nat) : List Int := (List.range (n * m)).map fun j => dt a b m j q
def mulP (a b : Ln) (q : Int) : Prop := sm a.rows ∧ sm b.rows ∧ sm a.next ∧ sm a.step ∧ sm b.next ∧ sm b.step ∧ 0 ≤ q ∧ q ≤ 959 ∧
  ∀ i k x : Int, 0 ≤ i → i < a.rows → 0 ≤ k → k < b.rows → 0 ≤ x → x < q → i * a.next + x * a.step < a.data.length ∧ k * b.next + x * b.step < b.data.length
def mulR (a b : Ln) (q : Int) : List Int := mulL a b a.rows.toNat b.rows.toNat q.toNat
def mulC (p : Ln → Ln → Int → Prop) (r : Ln → Ln → Int → List Int) : Ctr where
  tys := [lnTy, lnTy, .int .i64]
  pre := fun xa => match xa with
    | [.st [.l d, .z rows, .z next, .z step], .st [.l d', .z rows', .z next', .z step'], .z q] => some (p ⟨d, rows, next, step⟩ ⟨d', rows', next', step'⟩ q)
    | _ => some False
  res := fun xa => match xa with
    | [.st [.l d, .z rows, .z next, .z step], .st [.l d', .z rows', .z next', .z step'], .z q] => .ret (.hdl 0) [(0, .irow 21 .i32 (r ⟨d, rows, next, step⟩ ⟨d', rows', next', step'⟩ q))]
    | _ => .ret .any []
theorem mul_vc (A : Sy) (hA : A = std) (p : Ln → Ln → Int → Int → Int → Int → Prop) (hp : p = partP) (r : Ln → Ln → Int → Int → Int → Int → Int) (hr : r = partR) (D1 D2 : List Int) (r1 n1 s1 r2 n2 s2 q : Int) (R : List Int) (m1 m Q : Nat) (hm1 : r1 = (m1 : Int)) (hm : r2 = (m : Int)) (hQ : q = (Q : Int))
    (h1 : Fits .i8 D1) (h2 : Fits .i8 D2) (hP : mulP ⟨D1, r1, n1, s1⟩ ⟨D2, r2, n2, s2⟩ q) (hR : R = mulL ⟨D1, r1, n1, s1⟩ ⟨D2, r2, n2, s2⟩ m1 m Q) (lo : Nat → Nat → Int) (hlo : lo = fun x j => dt ⟨D1, r1, n1, s1⟩ ⟨D2, r2, n2, s2⟩ m j (min (32 * x) Q))
    (S : Nat → List Int) (hS : S = fun x => mixL (lo x) (lo (x + 1)) (m1 * m) 0) (M : Nat → Nat → List Int) (hM : M = fun x i => mixL (lo x) (lo (x + 1)) (m1 * m) (i * m)) (T : Nat → Nat → Nat → List Int) (hT : T = fun x i k => mixL (lo x) (lo (x + 1)) (m1 * m) (i * m + k)) (fr c : Nat → Int) (hfr : ∀ x : Nat, fr x = 32 * (x : Int)) (hc : ∀ x : Nat, c x = (x : Int)) :
    vcFn ⟨A, tt, [(66, partC p r)], false, false, [], true⟩ Try.f50 [.agg [.iimm .i8 D1, .v (.int .i64 r1), .v (.int .i64 n1), .v (.int .i64 s1)], .agg [.iimm .i8 D2, .v (.int .i64 r2), .v (.int .i64 n2), .v (.int .i64 s2)], .v (.int .i64 q)] (.ret (.hdl 0) [(0, .irow 21 .i32 R)]) := by
  obtain ⟨p1, p2, p3, p4, p5, p6, p7, p8, p9⟩ := hP
  have mm := mulB p1.1 p1.2 p2.1 p2.2
  simp only [sm] at p1 p2 p3 p4 p5 p6 p9
  have emm : r1 * r2 = ((m1 * m : Nat) : Int) := by rw [hm1, hm, Int.natCast_mul]
  simp only at mm
  have ew : IntKind.i64.wrap (r1 * r2) = ((m1 * m : Nat) : Int) := by rw [w64 (by omega) (by omega), emm]
  cbv
  simp only [nc] at hm1 hm hQ hfr hc emm ew
  simp only [Int.ofNat_eq_natCast] at hm1 hm hQ hfr hc emm ew
  refine ⟨?_, ?_⟩
  · rw [hA]; simp only [std, stdBin, ew]; omega
  refine loop_at Nat 8 (fun x => [(8, .v (.int .i64 (fr x)))]) (fun x o => o.take 2 ++ [.irow 21 .i32 (S x)]) (fun x => 32 * (x : Int) ≤ q + 31) (fun x => (q + 31 - 32 * (x : Int)).toNat) 0 ?_ ?_ ?_
  · omega
  · cbv
    simp only [nc] at hm1 hm hQ hfr hc emm ew
    simp only [Int.ofNat_eq_natCast] at hm1 hm hQ hfr hc emm ew
    rw [hA]
    simp only [std, stdBin, ew, hfr, hS, hlo]
    repeat' apply And.intro
    any_goals first | exact True.intro | with_reducible rfl | exact congrArg (Value.int .i64) (by omega)
    rw [Int.toNat_natCast]
    apply List.ext_getElem?
    intro j
    simp only [mixL, List.getElem?_map, List.getElem?_replicate]
    by_cases hj : j < m1 * m
    · rw [List.getElem?_range hj, if_pos hj]; simp [dt, sumTo]
    · rw [List.getElem?_eq_none (by simp; omega), if_neg hj]; rfl
  · intro x hx
    cbv
    refine ⟨fun hg => ?_, fun hg => ?_⟩
    · simp only [nc] at hm1 hm hQ hfr hc hx
      simp only [Int.ofNat_eq_natCast] at hm1 hm hQ hfr hc hx
      rw [hA] at hg
      simp only [std, stdCmp, decide_eq_true_eq, hfr] at hg
      refine loop_at Nat 10 (fun i => [(28, .v (.int .i64 r1)), (29, .v (.int .i64 (c i)))]) (fun i o => o.take 2 ++ [.irow 21 .i32 (M x i)]) (fun i => (i : Int) ≤ r1) (fun i => (r1 - (i : Int)).toNat) 0 ?_ ?_ ?_
      · omega
      · cbv
        simp only [nc] at hm1 hm hQ hfr hc
        simp only [Int.ofNat_eq_natCast] at hm1 hm hQ hfr hc
        simp only [hc, hS, hM, Nat.zero_mul]
        repeat' apply And.intro
        all_goals first | exact True.intro | rfl
      · intro i hi
        cbv
        refine ⟨fun hgi => ?_, fun hgi => ?_⟩
        · simp only [nc] at hm1 hm hQ hfr hc hx hi hg
          simp only [Int.ofNat_eq_natCast] at hm1 hm hQ hfr hc hx hi hg
          rw [hA] at hgi
          simp only [std, stdCmp, decide_eq_true_eq, hc] at hgi
          refine loop_at Nat 11 (fun k => [(28, .v (.int .i64 r1)), (29, .v (.int .i64 (c i))), (33, .v (.int .i64 r2)), (34, .v (.int .i64 (c k)))]) (fun k o => o.take 2 ++ [.irow 21 .i32 (T x i k)]) (fun k => (k : Int) ≤ r2) (fun k => (r2 - (k : Int)).toNat) 0 ?_ ?_ ?_
          · omega
          · cbv
            simp only [nc] at hm1 hm hQ hfr hc
            simp only [Int.ofNat_eq_natCast] at hm1 hm hQ hfr hc
            simp only [hc, hM, hT]
            repeat' apply And.intro
            all_goals first | exact True.intro | rfl
          · intro k hk
            cbv
            refine ⟨fun hgk => ?_, fun hgk => ?_⟩
            · simp only [nc] at hm1 hm hQ hfr hc hx hi hk hg hgi
              simp only [Int.ofNat_eq_natCast] at hm1 hm hQ hfr hc hx hi hk hg hgi
              rw [hA] at hgk
              simp only [std, stdCmp, decide_eq_true_eq, hc] at hgk
              have hkm : k < m := by omega
              have him : i < m1 := by omega
              have hlt : i * m + k < m1 * m := by
                have : (i + 1) * m ≤ m1 * m := Nat.mul_le_mul_right _ him
                rw [Nat.add_mul] at this
                omega
              have hcast : (i : Int) * r2 + (k : Int) = ((i * m + k : Nat) : Int) := by rw [hm, Int.natCast_add, Int.natCast_mul]
              have hb := mulB (a := (i : Int)) (b := r2) (A := 8192) (B := 8192) (by omega) (by omega) (by omega) (by omega)
              have ei : IntKind.i64.wrap (IntKind.i64.wrap ((i : Int) * r2) + (k : Int)) = ((i * m + k : Nat) : Int) := by rw [w64 (z := (i : Int) * r2) (by omega) (by omega), w64 (by omega) (by omega), hcast]
              have etl : IntKind.i64.wrap (32 * (x : Int) + 32) = 32 * (x : Int) + 32 := w64 (by omega) (by omega)
              have emin : (if q < 32 * (x : Int) + 32 then q else 32 * (x : Int) + 32) = ((min (32 * (x + 1)) Q : Nat) : Int) := by split <;> omega
              refine ⟨?_, ?_, ?_, k + 1, ?_, ?_, ?_⟩
              · rw [hA]; simp only [std, stdBin, hc, ei, hT, mixL_len]; omega
              · rw [hA, hp]
                simp only [std, stdBin, hc, hfr, etl, emin, partP, sm]
                refine ⟨by omega, by omega, p3, p4, p5, p6, by omega, by omega, by omega, fun y hy1 hy2 => ?_⟩
                exact p9 _ _ _ (by omega) hgi (by omega) hgk (by omega) (by omega)
              · rw [hA]; simp only [std, stdBin, hc, ei, hT, mixL_len]; omega
              · show ((k + 1 : Nat) : Int) ≤ r2; omega
              · cbv
                simp only [nc] at hm1 hm hQ hfr hc hx hi hk hg hgi hgk ei etl emin hcast
                simp only [Int.ofNat_eq_natCast] at hm1 hm hQ hfr hc hx hi hk hg hgi hgk ei etl emin hcast
                rw [hA, hr]
                simp only [std, stdBin, hc, hfr, etl, emin, ei, partR]
                have e1 : IntKind.i64.wrap ((k : Int) + 1) = ((k.succ : Nat) : Int) := by rw [w64 (by omega) (by omega)]; omega
                rw [e1]
                repeat' apply And.intro
                any_goals first | exact True.intro | with_reducible rfl | exact congrArg (Value.int .i64) (by omega)
                rw [Int.toNat_natCast, hT]
                simp only
                rw [mixL_get _ _ hlt, if_neg (Nat.lt_irrefl _)]
                have ed : (i * m + k) / m = i ∧ (i * m + k) % m = k := by
                  constructor
                  · rw [Nat.mul_comm, Nat.mul_add_div (by omega), Nat.div_eq_of_lt hkm, Nat.add_zero]
                  · rw [Nat.mul_comm, Nat.mul_add_mod, Nat.mod_eq_of_lt hkm]
                have el : min (32 * (x + 1)) Q = min (32 * x) Q + (((min (32 * (x + 1)) Q : Nat) : Int) - 32 * (x : Int)).toNat := by omega
                have es : lo x (i * m + k) + sumTo (prI ⟨D1, r1, n1, s1⟩ ⟨D2, r2, n2, s2⟩ (i : Int) (k : Int)) (32 * (x : Int)) (((min (32 * (x + 1)) Q : Nat) : Int) - 32 * (x : Int)).toNat = lo (x + 1) (i * m + k) := by
                  rw [hlo]
                  simp only [dt]
                  rw [ed.1, ed.2]
                  conv => rhs; rw [el]
                  rw [sumTo_add]
                  congr 2
                  omega
                have g4 := sumTo_in _ 0 (prI_in (a := ⟨D1, r1, n1, s1⟩) (b := ⟨D2, r2, n2, s2⟩) h1 h2 (i : Int) (k : Int)) (min (32 * (x + 1)) Q)
                have g5 : lo (x + 1) (i * m + k) = sumTo (prI ⟨D1, r1, n1, s1⟩ ⟨D2, r2, n2, s2⟩ (i : Int) (k : Int)) 0 (min (32 * (x + 1)) Q) := by rw [hlo]; simp only [dt]; rw [ed.1, ed.2]
                rw [es, w32 (by omega) (by omega), mixL_set _ _ hlt]
                rfl
              · show (r2 - ((k + 1 : Nat) : Int)).toNat < (r2 - (k : Int)).toNat; omega
            · simp only [nc] at hm1 hm hQ hfr hc hx hi hk hg hgi
              simp only [Int.ofNat_eq_natCast] at hm1 hm hQ hfr hc hx hi hk hg hgi
              rw [hA] at hgk
              simp only [std, stdCmp, Bool.not_true, decide_eq_false_iff_not, hc] at hgk
              have hkm : k = m := by omega
              refine ⟨i + 1, ?_, ?_, ?_⟩
              · show ((i + 1 : Nat) : Int) ≤ r1; omega
              · cbv
                simp only [nc] at hm1 hm hQ hfr hc hx hi hk hg hgi
                simp only [Int.ofNat_eq_natCast] at hm1 hm hQ hfr hc hx hi hk hg hgi
                rw [hA]
                simp only [std, stdBin, hc]
                have e1 : IntKind.i64.wrap ((i : Int) + 1) = ((i.succ : Nat) : Int) := by rw [w64 (by omega) (by omega)]; omega
                rw [e1, hT, hM]
                simp only
                rw [hkm, Nat.succ_mul]
                repeat' apply And.intro
                all_goals first | exact True.intro | rfl
              · show (r1 - ((i + 1 : Nat) : Int)).toNat < (r1 - (i : Int)).toNat; omega
        · simp only [nc] at hm1 hm hQ hfr hc hx hi hg
          simp only [Int.ofNat_eq_natCast] at hm1 hm hQ hfr hc hx hi hg
          rw [hA] at hgi
          simp only [std, stdCmp, Bool.not_true, decide_eq_false_iff_not, hc] at hgi
          have him : i = m1 := by omega
          refine ⟨x + 1, ?_, ?_, ?_⟩
          · show 32 * ((x + 1 : Nat) : Int) ≤ q + 31; omega
          · cbv
            simp only [nc] at hm1 hm hQ hfr hc hx hi hg
            simp only [Int.ofNat_eq_natCast] at hm1 hm hQ hfr hc hx hi hg
            rw [hA]
            simp only [std, stdBin, hfr]
            have e1 : IntKind.i64.wrap (32 * (x : Int) + 32) = 32 * ((x.succ : Nat) : Int) := by rw [w64 (by omega) (by omega)]; omega
            rw [e1, hM, hS]
            repeat' apply And.intro
            any_goals first | exact True.intro | with_reducible rfl | exact congrArg (Value.int .i64) (by omega)
            rw [him]
            exact mixL_eq _ _ _ _ _ _ _ fun j hj => by rw [if_pos hj, if_neg (Nat.not_lt_zero _)]
          · show (q + 31 - 32 * ((x + 1 : Nat) : Int)).toNat < (q + 31 - 32 * (x : Int)).toNat; omega
    · simp only [nc] at hm1 hm hQ hfr hc hx
      simp only [Int.ofNat_eq_natCast] at hm1 hm hQ hfr hc hx
      rw [hA] at hg
      simp only [std, stdCmp, Bool.not_true, decide_eq_false_iff_not, hfr] at hg
      refine ⟨?_, trivial⟩
      rw [hS, hR, hlo]
      have e : min (32 * x) Q = Q := by omega
      simp only [mixL, mulL]
      apply List.map_congr_left
      intro j hj
      rw [if_neg (Nat.not_lt_zero _), e]
theorem mul_ok : CtrOk Try.prog 50 (mulC mulP mulR) := by
  refine fn_ok (ck := false) Try.func50 rfl tt_ok (G := [(66, partC partP partR)]) ⟨⟨part_ok, by unfold FnOk; kernel_rfl⟩, trivial⟩ mixed (by kernel_rfl) ?_
  intro xa xs h hx hp
  obtain ⟨a1, as1, x1, xs1, rfl, rfl, h1, h⟩ := svArgs_cons h
  obtain ⟨a2, as2, x2, xs2, rfl, rfl, h2, h⟩ := svArgs_cons h
  obtain ⟨a3, as3, x3, xs3, rfl, rfl, h3, h⟩ := svArgs_cons h
  obtain ⟨rfl, rfl⟩ := svArgs_nil h
  obtain ⟨a, rfl, rfl⟩ := argSV_ln h1
  obtain ⟨b, rfl, rfl⟩ := argSV_ln h2
  obtain ⟨q, rfl, rfl⟩ := argSV_int h3
  have hp : mulP a b q := hp _ rfl
  have f1 := (hx a.sv (by simp)) (.iimm .i8 a.data) (by simp)
  have f2 := (hx b.sv (by simp)) (.iimm .i8 b.data) (by simp)
  obtain ⟨p1, p2, _, _, _, _, p7, _⟩ := id hp
  simp only [sm] at p1 p2
  exact mul_vc _ rfl _ rfl _ rfl a.data b.data _ _ _ _ _ _ q _ a.rows.toNat b.rows.toNat q.toNat (by omega) (by omega) (by omega) f1.1 f2.1 hp rfl _ rfl _ rfl _ rfl _ rfl (fun x : Nat => 32 * (x : Int)) (fun x : Nat => (x : Int)) (fun _ => rfl) (fun _ => rfl)
end Go.Proofs.Ytcbcfajihbbdcaa
