/- Layer 16: the counterpart of a net's check. -/
import Derived.Test.YtnjipnklbdlgaaaChkK
namespace Go.Proofs.Ytnjipnklbdlgaaa
open Go.RowKit
set_option maxRecDepth 1000000
set_option linter.unusedSimpArgs false
set_option linter.unusedVariables false
set_option maxHeartbeats 16000000
set_option cbv.maxSteps 10000000
/-- How far there is room. -/
def lead (g : Nat → Bool) : Nat → Nat
  | 0 => 0
  | n + 1 => if allTo g (n + 1) = true then n + 1 else lead g n
theorem allTo_le {g : Nat → Bool} : ∀ {n m : Nat}, m ≤ n → allTo g n = true → allTo g m = true
  | 0, m, h, h2 => by have : m = 0 := by omega
                      subst this; exact h2
  | n + 1, m, h, h2 => by
    by_cases e : m = n + 1
    · subst e; exact h2
    · simp only [allTo, Bool.and_eq_true] at h2
      exact allTo_le (n := n) (by omega) h2.1
theorem lead_hit {g : Nat → Bool} {k : Nat} (h : allTo g k = true) (h2 : g k = false) : ∀ n, k ≤ n → lead g n = k
  | 0, hn => by have : k = 0 := by omega
                subst this; rfl
  | n + 1, hn => by
    unfold lead
    by_cases e : k = n + 1
    · subst e; rw [if_pos h]
    · rw [if_neg (by rw [allTo_false (x := k) (by omega) h2]; simp)]
      exact lead_hit h h2 n (by omega)
theorem lead_all {g : Nat → Bool} {n : Nat} (h : allTo g n = true) : lead g n = n := by
  cases n with
  | zero => rfl
  | succ n => unfold lead; rw [if_pos h]
/-- The first layer whose sums are too long. -/
def badI (c h w : Int) (x : Dat) (b : Int) : Nat → Int
  | 0 => 0
  | k + 1 => if badI c h w x b k = 0 ∧ fitsN (prdI c h w x b k) = false then (k : Int) + 1 else badI c h w x b k
def badJ (c h w : Int) (x : Dat) (b : Int) (k j : Nat) : Int := if badI c h w x b k = 0 ∧ ((lnI c h w x b k).take j).all fitsN = false then (k : Int) + 1 else badI c h w x b k
theorem bad_in (c h w : Int) (x : Dat) (b : Int) : ∀ k, 0 ≤ badI c h w x b k ∧ badI c h w x b k ≤ k
  | 0 => by simp [badI]
  | k + 1 => by
    have := bad_in c h w x b k
    unfold badI
    split <;> omega
theorem bad_zero {c h w : Int} {x : Dat} {b : Int} : ∀ {k}, badI c h w x b k = 0 → ∀ i, i < k → fitsN (prdI c h w x b i) = true
  | 0, _, i, hi => absurd hi (Nat.not_lt_zero _)
  | k + 1, hb, i, hi => by
    unfold badI at hb
    split at hb
    · omega
    · rename_i hn
      by_cases e : i = k
      · subst e
        cases hf : fitsN (prdI c h w x b i) with
        | true => rfl
        | false => exact absurd ⟨hb, hf⟩ hn
      · exact bad_zero hb i (by omega)
theorem bad_pos {c h w : Int} {x : Dat} {b : Int} : ∀ {k}, ¬ badI c h w x b k = 0 → ∃ i, i < k ∧ badI c h w x b k = (i : Int) + 1 ∧ fitsN (prdI c h w x b i) = false ∧ ∀ j, j < i → fitsN (prdI c h w x b j) = true
  | 0, hb => absurd rfl hb
  | k + 1, hb => by
    unfold badI at hb ⊢
    split
    · rename_i hn
      exact ⟨k, by omega, rfl, hn.2, bad_zero hn.1⟩
    · rename_i hn
      rw [if_neg hn] at hb
      obtain ⟨i, h1, h2, h3, h4⟩ := bad_pos hb
      exact ⟨i, by omega, h2, h3, h4⟩
theorem badJ_zero (c h w : Int) (x : Dat) (b : Int) (k : Nat) : badJ c h w x b k 0 = badI c h w x b k := by
  unfold badJ; rw [if_neg (by simp)]
theorem take_all {l : List Int} {j : Nat} (h : j < l.length) : (l.take (j + 1)).all fitsN = ((l.take j).all fitsN && fitsN (l.getD j 0)) := by
  rw [← List.take_append_getElem h, List.all_append, List.getD_eq_getElem?_getD, List.getElem?_eq_getElem h]
  simp
theorem badJ_yes {c h w : Int} {x : Dat} {b : Int} {k j : Nat} (hj : j < (lnI c h w x b k).length) (h1 : fitsN ((lnI c h w x b k).getD j 0) = false) (h2 : badJ c h w x b k j = 0) : badJ c h w x b k (j + 1) = (k : Int) + 1 := by
  unfold badJ at h2 ⊢
  split at h2
  · omega
  · rw [if_pos ⟨h2, by rw [take_all hj, h1, Bool.and_false]⟩]
theorem badJ_no {c h w : Int} {x : Dat} {b : Int} {k j : Nat} (hj : j < (lnI c h w x b k).length) (h1 : fitsN ((lnI c h w x b k).getD j 0) = true ∨ ¬ badJ c h w x b k j = 0) : badJ c h w x b k (j + 1) = badJ c h w x b k j := by
  unfold badJ at h1 ⊢
  rw [take_all hj]
  rcases h1 with h1 | h1
  · rw [h1, Bool.and_true]
  · split at h1
    · rename_i hn
      rw [if_pos hn, if_pos ⟨hn.1, by rw [hn.2]; rfl⟩]
    · rename_i hn
      rw [if_neg (fun q => h1 q.1), if_neg hn]
theorem badJ_all {c h w : Int} {x : Dat} {b : Int} {k j : Nat} (hj : j = (lnI c h w x b k).length) (hf : (lnI c h w x b k).all fitsN = fitsN (prdI c h w x b k)) : badJ c h w x b k j = badI c h w x b (k + 1) := by
  subst hj
  unfold badJ
  rw [List.take_length, hf]
  rfl
def rlF (xa : List AV) : Int := match xa with
  | [.st [.st [.z c, .z h, .z w], .d x], .z n, .z b] => if (netR c h w x n b).2 = 0 ∨ (netR c h w x n b).2 = 3 then longUp c h w x b (lead (roomI c h w x b) x.ls.length) else 0
  | _ => 0
def threeC (ts : List Ty) (e f g : List AV → Int) : Ctr := ⟨ts, fun _ => none, fun xa => .ret (.tup [.v (.int .i64 (e xa)), .v (.int .i64 (f xa)), .v (.int .i64 (g xa))]) [], false⟩
theorem shp_err {c h w : Int} {x : Dat} (h0 : ¬ (shpR c h w x).2 = 0) : (shpR c h w x).2 = 1 ∨ (shpR c h w x).2 = 2 := by
  unfold shpR at h0 ⊢
  split
  · rename_i hm
    rw [if_pos hm] at h0
    by_cases he : ∃ i, i < x.ls.length ∧ ¬ shErr c h w x i = 0
    · obtain ⟨i, h1, h2⟩ := he
      obtain ⟨k, hk, hmin⟩ := least (fun i => i < x.ls.length ∧ ¬ shErr c h w x i = 0) i ⟨h1, h2⟩
      rw [lowE_hit hk.1 (fun j hj => by
        cases Classical.em (shErr c h w x j = 0) with
        | inl h => exact h
        | inr h => exact absurd ⟨by omega, h⟩ (hmin j hj)) hk.2]
      unfold shErr
      split
      · simp
      · split
        · simp
        · rename_i a b
          have := hk.2
          unfold shErr at this
          rw [if_neg a, if_neg b] at this
          exact absurd rfl this
    · have hz : ∀ i, i < x.ls.length → shErr c h w x i = 0 := fun i hi => by
        cases Classical.em (shErr c h w x i = 0) with
        | inl h => exact h
        | inr h => exact absurd ⟨i, hi, h⟩ he
      rw [lowE_none hz] at h0
      exact absurd rfl h0
  · simp
theorem ckrfits_ok : CtrOk Try.prog 44 (boolC [.int .i64] fitsF) := by
  obtain ⟨G, hG⟩ : ∃ G : List (FuncId × Ctr), G = [] := ⟨_, rfl⟩
  refine fn_ok (ck := true) Try.func44 rfl tt_ok (G := G) (by rw [hG]; exact trivial) mixed (by kernel_rfl) ?_
  intro xa xs h hx hp
  obtain ⟨a0, as0, x0, xs0, rfl, rfl, h0, H1⟩ := svArgs_cons h
  obtain ⟨rfl, rfl⟩ := svArgs_nil H1
  obtain ⟨n, rfl, rfl⟩ := argSV_int h0
  have sn := of_i64 (hx (.v (.int .i64 n)) (by simp))
  have SN := Lib.hid sn
  clear sn
  clear hx hp h h0 H1
  generalize hA : std = A
  subst hG
  generalize h_c : ci = c
  generalize h_fR : fitsF = fR
  cbv
  (repeat' (first | apply And.intro | apply BrB.mk | apply BrP.mk | intro _))
  (all_goals (subst hA; subst h_c; subst h_fR); all_goals (have f_sn := SN.out); all_goals (try simp only [std, stdBin, stdCmp, stdUna, stdIn, ci, beq_iff_eq, bne_iff_ne, beq_eq_false_iff_ne, bne_eq_false_iff_eq, decide_eq_true_eq, decide_eq_false_iff_not, Bool.not_true, Bool.not_false, Bool.not_eq_true', Bool.not_eq_false', Bool.not_not, tn0, tn1, tn2, tn3, fitsF] at *); all_goals (try omega))
  all_goals (have hp : (2 : Int) ^ Int.toNat 14 = 16384 := rfl)
  all_goals (try rw [hp])
  all_goals first | omega | (refine vb ?_; unfold fitsN; first | (rw [decide_eq_decide]; omega) | (rw [decide_eq_false_iff_not]; omega) | (rw [decide_eq_true_eq]; omega))
theorem one_eq {t : List Int} {n : Int} : t = [n] ↔ t.length = 1 ∧ t.getD 0 0 = n := by
  constructor
  · rintro rfl; exact ⟨rfl, rfl⟩
  · rintro ⟨h1, h2⟩
    match t, h1, h2 with
    | [a], _, h2 => simp at h2; rw [h2]
theorem allTo_at {g : Nat → Bool} {n : Nat} (h : allTo g n = true) (i : Nat) (hi : i < n) : g i = true := by
  have := allTo_le (m := i + 1) (by omega) h
  simp only [allTo, Bool.and_eq_true] at this
  exact this.2
theorem net_fit {c h w : Int} {x : Dat} {b : Int} {k : Nat} (hl : layN (layI x k 0) (layI x k 1) (layI x k 2)) (y1 : mayD (shT c h w x k) = true) (y2 : mayD (shT c h w x (k + 1)) = true) (y4 : layI x k 0 = 2 → (shT c h w x (k + 1)).length = 3) (hb : 1 ≤ b ∧ b ≤ 8) : (lnI c h w x b k).all fitsN = fitsN (prdI c h w x b k) := by
  have q1 := mayD_len y1
  have q2 := mayD_at y1 (i := 0) (by omega)
  unfold layN at hl
  unfold lnI prdI
  refine ln_fit (fun h1 => ?_) (fun h2 => ?_)
  · have := hl.1 h1; omega
  · have h3 := hl.2 h2
    have h4 := y4 h2
    have g1 := mayD_at y2 (i := 1) (by omega)
    have g2 := mayD_at y2 (i := 2) (by omega)
    have m1 := mulI (a := (shT c h w x k).getD 0 0) (b := layI x k 2) (A := 4096) (B := 5) (by omega) (by omega)
    have m2 := mulI (b := layI x k 2) (B := 5) m1 (by omega)
    have n1 := mulI (a := layI x k 1) (b := layI x k 2) (A := 8) (B := 5) (by omega) (by omega)
    have n2 := mulI (b := layI x k 2) (B := 5) n1 (by omega)
    have k1 := mulI (a := b) (b := (shT c h w x (k + 1)).getD 1 0) (A := 8) (B := 4096) (by omega) (by omega)
    have k2 := mulI (b := (shT c h w x (k + 1)).getD 2 0) (B := 4096) k1 (by omega)
    exact ⟨m2.1, n2.1, k2.1⟩
theorem rnet_ok : CtrOk Try.prog 16 (threeC [mdlTy, .int .i64, .int .i64] rlF netN netF) := by
  obtain ⟨G, hG⟩ : ∃ G : List (FuncId × Ctr), G = [(40, boolC [.int .i64, .int .i64, .int .i64] inF), (41, rowIC [layTy, .sl (.int .i64)] 3 dmP dmVF dmNF), (43, rowP [layTy, .sl (.int .i64), .sl (.int .i64), .int .i64] 3 .i64 prdP lnF), (42, intC [.sl (.int .i64)] .i64 szF), (28, boolC [.sl (.int .i64)] shMayF), (14, boolC [.sl (.int .i64), .sl (.int .i64)] eqF), (44, boolC [.int .i64] fitsF)] := ⟨_, rfl⟩
  refine fn_inl2 (ck := true) rfl [(13, shpC shpE shpN shpD)] ⟨⟨by unfold FnOk; kernel_rfl, rshapes_ok⟩, trivial⟩ [] trivial Try.func16 rfl tt_ok (G := G) (by rw [hG]; exact ⟨⟨rin10_ok, by unfold FnOk; kernel_rfl⟩, ⟨rdims_ok, by unfold FnOk; kernel_rfl⟩, ⟨rlens_ok, by unfold FnOk; kernel_rfl⟩, ⟨rsize_ok, by unfold FnOk; kernel_rfl⟩, ⟨rmay_ok, by unfold FnOk; kernel_rfl⟩, ⟨rsame_ok, by unfold FnOk; kernel_rfl⟩, ⟨ckrfits_ok, by unfold FnOk; kernel_rfl⟩, trivial⟩) mixed (by kernel_rfl) ?_
  intro xa xs h hx hp
  obtain ⟨a0, as0, x0, xs0, rfl, rfl, h0, H1⟩ := svArgs_cons h
  obtain ⟨a1, as1, x1, xs1, rfl, rfl, h1, H2⟩ := svArgs_cons H1
  obtain ⟨a2, as2, x2, xs2, rfl, rfl, h2, H3⟩ := svArgs_cons H2
  obtain ⟨rfl, rfl⟩ := svArgs_nil H3
  obtain ⟨mc, mh, mw, mx, rfl, rfl⟩ := argSV_mdl h0
  obtain ⟨n, rfl, rfl⟩ := argSV_int h1
  obtain ⟨b, rfl, rfl⟩ := argSV_int h2
  have sm : (-9223372036854775808 ≤ mc ∧ mc ≤ 9223372036854775807) ∧ (-9223372036854775808 ≤ mh ∧ mh ≤ 9223372036854775807) ∧ (-9223372036854775808 ≤ mw ∧ mw ≤ 9223372036854775807) ∧ ((ci mx.ls.length ≤ 9223372036854775807) ∧ Wt (.sl layTy) mx) := svf_mdl (hx (.agg [.v (.int .i64 mc), .v (.int .i64 mh), .v (.int .i64 mw), .imm layTy mx]) (List.mem_of_getElem? (i := 0) rfl))
  have sn := of_i64 (hx (.v (.int .i64 n)) (by simp))
  have sb := of_i64 (hx (.v (.int .i64 b)) (by simp))
  have SM := Lib.hid sm
  clear sm
  have SN := Lib.hid sn
  clear sn
  have SB := Lib.hid sb
  clear sb
  clear hx hp h h0 H1 h1 H2 h2 H3
  generalize hA : std = A
  subst hG
  generalize h_c : ci = c
  generalize h_fe : shpE = fe
  generalize h_fN : shpN = fN
  generalize h_fD : shpD = fD
  generalize h_fi : inF = fi
  generalize h_fv : dmVF = fv
  generalize h_fn : dmNF = fn
  generalize h_fp : dmP = fp
  generalize h_fl : lnF = fl
  generalize h_pl : prdP = pl
  generalize h_fz : szF = fz
  generalize h_fm : shMayF = fm
  generalize h_fs : eqF = fs
  generalize h_ff : fitsF = ff
  generalize h_gL : rlF = gL
  generalize h_gN : netN = gN
  generalize h_gE : netF = gE
  obtain ⟨L, hL⟩ : ∃ L : Nat → Int, ∀ k, L k = longUp mc mh mw mx b k := ⟨_, fun _ => rfl⟩
  obtain ⟨T, hT⟩ : ∃ T : Nat → Nat → Int, ∀ k j, T k j = foldM ((lnI mc mh mw mx b k).take j) (longUp mc mh mw mx b k) := ⟨_, fun _ _ => rfl⟩
  obtain ⟨B, hB⟩ : ∃ B : Nat → Int, ∀ k, B k = badI mc mh mw mx b k := ⟨_, fun _ => rfl⟩
  obtain ⟨Y, hY⟩ : ∃ Y : Nat → Nat → Int, ∀ k j, Y k j = badJ mc mh mw mx b k j := ⟨_, fun _ _ => rfl⟩
  have HL := Lib.hid hL
  have HT := Lib.hid hT
  have HB := Lib.hid hB
  have HY := Lib.hid hY
  clear hL hT hB hY
  cbv
  (repeat' (first | apply And.intro | apply BrB.mk | apply BrP.mk | intro _))
  (all_goals try (exfalso; (subst hA; subst h_c; subst h_fe; subst h_fN; subst h_fD; subst h_fi; subst h_fv; subst h_fn; subst h_fp; subst h_fl; subst h_pl; subst h_fz; subst h_fm; subst h_fs; subst h_ff; subst h_gL; subst h_gN; subst h_gE); (try simp only [std, stdBin, stdCmp, stdUna, stdIn, ci, beq_iff_eq, bne_iff_ne, beq_eq_false_iff_ne, bne_eq_false_iff_eq, decide_eq_true_eq, decide_eq_false_iff_not, Bool.not_true, Bool.not_false, Bool.not_eq_true', Bool.not_eq_false', Bool.not_not, tn0, tn1, tn2, tn3] at *); first | omega | contradiction))
  all_goals try (refine loop_at Nat 56 (fun k => [(6, .v (.int .i64 0)), (7, .v (.int .i64 0)), (8, .v (.int .i64 0)), (12, .v (.int .i64 (L k))), (13, .v (.int .i64 (B k))), (14, .any), (15, .any), (16, .any), (17, .any), (18, .any), (19, .any), (21, .any), (56, .v (.int .i64 (c k)))]) (fun k o => o) (fun k => k ≤ mx.ls.length ∧ allTo (roomI mc mh mw mx b) k = true) (fun k => mx.ls.length - k) 0 ⟨Nat.zero_le _, rfl⟩ ?_ ?_
                 focus
                   show AS.le _ _
                   cbv
                   (repeat' (first | apply And.intro | apply BrB.mk | apply BrP.mk | intro _))
                   (all_goals (subst hA; subst h_c; subst h_fe; subst h_fN; subst h_fD; subst h_fi; subst h_fv; subst h_fn; subst h_fp; subst h_fl; subst h_pl; subst h_fz; subst h_fm; subst h_fs; subst h_ff; subst h_gL; subst h_gN; subst h_gE); all_goals (have f_sm := SM.out; have f_sn := SN.out; have f_sb := SB.out); all_goals (try simp only [std, stdBin, stdCmp, stdUna, stdIn, ci, beq_iff_eq, bne_iff_ne, beq_eq_false_iff_ne, bne_eq_false_iff_eq, decide_eq_true_eq, decide_eq_false_iff_not, Bool.not_true, Bool.not_false, Bool.not_eq_true', Bool.not_eq_false', Bool.not_not, tn0, tn1, tn2, tn3] at *); all_goals (try omega))
                   all_goals first | exact True.intro | rfl | (rw [HL.out]; rfl) | (rw [HB.out]; rfl)
                   done)
  all_goals try (rintro k ⟨hk, hE⟩; cbv; refine BrB.mk (fun gx => ?_) (fun gx => ?_))
  all_goals (repeat' (first | apply And.intro | apply BrB.mk | apply BrP.mk | intro _))
  all_goals try (refine loop_at Nat 110 (fun j => [(12, .v (.int .i64 (T k j))), (13, .v (.int .i64 (Y k j))), (21, .any), (110, .v (.int .i64 (c j)))]) (fun j o => o) (fun j => j ≤ (lnI mc mh mw mx b k).length) (fun j => (lnI mc mh mw mx b k).length - j) 0 (Nat.zero_le _) ?_ ?_
                 focus
                   show AS.le _ _
                   cbv
                   (repeat' (first | apply And.intro | apply BrB.mk | apply BrP.mk | intro _))
                   (all_goals (subst hA; subst h_c; subst h_fe; subst h_fN; subst h_fD; subst h_fi; subst h_fv; subst h_fn; subst h_fp; subst h_fl; subst h_pl; subst h_fz; subst h_fm; subst h_fs; subst h_ff; subst h_gL; subst h_gN; subst h_gE); all_goals (have f_sm := SM.out; have f_sn := SN.out; have f_sb := SB.out); all_goals (try simp only [std, stdBin, stdCmp, stdUna, stdIn, ci, beq_iff_eq, bne_iff_ne, beq_eq_false_iff_ne, bne_eq_false_iff_eq, decide_eq_true_eq, decide_eq_false_iff_not, Bool.not_true, Bool.not_false, Bool.not_eq_true', Bool.not_eq_false', Bool.not_not, tn0, tn1, tn2, tn3] at *); all_goals (try omega))
                   all_goals first | exact True.intro | rfl | (rw [HL.out, HT.out]; rfl) | (rw [HB.out, HY.out, badJ_zero]; done)
                   done)
  all_goals try (intro j hj; cbv; refine BrB.mk (fun gj => ?_) (fun gj => ?_))
  all_goals (repeat' (first | apply And.intro | apply BrB.mk | apply BrP.mk | intro _))
  all_goals try first
    | (have _ : _ = true := gj; refine ⟨j + 1, ?_, ?_, ?_⟩)
    | (have _ : _ = true := gx; refine ⟨k + 1, ?_, ?_, ?_⟩)
  all_goals try (show AS.le _ _; cbv; (repeat' (first | apply And.intro | apply BrB.mk | apply BrP.mk | intro _)))
  (all_goals (subst hA; subst h_c; subst h_fe; subst h_fN; subst h_fD; subst h_fi; subst h_fv; subst h_fn; subst h_fp; subst h_fl; subst h_pl; subst h_fz; subst h_fm; subst h_fs; subst h_ff; subst h_gL; subst h_gN; subst h_gE); all_goals (have f_sm := SM.out; have f_sn := SN.out; have f_sb := SB.out); all_goals (try simp only [std, stdBin, stdCmp, stdUna, stdIn, ci, beq_iff_eq, bne_iff_ne, beq_eq_false_iff_ne, bne_eq_false_iff_eq, decide_eq_true_eq, decide_eq_false_iff_not, Bool.not_true, Bool.not_false, Bool.not_eq_true', Bool.not_eq_false', Bool.not_not, tn0, tn1, tn2, tn3, inF, inB, netN, netF, rlF, shpE, shpN, shpD, rowsD_at', rowsD_len, shp_len, dmVF, dmNF, dmP, lnF, prdP, shMayF, szF, eqF, fitsF, Int.toNat_natCast] at *); all_goals (try omega))
  all_goals (try first | exact True.intro | exact congrArg (Value.int .i64) (Int.natCast_succ _).symm | omega)
  all_goals first
    | (have hz : ¬ (shpR mc mh mw mx).2 = 0 := (by assumption)
       have hs := shp_err hz
       have hv := net_a (n := n) (b := b) hz
       first | (rw [hv]; done) | (rw [hv, if_neg (by omega)]; done) | trace "A")
    | (have hz : (shpR mc mh mw mx).2 = 0 := (by assumption)
       obtain ⟨hm, hS⟩ := shpR_ok hz
       obtain ⟨m1, m2, m3, m4, m5⟩ := mdl_of hm
       have e0 : (((mx.ls.length + 1 : Nat) : Int) - 1).toNat = mx.ls.length := (by omega)
       have e5 : (shp mc mh mw mx mx.ls.length).getD mx.ls.length [] = shT mc mh mw mx mx.ls.length := shp_at (Nat.le_refl _)
       simp only [e0, e5, decide_eq_true_eq, decide_eq_false_iff_not] at *
       first
         | omega
         | (have hv : netR mc mh mw mx n b = (0, 1) := net_b hz (by omega)
            first | (rw [hv]; done) | (simp [hv]; done) | trace "B")
         | (have hg : (2 ≤ n ∧ n ≤ 10) ∧ 1 ≤ b ∧ b ≤ 8 := ⟨⟨by omega, by omega⟩, by omega, by omega⟩
            first
              | (have hne : ¬ shT mc mh mw mx mx.ls.length = [n] := (by assumption)
                 have hc : clsB (shT mc mh mw mx mx.ls.length) n = false := decide_eq_false (fun q => hne (one_eq.2 q))
                 have hv := net_c hz hg hc
                 first | (rw [hv]; done) | (simp [hv]; done) | trace "D")
              | (have heq : shT mc mh mw mx mx.ls.length = [n] := (by assumption)
                 have hc : clsB (shT mc mh mw mx mx.ls.length) n = true := decide_eq_true (one_eq.1 heq)
                 have hd := net_d hz hg hc
                 first
                   | (have hkn : k < mx.ls.length := (by omega)
                      have e1 : ((k : Int) + 1).toNat = k + 1 := (by omega)
                      have e3 : (shp mc mh mw mx mx.ls.length).getD k [] = shT mc mh mw mx k := shp_at (by omega)
                      have e4 : (shp mc mh mw mx mx.ls.length).getD (k + 1) [] = shT mc mh mw mx (k + 1) := shp_at (by omega)
                      have hl := lay_N (m5 k hkn)
                      have y1 := shT_may hm hS k (by omega)
                      have y2 := shT_may hm hS (k + 1) (by omega)
                      have y3 := mayD_len y1
                      have z1 := szD_in (shT mc mh mw mx k)
                      have z2 := szD_in (shT mc mh mw mx (k + 1))
                      have y4 := shT_three (c := mc) (h := mh) (w := mw) (x := mx) (i := k)
                      have hdm := dm_room hl y1
                      have hrm : roomI mc mh mw mx b k = decide (b * szD (shT mc mh mw mx k) ≤ 8192 ∧ b * szD (shT mc mh mw mx (k + 1)) ≤ 8192 ∧ wgtV (layI mx k 0) (layI mx k 1) (layI mx k 2) ((shT mc mh mw mx k).getD 0 0) ≤ 8192) := rfl
                      have hln : lnI mc mh mw mx b k = lnV (layI mx k 0) (layI mx k 1) (layI mx k 2) ((shT mc mh mw mx k).getD 0 0) ((shT mc mh mw mx (k + 1)).getD 1 0) ((shT mc mh mw mx (k + 1)).getD 2 0) b := rfl
                      have hl3 : (lnI mc mh mw mx b k).length ≤ 3 := lnV_len _ _ _ _ _ _ _
                      have hfit : (lnI mc mh mw mx b k).all fitsN = fitsN (prdI mc mh mw mx b k) := net_fit hl y1 y2 y4 hg.2
                      unfold layI at hl hdm hrm hln y4
                      simp only [e1, e3, e4, ← hln] at *
                      have p1 := mulI (a := b) (b := szD (shT mc mh mw mx k)) (A := 8) (B := 8192) (by omega) (by omega)
                      have p2 := mulI (a := b) (b := szD (shT mc mh mw mx (k + 1))) (A := 8) (B := 8192) (by omega) (by omega)
                      have bi := bad_in mc mh mw mx b k
                      have hB := HB.out k
                      first
                        | omega
                        | exact ⟨hl, y1, y2, y4, hg.2.1, hg.2.2⟩
                        | (have hf : roomI mc mh mw mx b k = false := (by rw [hrm]; refine decide_eq_false ?_; first | omega | (have hq := hdm.1 ⟨by omega, by assumption⟩; omega))
                           have hlead := lead_hit hE hf mx.ls.length (by omega)
                           first
                             | (have hb0 : badI mc mh mw mx b k = 0 := (by omega)
                                have hE2 : ∀ i, i < k → netE mc mh mw mx b i = 0 := fun i hi => netE_zero (allTo_at hE i hi) (bad_zero hb0 i hi)
                                have he : netE mc mh mw mx b k = 1 := netE_one hf
                                have hv : netR mc mh mw mx n b = ((k : Int) + 1, 1) := by rw [hd, lowE_hit hkn hE2 (by rw [he]; decide), he]
                                first | (rw [hv]; done) | (simp [hv]; done) | trace "E")
                             | (have hb0 : ¬ badI mc mh mw mx b k = 0 := (by omega)
                                obtain ⟨i, i1, i2, i3, i4⟩ := bad_pos hb0
                                have hE2 : ∀ q, q < i → netE mc mh mw mx b q = 0 := fun q hq => netE_zero (allTo_at hE q (by omega)) (i4 q hq)
                                have he : netE mc mh mw mx b i = 3 := netE_three (allTo_at hE i i1) i3
                                have hv : netR mc mh mw mx n b = ((i : Int) + 1, 3) := by rw [hd, lowE_hit (by omega) hE2 (by rw [he]; decide), he]
                                first | (rw [hv]; done) | (rw [hv, hB, i2]; done) | (simp [hv, hlead, HL.out]; done) | trace "F"))
                        | (refine ⟨by omega, ?_⟩
                           have hn : ¬ 8192 < wgtV ((mx.at k).fld 0).z ((mx.at k).fld 1).z ((mx.at k).fld 2).z ((shT mc mh mw mx k).getD 0 0) := (fun q => by have q2 := hdm.2 q; first | omega | (obtain ⟨q3, q4⟩ := q2; simp_all))
                           have hf : roomI mc mh mw mx b k = true := (by rw [hrm]; refine decide_eq_true ?_; omega)
                           simp only [allTo, hE, hf, Bool.and_self])
                        | (show _ = Value.int .i64 (T k (j + 1)); rw [HT.out k (j + 1), take_fold (by omega), ← HT.out]; rfl)
                        | (show _ = Value.int .i64 (L (k + 1)); rw [HT.out, HL.out, long_step (by omega)]; done)
                        | (have hy := HY.out k j
                           have hy1 := HY.out k (j + 1)
                           first
                             | (show _ = Value.int .i64 (Y k (j + 1)); rw [hy1, badJ_yes (by omega) (by assumption) (by omega)]; done)
                             | (show _ = Value.int .i64 (Y k (j + 1)); rw [hy1, badJ_no (by omega) (by first | exact .inl (by assumption) | exact .inr (by omega)), hy]; done)
                             | (show _ = Value.int .i64 (B (k + 1)); rw [hy, HB.out, badJ_all (by omega) hfit]; done))
                        | trace "X")
                   | (have e : k = mx.ls.length := (by omega)
                      subst e
                      have hlead := lead_all hE
                      have hB := HB.out mx.ls.length
                      have bi := bad_in mc mh mw mx b mx.ls.length
                      first
                        | (have hb0 : badI mc mh mw mx b mx.ls.length = 0 := (by omega)
                           have hE2 : ∀ i, i < mx.ls.length → netE mc mh mw mx b i = 0 := fun i hi => netE_zero (allTo_at hE i hi) (bad_zero hb0 i hi)
                           have hv : netR mc mh mw mx n b = (0, 0) := by rw [hd, lowE_none hE2]
                           first | (rw [hv]; done) | (simp [hv, hlead, HL.out]; done) | trace "G")
                        | (have hb0 : ¬ badI mc mh mw mx b mx.ls.length = 0 := (by omega)
                           obtain ⟨i, i1, i2, i3, i4⟩ := bad_pos hb0
                           have hE2 : ∀ q, q < i → netE mc mh mw mx b q = 0 := fun q hq => netE_zero (allTo_at hE q (by omega)) (i4 q hq)
                           have he : netE mc mh mw mx b i = 3 := netE_three (allTo_at hE i i1) i3
                           have hv : netR mc mh mw mx n b = ((i : Int) + 1, 3) := by rw [hd, lowE_hit (by omega) hE2 (by rw [he]; decide), he]
                           first | (rw [hv]; done) | (rw [hv, hB, i2]; done) | (simp [hv, hlead, HL.out]; done) | trace "H"))
                   | trace "I")
              | trace "J")
         | trace "C")
end Go.Proofs.Ytnjipnklbdlgaaa
