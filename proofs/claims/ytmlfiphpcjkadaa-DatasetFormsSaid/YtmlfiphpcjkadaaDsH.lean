/- Layer 22: the laws without the document's own answers. -/
import Derived.Test.YtmlfiphpcjkadaaDsE
import Derived.Test.YtmlfiphpcjkadaaDsI
namespace Go.Proofs.Ytmlfiphpcjkadaa
open Go.RowKit
set_option maxRecDepth 1000000
set_option linter.unusedSimpArgs false
set_option linter.unusedVariables false
set_option maxHeartbeats 16000000
set_option cbv.maxSteps 10000000
structure Bx (p : Prop) : Prop where
  out : p
theorem enc_may {b : Bool} (h : (if b = true then (0 : Int) else 1) = 0) : b = true := by
  cases b with
  | true => rfl
  | false => simp at h
theorem ds_nums {c h w e k : Int} {x : Dat} (hm : mayDs c h w e k x = true) : (1 ≤ c * h ∧ c * h ≤ 128) ∧ (1 ≤ c * h * w ∧ c * h * w ≤ 2048) ∧ (1 ≤ (x.ls.length : Int) ∧ (x.ls.length : Int) ≤ 64) ∧ 0 ≤ (x.ls.length : Int) * (1 + c * h * w) ∧ (x.ls.length : Int) * (1 + c * h * w) ≤ 131136 := by
  have hh := hm
  unfold mayDs at hh
  rw [Bool.and_eq_true] at hh
  obtain ⟨g1, g2, g3, g4, g5, g6⟩ := ex_hd hh.1
  have hc := chw_in g1 g2 g3
  generalize c * h * w = s at *
  have h1 := Int.mul_nonneg (show (0 : Int) ≤ (x.ls.length : Int) by omega) (show 0 ≤ 1 + s by omega)
  have h2 : (x.ls.length : Int) * (1 + s) ≤ 64 * (1 + 2048) := Int.mul_le_mul g6.2 (by omega) (by omega) (by omega)
  exact ⟨hc.1, hc.2, g6, h1, by omega⟩
def lit22 : Dat := .list [.agg [.list [.int 3, .int (-4)], .int 1]]
theorem f22_e : encE 1 1 2 0 2 (Dat.list [Dat.agg [Dat.list (List.map Dat.int [3, -4]), Dat.int 1]]) = 0 := by kernel_rfl
theorem f22_l : (bDs 1 1 2 0 2 (Dat.list [Dat.agg [Dat.list (List.map Dat.int [3, -4]), Dat.int 1]])).length = 14 := by kernel_rfl
theorem f22_d : decE (bDs 1 1 2 0 2 (Dat.list [Dat.agg [Dat.list (List.map Dat.int [3, -4]), Dat.int 1]])) = 0 := by kernel_rfl
theorem f22_n : (dN (bDs 1 1 2 0 2 (Dat.list [Dat.agg [Dat.list (List.map Dat.int [3, -4]), Dat.int 1]]))).toNat = 1 := by kernel_rfl
theorem awake22_ok : CtrOk Try.prog 13 (boolC [] yes) := by
  obtain ⟨G, hG⟩ : ∃ G : List (FuncId × Ctr), G = [] := ⟨_, rfl⟩
  refine fn_inl3 (ck := true) rfl [(14, encC encEF encBF), (20, decC decP decEF decVF decXF)] ⟨⟨by unfold FnOk; kernel_rfl, enc22_ok⟩, ⟨by unfold FnOk; kernel_rfl, dec22_ok⟩, trivial⟩ [] trivial Try.func13 rfl tt_ok (G := G) (by rw [hG]; exact trivial) mixed (by kernel_rfl) ?_
  intro xa xs h hx hp
  obtain ⟨rfl, rfl⟩ := svArgs_nil h
  refine Bx.out ?_
  clear hx hp h 
  generalize hA : std = A
  subst hG
  generalize h_c : ci = c
  generalize h_uE : encEF = uE
  generalize h_uB : encBF = uB
  generalize h_dP : decP = dP
  generalize h_dE : decEF = dE
  generalize h_dV : decVF = dV
  generalize h_dX : decXF = dX
  generalize h_fY : yes = fY
  cbv
  refine Bx.mk ?_
  (repeat' (first | apply And.intro | apply BrB.mk | apply BrP.mk | intro _))
  (all_goals (subst hA; subst h_c; subst h_uE; subst h_uB; subst h_dP; subst h_dE; subst h_dV; subst h_dX; subst h_fY); all_goals (skip); all_goals (try simp only [std, stdBin, stdCmp, stdUna, stdIn, ci, beq_iff_eq, bne_iff_ne, beq_eq_false_iff_ne, bne_eq_false_iff_eq, decide_eq_true_eq, decide_eq_false_iff_not, Bool.not_true, Bool.not_false, Bool.not_eq_true', Bool.not_eq_false', Bool.not_not, tn0, tn1, tn2, tn3, encEF, encBF, decP, decEF, decVF, decXF, yes, smL, f22_e, f22_l, f22_d, f22_n] at *); all_goals (try omega))
  all_goals first | exact True.intro | rfl | omega | contradiction | trace_state
theorem long22_ok : CtrOk Try.prog 7 (boolC [dsTy] yes) := by
  obtain ⟨G, hG⟩ : ∃ G : List (FuncId × Ctr), G = [(12, boolC [dsTy] lightF), (13, boolC [] yes)] := ⟨_, rfl⟩
  refine fn_inl2 (ck := true) rfl [(14, encC encEF encBF)] ⟨⟨by unfold FnOk; kernel_rfl, enc22_ok⟩, trivial⟩ [] trivial Try.func7 rfl tt_ok (G := G) (by rw [hG]; exact ⟨⟨light22_ok, by unfold FnOk; kernel_rfl⟩, ⟨awake22_ok, by unfold FnOk; kernel_rfl⟩, trivial⟩) mixed (by kernel_rfl) ?_
  intro xa xs h hx hp
  obtain ⟨a0, as0, x0, xs0, rfl, rfl, h0, H1⟩ := svArgs_cons h
  obtain ⟨rfl, rfl⟩ := svArgs_nil H1
  obtain ⟨dc, dh, dw, de, dk, dx, rfl, rfl⟩ := argSV_ds h0
  have sd : (-9223372036854775808 ≤ dc ∧ dc ≤ 9223372036854775807) ∧ (-9223372036854775808 ≤ dh ∧ dh ≤ 9223372036854775807) ∧ (-9223372036854775808 ≤ dw ∧ dw ≤ 9223372036854775807) ∧ (-9223372036854775808 ≤ de ∧ de ≤ 9223372036854775807) ∧ (-9223372036854775808 ≤ dk ∧ dk ≤ 9223372036854775807) ∧ ((ci dx.ls.length ≤ 9223372036854775807) ∧ Wt (.sl exTy) dx) := svf_ds (hx (.agg [.v (.int .i64 dc), .v (.int .i64 dh), .v (.int .i64 dw), .v (.int .i64 de), .v (.int .i64 dk), .imm exTy dx]) (List.mem_of_getElem? (i := 0) rfl))
  have SD := Lib.hid sd
  clear sd
  clear hx hp h h0 H1
  generalize hA : std = A
  subst hG
  generalize h_c : ci = c
  generalize h_fl : lightF = fl
  generalize h_uE : encEF = uE
  generalize h_uB : encBF = uB
  generalize h_fY : yes = fY
  cbv
  (repeat' (first | apply And.intro | apply BrB.mk | apply BrP.mk | intro _))
  (all_goals (subst hA; subst h_c; subst h_fl; subst h_uE; subst h_uB; subst h_fY); all_goals (have f_sd := SD.out); all_goals (try simp only [std, stdBin, stdCmp, stdUna, stdIn, ci, beq_iff_eq, bne_iff_ne, beq_eq_false_iff_ne, bne_eq_false_iff_eq, decide_eq_true_eq, decide_eq_false_iff_not, Bool.not_true, Bool.not_false, Bool.not_eq_true', Bool.not_eq_false', Bool.not_not, tn0, tn1, tn2, tn3, lightF, encEF, encBF, encE, yes] at *); all_goals (try omega))
  all_goals first
    | exact True.intro
    | rfl
    | skip
  all_goals (have hm : mayDs dc dh dw de dk dx = true := enc_may (by assumption); obtain ⟨n1, n2, n3, n4, n5⟩ := ds_nums hm; have hl := bDs_len hm; generalize dc * dh * dw = s at *; generalize (dx.ls.length : Int) * (1 + s) = q at *; generalize dc * dh = r at *)
  all_goals first
    | omega
    | (exfalso; omega)
    | trace_state
end Go.Proofs.Ytmlfiphpcjkadaa
