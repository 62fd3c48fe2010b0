/- Layer 17: as many biases as the first length; as many weights as go in, or a window has, for each. -/
import Derived.Test.YtnjipnklbdlgaaaParC
namespace Go.Proofs.Ytnjipnklbdlgaaa
open Go.RowKit
set_option maxRecDepth 1000000
set_option linter.unusedSimpArgs false
set_option linter.unusedVariables false
set_option maxHeartbeats 16000000
set_option cbv.maxSteps 10000000
theorem dm_facts {k o w t : Int} : (k = 1 → (dmV k o w t).length = 2 ∧ (dmV k o w t).getD 0 0 = o) ∧ (k = 2 → (dmV k o w t).length = 4 ∧ (dmV k o w t).getD 0 0 = o ∧ (dmV k o w t).getD 2 0 = w ∧ (dmV k o w t).getD 3 0 = w) ∧ (k ≠ 1 → k ≠ 2 → (dmV k o w t).length = 0) := by
  unfold dmV
  refine ⟨fun h => by simp [h], fun h => by simp [h], fun h1 h2 => by simp [h1, h2]⟩
theorem sizes17_ok : CtrOk Try.prog 10 (yes6 [mdlTy, .int .i64] (fun _ => True)) := by
  obtain ⟨G, hG⟩ : ∃ G : List (FuncId × Ctr), G = [(27, rowI0 [mdlTy, .int .i64] 3 pdVF pdNF), (28, boolC [.sl (.int .i64)] shMayF), (22, yes6 [] (fun _ => True))] := ⟨_, rfl⟩
  refine fn_ok (ck := true) Try.func10 rfl tt_ok (G := G) (by rw [hG]; exact ⟨⟨pD_ok, by unfold FnOk; kernel_rfl⟩, ⟨rmay_ok, by unfold FnOk; kernel_rfl⟩, ⟨awake17_ok, by unfold FnOk; kernel_rfl⟩, trivial⟩) mixed (by kernel_rfl) ?_
  intro xa xs h hx hp
  obtain ⟨a0, as0, x0, xs0, rfl, rfl, h0, H1⟩ := svArgs_cons h
  obtain ⟨a1, as1, x1, xs1, rfl, rfl, h1, H2⟩ := svArgs_cons H1
  obtain ⟨rfl, rfl⟩ := svArgs_nil H2
  obtain ⟨mc, mh, mw, mx, rfl, rfl⟩ := argSV_mdl h0
  obtain ⟨y, rfl, rfl⟩ := argSV_int h1
  have sm : (-9223372036854775808 ≤ mc ∧ mc ≤ 9223372036854775807) ∧ (-9223372036854775808 ≤ mh ∧ mh ≤ 9223372036854775807) ∧ (-9223372036854775808 ≤ mw ∧ mw ≤ 9223372036854775807) ∧ ((ci mx.ls.length ≤ 9223372036854775807) ∧ Wt (.sl layTy) mx) := svf_mdl (hx (.agg [.v (.int .i64 mc), .v (.int .i64 mh), .v (.int .i64 mw), .imm layTy mx]) (List.mem_of_getElem? (i := 0) rfl))
  have sy := of_i64 (hx (.v (.int .i64 y)) (by simp))
  have SM := Lib.hid sm
  clear sm
  have SY := Lib.hid sy
  clear sy
  clear hx hp h h0 H1 h1 H2
  generalize hA : std = A
  subst hG
  generalize h_c : ci = c
  generalize h_fV : pdVF = fV
  generalize h_fN : pdNF = fN
  generalize h_fm : shMayF = fm
  cbv
  (repeat' (first | apply And.intro | apply BrB.mk | apply BrP.mk | intro _))
  (all_goals (subst hA; subst h_c; subst h_fV; subst h_fN; subst h_fm); all_goals (have f_sm := SM.out; have f_sy := SY.out); all_goals (try simp only [std, stdBin, stdCmp, stdUna, stdIn, ci, beq_iff_eq, bne_iff_ne, beq_eq_false_iff_ne, bne_eq_false_iff_eq, decide_eq_true_eq, decide_eq_false_iff_not, Bool.not_true, Bool.not_false, Bool.not_eq_true', Bool.not_eq_false', Bool.not_not, tn0, tn1, tn2, tn3, pdVF, pdNF, shMayF, Int.toNat_natCast] at *); all_goals (try omega))
  all_goals (cases hp : pdOk mc mh mw mx y with
    | false =>
      have e1 : pdV mc mh mw mx y = [] := if_neg (by rw [hp]; simp)
      have e2 : pdN mc mh mw mx y = 0 := if_neg (by rw [hp]; simp)
      simp only [e1, e2, List.length_nil] at *
      first | exact True.intro | rfl | omega | contradiction | (exfalso; simp at *; done) | trace_state
    | true =>
      have e1 : pdV mc mh mw mx y = dmI mx mc mh mw (y - 1).toNat := if_pos hp
      have e2 : pdN mc mh mw mx y = layI mx (y - 1).toNat 1 := if_pos hp
      unfold pdOk at hp
      simp only [Bool.and_eq_true, decide_eq_true_eq] at hp
      obtain ⟨⟨hz, hy⟩, hmd⟩ := hp
      have hdm : dmI mx mc mh mw (y - 1).toNat = dmV (layI mx (y - 1).toNat 0) (layI mx (y - 1).toNat 1) (layI mx (y - 1).toNat 2) ((shT mc mh mw mx (y - 1).toNat).getD 0 0) := rfl
      have ml := mayD_len hmd
      simp only [e1, e2] at *
      first
        | exact True.intro
        | omega
        | (exfalso; have hf : mayD (dmI mx mc mh mw (y - 1).toNat) = false := (by assumption); rw [hmd] at hf; cases hf)
        | (obtain ⟨f1, f2, f3⟩ := dm_facts (k := layI mx (y - 1).toNat 0) (o := layI mx (y - 1).toNat 1) (w := layI mx (y - 1).toNat 2) (t := (shT mc mh mw mx (y - 1).toNat).getD 0 0)
           rw [← hdm] at f1 f2 f3
           unfold layI at *
           first | omega | (exfalso; omega) | (refine congrArg _ ?_; omega))
        | trace_state)
end Go.Proofs.Ytnjipnklbdlgaaa
