/- Layer 16: the counterparts: what each layer gives. -/
import Derived.Test.YtnjipnklbdlgaaaChkI
namespace Go.Proofs.Ytnjipnklbdlgaaa
open Go.RowKit
set_option maxRecDepth 1000000
set_option linter.unusedSimpArgs false
set_option linter.unusedVariables false
set_option maxHeartbeats 16000000
set_option cbv.maxSteps 10000000
theorem lay_pad {x : Dat} {i : Nat} (h : layAt x i = true) (h7 : layI x i 0 = 3 ∨ layI x i 0 = 4) : layI x i 4 = 0 := by
  unfold layAt layB at h
  unfold layI at h7 ⊢
  rcases h7 with h7 | h7 <;> rw [h7] at h <;> simp at h <;> omega
theorem rshapes_ok : FOk Try.prog 13 (shpC shpE shpN shpD) := by
  obtain ⟨G, hG⟩ : ∃ G : List (FuncId × Ctr), G = [(20, boolC [mdlTy] mdlF), (34, rmkC 3 rmkP rmkNilF rmkVF rmkOkF), (28, boolC [.sl (.int .i64)] shMayF)] := ⟨_, rfl⟩
  refine fn_inlF (ck := true) [] trivial [] trivial Try.func13 rfl tt_ok (G := G) (by rw [hG]; exact ⟨⟨rmm_ok, by unfold FnOk; kernel_rfl⟩, ⟨rafter_ok, by unfold FnOk; kernel_rfl⟩, ⟨rmay_ok, by unfold FnOk; kernel_rfl⟩, trivial⟩) mixed (by kernel_rfl) ?_
  intro xa xs h hx hp
  obtain ⟨a0, as0, x0, xs0, rfl, rfl, h0, H1⟩ := svArgs_cons h
  obtain ⟨rfl, rfl⟩ := svArgs_nil H1
  obtain ⟨mc, mh, mw, mx, rfl, rfl⟩ := argSV_mdl h0
  have sm : (-9223372036854775808 ≤ mc ∧ mc ≤ 9223372036854775807) ∧ (-9223372036854775808 ≤ mh ∧ mh ≤ 9223372036854775807) ∧ (-9223372036854775808 ≤ mw ∧ mw ≤ 9223372036854775807) ∧ ((ci mx.ls.length ≤ 9223372036854775807) ∧ Wt (.sl layTy) mx) := svf_mdl (hx (.agg [.v (.int .i64 mc), .v (.int .i64 mh), .v (.int .i64 mw), .imm layTy mx]) (List.mem_of_getElem? (i := 0) rfl))
  have SM := Lib.hid sm
  clear sm
  clear hx hp h h0 H1
  generalize hA : std = A
  subst hG
  generalize h_c : ci = c
  generalize h_fm : mdlF = fm
  generalize h_fp : rmkP = fp
  generalize h_fn : rmkNilF = fn
  generalize h_fv : rmkVF = fv
  generalize h_fk : rmkOkF = fk
  generalize h_fe : shpE = fe
  generalize h_fN : shpN = fN
  generalize h_fD : shpD = fD
  generalize h_fd : shMayF = fd
  obtain ⟨S, hS⟩ : ∃ S : Nat → Dat, ∀ k, S k = rowsD (shp mc mh mw mx k) := ⟨_, fun _ => rfl⟩
  have HS := Lib.hid hS
  clear hS
  cbv
  (repeat' (first | apply And.intro | apply BrB.mk | apply BrP.mk | intro _))
  (all_goals try (exfalso; (subst hA; subst h_c; subst h_fm; subst h_fp; subst h_fn; subst h_fv; subst h_fk; subst h_fe; subst h_fN; subst h_fD; subst h_fd); (try simp only [std, stdBin, stdCmp, stdUna, stdIn, ci, beq_iff_eq, bne_iff_ne, beq_eq_false_iff_ne, bne_eq_false_iff_eq, decide_eq_true_eq, decide_eq_false_iff_not, Bool.not_true, Bool.not_false, Bool.not_eq_true', Bool.not_eq_false', Bool.not_not, tn0, tn1, tn2, tn3] at *); first | omega | contradiction))
  all_goals try (refine loop_nil (hR := ?hR) [.row 5 (.sl (.int .i64))] Nat 27 (fun k => [(2, .v (.slice none 0 0)), (3, .v (.int .i64 0)), (4, .v (.int .i64 0)), (5, .hdl 2), (6, .any), (7, .any), (8, .any), (9, .any), (23, .any), (27, .v (.int .i64 (c k)))]) (fun k o => o.set 2 (.srow 32 (.sl (.int .i64)) (S k))) (fun k => k ≤ mx.ls.length ∧ ∀ i, i < k → shErr mc mh mw mx i = 0) (fun k => mx.ls.length - k) 0 ?h0 ?hle ?round)
  case hR => exact True.intro
  case h0 => exact ⟨Nat.zero_le _, fun i hi => absurd hi (Nat.not_lt_zero _)⟩
  case hle =>
    cbv
    (repeat' (first | apply And.intro | apply BrB.mk | apply BrP.mk | intro _))
    (all_goals (subst hA; subst h_c; subst h_fm; subst h_fp; subst h_fn; subst h_fv; subst h_fk; subst h_fe; subst h_fN; subst h_fD; subst h_fd); all_goals (have f_sm := SM.out); all_goals (try simp only [std, stdBin, stdCmp, stdUna, stdIn, ci, beq_iff_eq, bne_iff_ne, beq_eq_false_iff_ne, bne_eq_false_iff_eq, decide_eq_true_eq, decide_eq_false_iff_not, Bool.not_true, Bool.not_false, Bool.not_eq_true', Bool.not_eq_false', Bool.not_not, tn0, tn1, tn2, tn3] at *); all_goals (try omega))
    all_goals first | exact True.intro | rfl | (rw [HS.out]; rfl) | trace_state
  case round =>
    rintro k ⟨hk, hE⟩
    cbv
    refine BrB.mk (fun gx => ?yx) (fun gx => ?nx)
    case yx =>
      (repeat' (first | apply And.intro | apply BrB.mk | apply BrP.mk | intro _))
      (all_goals try (exfalso; (subst hA; subst h_c; subst h_fm; subst h_fp; subst h_fn; subst h_fv; subst h_fk; subst h_fe; subst h_fN; subst h_fD; subst h_fd); (try simp only [std, stdBin, stdCmp, stdUna, stdIn, ci, beq_iff_eq, bne_iff_ne, beq_eq_false_iff_ne, bne_eq_false_iff_eq, decide_eq_true_eq, decide_eq_false_iff_not, Bool.not_true, Bool.not_false, Bool.not_eq_true', Bool.not_eq_false', Bool.not_not, tn0, tn1, tn2, tn3] at *); first | omega | contradiction))
      all_goals try (refine ⟨k + 1, ?jI, ?jL, ?jM⟩)
      case jL =>
        cbv
        (repeat' (first | apply And.intro | apply BrB.mk | apply BrP.mk | intro _))
        (all_goals (subst hA; subst h_c; subst h_fm; subst h_fp; subst h_fn; subst h_fv; subst h_fk; subst h_fe; subst h_fN; subst h_fD; subst h_fd); all_goals (have f_sm := SM.out); all_goals (try simp only [std, stdBin, stdCmp, stdUna, stdIn, ci, beq_iff_eq, bne_iff_ne, beq_eq_false_iff_ne, bne_eq_false_iff_eq, decide_eq_true_eq, decide_eq_false_iff_not, Bool.not_true, Bool.not_false, Bool.not_eq_true', Bool.not_eq_false', Bool.not_not, tn0, tn1, tn2, tn3, rmkVF, HS.out, lastR_shp, rowsD_at, rowsD_at', Int.toNat_natCast] at *); all_goals (try omega))
        all_goals (try simp only [shp_at (Nat.le_refl k)] at *)
        all_goals first | exact True.intro | rfl | (exact rowsD_app _ _) | trace_state
      (all_goals (subst hA; subst h_c; subst h_fm; subst h_fp; subst h_fn; subst h_fv; subst h_fk; subst h_fe; subst h_fN; subst h_fD; subst h_fd); all_goals (have f_sm := SM.out); all_goals (try simp only [std, stdBin, stdCmp, stdUna, stdIn, ci, beq_iff_eq, bne_iff_ne, beq_eq_false_iff_ne, bne_eq_false_iff_eq, decide_eq_true_eq, decide_eq_false_iff_not, Bool.not_true, Bool.not_false, Bool.not_eq_true', Bool.not_eq_false', Bool.not_not, tn0, tn1, tn2, tn3, mdlF, rmkNilF, rmkVF, rmkOkF, rmkP, shMayF, shpE, shpN, shpD, HS.out, lastR_shp, rowsD_at, rowsD_at', rowsD_len, shp_len, Int.toNat_natCast] at *); all_goals (try omega))
      all_goals (try simp only [shp_at (Nat.le_refl k)] at *)
      all_goals (have hm : mdlB mc mh mw mx = true := by assumption)
      all_goals (obtain ⟨m1, m2, m3, m4, m5⟩ := mdl_of hm)
      all_goals (have hkn : k < mx.ls.length := by omega)
      all_goals first
        | (refine ⟨shT_may hm hE k (Nat.le_refl k), fun h3 => ?_, by omega, fun h7 => ?_⟩
           · exact lay_pad (m5 k hkn) h3
           · have q := lay_seven (m5 k hkn) h7
             unfold layI at q
             omega)
        | (refine ⟨by omega, fun i hi => ?_⟩
           by_cases e : i = k
           · subst e
             refine shErr_zero ?_ (by assumption) (by rw [shT_succ]; assumption)
             exact Bool.eq_false_iff.2 (by assumption)
           · exact hE i (by omega))
        | (have he : shErr mc mh mw mx k = 2 := shErr_two (by first | exact .inl (by assumption) | exact .inr (by assumption))
           have hR := shpR_hit hm hkn hE he (by decide)
           first | (rw [hR]; done) | (exfalso; have h2 : (shpR mc mh mw mx).2 = 2 := (by rw [hR]); omega))
        | (have he : shErr mc mh mw mx k = 1 := shErr_one (Bool.eq_false_iff.2 (by assumption)) (by assumption) (by rw [shT_succ]; assumption)
           have hR := shpR_hit hm hkn hE he (by decide)
           first | (rw [hR]; done) | (exfalso; have h2 : (shpR mc mh mw mx).2 = 1 := (by rw [hR]); omega))
        | omega
        | (simp only [Dat.ls, List.length_cons, List.length_nil]; omega)
        | trace_state
    case nx =>
      (repeat' (first | apply And.intro | apply BrB.mk | apply BrP.mk | intro _))
      (all_goals (subst hA; subst h_c; subst h_fm; subst h_fp; subst h_fn; subst h_fv; subst h_fk; subst h_fe; subst h_fN; subst h_fD; subst h_fd); all_goals (have f_sm := SM.out); all_goals (try simp only [std, stdBin, stdCmp, stdUna, stdIn, ci, beq_iff_eq, bne_iff_ne, beq_eq_false_iff_ne, bne_eq_false_iff_eq, decide_eq_true_eq, decide_eq_false_iff_not, Bool.not_true, Bool.not_false, Bool.not_eq_true', Bool.not_eq_false', Bool.not_not, tn0, tn1, tn2, tn3, mdlF, shpE, shpN, shpD, HS.out, Int.toNat_natCast] at *); all_goals (try omega))
      all_goals (have hm : mdlB mc mh mw mx = true := by assumption)
      all_goals (have e : k = mx.ls.length := by omega)
      all_goals (subst e)
      all_goals (have hR := shpR_all hm hE)
      all_goals first | rfl | (rw [hR]; done) | (exfalso; have h2 : (shpR mc mh mw mx).2 = 0 := (by rw [hR]); omega) | trace_state
  (all_goals (subst hA; subst h_c; subst h_fm; subst h_fp; subst h_fn; subst h_fv; subst h_fk; subst h_fe; subst h_fN; subst h_fD; subst h_fd); all_goals (have f_sm := SM.out); all_goals (try simp only [std, stdBin, stdCmp, stdUna, stdIn, ci, beq_iff_eq, bne_iff_ne, beq_eq_false_iff_ne, bne_eq_false_iff_eq, decide_eq_true_eq, decide_eq_false_iff_not, Bool.not_true, Bool.not_false, Bool.not_eq_true', Bool.not_eq_false', Bool.not_not, tn0, tn1, tn2, tn3, mdlF, shpE, shpN, shpD] at *); all_goals (try omega))
  all_goals first | (have hR := shpR_one (c := mc) (h := mh) (w := mw) (x := mx) (by assumption); first | (rw [hR]; done) | (exfalso; have h2 : (shpR mc mh mw mx).2 = 1 := (by rw [hR]); omega)) | trace_state
end Go.Proofs.Ytnjipnklbdlgaaa
