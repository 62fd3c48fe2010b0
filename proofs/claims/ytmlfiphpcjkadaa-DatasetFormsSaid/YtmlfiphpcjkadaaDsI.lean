/- Layer 22: what Decode does. -/
import Derived.Test.YtmlfiphpcjkadaaDsE
namespace Go.Proofs.Ytmlfiphpcjkadaa
open Go.RowKit
set_option maxRecDepth 1000000
set_option linter.unusedSimpArgs false
set_option linter.unusedVariables false
set_option maxHeartbeats 16000000
set_option cbv.maxSteps 10000000
theorem dec22_ok : FOk Try.prog 20 (decC decP decEF decVF decXF) := by
  obtain ⟨G, hG⟩ : ∃ G : List (FuncId × Ctr), G = [(37, boolC [dsTy, .int .i64] headF), (38, boolP [dsTy, exTy] boxP exF), (50, intP [dsTy] .i64 boxP1 sizeF)] := ⟨_, rfl⟩
  refine fn_inlFB (ck := false) [(71, mrun (rdMt) (fun p => pw8 p.wd) (rdX) (rdOs) (fun _ => [])), (45, mrun (rdMt) (fun p => smI p.n) (rwX) (rwOs) (fun _ => [])), (44, mrun (nrMt) (fun p => smL p.l) (nrX) (nrOs) (fun _ => [])), (49, mrun (rdMt) (fun p => smI p.n ∧ nnI p.n) (xaX) (xaOs) (fun _ => [])), (46, mrun (reMt) (fun _ => True) (shX) (rdOs0) (fun _ => [])), (51, mrun (reMt) (fun _ => True) (endX) (rdOs0) (fun _ => []))] (iok_cons (RunOk.up get_mth) (iok_cons (RunOk.up raw_mth) (iok_cons (RunOk.up new_mth) (iok_cons (RunOk.up example_mth) (iok_cons (RunOk.up short_mth) (iok_cons (RunOk.up end_mth) iok_nil)))))) [(47, Try.f47), (48, Try.f48)] ⟨⟨Try.func47, by unfold FnOk; kernel_rfl, by kernel_rfl⟩, ⟨Try.func48, by unfold FnOk; kernel_rfl, by kernel_rfl⟩, trivial⟩ Try.func20 rfl tt_ok (G := G) (by rw [hG]; exact ⟨⟨head_ok, by unfold FnOk; kernel_rfl⟩, ⟨ex_ok, by unfold FnOk; kernel_rfl⟩, ⟨size_ok22, by unfold FnOk; kernel_rfl⟩, trivial⟩) mixed (by kernel_rfl) ?_
  intro xa xs h hx hp
  obtain ⟨a0, as0, x0, xs0, rfl, rfl, h0, H1⟩ := svArgs_cons h
  obtain ⟨rfl, rfl⟩ := svArgs_nil H1
  obtain ⟨b, rfl, rfl⟩ := argSV_ints h0
  delta endX nrOs nrX rdOs rdOs0 rdX rwOs rwX shX xaOs xaX
  have sb : Fits .u8 b ∧ ci b.length ≤ 9223372036854775807 := svf_ints (hx (.iimm .u8 b) (by simp))
  have SB := Lib.hid sb
  clear sb
  have HP := Lib.hid (hp _ rfl)
  clear hx hp h h0 H1
  generalize hA : std = A
  subst hG
  generalize h_c : ci = c
  generalize h_fsh : shB = fsh
  generalize h_fen : endI = fen
  generalize h_fV : rdV = fV
  generalize h_fA : rdA = fA
  generalize h_fN : rdN = fN
  generalize h_fE : rdE = fE
  generalize h_gA : rwA = gA
  generalize h_gN : rwN = gN
  generalize h_gE : rwE = gE
  generalize h_gL : rwL = gL
  generalize h_xA : xaA = xA
  generalize h_xN : xaN = xN
  generalize h_xE : xaE = xE
  generalize h_xL : xaL = xL
  generalize h_xV : xaV = xV
  generalize h_fp : pw8 = fp
  generalize h_fs : smI = fs
  generalize h_fnn : nnI = fnn
  generalize h_fq : smL = fq
  generalize h_fn : llenI = fn
  generalize h_fh : headF = fh
  generalize h_fx : exF = fx
  generalize h_fz : sizeF = fz
  generalize h_pz : boxP1 = pz
  generalize h_px : boxP = px
  generalize h_uP : decP = uP
  generalize h_uE : decEF = uE
  generalize h_uV : decVF = uV
  generalize h_uX : decXF = uX
  obtain ⟨RA, hRA⟩ : ∃ R : Nat → Int, ∀ i, R i = (rqN b.length i).1 := ⟨_, fun _ => rfl⟩
  obtain ⟨RN, hRN⟩ : ∃ R : Nat → Int, ∀ i, R i = (rqN b.length i).2.1 := ⟨_, fun _ => rfl⟩
  obtain ⟨RE, hRE⟩ : ∃ R : Nat → Int, ∀ i, R i = (rqN b.length i).2.2 := ⟨_, fun _ => rfl⟩
  obtain ⟨V, hV⟩ : ∃ V : Nat → Int, ∀ i, V i = rqV b i := ⟨_, fun _ => rfl⟩
  obtain ⟨X, hX⟩ : ∃ X : Nat → Dat, ∀ i, X i = dX' b i := ⟨_, fun _ => rfl⟩
  obtain ⟨P, hP⟩ : ∃ P : Nat → Int, ∀ i, P i = dA b i := ⟨_, fun _ => rfl⟩
  obtain ⟨M, hM⟩ : ∃ M : Nat → Int, ∀ i, M i = b.length - dA b i := ⟨_, fun _ => rfl⟩
  obtain ⟨VE, hVE⟩ : ∃ R : Int, R = IntKind.i8.wrap (rqV b 3) := ⟨_, rfl⟩
  have HVE := Lib.hid hVE
  clear hVE
  have HRA := Lib.hid hRA
  have HRN := Lib.hid hRN
  have HRE := Lib.hid hRE
  have HV := Lib.hid hV
  have HX := Lib.hid hX
  have HPP := Lib.hid hP
  have HM := Lib.hid hM
  clear hRA hRN hRE hV hX hP hM
  cbv
  (repeat' (first | apply And.intro | apply BrB.mk | apply BrP.mk | intro _))
  (all_goals try (exfalso; (subst hA; subst h_c; subst h_fsh; subst h_fen; subst h_fV; subst h_fA; subst h_fN; subst h_fE; subst h_gA; subst h_gN; subst h_gE; subst h_gL; subst h_xA; subst h_xN; subst h_xE; subst h_xL; subst h_xV; subst h_fp; subst h_fs; subst h_fnn; subst h_fq; subst h_fn; subst h_fh; subst h_fx; subst h_fz; subst h_pz; subst h_px; subst h_uP; subst h_uE; subst h_uV; subst h_uX); (try simp only [std, stdBin, stdCmp, stdUna, stdIn, ci, beq_iff_eq, bne_iff_ne, beq_eq_false_iff_ne, bne_eq_false_iff_eq, decide_eq_true_eq, decide_eq_false_iff_not, Bool.not_true, Bool.not_false, Bool.not_eq_true', Bool.not_eq_false', Bool.not_not, tn0, tn1, tn2, tn3] at *); first | omega | contradiction))
  all_goals try (refine loop_at Nat 22 (fun j => [(7, .any), (22, match j with | 0 => .v (.int .i64 0) | 1 => .v (.int .i64 1) | 2 => .v (.int .i64 2) | _ => .v (.int .i64 3))]) (fun j o => (o.set 2 (.cells 93 [.sub 1 (RA j) (RN j), .v (.int .i64 (RE j))])).set 4 (.cells 25 (match j with | 0 => [.v (.int .i64 0), .v (.int .i64 0), .v (.int .i64 0), .v (.int .i64 0), .v (.int .i64 0), .v (.slice none 0 0)] | 1 => [.v (.int .i64 (V 0)), .v (.int .i64 0), .v (.int .i64 0), .v (.int .i64 0), .v (.int .i64 0), .v (.slice none 0 0)] | 2 => [.v (.int .i64 (V 0)), .v (.int .i64 (V 1)), .v (.int .i64 0), .v (.int .i64 0), .v (.int .i64 0), .v (.slice none 0 0)] | _ => [.v (.int .i64 (V 0)), .v (.int .i64 (V 1)), .v (.int .i64 (V 2)), .v (.int .i64 0), .v (.int .i64 0), .v (.slice none 0 0)]))) (fun j => j ≤ 3) (fun j => 3 - j) 0 (by decide) ?hle ?round)
  case hle =>
    cbv
    (repeat' (first | apply And.intro | apply BrB.mk | apply BrP.mk | intro _))
    (all_goals (subst hA; subst h_c; subst h_fsh; subst h_fen; subst h_fV; subst h_fA; subst h_fN; subst h_fE; subst h_gA; subst h_gN; subst h_gE; subst h_gL; subst h_xA; subst h_xN; subst h_xE; subst h_xL; subst h_xV; subst h_fp; subst h_fs; subst h_fnn; subst h_fq; subst h_fn; subst h_fh; subst h_fx; subst h_fz; subst h_pz; subst h_px; subst h_uP; subst h_uE; subst h_uV; subst h_uX); all_goals (have f_sb := SB.out; have f_hp := HP.out); all_goals (try simp only [std, stdBin, stdCmp, stdUna, stdIn, ci, beq_iff_eq, bne_iff_ne, beq_eq_false_iff_ne, bne_eq_false_iff_eq, decide_eq_true_eq, decide_eq_false_iff_not, Bool.not_true, Bool.not_false, Bool.not_eq_true', Bool.not_eq_false', Bool.not_not, tn0, tn1, tn2, tn3] at *); all_goals (try omega))
    all_goals (have a1 := HRA.out; have n1 := HRN.out; have e1 := HRE.out)
    all_goals first
      | exact True.intro
      | (show _ = RA 0; rw [a1]; rfl)
      | (show _ = RN 0; rw [n1]; rfl)
      | (refine congrArg (Value.int .i64) ?_; show _ = RE 0; rw [e1]; rfl)
      | trace_state
  case round =>
    rintro (_ | _ | _ | _ | j) hj
    · cbv
      (repeat' (first | apply And.intro | apply BrB.mk | apply BrP.mk | intro _))
      (all_goals try (exfalso; (subst hA; subst h_c; subst h_fsh; subst h_fen; subst h_fV; subst h_fA; subst h_fN; subst h_fE; subst h_gA; subst h_gN; subst h_gE; subst h_gL; subst h_xA; subst h_xN; subst h_xE; subst h_xL; subst h_xV; subst h_fp; subst h_fs; subst h_fnn; subst h_fq; subst h_fn; subst h_fh; subst h_fx; subst h_fz; subst h_pz; subst h_px; subst h_uP; subst h_uE; subst h_uV; subst h_uX); (try simp only [std, stdBin, stdCmp, stdUna, stdIn, ci, beq_iff_eq, bne_iff_ne, beq_eq_false_iff_ne, bne_eq_false_iff_eq, decide_eq_true_eq, decide_eq_false_iff_not, Bool.not_true, Bool.not_false, Bool.not_eq_true', Bool.not_eq_false', Bool.not_not, tn0, tn1, tn2, tn3] at *); first | omega | contradiction))
      all_goals try (refine ⟨1, ?_, ?_, ?_⟩)
      all_goals try (show AS.le _ _; cbv; (repeat' (first | apply And.intro | apply BrB.mk | apply BrP.mk | intro _)))
      (all_goals (subst hA; subst h_c; subst h_fsh; subst h_fen; subst h_fV; subst h_fA; subst h_fN; subst h_fE; subst h_gA; subst h_gN; subst h_gE; subst h_gL; subst h_xA; subst h_xN; subst h_xE; subst h_xL; subst h_xV; subst h_fp; subst h_fs; subst h_fnn; subst h_fq; subst h_fn; subst h_fh; subst h_fx; subst h_fz; subst h_pz; subst h_px; subst h_uP; subst h_uE; subst h_uV; subst h_uX); all_goals (have f_sb := SB.out; have f_hp := HP.out); all_goals (try simp only [std, stdBin, stdCmp, stdUna, stdIn, ci, beq_iff_eq, bne_iff_ne, beq_eq_false_iff_ne, bne_eq_false_iff_eq, decide_eq_true_eq, decide_eq_false_iff_not, Bool.not_true, Bool.not_false, Bool.not_eq_true', Bool.not_eq_false', Bool.not_not, tn0, tn1, tn2, tn3] at *); all_goals (try omega))
      all_goals (have a1 := HRA.out; have n1 := HRN.out; have e1 := HRE.out; have v1 := HV.out)
      all_goals first
        | exact True.intro
        | omega
        | exact ⟨by decide, by decide⟩
        | (show _ = RA 1; rw [a1, a1, n1, e1]; rfl)
        | (show _ = RN 1; rw [n1, n1, e1]; rfl)
        | (refine congrArg (Value.int .i64) ?_; first | decide | (show _ = RE 1; rw [e1, e1, n1]; rfl) | (show _ = V 0; rw [v1, a1, n1, e1]; rfl))
        | trace_state
    · cbv
      (repeat' (first | apply And.intro | apply BrB.mk | apply BrP.mk | intro _))
      (all_goals try (exfalso; (subst hA; subst h_c; subst h_fsh; subst h_fen; subst h_fV; subst h_fA; subst h_fN; subst h_fE; subst h_gA; subst h_gN; subst h_gE; subst h_gL; subst h_xA; subst h_xN; subst h_xE; subst h_xL; subst h_xV; subst h_fp; subst h_fs; subst h_fnn; subst h_fq; subst h_fn; subst h_fh; subst h_fx; subst h_fz; subst h_pz; subst h_px; subst h_uP; subst h_uE; subst h_uV; subst h_uX); (try simp only [std, stdBin, stdCmp, stdUna, stdIn, ci, beq_iff_eq, bne_iff_ne, beq_eq_false_iff_ne, bne_eq_false_iff_eq, decide_eq_true_eq, decide_eq_false_iff_not, Bool.not_true, Bool.not_false, Bool.not_eq_true', Bool.not_eq_false', Bool.not_not, tn0, tn1, tn2, tn3] at *); first | omega | contradiction))
      all_goals try (refine ⟨2, ?_, ?_, ?_⟩)
      all_goals try (show AS.le _ _; cbv; (repeat' (first | apply And.intro | apply BrB.mk | apply BrP.mk | intro _)))
      (all_goals (subst hA; subst h_c; subst h_fsh; subst h_fen; subst h_fV; subst h_fA; subst h_fN; subst h_fE; subst h_gA; subst h_gN; subst h_gE; subst h_gL; subst h_xA; subst h_xN; subst h_xE; subst h_xL; subst h_xV; subst h_fp; subst h_fs; subst h_fnn; subst h_fq; subst h_fn; subst h_fh; subst h_fx; subst h_fz; subst h_pz; subst h_px; subst h_uP; subst h_uE; subst h_uV; subst h_uX); all_goals (have f_sb := SB.out; have f_hp := HP.out); all_goals (try simp only [std, stdBin, stdCmp, stdUna, stdIn, ci, beq_iff_eq, bne_iff_ne, beq_eq_false_iff_ne, bne_eq_false_iff_eq, decide_eq_true_eq, decide_eq_false_iff_not, Bool.not_true, Bool.not_false, Bool.not_eq_true', Bool.not_eq_false', Bool.not_not, tn0, tn1, tn2, tn3] at *); all_goals (try omega))
      all_goals (have a1 := HRA.out; have n1 := HRN.out; have e1 := HRE.out; have v1 := HV.out)
      all_goals first
        | exact True.intro
        | omega
        | exact ⟨by decide, by decide⟩
        | (show _ = RA 2; rw [a1, a1, n1, e1]; rfl)
        | (show _ = RN 2; rw [n1, n1, e1]; rfl)
        | (refine congrArg (Value.int .i64) ?_; first | decide | (show _ = RE 2; rw [e1, e1, n1]; rfl) | (show _ = V 1; rw [v1, a1, n1, e1]; rfl))
        | trace_state
    · cbv
      (repeat' (first | apply And.intro | apply BrB.mk | apply BrP.mk | intro _))
      (all_goals try (exfalso; (subst hA; subst h_c; subst h_fsh; subst h_fen; subst h_fV; subst h_fA; subst h_fN; subst h_fE; subst h_gA; subst h_gN; subst h_gE; subst h_gL; subst h_xA; subst h_xN; subst h_xE; subst h_xL; subst h_xV; subst h_fp; subst h_fs; subst h_fnn; subst h_fq; subst h_fn; subst h_fh; subst h_fx; subst h_fz; subst h_pz; subst h_px; subst h_uP; subst h_uE; subst h_uV; subst h_uX); (try simp only [std, stdBin, stdCmp, stdUna, stdIn, ci, beq_iff_eq, bne_iff_ne, beq_eq_false_iff_ne, bne_eq_false_iff_eq, decide_eq_true_eq, decide_eq_false_iff_not, Bool.not_true, Bool.not_false, Bool.not_eq_true', Bool.not_eq_false', Bool.not_not, tn0, tn1, tn2, tn3] at *); first | omega | contradiction))
      all_goals try (refine ⟨3, ?_, ?_, ?_⟩)
      all_goals try (show AS.le _ _; cbv; (repeat' (first | apply And.intro | apply BrB.mk | apply BrP.mk | intro _)))
      (all_goals (subst hA; subst h_c; subst h_fsh; subst h_fen; subst h_fV; subst h_fA; subst h_fN; subst h_fE; subst h_gA; subst h_gN; subst h_gE; subst h_gL; subst h_xA; subst h_xN; subst h_xE; subst h_xL; subst h_xV; subst h_fp; subst h_fs; subst h_fnn; subst h_fq; subst h_fn; subst h_fh; subst h_fx; subst h_fz; subst h_pz; subst h_px; subst h_uP; subst h_uE; subst h_uV; subst h_uX); all_goals (have f_sb := SB.out; have f_hp := HP.out); all_goals (try simp only [std, stdBin, stdCmp, stdUna, stdIn, ci, beq_iff_eq, bne_iff_ne, beq_eq_false_iff_ne, bne_eq_false_iff_eq, decide_eq_true_eq, decide_eq_false_iff_not, Bool.not_true, Bool.not_false, Bool.not_eq_true', Bool.not_eq_false', Bool.not_not, tn0, tn1, tn2, tn3] at *); all_goals (try omega))
      all_goals (have a1 := HRA.out; have n1 := HRN.out; have e1 := HRE.out; have v1 := HV.out)
      all_goals first
        | exact True.intro
        | omega
        | exact ⟨by decide, by decide⟩
        | (show _ = RA 3; rw [a1, a1, n1, e1]; rfl)
        | (show _ = RN 3; rw [n1, n1, e1]; rfl)
        | (refine congrArg (Value.int .i64) ?_; first | decide | (show _ = RE 3; rw [e1, e1, n1]; rfl) | (show _ = V 2; rw [v1, a1, n1, e1]; rfl))
        | trace_state
    · cbv
      (repeat' (first | apply And.intro | apply BrB.mk | apply BrP.mk | intro _))
      (all_goals try (exfalso; (subst hA; subst h_c; subst h_fsh; subst h_fen; subst h_fV; subst h_fA; subst h_fN; subst h_fE; subst h_gA; subst h_gN; subst h_gE; subst h_gL; subst h_xA; subst h_xN; subst h_xE; subst h_xL; subst h_xV; subst h_fp; subst h_fs; subst h_fnn; subst h_fq; subst h_fn; subst h_fh; subst h_fx; subst h_fz; subst h_pz; subst h_px; subst h_uP; subst h_uE; subst h_uV; subst h_uX); (try simp only [std, stdBin, stdCmp, stdUna, stdIn, ci, beq_iff_eq, bne_iff_ne, beq_eq_false_iff_ne, bne_eq_false_iff_eq, decide_eq_true_eq, decide_eq_false_iff_not, Bool.not_true, Bool.not_false, Bool.not_eq_true', Bool.not_eq_false', Bool.not_not, tn0, tn1, tn2, tn3] at *); first | omega | contradiction))
      all_goals try (refine loop_nil (hR := ?hR) [.cellR 4 5 41 exTy] Nat 50 (fun x => [(3, .any), (9, .any), (50, .v (.int .i64 (c x)))]) (fun x o => ((o.set 2 (.cells 93 [.sub 1 (P x) (M x), .v (.int .i64 0)])).set 4 (.cells 25 [.v (.int .i64 (V 0)), .v (.int .i64 (V 1)), .v (.int .i64 (V 2)), .v (.int .i64 VE), .v (.int .i64 (V 4)), .hdl 5])).set 5 (.srow 41 exTy (X x))) (fun x => x ≤ (dN b).toNat ∧ dRun b x = 0 ∧ dA b x ≤ b.length) (fun x => (dN b).toNat - x) 0 ?hz ?_ ?_)
      case hR => exact True.intro
      case refine_1 =>
        cbv
        (repeat' (first | apply And.intro | apply BrB.mk | apply BrP.mk | intro _))
        (all_goals (subst hA; subst h_c; subst h_fsh; subst h_fen; subst h_fV; subst h_fA; subst h_fN; subst h_fE; subst h_gA; subst h_gN; subst h_gE; subst h_gL; subst h_xA; subst h_xN; subst h_xE; subst h_xL; subst h_xV; subst h_fp; subst h_fs; subst h_fnn; subst h_fq; subst h_fn; subst h_fh; subst h_fx; subst h_fz; subst h_pz; subst h_px; subst h_uP; subst h_uE; subst h_uV; subst h_uX); all_goals (have f_sb := SB.out; have f_hp := HP.out); all_goals (try simp only [std, stdBin, stdCmp, stdUna, stdIn, ci, beq_iff_eq, bne_iff_ne, beq_eq_false_iff_ne, bne_eq_false_iff_eq, decide_eq_true_eq, decide_eq_false_iff_not, Bool.not_true, Bool.not_false, Bool.not_eq_true', Bool.not_eq_false', Bool.not_not, tn0, tn1, tn2, tn3, headF] at *); all_goals (try omega))
        (all_goals (have a1 := HRA.out; have n1 := HRN.out; have e1 := HRE.out; have v1 := HV.out; have p1 := HPP.out; have m1 := HM.out; have x1 := HX.out; have ve := HVE.out; have hN : llenI b = (b.length : Int) := rfl; have hS4 : shB (rwE (llenI b) 0 4) = decide ((b.length : Int) < 4) := ((RdAt.new (b.length : Int) (by omega)).raw (wd := 4) (by decide)).sh; have R3 : RdAt (b.length : Int) (RA 3) (RN 3) (RE 3) 7 := (by rw [a1, n1, e1]; exact rqN_at _ (by omega) 3); have R4 := R3.get (wd := 1) (by decide); have R5 := R4.get (wd := 1) (by decide); have R7 := R5.get (wd := 2) (by decide); have hS7 := R7.sh; rw [show (7 : Int) + 1 + 1 + 2 = 11 from rfl] at hS7; have hrow : ¬ (b.length : Int) < 4 → rwL b 0 (llenI b) 0 4 = std.lsub b 0 4 := fun h => (RdAt.new (b.length : Int) (by omega)).row (wd := 4) (by omega) (by decide)); all_goals (try simp only [hS4, hS7, decide_eq_true_eq, decide_eq_false_iff_not] at *))
        (all_goals (have h11 : ¬ (b.length : Int) < 11 := (by omega); have hV0 : V 0 = dV b 0 := (by rw [v1]; exact rqV_eq (by omega)); have hV1 : V 1 = dV b 1 := (by rw [v1]; exact rqV_eq (by omega)); have hV2 : V 2 = dV b 2 := (by rw [v1]; exact rqV_eq (by omega)); have hV4 : V 4 = dV b 4 := (by rw [v1]; exact rqV_eq (by omega)); have hVE : VE = dE b := (by rw [ve, rqV_eq (by omega)]; rfl); have hW3 : rdV b (RA 3) (RN 3) (RE 3) 1 = gF b 7 1 := R3.val (by omega) (by decide); have hW4 : rdV b (rdA (RA 3) (RN 3) (RE 3) 1) (rdN (RN 3) (RE 3) 1) (rdE (RN 3) (RE 3) 1) 1 = gF b 8 1 := R4.val (by omega) (by decide); have hW7 : rdV b (rdA (rdA (RA 3) (RN 3) (RE 3) 1) (rdN (RN 3) (RE 3) 1) (rdE (RN 3) (RE 3) 1) 1) (rdN (rdN (RN 3) (RE 3) 1) (rdE (RN 3) (RE 3) 1) 1) (rdE (rdN (RN 3) (RE 3) 1) (rdE (RN 3) (RE 3) 1) 1) 2 = gF b 9 2 := R5.val (by omega) (by decide); have hg7 : IntKind.i8.wrap (IntKind.i64.wrap (gF b 7 1)) = dE b := rfl; have hg8 : IntKind.i64.wrap (gF b 8 1) = dV b 4 := rfl; have hg9 : IntKind.i64.wrap (gF b 9 2) = dN b := rfl); all_goals (try simp only [hV0, hV1, hV2, hV4, hVE, hW3, hW4, hW7, hg7, hg8, hg9] at *))
        all_goals (have hR7 : _ = (11 : Int) ∧ _ = (b.length : Int) - 11 ∧ _ = (0 : Int) := R7.ok (Int.not_lt.1 h11); have hp0 : P 0 = 11 := (by rw [p1]; exact dA_zero b); have hm0 : M 0 = (b.length : Int) - 11 := (by rw [m1, dA_zero]))
        all_goals first
          | exact True.intro
          | with_reducible rfl
          | (show Value.int .i64 0 = Value.int .i64 ((0 : Nat) : Int); rfl)
          | (show _ = P 0; exact hR7.1.trans hp0.symm)
          | (show _ = M 0; exact hR7.2.1.trans hm0.symm)
          | exact congrArg (Value.int .i64) hR7.2.2
          | (show _ = X 0; rw [x1]; rfl)
          | trace_state
      case hz =>
        (all_goals (subst hA; subst h_c; subst h_fsh; subst h_fen; subst h_fV; subst h_fA; subst h_fN; subst h_fE; subst h_gA; subst h_gN; subst h_gE; subst h_gL; subst h_xA; subst h_xN; subst h_xE; subst h_xL; subst h_xV; subst h_fp; subst h_fs; subst h_fnn; subst h_fq; subst h_fn; subst h_fh; subst h_fx; subst h_fz; subst h_pz; subst h_px; subst h_uP; subst h_uE; subst h_uV; subst h_uX); all_goals (have f_sb := SB.out; have f_hp := HP.out); all_goals (try simp only [std, stdBin, stdCmp, stdUna, stdIn, ci, beq_iff_eq, bne_iff_ne, beq_eq_false_iff_ne, bne_eq_false_iff_eq, decide_eq_true_eq, decide_eq_false_iff_not, Bool.not_true, Bool.not_false, Bool.not_eq_true', Bool.not_eq_false', Bool.not_not, tn0, tn1, tn2, tn3, headF] at *); all_goals (try omega))
        (all_goals (have a1 := HRA.out; have n1 := HRN.out; have e1 := HRE.out; have v1 := HV.out; have p1 := HPP.out; have m1 := HM.out; have x1 := HX.out; have ve := HVE.out; have hN : llenI b = (b.length : Int) := rfl; have hS4 : shB (rwE (llenI b) 0 4) = decide ((b.length : Int) < 4) := ((RdAt.new (b.length : Int) (by omega)).raw (wd := 4) (by decide)).sh; have R3 : RdAt (b.length : Int) (RA 3) (RN 3) (RE 3) 7 := (by rw [a1, n1, e1]; exact rqN_at _ (by omega) 3); have R4 := R3.get (wd := 1) (by decide); have R5 := R4.get (wd := 1) (by decide); have R7 := R5.get (wd := 2) (by decide); have hS7 := R7.sh; rw [show (7 : Int) + 1 + 1 + 2 = 11 from rfl] at hS7; have hrow : ¬ (b.length : Int) < 4 → rwL b 0 (llenI b) 0 4 = std.lsub b 0 4 := fun h => (RdAt.new (b.length : Int) (by omega)).row (wd := 4) (by omega) (by decide)); all_goals (try simp only [hS4, hS7, decide_eq_true_eq, decide_eq_false_iff_not] at *))
        refine ⟨Nat.zero_le _, rfl, ?_⟩
        rw [dA_zero]
        omega
      all_goals try (intro x hx; cbv; refine BrB.mk (fun gq => ?_) (fun gq => ?_))
      all_goals (repeat' (first | apply And.intro | apply BrB.mk | apply BrP.mk | intro _))
      (all_goals try (exfalso; (subst hA; subst h_c; subst h_fsh; subst h_fen; subst h_fV; subst h_fA; subst h_fN; subst h_fE; subst h_gA; subst h_gN; subst h_gE; subst h_gL; subst h_xA; subst h_xN; subst h_xE; subst h_xL; subst h_xV; subst h_fp; subst h_fs; subst h_fnn; subst h_fq; subst h_fn; subst h_fh; subst h_fx; subst h_fz; subst h_pz; subst h_px; subst h_uP; subst h_uE; subst h_uV; subst h_uX); (try simp only [std, stdBin, stdCmp, stdUna, stdIn, ci, beq_iff_eq, bne_iff_ne, beq_eq_false_iff_ne, bne_eq_false_iff_eq, decide_eq_true_eq, decide_eq_false_iff_not, Bool.not_true, Bool.not_false, Bool.not_eq_true', Bool.not_eq_false', Bool.not_not, tn0, tn1, tn2, tn3] at *); first | omega | contradiction))
      all_goals try (have _ : _ = true := gq; refine ⟨x + 1, ?_, ?_, ?_⟩)
      all_goals try (show AS.le _ _; cbv; (repeat' (first | apply And.intro | apply BrB.mk | apply BrP.mk | intro _)))
      (all_goals (subst hA; subst h_c; subst h_fsh; subst h_fen; subst h_fV; subst h_fA; subst h_fN; subst h_fE; subst h_gA; subst h_gN; subst h_gE; subst h_gL; subst h_xA; subst h_xN; subst h_xE; subst h_xL; subst h_xV; subst h_fp; subst h_fs; subst h_fnn; subst h_fq; subst h_fn; subst h_fh; subst h_fx; subst h_fz; subst h_pz; subst h_px; subst h_uP; subst h_uE; subst h_uV; subst h_uX); all_goals (have f_sb := SB.out; have f_hp := HP.out); all_goals (try simp only [std, stdBin, stdCmp, stdUna, stdIn, ci, beq_iff_eq, bne_iff_ne, beq_eq_false_iff_ne, bne_eq_false_iff_eq, decide_eq_true_eq, decide_eq_false_iff_not, Bool.not_true, Bool.not_false, Bool.not_eq_true', Bool.not_eq_false', Bool.not_not, tn0, tn1, tn2, tn3, headF, exF, sizeF, boxP, boxP1, decEF, decVF, decXF, Int.toNat_natCast] at *); all_goals (try omega))
      (all_goals (have a1 := HRA.out; have n1 := HRN.out; have e1 := HRE.out; have v1 := HV.out; have p1 := HPP.out; have m1 := HM.out; have x1 := HX.out; have ve := HVE.out; have hN : llenI b = (b.length : Int) := rfl; have hS4 : shB (rwE (llenI b) 0 4) = decide ((b.length : Int) < 4) := ((RdAt.new (b.length : Int) (by omega)).raw (wd := 4) (by decide)).sh; have R3 : RdAt (b.length : Int) (RA 3) (RN 3) (RE 3) 7 := (by rw [a1, n1, e1]; exact rqN_at _ (by omega) 3); have R4 := R3.get (wd := 1) (by decide); have R5 := R4.get (wd := 1) (by decide); have R7 := R5.get (wd := 2) (by decide); have hS7 := R7.sh; rw [show (7 : Int) + 1 + 1 + 2 = 11 from rfl] at hS7; have hrow : ¬ (b.length : Int) < 4 → rwL b 0 (llenI b) 0 4 = std.lsub b 0 4 := fun h => (RdAt.new (b.length : Int) (by omega)).row (wd := 4) (by omega) (by decide)); all_goals (try simp only [hS4, hS7, decide_eq_true_eq, decide_eq_false_iff_not] at *))
      all_goals (have h4 : ¬ (b.length : Int) < 4 := (by assumption))
      all_goals (have hm : dMark b = true := (by
        have hz : (strOfNums (rwL b 0 (llenI b) 0 4)).toList = _ := (by assumption)
        rw [hrow h4] at hz
        exact mark_iff.1 hz))
      all_goals first
        | exact True.intro
        | exact ⟨by decide, by decide⟩
        | (have h10 : (b.length : Int) < 11 := (by assumption)
           have hE := decE11 h4 hm h10
           first | exact True.intro | omega | (exfalso; omega) | exact congrArg (Value.int .i64) (by omega))
        | skip
      (all_goals (have h11 : ¬ (b.length : Int) < 11 := (by omega); have hV0 : V 0 = dV b 0 := (by rw [v1]; exact rqV_eq (by omega)); have hV1 : V 1 = dV b 1 := (by rw [v1]; exact rqV_eq (by omega)); have hV2 : V 2 = dV b 2 := (by rw [v1]; exact rqV_eq (by omega)); have hV4 : V 4 = dV b 4 := (by rw [v1]; exact rqV_eq (by omega)); have hVE : VE = dE b := (by rw [ve, rqV_eq (by omega)]; rfl); have hW3 : rdV b (RA 3) (RN 3) (RE 3) 1 = gF b 7 1 := R3.val (by omega) (by decide); have hW4 : rdV b (rdA (RA 3) (RN 3) (RE 3) 1) (rdN (RN 3) (RE 3) 1) (rdE (RN 3) (RE 3) 1) 1 = gF b 8 1 := R4.val (by omega) (by decide); have hW7 : rdV b (rdA (rdA (RA 3) (RN 3) (RE 3) 1) (rdN (RN 3) (RE 3) 1) (rdE (RN 3) (RE 3) 1) 1) (rdN (rdN (RN 3) (RE 3) 1) (rdE (RN 3) (RE 3) 1) 1) (rdE (rdN (RN 3) (RE 3) 1) (rdE (RN 3) (RE 3) 1) 1) 2 = gF b 9 2 := R5.val (by omega) (by decide); have hg7 : IntKind.i8.wrap (IntKind.i64.wrap (gF b 7 1)) = dE b := rfl; have hg8 : IntKind.i64.wrap (gF b 8 1) = dV b 4 := rfl; have hg9 : IntKind.i64.wrap (gF b 9 2) = dN b := rfl); all_goals (try simp only [hV0, hV1, hV2, hV4, hVE, hW3, hW4, hW7, hg7, hg8, hg9] at *))
      all_goals first
        | (have hh : headB (dV b 0) (dV b 1) (dV b 2) (dE b) (dV b 4) (dN b) = false := (by assumption)
           have hE := decEh hm h11 hh
           first | exact True.intro | omega | (exfalso; omega) | exact congrArg (Value.int .i64) (by omega))
        | skip
      all_goals (have hh : headB (dV b 0) (dV b 1) (dV b 2) (dE b) (dV b 4) (dN b) = true := (by assumption))
      all_goals (obtain ⟨hx1, hx2, hx3⟩ := hx; obtain ⟨g1, g2, g3, g4, g5, g6, g7⟩ := ex_hd hh; have hc := chw_in g1 g2 g3; have hss : dV b 0 * dV b 1 * dV b 2 = dS b := rfl; have hs0 : 0 ≤ dS b := (by rw [← hss]; exact Int.le_trans (by decide) hc.2.1); have hRx := ex_at (b := b) (x := x) (s := dS b) rfl hs0 hx3; have hsu := dA_succ b x; have hsh := hRx.1.sh; have ha0 := dA_ge (b := b) (x := x) hs0; have hpx := p1 x; have hmx := m1 x; have hpx1 := p1 (x + 1); have hmx1 := m1 (x + 1); have hX0 := x1 x; have hX1 := x1 (x + 1); have hXl := dX_len b x; have hXs := dX_succ b x; have hp : (b.length : Int) ≤ 140737488355328 := f_hp; have hrs := dA_ge (b := b) (x := x + 1) hs0)
      all_goals (clear R3 R4 R5 R7 hrow p1 m1 x1 a1 n1 e1 v1 HV HRA HRN HRE HPP HM HX HVE ve HP hN hS4 hS7 hj)
      all_goals (try simp only [hss, hpx, hmx, hsh, decide_eq_true_eq, decide_eq_false_iff_not] at *)
      all_goals (have LF : (x : Int) < dN b → _ := fun q => loop_facts (x := x) hm h11 hh q hx2)
      all_goals first
        | exact True.intro
        | exact ⟨g1, g2, g3⟩
        | exact ⟨g1, g2, g3, g5⟩
        | skip
      all_goals (first
        | (have hlt : (x : Int) < dN b := gq
           obtain ⟨L1, L2, L3⟩ := LF hlt
           clear LF gq
           generalize decE b = E0 at *
           generalize dN b = N0 at *
           generalize dS b = S0 at *
           generalize dA b x = A0 at *
           generalize dA b (x + 1) = A1 at *
           (try generalize dV b 0 = v0' at *); (try generalize dV b 1 = v1' at *); (try generalize dV b 2 = v2' at *); (try generalize dV b 4 = v4' at *); (try generalize dE b = e3' at *)
           first
             | (show (b.length : Int) - A0 ≤ 140737488355328; clear L2 L3 hXs; omega)
             | exact (Int.sub_nonneg.2 hx3 : (0 : Int) ≤ (b.length : Int) - A0)
             | exact show nnI ((b.length : Int) - A0) from Int.sub_nonneg.2 hx3
             | (have hc1 : (b.length : Int) < A1 := (by assumption)
                have hE := L1 hc1
                clear L1 L2 L3 hXs hRx
                first | exact True.intro | (exfalso; omega) | exact congrArg (Value.int .i64) (by omega))
             | (have hc1 : ¬ (b.length : Int) < A1 := (by assumption)
                obtain ⟨w1, w2⟩ := hRx.2 (Int.not_lt.1 hc1)
                simp only [w1, w2] at *
                first
                  | (have hE := L2 hc1 (by assumption)
                     clear L1 L2 L3 hXs hRx
                     first | exact True.intro | (exfalso; omega) | exact congrArg (Value.int .i64) (by omega))
                  | (obtain ⟨m1, m2, m3⟩ := L3 hc1 (by assumption)
                     obtain ⟨z1, z2, z3⟩ := hRx.1.ok m3
                     first
                       | exact True.intro
                       | exact ⟨m1, m2, m3⟩
                       | (show _ = P (x + 1); rw [z1, hpx1])
                       | (show _ = M (x + 1); rw [z2, hmx1])
                       | (show Value.int .i64 (xaE _ _ _) = Value.int .i64 0; rw [z3])
                       | (show _ = X (x + 1); rw [hX1, hXs, ← hX0]; rfl)
                       | (show (((X x).ls.length : Int) + 1) * 32 ≤ 140737488355328 ∧ ((X x).ls.length : Int) + 1 ≤ 281474976710656; rw [hX0, hXl]; clear hXs hRx L1 L2 L3; omega)
                       | (show N0.toNat - (x + 1) < N0.toNat - x; clear hXs hRx L1 L2 L3; omega)
                       | (show Value.int .i64 (IntKind.i64.wrap ((x : Int) + 1)) = _; clear hXs hRx L1 L2 L3; rw [w64 (by omega) (by omega)]; exact congrArg (Value.int .i64) (by omega))
                       | trace_state))
             | trace_state)
        | (have hge : ¬ (x : Int) < dN b := gq
           obtain ⟨hE, hxe⟩ := loop_out (x := x) hm h11 hh hge hx1 hx2 hx3
           clear LF gq hRx
           first
             | exact True.intro
             | with_reducible rfl
             | (show X x = dX' b (dN b).toNat; rw [hX0, hxe])
             | (clear hX0 hX1 hXs hxe
                generalize decE b = E0 at *
                generalize endI ((b.length : Int) - dA b x) 0 = Q0 at *
                generalize dN b = N0 at *
                generalize dS b = S0 at *
                generalize dA b x = A0 at *
                generalize dA b (x + 1) = A1 at *
                (try generalize dV b 0 = v0' at *); (try generalize dV b 1 = v1' at *); (try generalize dV b 2 = v2' at *); (try generalize dV b 4 = v4' at *); (try generalize dE b = e3' at *)
                first | exact True.intro | (exfalso; omega) | exact congrArg (Value.int .i64) (by omega) | trace_state))
        | trace_state)
    · omega
  (all_goals (subst hA; subst h_c; subst h_fsh; subst h_fen; subst h_fV; subst h_fA; subst h_fN; subst h_fE; subst h_gA; subst h_gN; subst h_gE; subst h_gL; subst h_xA; subst h_xN; subst h_xE; subst h_xL; subst h_xV; subst h_fp; subst h_fs; subst h_fnn; subst h_fq; subst h_fn; subst h_fh; subst h_fx; subst h_fz; subst h_pz; subst h_px; subst h_uP; subst h_uE; subst h_uV; subst h_uX); all_goals (have f_sb := SB.out; have f_hp := HP.out); all_goals (try simp only [std, stdBin, stdCmp, stdUna, stdIn, ci, beq_iff_eq, bne_iff_ne, beq_eq_false_iff_ne, bne_eq_false_iff_eq, decide_eq_true_eq, decide_eq_false_iff_not, Bool.not_true, Bool.not_false, Bool.not_eq_true', Bool.not_eq_false', Bool.not_not, tn0, tn1, tn2, tn3, decEF, decVF, decXF] at *); all_goals (try omega))
  (all_goals (have a1 := HRA.out; have n1 := HRN.out; have e1 := HRE.out; have v1 := HV.out; have p1 := HPP.out; have m1 := HM.out; have x1 := HX.out; have ve := HVE.out; have hN : llenI b = (b.length : Int) := rfl; have hS4 : shB (rwE (llenI b) 0 4) = decide ((b.length : Int) < 4) := ((RdAt.new (b.length : Int) (by omega)).raw (wd := 4) (by decide)).sh; have R3 : RdAt (b.length : Int) (RA 3) (RN 3) (RE 3) 7 := (by rw [a1, n1, e1]; exact rqN_at _ (by omega) 3); have R4 := R3.get (wd := 1) (by decide); have R5 := R4.get (wd := 1) (by decide); have R7 := R5.get (wd := 2) (by decide); have hS7 := R7.sh; rw [show (7 : Int) + 1 + 1 + 2 = 11 from rfl] at hS7; have hrow : ¬ (b.length : Int) < 4 → rwL b 0 (llenI b) 0 4 = std.lsub b 0 4 := fun h => (RdAt.new (b.length : Int) (by omega)).row (wd := 4) (by omega) (by decide)); all_goals (try simp only [hS4, hS7, decide_eq_true_eq, decide_eq_false_iff_not] at *))
  all_goals first
    | exact True.intro
    | (have hE := decE4 (b := b) (by omega); first | exact True.intro | omega | (exfalso; omega) | exact congrArg (Value.int .i64) (by omega))
    | (have h4 : ¬ (b.length : Int) < 4 := (by assumption)
       have hm : dMark b = false := (by
         cases hq : dMark b with
         | false => rfl
         | true =>
           have hz : (strOfNums (rwL b 0 (llenI b) 0 4)).toList ≠ _ := (by assumption)
           rw [hrow h4] at hz
           exact absurd (mark_iff.2 hq) hz)
       have hE := decEm h4 hm
       first | exact True.intro | omega | (exfalso; omega) | exact congrArg (Value.int .i64) (by omega))
    | (have hp : smL b := f_hp; exact hp)
    | trace_state
end Go.Proofs.Ytmlfiphpcjkadaa
