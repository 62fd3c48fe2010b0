/- Layer 23: it is as the document says. -/
import Derived.Test.YtmlfiphpcjkadaaBatF
namespace Go.Proofs.Ytmlfiphpcjkadaa
open Go.RowKit
set_option maxRecDepth 100000
set_option linter.unusedSimpArgs false
set_option linter.unusedVariables false
set_option maxHeartbeats 16000000
set_option cbv.maxSteps 10000000
/-- How many numbers examples have, wrapped as they are added up. -/
def ksum (x : Dat) : Nat → Int
  | 0 => 0
  | n + 1 => IntKind.i64.wrap (ksum x n + ci ((x.at n).fld 0).ints.length)
theorem sameTn_self (t : Tn) : sameTn t t = true := (sameTn_iff t.dims t.data t.dims t.data t.exp t.exp).2 ⟨rfl, rfl, rfl⟩
theorem forms23_ok : CtrOk Try.prog 8 (boolC [.int .u64, .int .i64, .int .i64, .int .i64, dsTy, .sl (.int .i64)] yes) := by
  obtain ⟨G, hG⟩ : ∃ G : List (FuncId × Ctr), G = [(23, batC [dsTy, .sl (.int .i64)] 3 42 batE batR batL), (24, batC [dsTy, .sl (.int .i64)] 3 42 batE batR batL), (25, intC [.int .i64, .int .i64] .i64 stepsF), (26, intC [.int .i64, .int .i64] .i64 stepsF), (28, rowC [.int .u64, .int .i64, .int .i64, .int .i64] 3 .i64 whichF), (27, boolC [.sl (.int .i64), .sl (.int .i64)] eqF), (30, boolC [tnTy .i8, tnTy .i8] sameTnF), (22, boolC [] yes)] := ⟨_, rfl⟩
  refine fn_inl2 (ck := false) rfl [(29, whC whichF)] ⟨⟨by unfold FnOk; kernel_rfl, rwhich_ok⟩, trivial⟩ [] trivial Try.func8 rfl tt_ok (G := G) (by rw [hG]; exact ⟨⟨of_ok, by unfold FnOk; kernel_rfl⟩, ⟨rbat_ok, by unfold FnOk; kernel_rfl⟩, ⟨steps_ok, by unfold FnOk; kernel_rfl⟩, ⟨rsteps_ok, by unfold FnOk; kernel_rfl⟩, ⟨which_ok, by unfold FnOk; kernel_rfl⟩, ⟨rsame_ok, by unfold FnOk; kernel_rfl⟩, ⟨rsameT_ok, by unfold FnOk; kernel_rfl⟩, ⟨awake23_ok, by unfold FnOk; kernel_rfl⟩, trivial⟩) mixed (by kernel_rfl) ?_
  intro xa xs h hx hp
  obtain ⟨a0, as0, x0, xs0, rfl, rfl, h0, H1⟩ := svArgs_cons h
  obtain ⟨a1, as1, x1, xs1, rfl, rfl, h1, H2⟩ := svArgs_cons H1
  obtain ⟨a2, as2, x2, xs2, rfl, rfl, h2, H3⟩ := svArgs_cons H2
  obtain ⟨a3, as3, x3, xs3, rfl, rfl, h3, H4⟩ := svArgs_cons H3
  obtain ⟨a4, as4, x4, xs4, rfl, rfl, h4, H5⟩ := svArgs_cons H4
  obtain ⟨a5, as5, x5, xs5, rfl, rfl, h5, H6⟩ := svArgs_cons H5
  obtain ⟨rfl, rfl⟩ := svArgs_nil H6
  obtain ⟨a, rfl, rfl⟩ := argSV_int h0
  obtain ⟨n, rfl, rfl⟩ := argSV_int h1
  obtain ⟨z, rfl, rfl⟩ := argSV_int h2
  obtain ⟨s, rfl, rfl⟩ := argSV_int h3
  obtain ⟨dc, dh, dw, de, dk, dx, rfl, rfl⟩ := argSV_ds h4
  obtain ⟨l, rfl, rfl⟩ := argSV_ints h5
  have sa : (Lit.int .u64 a).wf = true := (hx (.v (.int .u64 a)) (by simp))
  have sn := of_i64 (hx (.v (.int .i64 n)) (by simp))
  have sz := of_i64 (hx (.v (.int .i64 z)) (by simp))
  have ss := of_i64 (hx (.v (.int .i64 s)) (by simp))
  have sd : (-9223372036854775808 ≤ dc ∧ dc ≤ 9223372036854775807) ∧ (-9223372036854775808 ≤ dh ∧ dh ≤ 9223372036854775807) ∧ (-9223372036854775808 ≤ dw ∧ dw ≤ 9223372036854775807) ∧ (-9223372036854775808 ≤ de ∧ de ≤ 9223372036854775807) ∧ (-9223372036854775808 ≤ dk ∧ dk ≤ 9223372036854775807) ∧ ((ci dx.ls.length ≤ 9223372036854775807) ∧ Wt (.sl exTy) dx) := svf_ds (hx (.agg [.v (.int .i64 dc), .v (.int .i64 dh), .v (.int .i64 dw), .v (.int .i64 de), .v (.int .i64 dk), .imm exTy dx]) (List.mem_of_getElem? (i := 4) rfl))
  have sl : Fits .i64 l ∧ ci l.length ≤ 9223372036854775807 := svf_ints (hx (.iimm .i64 l) (by simp))
  have SA := Lib.hid sa
  clear sa
  have SN := Lib.hid sn
  clear sn
  have SZ := Lib.hid sz
  clear sz
  have SS := Lib.hid ss
  clear ss
  have SD := Lib.hid sd
  clear sd
  have SL := Lib.hid sl
  clear sl
  clear hx hp h h0 H1 h1 H2 h2 H3 h3 H4 h4 H5 h5 H6
  generalize hA : std = A
  subst hG
  generalize h_c : ci = c
  generalize h_fE : batE = fE
  generalize h_fR : batR = fR
  generalize h_fL : batL = fL
  generalize h_fst : stepsF = fst
  generalize h_fw : whichF = fw
  generalize h_fs : eqF = fs
  generalize h_ft : sameTnF = ft
  generalize h_fY : yes = fY
  obtain ⟨V, hV⟩ : ∃ V : Nat → Int, ∀ x, V x = ksum dx x := ⟨_, fun _ => rfl⟩
  have HV := Lib.hid hV
  clear hV
  cbv
  (repeat' (first | apply And.intro | apply BrB.mk | apply BrP.mk | intro _))
  all_goals try (refine loop_at Nat 25 (fun x => [(13, .v (.int .i64 (V x))), (14, .any), (15, .any), (25, .v (.int .i64 (c x)))]) (fun _ o => o) (fun x => ci x ≤ ci dx.ls.length) (fun x => dx.ls.length - x) 0 ?h0 ?hle ?round)
  case h0 => simp [ci]
  case hle =>
    cbv
    (repeat' (first | apply And.intro | apply BrB.mk | apply BrP.mk | intro _))
    (all_goals (subst hA; subst h_c; subst h_fE; subst h_fR; subst h_fL; subst h_fst; subst h_fw; subst h_fs; subst h_ft; subst h_fY); all_goals (have f_sa := SA.out; have f_sn := SN.out; have f_sz := SZ.out; have f_ss := SS.out; have f_sd := SD.out; have f_sl := SL.out); all_goals (try simp only [std, stdBin, stdCmp, stdUna, stdIn, ci, beq_iff_eq, bne_iff_ne, beq_eq_false_iff_ne, bne_eq_false_iff_eq, decide_eq_true_eq, decide_eq_false_iff_not, Bool.not_true, Bool.not_false, Bool.not_eq_true', Bool.not_eq_false', Bool.not_not, tn0, tn1, tn2, tn3] at *); all_goals (try omega))
    all_goals first | exact True.intro | rfl | (rw [HV.out]; rfl) | trace_state
  case round =>
    intro x hx
    cbv
    refine BrB.mk (fun ga => ?yb) (fun ga => ?nb)
    case yb =>
      (repeat' (first | apply And.intro | apply BrB.mk | apply BrP.mk | intro _))
      all_goals try (refine ⟨x + 1, ?_, ?_, ?_⟩)
      all_goals try (show AS.le _ _; cbv; (repeat' (first | apply And.intro | apply BrB.mk | apply BrP.mk | intro _)))
      (all_goals (subst hA; subst h_c; subst h_fE; subst h_fR; subst h_fL; subst h_fst; subst h_fw; subst h_fs; subst h_ft; subst h_fY); all_goals (have f_sa := SA.out; have f_sn := SN.out; have f_sz := SZ.out; have f_ss := SS.out; have f_sd := SD.out; have f_sl := SL.out); all_goals (try simp only [std, stdBin, stdCmp, stdUna, stdIn, ci, beq_iff_eq, bne_iff_ne, beq_eq_false_iff_ne, bne_eq_false_iff_eq, decide_eq_true_eq, decide_eq_false_iff_not, Bool.not_true, Bool.not_false, Bool.not_eq_true', Bool.not_eq_false', Bool.not_not, tn0, tn1, tn2, tn3] at *); all_goals (try omega))
      all_goals first
        | exact True.intro
        | rfl
        | (rw [HV.out, HV.out]; rfl)
        | (rw [w64 (by omega) (by omega)]; exact congrArg _ (by omega))
        | trace_state
    case nb =>
      (repeat' (first | apply And.intro | apply BrB.mk | apply BrP.mk | intro _))
      (all_goals (subst hA; subst h_c; subst h_fE; subst h_fR; subst h_fL; subst h_fst; subst h_fw; subst h_fs; subst h_ft; subst h_fY); all_goals (have f_sa := SA.out; have f_sn := SN.out; have f_sz := SZ.out; have f_ss := SS.out; have f_sd := SD.out; have f_sl := SL.out); all_goals (try simp only [std, stdBin, stdCmp, stdUna, stdIn, ci, beq_iff_eq, bne_iff_ne, beq_eq_false_iff_ne, bne_eq_false_iff_eq, decide_eq_true_eq, decide_eq_false_iff_not, Bool.not_true, Bool.not_false, Bool.not_eq_true', Bool.not_eq_false', Bool.not_not, tn0, tn1, tn2, tn3] at *); all_goals (try omega))
      all_goals (try first | rfl | contradiction | (simp_all [sameTn_self, eqF, sameTnF]; done))
      all_goals trace_state
  (all_goals (subst hA; subst h_c; subst h_fE; subst h_fR; subst h_fL; subst h_fst; subst h_fw; subst h_fs; subst h_ft; subst h_fY); all_goals (have f_sa := SA.out; have f_sn := SN.out; have f_sz := SZ.out; have f_ss := SS.out; have f_sd := SD.out; have f_sl := SL.out); all_goals (try simp only [std, stdBin, stdCmp, stdUna, stdIn, ci, beq_iff_eq, bne_iff_ne, beq_eq_false_iff_ne, bne_eq_false_iff_eq, decide_eq_true_eq, decide_eq_false_iff_not, Bool.not_true, Bool.not_false, Bool.not_eq_true', Bool.not_eq_false', Bool.not_not, tn0, tn1, tn2, tn3] at *); all_goals (try omega))
  all_goals trace_state
end Go.Proofs.Ytmlfiphpcjkadaa
