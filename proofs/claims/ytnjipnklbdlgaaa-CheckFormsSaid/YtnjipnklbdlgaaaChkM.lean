/- Layer 16: any net: what each layer gives; may it be; its longest sum. -/
import Derived.Test.YtnjipnklbdlgaaaChkL
namespace Go.Proofs.Ytnjipnklbdlgaaa
open Go.RowKit
set_option maxRecDepth 1000000
set_option linter.unusedSimpArgs false
set_option linter.unusedVariables false
set_option maxHeartbeats 16000000
set_option cbv.maxSteps 10000000
theorem forms16_ok : CtrOk Try.prog 3 (yes6 [mdlTy, .int .i64, .int .i64] (fun _ => True)) := by
  obtain ⟨G, hG⟩ : ∃ G : List (FuncId × Ctr), G = [(15, twoC [mdlTy, .int .i64, .int .i64] netN netF), (16, threeC [mdlTy, .int .i64, .int .i64] rlF netN netF), (17, intC [mdlTy, .int .i64] .i64 longF), (18, intC [mdlTy, .int .i64] .i64 longF), (14, boolC [.sl (.int .i64), .sl (.int .i64)] eqF), (11, yes6 [] (fun _ => True))] := ⟨_, rfl⟩
  refine fn_inl2 (ck := true) rfl [(12, shpC shpE shpN shpD), (13, shpC shpE shpN shpD)] ⟨⟨by unfold FnOk; kernel_rfl, shapes_ok⟩, ⟨by unfold FnOk; kernel_rfl, rshapes_ok⟩, trivial⟩ [] trivial Try.func3 rfl tt_ok (G := G) (by rw [hG]; exact ⟨⟨net_ok, by unfold FnOk; kernel_rfl⟩, ⟨rnet_ok, by unfold FnOk; kernel_rfl⟩, ⟨long_ok, by unfold FnOk; kernel_rfl⟩, ⟨rlong_ok, by unfold FnOk; kernel_rfl⟩, ⟨rsame_ok, by unfold FnOk; kernel_rfl⟩, ⟨awake16_ok, by unfold FnOk; kernel_rfl⟩, trivial⟩) mixed (by kernel_rfl) ?_
  intro xa xs h hx hp
  obtain ⟨a0, as0, x0, xs0, rfl, rfl, h0, H1⟩ := svArgs_cons h
  obtain ⟨a1, as1, x1, xs1, rfl, rfl, h1, H2⟩ := svArgs_cons H1
  obtain ⟨a2, as2, x2, xs2, rfl, rfl, h2, H3⟩ := svArgs_cons H2
  obtain ⟨rfl, rfl⟩ := svArgs_nil H3
  obtain ⟨mc, mh, mw, mx, rfl, rfl⟩ := argSV_mdl h0
  obtain ⟨n, rfl, rfl⟩ := argSV_int h1
  obtain ⟨b, rfl, rfl⟩ := argSV_int h2
  have sm : (-9223372036854775808 ≤ mc ∧ mc ≤ 9223372036854775807) ∧ (-9223372036854775808 ≤ mh ∧ mh ≤ 9223372036854775807) ∧ (-9223372036854775808 ≤ mw ∧ mw ≤ 9223372036854775807) ∧ ((ci mx.ls.length ≤ 9223372036854775807) ∧ Wt (.sl layTy) mx) := svf_mdl (hx (.agg [.v (.int .i64 mc), .v (.int .i64 mh), .v (.int .i64 mw), .imm layTy mx]) (List.mem_of_getElem? (i := 0) rfl))
  have sn := of_i64 (hx (.v (.int .i64 n)) (by simp))
  have sb := of_i64 (hx (.v (.int .i64 b)) (by simp))
  have SM := Lib.hid sm
  clear sm
  have SN := Lib.hid sn
  clear sn
  have SB := Lib.hid sb
  clear sb
  clear hx hp h h0 H1 h1 H2 h2 H3
  generalize hA : std = A
  subst hG
  generalize h_c : ci = c
  generalize h_fe : shpE = fe
  generalize h_fN : shpN = fN
  generalize h_fD : shpD = fD
  generalize h_fs : eqF = fs
  generalize h_gN : netN = gN
  generalize h_gE : netF = gE
  generalize h_gL : longF = gL
  generalize h_gR : rlF = gR
  cbv
  (repeat' (first | apply And.intro | apply BrB.mk | apply BrP.mk | intro _))
  (all_goals try (exfalso; (subst hA; subst h_c; subst h_fe; subst h_fN; subst h_fD; subst h_fs; subst h_gN; subst h_gE; subst h_gL; subst h_gR); (try simp only [std, stdBin, stdCmp, stdUna, stdIn, ci, beq_iff_eq, bne_iff_ne, beq_eq_false_iff_ne, bne_eq_false_iff_eq, decide_eq_true_eq, decide_eq_false_iff_not, Bool.not_true, Bool.not_false, Bool.not_eq_true', Bool.not_eq_false', Bool.not_not, tn0, tn1, tn2, tn3] at *); first | omega | contradiction))
  all_goals try (refine loop_at Nat 53 (fun k => [(6, .any), (13, .any), (53, .v (.int .i64 (c k)))]) (fun k o => o) (fun k => k ≤ mx.ls.length + 1) (fun k => mx.ls.length + 1 - k) 0 (Nat.zero_le _) ?_ ?_
                 focus
                   show AS.le _ _
                   cbv
                   (repeat' (first | apply And.intro | apply BrB.mk | apply BrP.mk | intro _))
                   (all_goals (subst hA; subst h_c; subst h_fe; subst h_fN; subst h_fD; subst h_fs; subst h_gN; subst h_gE; subst h_gL; subst h_gR); all_goals (have f_sm := SM.out; have f_sn := SN.out; have f_sb := SB.out); all_goals (try simp only [std, stdBin, stdCmp, stdUna, stdIn, ci, beq_iff_eq, bne_iff_ne, beq_eq_false_iff_ne, bne_eq_false_iff_eq, decide_eq_true_eq, decide_eq_false_iff_not, Bool.not_true, Bool.not_false, Bool.not_eq_true', Bool.not_eq_false', Bool.not_not, tn0, tn1, tn2, tn3] at *); all_goals (try omega))
                   all_goals first | exact True.intro | rfl
                   done)
  all_goals try (intro k hk; cbv; refine BrB.mk (fun gx => ?_) (fun gx => ?_))
  all_goals (repeat' (first | apply And.intro | apply BrB.mk | apply BrP.mk | intro _))
  all_goals try (refine ⟨k + 1, ?_, ?_, ?_⟩)
  all_goals try (show AS.le _ _; cbv; (repeat' (first | apply And.intro | apply BrB.mk | apply BrP.mk | intro _)))
  (all_goals (subst hA; subst h_c; subst h_fe; subst h_fN; subst h_fD; subst h_fs; subst h_gN; subst h_gE; subst h_gL; subst h_gR); all_goals (have f_sm := SM.out; have f_sn := SN.out; have f_sb := SB.out); all_goals (try simp only [std, stdBin, stdCmp, stdUna, stdIn, ci, beq_iff_eq, bne_iff_ne, beq_eq_false_iff_ne, bne_eq_false_iff_eq, decide_eq_true_eq, decide_eq_false_iff_not, Bool.not_true, Bool.not_false, Bool.not_eq_true', Bool.not_eq_false', Bool.not_not, tn0, tn1, tn2, tn3, eqF, shpE, shpN, shpD, rowsD_at', rowsD_len, shp_len, netN, netF, longF, Int.toNat_natCast] at *); all_goals (try omega))
  all_goals first
    | exact True.intro
    | exact congrArg (Value.int .i64) (Int.natCast_succ _).symm
    | omega
    | contradiction
    | (exfalso; simp_all; done)
    | (simp; done)
    | (have hz : (shpR mc mh mw mx).2 = 0 := (by assumption)
       obtain ⟨hm, hS⟩ := shpR_ok hz
       obtain ⟨m1, m2, m3, m4, m5⟩ := mdl_of hm
       first | omega | trace_state)
    | trace_state
end Go.Proofs.Ytnjipnklbdlgaaa
