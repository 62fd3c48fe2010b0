/- Layer 3: any calls: the bytes. -/
import Derived.Test.YthklcldmoakbfaaOctF
import Derived.Test.YthklcldmoakbfaaBulk
namespace Go.Proofs.Ythklcldmoakbfaa
open Go.RowKit
set_option maxRecDepth 100000
set_option linter.unusedSimpArgs false
set_option linter.unusedVariables false
set_option maxHeartbeats 16000000
set_option cbv.maxSteps 10000000
theorem writes_ok : CtrOk Try.prog 3 (yesP [.sl callTy] wrP) := by
  obtain ⟨G, hG⟩ : ∃ G : List (FuncId × Ctr), G = [(7, twoP [.sl callTy] 5 .u8 wrP wrF), (8, yesP [] (fun _ => True))] := ⟨_, rfl⟩
  refine fn_ok (ck := true) Try.func3 rfl tt_ok (G := G) (by rw [hG]; exact ⟨⟨written_ok, by unfold FnOk; kernel_rfl⟩, ⟨awake3_ok, by unfold FnOk; kernel_rfl⟩, trivial⟩) mixed (by kernel_rfl) ?_
  intro xa xs h hx hp
  obtain ⟨a0, as0, x0, xs0, rfl, rfl, h0, H1⟩ := svArgs_cons h
  obtain ⟨rfl, rfl⟩ := svArgs_nil H1
  obtain ⟨l, rfl, rfl⟩ := argSV_rows h0
  have sl : ci l.ls.length ≤ 9223372036854775807 ∧ Wt (.sl callTy) l := ⟨wtl_len (hx (.imm callTy l) (List.mem_of_getElem? (i := 0) rfl)), hx (.imm callTy l) (List.mem_of_getElem? (i := 0) rfl)⟩
  have SL := Lib.hid sl
  clear sl
  have HP := Lib.hid (hp _ rfl)
  clear hx hp h h0 H1
  generalize hA : std = A
  subst hG
  generalize h_c : ci = c
  generalize h_fp : wrP = fp
  generalize h_fW : wrF = fW
  cbv
  (repeat' (first | apply And.intro | apply BrB.mk | apply BrP.mk | intro _))
  (all_goals (subst hA; subst h_c; subst h_fp; subst h_fW); all_goals (have f_sl := SL.out; have f_hp := HP.out); all_goals (try simp only [std, stdBin, stdCmp, stdUna, stdIn, ci, beq_iff_eq, bne_iff_ne, beq_eq_false_iff_ne, bne_eq_false_iff_eq, decide_eq_true_eq, decide_eq_false_iff_not, Bool.not_true, Bool.not_false, Bool.not_eq_true', Bool.not_eq_false', Bool.not_not, tn0, tn1, tn2, tn3] at *); all_goals (try omega))
  all_goals first | exact True.intro | exact f_hp | exact absurd rfl (by assumption) | (exfalso; simp_all; done)
theorem small_max : 1073741824 ≤ maxLen := by decide
theorem raw_len {M : Nat} {w : World} {v : Value} {u : Dat} (h : RdV M w (.sl (.st [.int .i64, .int .u64, .sl (.int .u8)])) v u) (k : Nat) (hk : k < u.ls.length) : (((u.at k).fld 2).ints.length : Int) ≤ M := by
  unfold RdV at h
  simp only [] at h
  rw [Rd] at h
  obtain ⟨ao, cap, ds, _, rfl, hl, hc, hh⟩ := h
  simp only [Dat.ls] at hk
  rcases hh with rfl | ⟨b, o, _, hh⟩
  · simp at hk
  · obtain ⟨es, _, _, he⟩ := hh k ds[k] (List.getElem?_eq_getElem hk)
    rw [rd_st] at he
    obtain ⟨us, hu, hr⟩ := he
    obtain ⟨c1, c2, u1, us1, _, _, rfl, _, h2⟩ := hr.cons
    obtain ⟨c3, c4, u2, us2, _, _, rfl, _, h3⟩ := h2.cons
    obtain ⟨c5, c6, u3, us3, _, _, rfl, h5, _⟩ := h3.cons
    rw [Rd] at h5
    obtain ⟨ao, cap, ds3, _, rfl, hl3, hc3, _⟩ := h5
    have e1 : (Dat.list ds).at k = ds[k] := by
      simp only [Dat.at, Dat.ls, List.getD_eq_getElem?_getD, List.getElem?_eq_getElem hk, Option.getD_some]
    rw [e1, hu]
    show ((ds3.map Dat.z).length : Int) ≤ M
    rw [List.length_map]
    omega
end Go.Proofs.Ythklcldmoakbfaa
