/- Layer 21: the counterparts: sums made small. -/
import Derived.Test.YtekokhlldcmjfaaOptM
namespace Go.Proofs.Ytekokhlldcmjfaa
open Go.RowKit
set_option maxRecDepth 1000000
set_option linter.unusedSimpArgs false
set_option linter.unusedVariables false
set_option maxHeartbeats 16000000
set_option cbv.maxSteps 10000000
theorem bv_N (b : BitVec 64) : bv (N b) = b := by
  unfold bv N
  simp
theorem bv_nat {j : Nat} (h : j < 18446744073709551616) : bv (IntKind.u64.wrap (j : Int)) = BitVec.ofNat 64 j := by
  rw [IntKind.wrap_u64, show (j : Int) % 18446744073709551616 = (j : Int) by omega]
  unfold bv
  simp
theorem smE_eq (D : List Int) (e : Int) (L : List Int) (x s r : Int) : smE [.st [.l D, .z e, .l L], .z x, .z s, .z r] = if mayAccB ⟨D, e, L⟩ = false ∨ x < 2 ∨ 8 < x then 1 else if expB (e + max 0 (widthB ⟨D, e, L⟩ - (x - 1))) 64 = true then 0 else 3 := by
  show (smallE ⟨D, e, L⟩ x (bv s) (bv r)).2 = _
  unfold smallE
  split
  · rfl
  · simp only
    split <;> rfl
theorem smR_eq (D : List Int) (e : Int) (L : List Int) (x s r : Int) : smR [.st [.l D, .z e, .l L], .z x, .z s, .z r] = if mayAccB ⟨D, e, L⟩ = false ∨ x < 2 ∨ 8 < x then noT else if expB (e + max 0 (widthB ⟨D, e, L⟩ - (x - 1))) 64 = true then ⟨D, e + max 0 (widthB ⟨D, e, L⟩ - (x - 1)), smallFrom x (max 0 (widthB ⟨D, e, L⟩ - (x - 1))) (bv s) (bv r) 0 L⟩ else noT := by
  show (smallE ⟨D, e, L⟩ x (bv s) (bv r)).1 = _
  unfold smallE
  split
  · rfl
  · simp only
    split <;> rfl
def smI (x z s r : Int) (L : List Int) (i : Nat) : Int := clampI (chanceI (L.getD i 0) z (bv (atI s r (IntKind.u64.wrap (i : Int))))) x
theorem smallFrom_map (x z : Int) (s r : BitVec 64) : ∀ (L : List Int) (i : Nat), smallFrom x z s r i L = (List.range L.length).map (fun j => smallAt x z s r (i + j) (L.getD j 0))
  | [], _ => rfl
  | v :: L, i => by
    rw [smallFrom, smallFrom_map x z s r L (i + 1), List.length_cons, List.range_succ_eq_map, List.map_cons, List.map_map]
    refine List.cons_eq_cons.2 ⟨rfl, List.map_congr_left fun j _ => ?_⟩
    show smallAt x z s r (i + 1 + j) (L.getD j 0) = smallAt x z s r (i + (j + 1)) ((v :: L).getD (j + 1) 0)
    rw [show i + 1 + j = i + (j + 1) by omega]
    rfl
theorem smI_all {x z s r : Int} {L : List Int} (h : L.length ≤ 100000) : (List.range L.length).map (smI x z s r L) = smallFrom x z (bv s) (bv r) 0 L := by
  rw [smallFrom_map]
  refine List.map_congr_left fun j hj => ?_
  have hj := List.mem_range.1 hj
  unfold smI smallAt atI
  rw [bv_N, bv_nat (by omega), Nat.zero_add]
theorem acc_len {D L : List Int} {e : Int} (h : mayAccB ⟨D, e, L⟩ = true) : (D.length : Int) ≤ 4 ∧ (L.length : Int) ≤ 8192 ∧ -128 ≤ e ∧ e ≤ 128 := by
  unfold mayAccB at h
  simp only [Bool.and_eq_true, decide_eq_true_eq] at h
  obtain ⟨⟨h1, h2⟩, h3⟩ := h
  have h5 := ((mayD_iff D).1 h1).1
  have h6 := szD_in D
  have h7 := expB_in h3
  omega
theorem range_snoc21 (f : Nat → Int) (j : Nat) : (List.range (j + 1)).map f = (List.range j).map f ++ [f j] := by
  rw [List.range_succ, List.map_append]; rfl
theorem rsmall21_ok : CtrOk Try.prog 56 (resC [tnTy .i32, .int .i64, .int .u64, .int .u64] .i8 3 52 smE smR) := by
  obtain ⟨G, hG⟩ : ∃ G : List (FuncId × Ctr), G = [(54, boolC [tnTy .i32] mayAF), (111, intC [tnTy .i32] .i64 widF), (60, intC [.int .u64, .int .u64, .int .u64] .u64 atF), (59, intC [.int .i64, .int .i64, .int .u64] .i64 chF), (62, intC [.int .i64, .int .i64] .i64 clampF)] := ⟨_, rfl⟩
  refine fn_ok (ck := true) Try.func56 rfl tt_ok (G := G) (by rw [hG]; exact ⟨⟨rmacc21_ok, by unfold FnOk; kernel_rfl⟩, ⟨rwidth21_ok, by unfold FnOk; kernel_rfl⟩, ⟨rat21_ok, by unfold FnOk; kernel_rfl⟩, ⟨rchance21_ok, by unfold FnOk; kernel_rfl⟩, ⟨rclamp21_ok, by unfold FnOk; kernel_rfl⟩, trivial⟩) mixed (by kernel_rfl) ?_
  intro xa xs h hx hp
  obtain ⟨a0, as0, x0, xs0, rfl, rfl, h0, H1⟩ := svArgs_cons h
  obtain ⟨a1, as1, x1, xs1, rfl, rfl, h1, H2⟩ := svArgs_cons H1
  obtain ⟨a2, as2, x2, xs2, rfl, rfl, h2, H3⟩ := svArgs_cons H2
  obtain ⟨a3, as3, x3, xs3, rfl, rfl, h3, H4⟩ := svArgs_cons H3
  obtain ⟨rfl, rfl⟩ := svArgs_nil H4
  obtain ⟨⟨aD, aE, aL⟩, rfl, rfl⟩ := argSV_tn h0
  obtain ⟨x, rfl, rfl⟩ := argSV_int h1
  obtain ⟨s, rfl, rfl⟩ := argSV_int h2
  obtain ⟨r, rfl, rfl⟩ := argSV_int h3
  have sa : (Fits .i64 aD ∧ ci aD.length ≤ 9223372036854775807) ∧ (-9223372036854775808 ≤ aE ∧ aE ≤ 9223372036854775807) ∧ Fits .i32 aL ∧ ci aL.length ≤ 9223372036854775807 := svf_tn (hx (Tn.sv .i32 ⟨aD, aE, aL⟩) (by simp))
  have sx := of_i64 (hx (.v (.int .i64 x)) (by simp))
  have ss : (Lit.int .u64 s).wf = true := (hx (.v (.int .u64 s)) (by simp))
  have sr : (Lit.int .u64 r).wf = true := (hx (.v (.int .u64 r)) (by simp))
  have SA := Lib.hid sa
  clear sa
  have SX := Lib.hid sx
  clear sx
  have SS := Lib.hid ss
  clear ss
  have SR := Lib.hid sr
  clear sr
  clear hx hp h h0 H1 h1 H2 h2 H3 h3 H4
  generalize hA : std = A
  subst hG
  generalize h_c : ci = c
  generalize h_fR : smR = fR
  generalize h_fE : smE = fE
  generalize h_fm : mayAF = fm
  generalize h_fw : widF = fw
  generalize h_fa : atF = fa
  generalize h_fc : chF = fc
  generalize h_fk : clampF = fk
  obtain ⟨Z, hZ⟩ : ∃ Z : Int, Z = max 0 (widthB ⟨aD, aE, aL⟩ - (x - 1)) := ⟨_, rfl⟩
  obtain ⟨S, hS⟩ : ∃ S : Nat → List Int, ∀ j, S j = (List.range j).map (smI x Z s r aL) := ⟨_, fun _ => rfl⟩
  have HS := Lib.hid hS
  have HZ := Lib.hid hZ
  clear hS hZ
  cbv
  (repeat' (first | apply And.intro | apply BrB.mk | apply BrP.mk | intro _))
  all_goals try (refine loop_nil [.cell 3 2 52 .i8] Nat 52 (fun j => [(12, .any), (13, .any), (52, .v (.int .i64 (c j)))]) (fun j o => o.set 4 (.irow 52 .i8 (S j))) (fun j => ci j ≤ ci aL.length) (fun j => aL.length - j) 0 ?_ ?_ ?_
                 focus
                   simp [ci]
                   done
                 focus
                   show AS.le _ _
                   cbv
                   (repeat' (first | apply And.intro | apply BrB.mk | apply BrP.mk | intro _))
                   (all_goals (subst hA; subst h_c; subst h_fR; subst h_fE; subst h_fm; subst h_fw; subst h_fa; subst h_fc; subst h_fk); all_goals (have f_sa := SA.out; have f_sx := SX.out; have f_ss := SS.out; have f_sr := SR.out); all_goals (try simp only [std, stdBin, stdCmp, stdUna, stdIn, ci, beq_iff_eq, bne_iff_ne, beq_eq_false_iff_ne, bne_eq_false_iff_eq, decide_eq_true_eq, decide_eq_false_iff_not, Bool.not_true, Bool.not_false, Bool.not_eq_true', Bool.not_eq_false', Bool.not_not, tn0, tn1, tn2, tn3, mayAF] at *); all_goals (try omega))
                   all_goals first | exact True.intro | rfl | (rw [HS.out]; rfl)
                   done)
  all_goals try (intro j hj; cbv; refine BrB.mk (fun gx => ?_) (fun gx => ?_))
  all_goals (repeat' (first | apply And.intro | apply BrB.mk | apply BrP.mk | intro _))
  all_goals try (refine ⟨j + 1, ?_, ?_, ?_⟩)
  all_goals try (show AS.le _ _; cbv; (repeat' (first | apply And.intro | apply BrB.mk | apply BrP.mk | intro _)))
  (all_goals (subst hA; subst h_c; subst h_fR; subst h_fE; subst h_fm; subst h_fw; subst h_fa; subst h_fc; subst h_fk); all_goals (have f_sa := SA.out; have f_sx := SX.out; have f_ss := SS.out; have f_sr := SR.out); all_goals (try simp only [std, stdBin, stdCmp, stdUna, stdIn, ci, beq_iff_eq, bne_iff_ne, beq_eq_false_iff_ne, bne_eq_false_iff_eq, decide_eq_true_eq, decide_eq_false_iff_not, Bool.not_true, Bool.not_false, Bool.not_eq_true', Bool.not_eq_false', Bool.not_not, tn0, tn1, tn2, tn3, mayAF, widF, atF, chF, clampF, Int.toNat_natCast] at *); all_goals (try omega))
  all_goals (try exact True.intro)
  all_goals (have wi := widthB_in ⟨aD, aE, aL⟩; have hE := smE_eq aD aE aL x s r; have hR := smR_eq aD aE aL x s r; have hz := HZ.out; rw [← hz] at hE hR)
  all_goals (have ez : (if widthB ⟨aD, aE, aL⟩ - (x - 1) > 0 then widthB ⟨aD, aE, aL⟩ - (x - 1) else 0) = Z := (by rw [hz]; split <;> omega))
  all_goals (try simp only [ez] at *)
  all_goals (have sl : ∀ j, (S j).length = j := (fun j => by rw [HS.out]; simp))
  all_goals (by_cases hc1 : mayAccB ⟨aD, aE, aL⟩ = false ∨ x < 2 ∨ 8 < x)
  all_goals first
    | (rw [if_pos hc1] at hE hR
       first
         | omega
         | (rw [hE]; done)
         | (exfalso; have hm : mayAccB ⟨aD, aE, aL⟩ = true := (by assumption); rcases hc1 with h | h | h <;> first | omega | (rw [h] at hm; cases hm))
         | trace_state)
    | (rw [if_neg hc1] at hE hR
       have hm : mayAccB ⟨aD, aE, aL⟩ = true := (by cases h : mayAccB ⟨aD, aE, aL⟩ <;> simp_all)
       have al := acc_len hm
       by_cases hc2 : expB (aE + Z) 64 = true
       focus
         rw [if_pos hc2] at hE hR
         have hx := expB_in hc2
         have k8 : ∀ v, IntKind.i8.wrap (clampI v x) = clampI v x := (fun v => by have := clampI_in v x (by omega); exact w8 (by omega) (by omega))
         first
           | omega
           | (exfalso; exact hc1 (Or.inl (by assumption)))
           | (rw [hR]; done)
           | (exact congrArg _ (Int.natCast_succ _).symm)
           | (rw [hR]; show S j = smallFrom _ _ _ _ _ _; rw [HS.out, show j = aL.length by omega, smI_all (by omega)]; done)
           | (simp only [sl, List.length_singleton]; omega)
           | (rw [k8]; show _ = S (j + 1); rw [HS.out, HS.out, range_snoc21]; rfl)
           | (exfalso; simp_all; done)
           | trace_state
       focus
         rw [if_neg hc2] at hE hR
         first
           | omega
           | (exfalso; exact hc1 (Or.inl (by assumption)))
           | (rw [hE]; done)
           | (exfalso; apply hc2; unfold expB; simp; omega)
           | trace_state)
    | trace_state
theorem rU_sm (D : List Int) (e : Int) (L : List Int) (x s r : Int) : rU smE smR [.st [.l D, .z e, .l L], .z x, .z s, .z r] = smR [.st [.l D, .z e, .l L], .z x, .z s, .z r] := by
  unfold rU
  split
  · rfl
  · rename_i h
    rcases small_err ⟨D, e, L⟩ x (bv s) (bv r) with h0 | ⟨_, h1⟩
    · exact absurd h0 h
    · exact h1.symm
theorem rsmall21U_ok : CtrOk Try.prog 56 (resU [tnTy .i32, .int .i64, .int .u64, .int .u64] .i8 3 52 smE (rU smE smR)) := by
  exact resU_of rsmall21_ok
end Go.Proofs.Ytekokhlldcmjfaa
