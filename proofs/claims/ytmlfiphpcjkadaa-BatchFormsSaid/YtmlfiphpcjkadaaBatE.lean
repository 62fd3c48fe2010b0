/- Layer 23: a batch has the examples that it names. -/
import Derived.Test.YtmlfiphpcjkadaaBatD
namespace Go.Proofs.Ytmlfiphpcjkadaa
open Go.RowKit
set_option maxRecDepth 100000
set_option linter.unusedSimpArgs false
set_option linter.unusedVariables false
set_option maxHeartbeats 8000000
set_option cbv.maxSteps 10000000
theorem bat_ok {c h w e k : Int} {x : Dat} {ids : List Int} (hb : batErr c h w e k x ids = 0) : mayDs c h w e k x = true ∧ (1 ≤ ids.length ∧ ids.length ≤ 64) ∧ (∀ j, j < ids.length → 0 ≤ ids.getD j 0 ∧ ids.getD j 0 < x.ls.length) ∧ mayD [(ids.length : Int), c, h, w] = true := by
  unfold batErr at hb
  split at hb
  · rename_i hC
    exact ⟨hC.1, hC.2.1, fun j hj => ids_at hC.2.2.1 j hj, hC.2.2.2⟩
  · cases hb
theorem cat_get {c h w e k : Int} {x : Dat} {ids : List Int} (hm : mayDs c h w e k x = true) (hi : ∀ j, j < ids.length → 0 ≤ ids.getD j 0 ∧ ids.getD j 0 < x.ls.length) : ∀ n, n ≤ ids.length → ∀ i, i < n → ∀ j, j < (c * h * w).toNat → (catD x ids n).getD (i * (c * h * w).toNat + j) 0 = ((x.at (ids.getD i 0).toNat).fld 0).ints.getD j 0
  | 0, _, i, hi', _, _ => by omega
  | n + 1, hn, i, hi', j, hj => by
    have hl := cat_len hm hi n (by omega)
    rw [catD, List.getD_eq_getElem?_getD]
    by_cases e : i = n
    · subst e
      rw [List.getElem?_append_right (by omega), hl, Nat.add_sub_cancel_left, ← List.getD_eq_getElem?_getD]
    · have hlt : i * (c * h * w).toNat + j < (catD x ids n).length := by
        rw [hl]
        have := Nat.mul_le_mul_right (c * h * w).toNat (show i + 1 ≤ n by omega)
        rw [Nat.succ_mul] at this
        omega
      rw [List.getElem?_append_left hlt, ← List.getD_eq_getElem?_getD]
      exact cat_get hm hi n (by omega) i (by omega) j hj
theorem lbl_get (x : Dat) (ids : List Int) {i : Nat} (h : i < ids.length) : ((List.range ids.length).map (lbl x ids)).getD i 0 = lbl x ids i := by
  rw [List.getD_eq_getElem?_getD, List.getElem?_map, List.getElem?_range h]; rfl
theorem takes_ok : CtrOk Try.prog 11 (boolC [dsTy, .sl (.int .i64)] yes) := by
  obtain ⟨G, hG⟩ : ∃ G : List (FuncId × Ctr), G = [(23, batC [dsTy, .sl (.int .i64)] 3 42 batE batR batL), (22, boolC [] yes), (27, boolC [.sl (.int .i64), .sl (.int .i64)] eqF)] := ⟨_, rfl⟩
  refine fn_ok (ck := true) Try.func11 rfl tt_ok (G := G) (by rw [hG]; exact ⟨⟨of_ok, by unfold FnOk; kernel_rfl⟩, ⟨awake23_ok, by unfold FnOk; kernel_rfl⟩, ⟨rsame_ok, by unfold FnOk; kernel_rfl⟩, trivial⟩) mixed (by kernel_rfl) ?_
  intro xa xs h hx hp
  obtain ⟨a0, as0, x0, xs0, rfl, rfl, h0, H1⟩ := svArgs_cons h
  obtain ⟨a1, as1, x1, xs1, rfl, rfl, h1, H2⟩ := svArgs_cons H1
  obtain ⟨rfl, rfl⟩ := svArgs_nil H2
  obtain ⟨dc, dh, dw, de, dk, dx, rfl, rfl⟩ := argSV_ds h0
  obtain ⟨l, rfl, rfl⟩ := argSV_ints h1
  have sd : (-9223372036854775808 ≤ dc ∧ dc ≤ 9223372036854775807) ∧ (-9223372036854775808 ≤ dh ∧ dh ≤ 9223372036854775807) ∧ (-9223372036854775808 ≤ dw ∧ dw ≤ 9223372036854775807) ∧ (-9223372036854775808 ≤ de ∧ de ≤ 9223372036854775807) ∧ (-9223372036854775808 ≤ dk ∧ dk ≤ 9223372036854775807) ∧ ((ci dx.ls.length ≤ 9223372036854775807) ∧ Wt (.sl exTy) dx) := svf_ds (hx (.agg [.v (.int .i64 dc), .v (.int .i64 dh), .v (.int .i64 dw), .v (.int .i64 de), .v (.int .i64 dk), .imm exTy dx]) (List.mem_of_getElem? (i := 0) rfl))
  have sl : Fits .i64 l ∧ ci l.length ≤ 9223372036854775807 := svf_ints (hx (.iimm .i64 l) (by simp))
  have SD := Lib.hid sd
  clear sd
  have SL := Lib.hid sl
  clear sl
  clear hx hp h h0 H1 h1 H2
  generalize hA : std = A
  subst hG
  generalize h_c : ci = c
  generalize h_fE : batE = fE
  generalize h_fR : batR = fR
  generalize h_fL : batL = fL
  generalize h_fs : eqF = fs
  generalize h_fY : yes = fY
  cbv
  (repeat' (first | apply And.intro | apply BrB.mk | apply BrP.mk | intro _))
  (all_goals try (exfalso; (subst hA; subst h_c; subst h_fE; subst h_fR; subst h_fL; subst h_fs; subst h_fY); (try simp only [std, stdBin, stdCmp, stdUna, stdIn, ci, beq_iff_eq, bne_iff_ne, beq_eq_false_iff_ne, bne_eq_false_iff_eq, decide_eq_true_eq, decide_eq_false_iff_not, Bool.not_true, Bool.not_false, Bool.not_eq_true', Bool.not_eq_false', Bool.not_not, tn0, tn1, tn2, tn3] at *); first | omega | contradiction))
  all_goals try (refine loop_at Nat 97 (fun i => [(4, .any), (9, .any), (10, .any), (11, .any), (12, .any), (97, .v (.int .i64 (c i)))]) (fun _ o => o) (fun i => i ≤ l.length) (fun i => l.length - i) 0 (Nat.zero_le _) ?hle ?round)
  case hle => (cbv; (repeat' (first | apply And.intro | apply BrB.mk | apply BrP.mk | intro _)); all_goals (subst hA; subst h_c; subst h_fE; subst h_fR; subst h_fL; subst h_fs; subst h_fY); all_goals (have f_sd := SD.out; have f_sl := SL.out); all_goals (try simp only [std, stdBin, stdCmp, stdUna, stdIn, ci, beq_iff_eq, bne_iff_ne, beq_eq_false_iff_ne, bne_eq_false_iff_eq, decide_eq_true_eq, decide_eq_false_iff_not, Bool.not_true, Bool.not_false, Bool.not_eq_true', Bool.not_eq_false', Bool.not_not, tn0, tn1, tn2, tn3] at *); (all_goals first | exact True.intro | rfl | exact congrArg (Value.int .i64) (by omega)))
  case round =>
    intro i hi
    cbv
    refine BrB.mk (fun gx => ?yx) (fun gx => ?nx)
    case yx =>
      (repeat' (first | apply And.intro | apply BrB.mk | apply BrP.mk | intro _))
      all_goals try (refine loop_at Nat 131 (fun j => [(4, .any), (11, .any), (12, .any), (131, .v (.int .i64 (c j)))]) (fun _ o => o) (fun j => ci j ≤ ci ((dx.at (l.getD i 0).toNat).fld 0).ints.length) (fun j => ((dx.at (l.getD i 0).toNat).fld 0).ints.length - j) 0 ?_ ?_ ?_)
      case right.yes.yes.right.right.no.right.refine_1 => simp [ci]
      case right.yes.yes.right.right.no.right.refine_2 => (cbv; (repeat' (first | apply And.intro | apply BrB.mk | apply BrP.mk | intro _)); all_goals (subst hA; subst h_c; subst h_fE; subst h_fR; subst h_fL; subst h_fs; subst h_fY); all_goals (have f_sd := SD.out; have f_sl := SL.out); all_goals (try simp only [std, stdBin, stdCmp, stdUna, stdIn, ci, beq_iff_eq, bne_iff_ne, beq_eq_false_iff_ne, bne_eq_false_iff_eq, decide_eq_true_eq, decide_eq_false_iff_not, Bool.not_true, Bool.not_false, Bool.not_eq_true', Bool.not_eq_false', Bool.not_not, tn0, tn1, tn2, tn3] at *); (all_goals first | exact True.intro | rfl | exact congrArg (Value.int .i64) (by omega)))
      case right.yes.yes.right.right.no.right.refine_3 =>
        intro j hj
        cbv
        refine BrB.mk (fun ga => ?ya) (fun ga => ?na)
        case ya =>
          (repeat' (first | apply And.intro | apply BrB.mk | apply BrP.mk | intro _))
          all_goals try (refine ⟨j + 1, ?_, ?_, ?_⟩)
          all_goals try (show AS.le _ _; (cbv; (repeat' (first | apply And.intro | apply BrB.mk | apply BrP.mk | intro _)); all_goals (subst hA; subst h_c; subst h_fE; subst h_fR; subst h_fL; subst h_fs; subst h_fY); all_goals (have f_sd := SD.out; have f_sl := SL.out); all_goals (try simp only [std, stdBin, stdCmp, stdUna, stdIn, ci, beq_iff_eq, bne_iff_ne, beq_eq_false_iff_ne, bne_eq_false_iff_eq, decide_eq_true_eq, decide_eq_false_iff_not, Bool.not_true, Bool.not_false, Bool.not_eq_true', Bool.not_eq_false', Bool.not_not, tn0, tn1, tn2, tn3] at *); (all_goals first | exact True.intro | rfl | exact congrArg (Value.int .i64) (by omega))))
          (all_goals (subst hA; subst h_c; subst h_fE; subst h_fR; subst h_fL; subst h_fs; subst h_fY); all_goals (have f_sd := SD.out; have f_sl := SL.out); all_goals (try simp only [std, stdBin, stdCmp, stdUna, stdIn, ci, beq_iff_eq, bne_iff_ne, beq_eq_false_iff_ne, bne_eq_false_iff_eq, decide_eq_true_eq, decide_eq_false_iff_not, Bool.not_true, Bool.not_false, Bool.not_eq_true', Bool.not_eq_false', Bool.not_not, tn0, tn1, tn2, tn3, Int.toNat_natCast] at *); all_goals (try omega))
          all_goals (have hb : batErr dc dh dw de dk dx l = 0 := (by assumption); obtain ⟨hm, hl, hid, hd⟩ := bat_ok hb; have h5 := ex_hd (Bool.and_eq_true _ _ ▸ hm : _ ∧ _).1; have hch := chw_in h5.1 h5.2.1 h5.2.2.1; obtain ⟨s, hs⟩ : ∃ s : Nat, dc * dh * dw = (s : Int) := ⟨(dc * dh * dw).toNat, by omega⟩; have hts : (dc * dh * dw).toNat = s := (by omega); have hs2 : s ≤ 2048 := (by omega); have hcl := cat_len hm hid l.length (Nat.le_refl _); rw [hts] at hcl; have hsl : s * l.length ≤ 2048 * 64 := Nat.mul_le_mul hs2 (by omega); have hsc : (s : Int) * (l.length : Int) = ((s * l.length : Nat) : Int) := (Int.natCast_mul _ _).symm)
          all_goals (have hi2 : i < l.length := (by omega); have hx := hid i hi2; have xl := exam_len hm hx.1 hx.2; rw [hts] at xl; have hj2 : j < s := (by omega); have hcg := cat_get hm hid l.length (Nat.le_refl _) i hi2 j (by omega); rw [hts] at hcg; have m1 := Nat.mul_le_mul_right s (show i + 1 ≤ l.length by omega); rw [Nat.succ_mul] at m1; have m2 : s * l.length = l.length * s := Nat.mul_comm _ _; have m3 : (i : Int) * (dc * dh * dw) = ((i * s : Nat) : Int) := (by rw [hs]; exact (Int.natCast_mul _ _).symm))
          all_goals first
            | exact True.intro
            | omega
            | (rw [m3]; omega)
            | (show _ ∧ _ < ((catD dx l l.length).length : Int); rw [m3, hcl]; omega)
            | (refine congrArg (Value.int .i64) ?_; omega)
            | (exfalso; have hq : (catD dx l l.length).getD ((i : Int) * (dc * dh * dw) + (j : Int)).toNat 0 ≠ ((dx.at (l.getD i 0).toNat).fld 0).ints.getD j 0 := (by assumption); rw [m3, show (((i * s : Nat) : Int) + (j : Int)).toNat = i * s + j from (by omega)] at hq; exact hq hcg)
            | trace_state
        case na =>
          (repeat' (first | apply And.intro | apply BrB.mk | apply BrP.mk | intro _))
          all_goals try (refine ⟨i + 1, ?_, ?_, ?_⟩)
          all_goals try (show AS.le _ _; (cbv; (repeat' (first | apply And.intro | apply BrB.mk | apply BrP.mk | intro _)); all_goals (subst hA; subst h_c; subst h_fE; subst h_fR; subst h_fL; subst h_fs; subst h_fY); all_goals (have f_sd := SD.out; have f_sl := SL.out); all_goals (try simp only [std, stdBin, stdCmp, stdUna, stdIn, ci, beq_iff_eq, bne_iff_ne, beq_eq_false_iff_ne, bne_eq_false_iff_eq, decide_eq_true_eq, decide_eq_false_iff_not, Bool.not_true, Bool.not_false, Bool.not_eq_true', Bool.not_eq_false', Bool.not_not, tn0, tn1, tn2, tn3] at *); (all_goals first | exact True.intro | rfl | exact congrArg (Value.int .i64) (by omega))))
          (all_goals (subst hA; subst h_c; subst h_fE; subst h_fR; subst h_fL; subst h_fs; subst h_fY); all_goals (have f_sd := SD.out; have f_sl := SL.out); all_goals (try simp only [std, stdBin, stdCmp, stdUna, stdIn, ci, beq_iff_eq, bne_iff_ne, beq_eq_false_iff_ne, bne_eq_false_iff_eq, decide_eq_true_eq, decide_eq_false_iff_not, Bool.not_true, Bool.not_false, Bool.not_eq_true', Bool.not_eq_false', Bool.not_not, tn0, tn1, tn2, tn3, Int.toNat_natCast] at *); all_goals (try omega))
          all_goals first | exact True.intro | omega | (refine congrArg (Value.int .i64) ?_; omega) | trace_state
      (all_goals (subst hA; subst h_c; subst h_fE; subst h_fR; subst h_fL; subst h_fs; subst h_fY); all_goals (have f_sd := SD.out; have f_sl := SL.out); all_goals (try simp only [std, stdBin, stdCmp, stdUna, stdIn, ci, beq_iff_eq, bne_iff_ne, beq_eq_false_iff_ne, bne_eq_false_iff_eq, decide_eq_true_eq, decide_eq_false_iff_not, Bool.not_true, Bool.not_false, Bool.not_eq_true', Bool.not_eq_false', Bool.not_not, tn0, tn1, tn2, tn3, Int.toNat_natCast] at *); all_goals (try omega))
      all_goals (have hb : batErr dc dh dw de dk dx l = 0 := (by assumption); obtain ⟨hm, hl, hid, hd⟩ := bat_ok hb; have h5 := ex_hd (Bool.and_eq_true _ _ ▸ hm : _ ∧ _).1; have hch := chw_in h5.1 h5.2.1 h5.2.2.1; obtain ⟨s, hs⟩ : ∃ s : Nat, dc * dh * dw = (s : Int) := ⟨(dc * dh * dw).toNat, by omega⟩; have hts : (dc * dh * dw).toNat = s := (by omega); have hs2 : s ≤ 2048 := (by omega); have hcl := cat_len hm hid l.length (Nat.le_refl _); rw [hts] at hcl; have hsl : s * l.length ≤ 2048 * 64 := Nat.mul_le_mul hs2 (by omega); have hsc : (s : Int) * (l.length : Int) = ((s * l.length : Nat) : Int) := (Int.natCast_mul _ _).symm)
      all_goals (have hi2 : i < l.length := (by omega); have hx := hid i hi2; have hlb := lbl_get dx l hi2)
      all_goals first
        | exact True.intro
        | omega
        | exact hx
        | (exfalso; have hq : ((List.range l.length).map (lbl dx l)).getD i 0 ≠ ((dx.at (l.getD i 0).toNat).fld 1).z := (by assumption); exact hq hlb)
        | trace_state
    case nx =>
      (repeat' (first | apply And.intro | apply BrB.mk | apply BrP.mk | intro _))
      (all_goals (subst hA; subst h_c; subst h_fE; subst h_fR; subst h_fL; subst h_fs; subst h_fY); all_goals (have f_sd := SD.out; have f_sl := SL.out); all_goals (try simp only [std, stdBin, stdCmp, stdUna, stdIn, ci, beq_iff_eq, bne_iff_ne, beq_eq_false_iff_ne, bne_eq_false_iff_eq, decide_eq_true_eq, decide_eq_false_iff_not, Bool.not_true, Bool.not_false, Bool.not_eq_true', Bool.not_eq_false', Bool.not_not, tn0, tn1, tn2, tn3] at *); all_goals (try omega))
      all_goals first | exact True.intro | rfl | trace_state
  (all_goals (subst hA; subst h_c; subst h_fE; subst h_fR; subst h_fL; subst h_fs; subst h_fY); all_goals (have f_sd := SD.out; have f_sl := SL.out); all_goals (try simp only [std, stdBin, stdCmp, stdUna, stdIn, ci, beq_iff_eq, bne_iff_ne, beq_eq_false_iff_ne, bne_eq_false_iff_eq, decide_eq_true_eq, decide_eq_false_iff_not, Bool.not_true, Bool.not_false, Bool.not_eq_true', Bool.not_eq_false', Bool.not_not, tn0, tn1, tn2, tn3] at *); all_goals (try omega))
  all_goals first
    | rfl
    | skip
  all_goals (have hb : batErr dc dh dw de dk dx l = 0 := (by assumption); obtain ⟨hm, hl, hid, hd⟩ := bat_ok hb; have h5 := ex_hd (Bool.and_eq_true _ _ ▸ hm : _ ∧ _).1; have hch := chw_in h5.1 h5.2.1 h5.2.2.1; obtain ⟨s, hs⟩ : ∃ s : Nat, dc * dh * dw = (s : Int) := ⟨(dc * dh * dw).toNat, by omega⟩; have hts : (dc * dh * dw).toNat = s := (by omega); have hs2 : s ≤ 2048 := (by omega); have hcl := cat_len hm hid l.length (Nat.le_refl _); rw [hts] at hcl; have hsl : s * l.length ≤ 2048 * 64 := Nat.mul_le_mul hs2 (by omega); have hsc : (s : Int) * (l.length : Int) = ((s * l.length : Nat) : Int) := (Int.natCast_mul _ _).symm)
  all_goals first
    | exact True.intro
    | rfl
    | omega
    | (rw [hs, hsc]; omega)
    | (exfalso; have hq : eqF [AV.l [(l.length : Int), dc, dh, dw], AV.l [(l.length : Int), dc, dh, dw]] = false := (by assumption); simp [eqF] at hq)
    | (exfalso; have hq : ((catD dx l l.length).length : Int) ≠ dc * dh * dw * (l.length : Int) := (by assumption); rw [hcl, hs, hsc, Nat.mul_comm] at hq; exact hq rfl)
    | (exfalso; have hq : (((List.range l.length).map (lbl dx l)).length : Int) ≠ (l.length : Int) := (by assumption); simp at hq)
    | trace_state
end Go.Proofs.Ytmlfiphpcjkadaa
