/- Layer 23: the counterparts of a step's examples, of examples as a tensor. -/
import Derived.Test.YtmlfiphpcjkadaaBatE
namespace Go.Proofs.Ytmlfiphpcjkadaa
open Go.RowKit
set_option maxRecDepth 1000000
set_option linter.unusedSimpArgs false
set_option linter.unusedVariables false
set_option maxHeartbeats 16000000
set_option cbv.maxSteps 10000000
/-- What comes is a row of numbers that nobody writes any more. -/
def whC (f : List AV → List Int) : FCtr := ⟨[.int .u64, .int .i64, .int .i64, .int .i64], fun _ => none, fun xa => .ret (.iimm .i64 (f xa)) [], true⟩
theorem rwhich_ok : FOk Try.prog 29 (whC whichF) := by
  obtain ⟨G, hG⟩ : ∃ G : List (FuncId × Ctr), G = [(26, intC [.int .i64, .int .i64] .i64 stepsF), (65, rowC [.int .u64, .int .u64, .int .i64] 3 .i64 permF), (64, boolC [.int .i64] stepBF)] := ⟨_, rfl⟩
  refine fn_inlF (ck := true) [] trivial [] trivial Try.func29 rfl tt_ok (G := G) (by rw [hG]; exact ⟨⟨rsteps_ok, by unfold FnOk; kernel_rfl⟩, ⟨rperm_ok, by unfold FnOk; kernel_rfl⟩, ⟨rmayStep_ok, by unfold FnOk; kernel_rfl⟩, trivial⟩) mixed (by kernel_rfl) ?_
  intro xa xs h hx hp
  obtain ⟨a0, as0, x0, xs0, rfl, rfl, h0, H1⟩ := svArgs_cons h
  obtain ⟨a1, as1, x1, xs1, rfl, rfl, h1, H2⟩ := svArgs_cons H1
  obtain ⟨a2, as2, x2, xs2, rfl, rfl, h2, H3⟩ := svArgs_cons H2
  obtain ⟨a3, as3, x3, xs3, rfl, rfl, h3, H4⟩ := svArgs_cons H3
  obtain ⟨rfl, rfl⟩ := svArgs_nil H4
  obtain ⟨a, rfl, rfl⟩ := argSV_int h0
  obtain ⟨n, rfl, rfl⟩ := argSV_int h1
  obtain ⟨z, rfl, rfl⟩ := argSV_int h2
  obtain ⟨s, rfl, rfl⟩ := argSV_int h3
  have sa : (Lit.int .u64 a).wf = true := (hx (.v (.int .u64 a)) (by simp))
  have sn := of_i64 (hx (.v (.int .i64 n)) (by simp))
  have sz := of_i64 (hx (.v (.int .i64 z)) (by simp))
  have ss := of_i64 (hx (.v (.int .i64 s)) (by simp))
  have SA := Lib.hid sa
  clear sa
  have SN := Lib.hid sn
  clear sn
  have SZ := Lib.hid sz
  clear sz
  have SS := Lib.hid ss
  clear ss
  clear hx hp h h0 H1 h1 H2 h2 H3 h3 H4
  generalize hA : std = A
  subst hG
  generalize h_c : ci = c
  generalize h_fs : stepsF = fs
  generalize h_fp : permF = fp
  generalize h_fb : stepBF = fb
  generalize h_fR : whichF = fR
  cbv
  (repeat' (first | apply And.intro | apply BrB.mk | apply BrP.mk | intro _))
  (all_goals (subst hA; subst h_c; subst h_fs; subst h_fp; subst h_fb; subst h_fR); all_goals (have f_sa := SA.out; have f_sn := SN.out; have f_sz := SZ.out; have f_ss := SS.out); all_goals (try simp only [std, stdBin, stdCmp, stdUna, stdIn, ci, beq_iff_eq, bne_iff_ne, beq_eq_false_iff_ne, bne_eq_false_iff_eq, decide_eq_true_eq, decide_eq_false_iff_not, Bool.not_true, Bool.not_false, Bool.not_eq_true', Bool.not_eq_false', Bool.not_not, tn0, tn1, tn2, tn3, stepsF, permF, stepBF, whichF, whichL] at *); all_goals (try omega))
  all_goals (try (rw [if_pos (by first | (left; assumption) | (right; assumption))]; done))
  all_goals (obtain ⟨q1, q2, q3, q4, q5, q6, q7⟩ := steps_facts (n := n) (k := z) (by assumption))
  all_goals (have hsb : stepB s = true := (by first | assumption | (cases hh : stepB s <;> simp_all)))
  all_goals (have hsi : 0 ≤ s ∧ s ≤ 1000000 := (by simpa only [stepB, decide_eq_true_eq] using hsb))
  all_goals (obtain ⟨p1, p2, p3, p4, p5⟩ := from_in (s := s) (k := stepsI n z) (z := z) (by omega) q4 q2.1)
  all_goals (have e1 : IntKind.u64.wrap (IntKind.i64.wrap (s.tdiv (stepsI n z))) = s.tdiv (stepsI n z) := (by rw [w64 (by omega) (by omega), wu64 (by omega) (by omega)]))
  all_goals (have e2 := permZ_eq (bv a) (bv (1099511627776 + s.tdiv (stepsI n z))) q1.1 (show n ≤ 65536 by omega))
  all_goals (try simp only [e1, List.length_take, List.length_drop, e2] at *)
  all_goals (try (clear q3; generalize s.tmod (stepsI n z) * z = f at *; split <;> omega))
  all_goals (try omega)
  all_goals (have hq : ¬ (stepsI n z = 0 ∨ stepB s = false) := (by
    rintro (h | h)
    · contradiction
    · rw [hsb] at h; cases h))
  all_goals (rw [if_neg hq]; rfl)
/-- Labels of the first so many. -/
theorem lbl_succ (x : Dat) (ids : List Int) (j : Nat) : (List.range (j + 1)).map (lbl x ids) = (List.range j).map (lbl x ids) ++ [lbl x ids j] := by
  rw [List.range_succ, List.map_append]; rfl
theorem rbat_ok : CtrOk Try.prog 24 (batC [dsTy, .sl (.int .i64)] 3 42 batE batR batL) := by
  obtain ⟨G, hG⟩ : ∃ G : List (FuncId × Ctr), G = [(17, boolC [dsTy] mayDsF), (60, boolC [.int .i64, .int .i64, .int .i64] inF), (61, boolC [.sl (.int .i64)] shMayF)] := ⟨_, rfl⟩
  refine fn_ok (ck := true) Try.func24 rfl tt_ok (G := G) (by rw [hG]; exact ⟨⟨rmayDs_ok, by unfold FnOk; kernel_rfl⟩, ⟨rin_ok, by unfold FnOk; kernel_rfl⟩, ⟨rmay_ok, by unfold FnOk; kernel_rfl⟩, trivial⟩) mixed (by kernel_rfl) ?_
  intro xa xs h hx hp
  obtain ⟨a0, as0, x0, xs0, rfl, rfl, h0, H1⟩ := svArgs_cons h
  obtain ⟨a1, as1, x1, xs1, rfl, rfl, h1, H2⟩ := svArgs_cons H1
  obtain ⟨rfl, rfl⟩ := svArgs_nil H2
  obtain ⟨dc, dh, dw, de, dk, dx, rfl, rfl⟩ := argSV_ds h0
  obtain ⟨l, rfl, rfl⟩ := argSV_ints h1
  have sd : (-9223372036854775808 ≤ dc ∧ dc ≤ 9223372036854775807) ∧ (-9223372036854775808 ≤ dh ∧ dh ≤ 9223372036854775807) ∧ (-9223372036854775808 ≤ dw ∧ dw ≤ 9223372036854775807) ∧ (-9223372036854775808 ≤ de ∧ de ≤ 9223372036854775807) ∧ (-9223372036854775808 ≤ dk ∧ dk ≤ 9223372036854775807) ∧ ((ci dx.ls.length ≤ 9223372036854775807) ∧ Wt (.sl exTy) dx) := svf_ds (hx (.agg [.v (.int .i64 dc), .v (.int .i64 dh), .v (.int .i64 dw), .v (.int .i64 de), .v (.int .i64 dk), .imm exTy dx]) (List.mem_of_getElem? (i := 0) rfl))
  have sl : Fits .i64 l ∧ ci l.length ≤ 9223372036854775807 := svf_ints (hx (.iimm .i64 l) (by simp))
  have SD := Lib.hid sd
  clear sd
  have SL := Lib.hid sl
  clear sl
  clear hx hp h h0 H1 h1 H2
  generalize hA : std = A
  subst hG
  generalize h_c : ci = c
  generalize h_fm : mayDsF = fm
  generalize h_fd : shMayF = fd
  generalize h_fi : inF = fi
  generalize h_fE : batE = fE
  generalize h_fR : batR = fR
  generalize h_fL : batL = fL
  have hcs : (batErr dc dh dw de dk dx l = 0 ∧ (mayDs dc dh dw de dk dx = true ∧ (1 ≤ l.length ∧ l.length ≤ 64) ∧ idsB l dx.ls.length = true ∧ mayD [(l.length : Int), dc, dh, dw] = true)) ∨ (batErr dc dh dw de dk dx l = 1 ∧ ¬ (mayDs dc dh dw de dk dx = true ∧ (1 ≤ l.length ∧ l.length ≤ 64) ∧ idsB l dx.ls.length = true ∧ mayD [(l.length : Int), dc, dh, dw] = true)) := by
    unfold batErr
    by_cases h : mayDs dc dh dw de dk dx = true ∧ (1 ≤ l.length ∧ l.length ≤ 64) ∧ idsB l dx.ls.length = true ∧ mayD [(l.length : Int), dc, dh, dw] = true
    · exact .inl ⟨if_pos h, h⟩
    · exact .inr ⟨if_neg h, h⟩
  have HCS := Lib.hid hcs
  clear hcs
  obtain ⟨K, hK⟩ : ∃ K : Nat → List Int, ∀ j, K j = catD dx l j := ⟨_, fun _ => rfl⟩
  obtain ⟨B, hB⟩ : ∃ B : Nat → List Int, ∀ j, B j = (List.range j).map (lbl dx l) := ⟨_, fun _ => rfl⟩
  have HK := Lib.hid hK
  have HB := Lib.hid hB
  clear hK hB
  cbv
  (repeat' (first | apply And.intro | apply BrB.mk | apply BrP.mk | intro _))
  all_goals try (refine loop_at Nat 25 (fun x => [(5, .v (.slice none 0 0)), (6, .v (.int .i64 0)), (8, .any), (25, .v (.int .i64 (c x)))]) (fun _ o => o) (fun x => x ≤ l.length ∧ ∀ j, j < x → 0 ≤ l.getD j 0 ∧ l.getD j 0 < ci dx.ls.length) (fun x => l.length - x) 0 ?h0 ?hle ?round)
  case h0 => exact ⟨Nat.zero_le _, fun j hj => absurd hj (Nat.not_lt_zero _)⟩
  case hle => (cbv; (repeat' (first | apply And.intro | apply BrB.mk | apply BrP.mk | intro _)); all_goals (subst hA; subst h_c; subst h_fm; subst h_fd; subst h_fi; subst h_fE; subst h_fR; subst h_fL); all_goals (have f_sd := SD.out; have f_sl := SL.out); all_goals (try simp only [std, stdBin, stdCmp, stdUna, stdIn, ci, beq_iff_eq, bne_iff_ne, beq_eq_false_iff_ne, bne_eq_false_iff_eq, decide_eq_true_eq, decide_eq_false_iff_not, Bool.not_true, Bool.not_false, Bool.not_eq_true', Bool.not_eq_false', Bool.not_not, tn0, tn1, tn2, tn3] at *); (all_goals first | exact True.intro | rfl | exact congrArg (Value.int .i64) (by omega)))
  case round =>
    intro x hx
    cbv
    refine BrB.mk (fun gx => ?yx) (fun gx => ?nx)
    case yx =>
      (repeat' (first | apply And.intro | apply BrB.mk | apply BrP.mk | intro _))
      (all_goals try (exfalso; (subst hA; subst h_c; subst h_fm; subst h_fd; subst h_fi; subst h_fE; subst h_fR; subst h_fL); (try simp only [std, stdBin, stdCmp, stdUna, stdIn, ci, beq_iff_eq, bne_iff_ne, beq_eq_false_iff_ne, bne_eq_false_iff_eq, decide_eq_true_eq, decide_eq_false_iff_not, Bool.not_true, Bool.not_false, Bool.not_eq_true', Bool.not_eq_false', Bool.not_not, tn0, tn1, tn2, tn3] at *); first | omega | contradiction))
      all_goals try (refine ⟨x + 1, ?_, ?_, ?_⟩)
      all_goals try (show AS.le _ _; (cbv; (repeat' (first | apply And.intro | apply BrB.mk | apply BrP.mk | intro _)); all_goals (subst hA; subst h_c; subst h_fm; subst h_fd; subst h_fi; subst h_fE; subst h_fR; subst h_fL); all_goals (have f_sd := SD.out; have f_sl := SL.out); all_goals (try simp only [std, stdBin, stdCmp, stdUna, stdIn, ci, beq_iff_eq, bne_iff_ne, beq_eq_false_iff_ne, bne_eq_false_iff_eq, decide_eq_true_eq, decide_eq_false_iff_not, Bool.not_true, Bool.not_false, Bool.not_eq_true', Bool.not_eq_false', Bool.not_not, tn0, tn1, tn2, tn3] at *); (all_goals first | exact True.intro | rfl | exact congrArg (Value.int .i64) (by omega))))
      (all_goals (subst hA; subst h_c; subst h_fm; subst h_fd; subst h_fi; subst h_fE; subst h_fR; subst h_fL); all_goals (have f_sd := SD.out; have f_sl := SL.out); all_goals (try simp only [std, stdBin, stdCmp, stdUna, stdIn, ci, beq_iff_eq, bne_iff_ne, beq_eq_false_iff_ne, bne_eq_false_iff_eq, decide_eq_true_eq, decide_eq_false_iff_not, Bool.not_true, Bool.not_false, Bool.not_eq_true', Bool.not_eq_false', Bool.not_not, tn0, tn1, tn2, tn3, mayDsF, inF, Int.toNat_natCast] at *); all_goals (try omega))
      all_goals (try simp only [inB, decide_eq_true_eq, decide_eq_false_iff_not] at *)
      all_goals first
        | (refine ⟨by omega, fun j hj => ?_⟩
           by_cases e : j = x
           · subst e; omega
           · exact hx.2 j (by omega))
        | skip
      all_goals (rcases HCS.out with ⟨e0, hC⟩ | ⟨e1, hC⟩); all_goals first | (show Value.int .i64 1 = Value.int .i64 (batErr dc dh dw de dk dx l); rw [e1]) | (exfalso; have e2 : batErr dc dh dw de dk dx l = 0 := (by assumption); omega) | (exfalso; obtain ⟨h1, h2, h3', h4'⟩ := hC; have h3 : idsB l (dx.ls.length : Int) = true := h3'; have h4 : mayD [(l.length : Int), dc, dh, dw] = true := h4'; have h5 := ex_hd (Bool.and_eq_true _ _ ▸ h1 : _ ∧ _).1; first | omega | (have h9 : x < l.length := (by omega); have h6 := ids_at h3 x h9; omega) | (have h7 : mayDs dc dh dw de dk dx = false := (by assumption); rw [h1] at h7; cases h7) | (have h8 : mayD [(l.length : Int), dc, dh, dw] = false := (by assumption); rw [h4] at h8; cases h8))
    case nx =>
      (repeat' (first | apply And.intro | apply BrB.mk | apply BrP.mk | intro _))
      (all_goals try (exfalso; (subst hA; subst h_c; subst h_fm; subst h_fd; subst h_fi; subst h_fE; subst h_fR; subst h_fL); (try simp only [std, stdBin, stdCmp, stdUna, stdIn, ci, beq_iff_eq, bne_iff_ne, beq_eq_false_iff_ne, bne_eq_false_iff_eq, decide_eq_true_eq, decide_eq_false_iff_not, Bool.not_true, Bool.not_false, Bool.not_eq_true', Bool.not_eq_false', Bool.not_not, tn0, tn1, tn2, tn3] at *); first | omega | contradiction))
      all_goals try (refine loop_nil (hR := ?hR) [.cell 3 2 42 .i8, .slot 10 3 .i64] Nat 60 (fun j => [(10, .hdl 5), (12, .any), (60, .v (.int .i64 (c j)))]) (fun j o => (o.set 4 (.irow 42 .i8 (K j))).set 5 (.irow 3 .i64 (B j))) (fun j => j ≤ l.length) (fun j => l.length - j) 0 (Nat.zero_le _) ?hleB ?roundB)
      case hR => exact True.intro
      case hleB =>
        cbv
        (repeat' (first | apply And.intro | apply BrB.mk | apply BrP.mk | intro _))
        (all_goals (subst hA; subst h_c; subst h_fm; subst h_fd; subst h_fi; subst h_fE; subst h_fR; subst h_fL); all_goals (have f_sd := SD.out; have f_sl := SL.out); all_goals (try simp only [std, stdBin, stdCmp, stdUna, stdIn, ci, beq_iff_eq, bne_iff_ne, beq_eq_false_iff_ne, bne_eq_false_iff_eq, decide_eq_true_eq, decide_eq_false_iff_not, Bool.not_true, Bool.not_false, Bool.not_eq_true', Bool.not_eq_false', Bool.not_not, tn0, tn1, tn2, tn3, mayDsF, shMayF, inF] at *); all_goals (try omega))
        all_goals (try simp only [inB, decide_eq_true_eq, decide_eq_false_iff_not] at *)
        all_goals first
          | rfl
          | (rw [HK.out]; rfl)
          | (rw [HB.out]; rfl)
          | trace_state
      case roundB =>
        intro j hj
        cbv
        refine BrB.mk (fun ga => ?yb) (fun ga => ?nb)
        case yb =>
          (repeat' (first | apply And.intro | apply BrB.mk | apply BrP.mk | intro _))
          all_goals try (refine ⟨j + 1, ?_, ?_, ?_⟩)
          all_goals try (show AS.le _ _; cbv; (repeat' (first | apply And.intro | apply BrB.mk | apply BrP.mk | intro _)))
          (all_goals (subst hA; subst h_c; subst h_fm; subst h_fd; subst h_fi; subst h_fE; subst h_fR; subst h_fL); all_goals (have f_sd := SD.out; have f_sl := SL.out); all_goals (try simp only [std, stdBin, stdCmp, stdUna, stdIn, ci, beq_iff_eq, bne_iff_ne, beq_eq_false_iff_ne, bne_eq_false_iff_eq, decide_eq_true_eq, decide_eq_false_iff_not, Bool.not_true, Bool.not_false, Bool.not_eq_true', Bool.not_eq_false', Bool.not_not, tn0, tn1, tn2, tn3, mayDsF, shMayF, inF, Int.toNat_natCast] at *); all_goals (try omega))
          all_goals (try simp only [inB, decide_eq_true_eq, decide_eq_false_iff_not] at *)
          all_goals (have hm : mayDs dc dh dw de dk dx = true := (by assumption); have h5 := ex_hd (Bool.and_eq_true _ _ ▸ hm : _ ∧ _).1; have hi : ∀ j, j < l.length → 0 ≤ l.getD j 0 ∧ l.getD j 0 < (dx.ls.length : Int) := (fun j hj => hx.2 j (by omega)); have hd : mayD [(l.length : Int), dc, dh, dw] = true := (by assumption); have hch := chw_in h5.1 h5.2.1 h5.2.2.1; have hok : batErr dc dh dw de dk dx l = 0 := (by rcases HCS.out with ⟨e0, hC⟩ | ⟨e1, hC⟩ <;> first | exact e0 | exact absurd ⟨hm, ⟨by omega, by omega⟩, ids_of hi, hd⟩ hC))
          all_goals (have hj2 : j < l.length := (by omega); have kj : K j = catD dx l j := HK.out j; have kj2 : K (j + 1) = catD dx l (j + 1) := HK.out (j + 1); have bj : B j = (List.range j).map (lbl dx l) := HB.out j; have bj2 : B (j + 1) = (List.range (j + 1)).map (lbl dx l) := HB.out (j + 1); have kl := cat_len hm hi j (by omega); have id := hi j hj2; have xl := exam_len hm id.1 id.2; rw [← kj] at kl; have bl : (B j).length = j := (by rw [bj]; simp))
          all_goals (have mu : j * (dc * dh * dw).toNat ≤ 64 * 2048 := Nat.mul_le_mul (by omega) (by omega))
          all_goals first
            | omega
            | (show Value.int .i64 _ = Value.int .i64 _; refine congrArg (Value.int .i64) ?_; omega)
            | (show B j ++ [((dx.at (l.getD j 0).toNat).fld 1).z] = B (j + 1); rw [bj, bj2, lbl_succ]; rfl)
            | (show K j ++ _ = K (j + 1); rw [kj2, kj]; rfl)
            | (rw [bl, List.length_singleton]; omega)
            | omega
            | trace_state
        case nb =>
          (repeat' (first | apply And.intro | apply BrB.mk | apply BrP.mk | intro _))
          (all_goals (subst hA; subst h_c; subst h_fm; subst h_fd; subst h_fi; subst h_fE; subst h_fR; subst h_fL); all_goals (have f_sd := SD.out; have f_sl := SL.out); all_goals (try simp only [std, stdBin, stdCmp, stdUna, stdIn, ci, beq_iff_eq, bne_iff_ne, beq_eq_false_iff_ne, bne_eq_false_iff_eq, decide_eq_true_eq, decide_eq_false_iff_not, Bool.not_true, Bool.not_false, Bool.not_eq_true', Bool.not_eq_false', Bool.not_not, tn0, tn1, tn2, tn3, mayDsF, shMayF, inF, Int.toNat_natCast] at *); all_goals (try omega))
          all_goals (try simp only [inB, decide_eq_true_eq, decide_eq_false_iff_not] at *)
          all_goals (have hm : mayDs dc dh dw de dk dx = true := (by assumption); have h5 := ex_hd (Bool.and_eq_true _ _ ▸ hm : _ ∧ _).1; have hi : ∀ j, j < l.length → 0 ≤ l.getD j 0 ∧ l.getD j 0 < (dx.ls.length : Int) := (fun j hj => hx.2 j (by omega)); have hd : mayD [(l.length : Int), dc, dh, dw] = true := (by assumption); have hch := chw_in h5.1 h5.2.1 h5.2.2.1; have hok : batErr dc dh dw de dk dx l = 0 := (by rcases HCS.out with ⟨e0, hC⟩ | ⟨e1, hC⟩ <;> first | exact e0 | exact absurd ⟨hm, ⟨by omega, by omega⟩, ids_of hi, hd⟩ hC))
          all_goals (have jl : j = l.length := (by omega); have kj : K j = catD dx l j := HK.out j; have bj : B j = (List.range j).map (lbl dx l) := HB.out j; rw [jl] at kj bj)
          all_goals first
            | exact True.intro
            | rfl
            | (show K j = catD dx l l.length; rw [jl, kj])
            | (show B j = (List.range l.length).map (lbl dx l); rw [jl, bj])
            | (exfalso; have e3 : ¬ batErr dc dh dw de dk dx l = 0 := (by assumption); exact e3 hok)
            | (exfalso; have e3 : batErr dc dh dw de dk dx l = 1 := (by assumption); omega)
            | trace_state
      (all_goals (subst hA; subst h_c; subst h_fm; subst h_fd; subst h_fi; subst h_fE; subst h_fR; subst h_fL); all_goals (have f_sd := SD.out; have f_sl := SL.out); all_goals (try simp only [std, stdBin, stdCmp, stdUna, stdIn, ci, beq_iff_eq, bne_iff_ne, beq_eq_false_iff_ne, bne_eq_false_iff_eq, decide_eq_true_eq, decide_eq_false_iff_not, Bool.not_true, Bool.not_false, Bool.not_eq_true', Bool.not_eq_false', Bool.not_not, tn0, tn1, tn2, tn3, mayDsF, shMayF, inF] at *); all_goals (try omega))
      all_goals (try simp only [inB, decide_eq_true_eq, decide_eq_false_iff_not] at *)
      all_goals first | omega | (have hi : ∀ j, j < l.length → 0 ≤ l.getD j 0 ∧ l.getD j 0 < (dx.ls.length : Int) := (fun j hj => hx.2 j (by omega)); have q0 := szD_in [(l.length : Int), dc, dh, dw]; first | (show (4 : Int) * 8 ≤ _; decide) | omega | (rcases HCS.out with ⟨e0, hC⟩ | ⟨e1, hC⟩ <;> first | (exfalso; obtain ⟨h1, h2, h3', h4'⟩ := hC; have h4 : mayD [(l.length : Int), dc, dh, dw] = true := h4'; have h5 := ex_hd (Bool.and_eq_true _ _ ▸ h1 : _ ∧ _).1; first | omega | (have h8 : mayD [(l.length : Int), dc, dh, dw] = false := (by assumption); rw [h4] at h8; cases h8)) | (show Value.int .i64 1 = Value.int .i64 (batErr dc dh dw de dk dx l); rw [e1]) | (exfalso; have e2 : batErr dc dh dw de dk dx l = 0 := (by assumption); omega) | trace_state))
  (all_goals (subst hA; subst h_c; subst h_fm; subst h_fd; subst h_fi; subst h_fE; subst h_fR; subst h_fL); all_goals (have f_sd := SD.out; have f_sl := SL.out); all_goals (try simp only [std, stdBin, stdCmp, stdUna, stdIn, ci, beq_iff_eq, bne_iff_ne, beq_eq_false_iff_ne, bne_eq_false_iff_eq, decide_eq_true_eq, decide_eq_false_iff_not, Bool.not_true, Bool.not_false, Bool.not_eq_true', Bool.not_eq_false', Bool.not_not, tn0, tn1, tn2, tn3, mayDsF, inF] at *); all_goals (try omega))
  all_goals (try simp only [inB, decide_eq_true_eq, decide_eq_false_iff_not] at *)
  have x := 0
  all_goals (rcases HCS.out with ⟨e0, hC⟩ | ⟨e1, hC⟩); all_goals first | (show Value.int .i64 1 = Value.int .i64 (batErr dc dh dw de dk dx l); rw [e1]) | (exfalso; have e2 : batErr dc dh dw de dk dx l = 0 := (by assumption); omega) | (exfalso; obtain ⟨h1, h2, h3', h4'⟩ := hC; have h3 : idsB l (dx.ls.length : Int) = true := h3'; have h4 : mayD [(l.length : Int), dc, dh, dw] = true := h4'; have h5 := ex_hd (Bool.and_eq_true _ _ ▸ h1 : _ ∧ _).1; first | omega | (have h9 : x < l.length := (by omega); have h6 := ids_at h3 x h9; omega) | (have h7 : mayDs dc dh dw de dk dx = false := (by assumption); rw [h1] at h7; cases h7) | (have h8 : mayD [(l.length : Int), dc, dh, dw] = false := (by assumption); rw [h4] at h8; cases h8))
end Go.Proofs.Ytmlfiphpcjkadaa
