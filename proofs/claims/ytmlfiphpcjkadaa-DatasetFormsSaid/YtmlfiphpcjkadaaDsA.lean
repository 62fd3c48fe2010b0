/- Layer 22: may a dataset be. -/
import Derived.Test.YtmlfiphpcjkadaaBatB
namespace Go.Proofs.Ytmlfiphpcjkadaa
open Go.RowKit
set_option maxRecDepth 100000
set_option linter.unusedSimpArgs false
set_option linter.unusedVariables false
set_option maxHeartbeats 8000000
abbrev exTy : Ty := .st [.sl (.int .i8), .int .i64]
theorem argSV_ex {a : AV} {x : SV} (h : argSV exTy a = some x) : ∃ (v_D : List Int) (v_L : Int), a = .st [.l v_D, .z v_L] ∧ x = .agg [.iimm .i8 v_D, .v (.int .i64 v_L)] := by
  obtain ⟨as0, l0, rfl, rfl, h0⟩ := argSV_st h
  obtain ⟨a1, as1, x1, m1, rfl, rfl, p1, h1⟩ := svAVs_cons h0
  obtain ⟨v_D, rfl, rfl⟩ := svAV_ints p1
  obtain ⟨a2, as2, x2, m2, rfl, rfl, p2, h2⟩ := svAVs_cons h1
  obtain ⟨v_L, rfl, rfl⟩ := svAV_int p2
  obtain ⟨rfl, rfl⟩ := svAVs_nil h2
  exact ⟨v_D, v_L, rfl, rfl⟩
theorem svf_ex {v_D : List Int} {v_L : Int} (h : SVf (.agg [.iimm .i8 v_D, .v (.int .i64 v_L)])) : (Fits .i8 v_D ∧ ci v_D.length ≤ 9223372036854775807) ∧ (-9223372036854775808 ≤ v_L ∧ v_L ≤ 9223372036854775807) := by
  exact ⟨svf_ints (h (.iimm .i8 v_D) (by simp)), of_i64 (h (.v (.int .i64 v_L)) (by simp))⟩
abbrev dsTy : Ty := .st [.st [.int .i64, .int .i64, .int .i64], .int .i64, .int .i64, .sl exTy]
theorem argSV_ds {a : AV} {x : SV} (h : argSV dsTy a = some x) : ∃ (v_c : Int) (v_h : Int) (v_w : Int) (v_e : Int) (v_k : Int) (v_x : Dat), a = .st [.st [.z v_c, .z v_h, .z v_w], .z v_e, .z v_k, .d v_x] ∧ x = .agg [.v (.int .i64 v_c), .v (.int .i64 v_h), .v (.int .i64 v_w), .v (.int .i64 v_e), .v (.int .i64 v_k), .imm exTy v_x] := by
  obtain ⟨as0, l0, rfl, rfl, h0⟩ := argSV_st h
  obtain ⟨a1, as1, x1, m1, rfl, rfl, p1, h1⟩ := svAVs_cons h0
  obtain ⟨bs1, rfl, q1⟩ := svAV_st p1
  obtain ⟨a2, as2, x2, m2, rfl, rfl, p2, h2⟩ := svAVs_cons q1
  obtain ⟨v_c, rfl, rfl⟩ := svAV_int p2
  obtain ⟨a3, as3, x3, m3, rfl, rfl, p3, h3⟩ := svAVs_cons h2
  obtain ⟨v_h, rfl, rfl⟩ := svAV_int p3
  obtain ⟨a4, as4, x4, m4, rfl, rfl, p4, h4⟩ := svAVs_cons h3
  obtain ⟨v_w, rfl, rfl⟩ := svAV_int p4
  obtain ⟨rfl, rfl⟩ := svAVs_nil h4
  obtain ⟨a5, as5, x5, m5, rfl, rfl, p5, h5⟩ := svAVs_cons h1
  obtain ⟨v_e, rfl, rfl⟩ := svAV_int p5
  obtain ⟨a6, as6, x6, m6, rfl, rfl, p6, h6⟩ := svAVs_cons h5
  obtain ⟨v_k, rfl, rfl⟩ := svAV_int p6
  obtain ⟨a7, as7, x7, m7, rfl, rfl, p7, h7⟩ := svAVs_cons h6
  obtain ⟨v_x, rfl, rfl⟩ := svAV_rows p7
  obtain ⟨rfl, rfl⟩ := svAVs_nil h7
  exact ⟨v_c, v_h, v_w, v_e, v_k, v_x, rfl, rfl⟩
theorem svf_ds {v_c : Int} {v_h : Int} {v_w : Int} {v_e : Int} {v_k : Int} {v_x : Dat} (h : SVf (.agg [.v (.int .i64 v_c), .v (.int .i64 v_h), .v (.int .i64 v_w), .v (.int .i64 v_e), .v (.int .i64 v_k), .imm exTy v_x])) : (-9223372036854775808 ≤ v_c ∧ v_c ≤ 9223372036854775807) ∧ (-9223372036854775808 ≤ v_h ∧ v_h ≤ 9223372036854775807) ∧ (-9223372036854775808 ≤ v_w ∧ v_w ≤ 9223372036854775807) ∧ (-9223372036854775808 ≤ v_e ∧ v_e ≤ 9223372036854775807) ∧ (-9223372036854775808 ≤ v_k ∧ v_k ≤ 9223372036854775807) ∧ ((ci v_x.ls.length ≤ 9223372036854775807) ∧ Wt (.sl exTy) v_x) := by
  exact ⟨of_i64 (h (.v (.int .i64 v_c)) (by simp)), of_i64 (h (.v (.int .i64 v_h)) (by simp)), of_i64 (h (.v (.int .i64 v_w)) (by simp)), of_i64 (h (.v (.int .i64 v_e)) (by simp)), of_i64 (h (.v (.int .i64 v_k)) (by simp)), ⟨wtl_len (h (.imm exTy v_x) (by simp)), h (.imm exTy v_x) (by simp)⟩⟩
def boolP (ts : List Ty) (p : List AV → Prop) (f : List AV → Bool) : Ctr := ⟨ts, fun xa => some (p xa), fun xa => .ret (.v (.bool (f xa))) [], false⟩
def headB (c h w e k n : Int) : Bool := decide ((1 ≤ c ∧ c ≤ 8) ∧ (1 ≤ h ∧ h ≤ 16) ∧ (1 ≤ w ∧ w ≤ 16) ∧ (-64 ≤ e ∧ e ≤ 64) ∧ (2 ≤ k ∧ k ≤ 10) ∧ 1 ≤ n ∧ n ≤ 64)
def headF (xa : List AV) : Bool := match xa with
  | [.st [.st [.z c, .z h, .z w], .z e, .z k, .d x], .z n] => headB c h w e k n
  | _ => false
def exB (c h w k : Int) (D : List Int) (L : Int) : Bool := decide ((D.length : Int) = c * h * w ∧ D.contains (-128) = false ∧ 0 ≤ L ∧ L ≤ k - 1)
def exF (xa : List AV) : Bool := match xa with
  | [.st [.st [.z c, .z h, .z w], .z e, .z k, .d x], .st [.l D, .z L]] => exB c h w k D L
  | _ => false
def boxP (xa : List AV) : Prop := match xa with
  | [.st [.st [.z c, .z h, .z w], .z e, .z k, .d x], .st [.l D, .z L]] => (1 ≤ c ∧ c ≤ 8) ∧ (1 ≤ h ∧ h ≤ 16) ∧ (1 ≤ w ∧ w ≤ 16) ∧ (2 ≤ k ∧ k ≤ 10)
  | _ => False
def mayDs (c h w e k : Int) (x : Dat) : Bool := headB c h w e k x.ls.length && allTo (fun i => exB c h w k ((x.at i).fld 0).ints ((x.at i).fld 1).z) x.ls.length
def mayDsF (xa : List AV) : Bool := match xa with
  | [.st [.st [.z c, .z h, .z w], .z e, .z k, .d x]] => mayDs c h w e k x
  | _ => false
theorem chw_in {c h w : Int} (h1 : 1 ≤ c ∧ c ≤ 8) (h2 : 1 ≤ h ∧ h ≤ 16) (h3 : 1 ≤ w ∧ w ≤ 16) : (1 ≤ c * h ∧ c * h ≤ 128) ∧ 1 ≤ c * h * w ∧ c * h * w ≤ 2048 := by
  have a1 : 1 ≤ c * h := by
    have := Int.mul_le_mul h1.1 h2.1 (by omega) (by omega)
    omega
  have a2 : c * h ≤ 8 * 16 := Int.mul_le_mul h1.2 h2.2 (by omega) (by omega)
  have a3 : 1 * 1 ≤ c * h * w := Int.mul_le_mul a1 h3.1 (by omega) (by omega)
  have a4 : c * h * w ≤ 128 * 16 := Int.mul_le_mul a2 h3.2 (by omega) (by omega)
  omega
theorem head_ok : CtrOk Try.prog 37 (boolC [dsTy, .int .i64] headF) := by
  obtain ⟨G, hG⟩ : ∃ G : List (FuncId × Ctr), G = [(68, boolC [.int .i64, .int .i64, .int .i64] inF)] := ⟨_, rfl⟩
  refine fn_ok (ck := true) Try.func37 rfl tt_ok (G := G) (by rw [hG]; exact ⟨⟨within_ok, by unfold FnOk; kernel_rfl⟩, trivial⟩) mixed (by kernel_rfl) ?_
  intro xa xs h hx hp
  obtain ⟨a0, as0, x0, xs0, rfl, rfl, h0, H1⟩ := svArgs_cons h
  obtain ⟨a1, as1, x1, xs1, rfl, rfl, h1, H2⟩ := svArgs_cons H1
  obtain ⟨rfl, rfl⟩ := svArgs_nil H2
  obtain ⟨dc, dh, dw, de, dk, dx, rfl, rfl⟩ := argSV_ds h0
  obtain ⟨n, rfl, rfl⟩ := argSV_int h1
  have sd : (-9223372036854775808 ≤ dc ∧ dc ≤ 9223372036854775807) ∧ (-9223372036854775808 ≤ dh ∧ dh ≤ 9223372036854775807) ∧ (-9223372036854775808 ≤ dw ∧ dw ≤ 9223372036854775807) ∧ (-9223372036854775808 ≤ de ∧ de ≤ 9223372036854775807) ∧ (-9223372036854775808 ≤ dk ∧ dk ≤ 9223372036854775807) ∧ ((ci dx.ls.length ≤ 9223372036854775807) ∧ Wt (.sl exTy) dx) := svf_ds (hx (.agg [.v (.int .i64 dc), .v (.int .i64 dh), .v (.int .i64 dw), .v (.int .i64 de), .v (.int .i64 dk), .imm exTy dx]) (List.mem_of_getElem? (i := 0) rfl))
  have sn := of_i64 (hx (.v (.int .i64 n)) (by simp))
  have SD := Lib.hid sd
  clear sd
  have SN := Lib.hid sn
  clear sn
  clear hx hp h h0 H1 h1 H2
  generalize hA : std = A
  subst hG
  generalize h_c : ci = c
  generalize h_fi : inF = fi
  generalize h_fR : headF = fR
  cbv
  (repeat' (first | apply And.intro | apply BrB.mk | apply BrP.mk | intro _))
  (all_goals (subst hA; subst h_c; subst h_fi; subst h_fR); all_goals (have f_sd := SD.out; have f_sn := SN.out); all_goals (try simp only [std, stdBin, stdCmp, stdUna, stdIn, ci, beq_iff_eq, bne_iff_ne, beq_eq_false_iff_ne, bne_eq_false_iff_eq, decide_eq_true_eq, decide_eq_false_iff_not, Bool.not_true, Bool.not_false, Bool.not_eq_true', Bool.not_eq_false', Bool.not_not, tn0, tn1, tn2, tn3, inF, inB, headF] at *); all_goals (try omega))
  all_goals (refine vb ?_; simp only [headB, inB] at *)
  all_goals first | (rw [decide_eq_decide]; omega) | (rw [decide_eq_false_iff_not]; omega)
theorem rhead_ok : CtrOk Try.prog 39 (boolC [dsTy, .int .i64] headF) := by
  obtain ⟨G, hG⟩ : ∃ G : List (FuncId × Ctr), G = [(60, boolC [.int .i64, .int .i64, .int .i64] inF)] := ⟨_, rfl⟩
  refine fn_ok (ck := true) Try.func39 rfl tt_ok (G := G) (by rw [hG]; exact ⟨⟨rin_ok, by unfold FnOk; kernel_rfl⟩, trivial⟩) mixed (by kernel_rfl) ?_
  intro xa xs h hx hp
  obtain ⟨a0, as0, x0, xs0, rfl, rfl, h0, H1⟩ := svArgs_cons h
  obtain ⟨a1, as1, x1, xs1, rfl, rfl, h1, H2⟩ := svArgs_cons H1
  obtain ⟨rfl, rfl⟩ := svArgs_nil H2
  obtain ⟨dc, dh, dw, de, dk, dx, rfl, rfl⟩ := argSV_ds h0
  obtain ⟨n, rfl, rfl⟩ := argSV_int h1
  have sd : (-9223372036854775808 ≤ dc ∧ dc ≤ 9223372036854775807) ∧ (-9223372036854775808 ≤ dh ∧ dh ≤ 9223372036854775807) ∧ (-9223372036854775808 ≤ dw ∧ dw ≤ 9223372036854775807) ∧ (-9223372036854775808 ≤ de ∧ de ≤ 9223372036854775807) ∧ (-9223372036854775808 ≤ dk ∧ dk ≤ 9223372036854775807) ∧ ((ci dx.ls.length ≤ 9223372036854775807) ∧ Wt (.sl exTy) dx) := svf_ds (hx (.agg [.v (.int .i64 dc), .v (.int .i64 dh), .v (.int .i64 dw), .v (.int .i64 de), .v (.int .i64 dk), .imm exTy dx]) (List.mem_of_getElem? (i := 0) rfl))
  have sn := of_i64 (hx (.v (.int .i64 n)) (by simp))
  have SD := Lib.hid sd
  clear sd
  have SN := Lib.hid sn
  clear sn
  clear hx hp h h0 H1 h1 H2
  generalize hA : std = A
  subst hG
  generalize h_c : ci = c
  generalize h_fi : inF = fi
  generalize h_fR : headF = fR
  cbv
  (repeat' (first | apply And.intro | apply BrB.mk | apply BrP.mk | intro _))
  (all_goals (subst hA; subst h_c; subst h_fi; subst h_fR); all_goals (have f_sd := SD.out; have f_sn := SN.out); all_goals (try simp only [std, stdBin, stdCmp, stdUna, stdIn, ci, beq_iff_eq, bne_iff_ne, beq_eq_false_iff_ne, bne_eq_false_iff_eq, decide_eq_true_eq, decide_eq_false_iff_not, Bool.not_true, Bool.not_false, Bool.not_eq_true', Bool.not_eq_false', Bool.not_not, tn0, tn1, tn2, tn3, inF, inB, headF] at *); all_goals (try omega))
  all_goals (refine vb ?_; simp only [headB, inB] at *)
  all_goals first | (rw [decide_eq_decide]; omega) | (rw [decide_eq_false_iff_not]; omega)
def hasF (xa : List AV) : Bool := match xa with
  | [.l l, .z v] => l.contains v
  | _ => false
theorem has_of {L : List Int} {v : Int} {j : Nat} (h : L.getD j 0 = v) (hj : j < L.length) : L.contains v = true := by
  rw [List.contains_eq_mem, decide_eq_true_eq, ← h, List.getD_eq_getElem?_getD, List.getElem?_eq_getElem hj]
  exact List.getElem_mem _
theorem has_ok : CtrOk Try.prog 69 (boolC [.sl (.int .i8), .int .i8] hasF) := by
  obtain ⟨G, hG⟩ : ∃ G : List (FuncId × Ctr), G = [] := ⟨_, rfl⟩
  refine fn_inl (ck := true) [(79, Try.f79)] ⟨⟨Try.func79, by unfold FnOk; kernel_rfl, by kernel_rfl⟩, trivial⟩ Try.func69 rfl tt_ok (G := G) (by rw [hG]; exact trivial) mixed (by kernel_rfl) ?_
  intro xa xs h hx hp
  obtain ⟨a0, as0, x0, xs0, rfl, rfl, h0, H1⟩ := svArgs_cons h
  obtain ⟨a1, as1, x1, xs1, rfl, rfl, h1, H2⟩ := svArgs_cons H1
  obtain ⟨rfl, rfl⟩ := svArgs_nil H2
  obtain ⟨l, rfl, rfl⟩ := argSV_ints h0
  obtain ⟨v, rfl, rfl⟩ := argSV_int h1
  have sl : Fits .i8 l ∧ ci l.length ≤ 9223372036854775807 := svf_ints (hx (.iimm .i8 l) (by simp))
  have sv := of_i8 (hx (.v (.int .i8 v)) (by simp))
  have SL := Lib.hid sl
  clear sl
  have SV := Lib.hid sv
  clear sv
  clear hx hp h h0 H1 h1 H2
  generalize hA : std = A
  subst hG
  generalize h_c : ci = c
  generalize h_fR : hasF = fR
  cbv
  (repeat' (first | apply And.intro | apply BrB.mk | apply BrP.mk | intro _))
  all_goals try (refine loop_at Nat 8 (fun x => [(4, .any), (5, .any), (8, .v (.int .i64 (c x)))]) (fun _ o => o) (fun x => x ≤ l.length ∧ ∀ j, j < x → l.getD j 0 ≠ v) (fun x => l.length - x) 0 ?h0 ?hle ?round)
  case h0 => exact ⟨Nat.zero_le _, fun j hj => absurd hj (Nat.not_lt_zero _)⟩
  case hle => (cbv; (repeat' (first | apply And.intro | apply BrB.mk | apply BrP.mk | intro _)); all_goals (subst hA; subst h_c; subst h_fR); all_goals (have f_sl := SL.out; have f_sv := SV.out); all_goals (try simp only [std, stdBin, stdCmp, stdUna, stdIn, ci, beq_iff_eq, bne_iff_ne, beq_eq_false_iff_ne, bne_eq_false_iff_eq, decide_eq_true_eq, decide_eq_false_iff_not, Bool.not_true, Bool.not_false, Bool.not_eq_true', Bool.not_eq_false', Bool.not_not, tn0, tn1, tn2, tn3] at *); (all_goals first | exact True.intro | rfl | exact congrArg (Value.int .i64) (by omega)))
  case round =>
    intro x hx
    cbv
    (repeat' (first | apply And.intro | apply BrB.mk | apply BrP.mk | intro _))
    all_goals try (refine ⟨x + 1, ?_, ?_, ?_⟩)
    all_goals try (show AS.le _ _; (cbv; (repeat' (first | apply And.intro | apply BrB.mk | apply BrP.mk | intro _)); all_goals (subst hA; subst h_c; subst h_fR); all_goals (have f_sl := SL.out; have f_sv := SV.out); all_goals (try simp only [std, stdBin, stdCmp, stdUna, stdIn, ci, beq_iff_eq, bne_iff_ne, beq_eq_false_iff_ne, bne_eq_false_iff_eq, decide_eq_true_eq, decide_eq_false_iff_not, Bool.not_true, Bool.not_false, Bool.not_eq_true', Bool.not_eq_false', Bool.not_not, tn0, tn1, tn2, tn3] at *); (all_goals first | exact True.intro | rfl | exact congrArg (Value.int .i64) (by omega))))
    (all_goals (subst hA; subst h_c; subst h_fR); all_goals (have f_sl := SL.out; have f_sv := SV.out); all_goals (try simp only [std, stdBin, stdCmp, stdUna, stdIn, ci, beq_iff_eq, bne_iff_ne, beq_eq_false_iff_ne, bne_eq_false_iff_eq, decide_eq_true_eq, decide_eq_false_iff_not, Bool.not_true, Bool.not_false, Bool.not_eq_true', Bool.not_eq_false', Bool.not_not, tn0, tn1, tn2, tn3, Int.toNat_natCast] at *); all_goals (try omega))
    all_goals first | exact True.intro | skip
    · refine vb ?_
      have hb : l.getD x 0 = v := by first | assumption | (symm; assumption)
      have h2 : ((x : Int) ≥ 0) = True := by simp
      simp only [h2, decide_true, hasF]
      exact has_of hb (by omega)
    · refine ⟨by omega, fun j hj => ?_⟩
      by_cases e : j = x
      · subst e; first | assumption | (intro h; simp_all)
      · exact hx.2 j (by omega)
    · refine vb ?_
      simp only [hasF]
      exact all_ne l v x hx.2 (by omega)
def boxP1 (xa : List AV) : Prop := match xa with
  | [.st [.st [.z c, .z h, .z w], .z e, .z k, .d x]] => (1 ≤ c ∧ c ≤ 8) ∧ (1 ≤ h ∧ h ≤ 16) ∧ (1 ≤ w ∧ w ≤ 16)
  | _ => False
def sizeF (xa : List AV) : Int := match xa with
  | [.st [.st [.z c, .z h, .z w], .z e, .z k, .d x]] => c * h * w
  | _ => 0
theorem size_ok22 : CtrOk Try.prog 50 (intP [dsTy] .i64 boxP1 sizeF) := by
  obtain ⟨G, hG⟩ : ∃ G : List (FuncId × Ctr), G = [] := ⟨_, rfl⟩
  refine fn_ok (ck := true) Try.func50 rfl tt_ok (G := G) (by rw [hG]; exact trivial) mixed (by kernel_rfl) ?_
  intro xa xs h hx hp
  obtain ⟨a0, as0, x0, xs0, rfl, rfl, h0, H1⟩ := svArgs_cons h
  obtain ⟨rfl, rfl⟩ := svArgs_nil H1
  obtain ⟨dc, dh, dw, de, dk, dx, rfl, rfl⟩ := argSV_ds h0
  have sd : (-9223372036854775808 ≤ dc ∧ dc ≤ 9223372036854775807) ∧ (-9223372036854775808 ≤ dh ∧ dh ≤ 9223372036854775807) ∧ (-9223372036854775808 ≤ dw ∧ dw ≤ 9223372036854775807) ∧ (-9223372036854775808 ≤ de ∧ de ≤ 9223372036854775807) ∧ (-9223372036854775808 ≤ dk ∧ dk ≤ 9223372036854775807) ∧ ((ci dx.ls.length ≤ 9223372036854775807) ∧ Wt (.sl exTy) dx) := svf_ds (hx (.agg [.v (.int .i64 dc), .v (.int .i64 dh), .v (.int .i64 dw), .v (.int .i64 de), .v (.int .i64 dk), .imm exTy dx]) (List.mem_of_getElem? (i := 0) rfl))
  have SD := Lib.hid sd
  clear sd
  have HP := Lib.hid (hp _ rfl)
  clear hx hp h h0 H1
  generalize hA : std = A
  subst hG
  generalize h_c : ci = c
  generalize h_fR : sizeF = fR
  cbv
  (repeat' (first | apply And.intro | apply BrB.mk | apply BrP.mk | intro _))
  (all_goals (subst hA; subst h_c; subst h_fR); all_goals (have f_sd := SD.out; have f_hp := HP.out); all_goals (try simp only [std, stdBin, stdCmp, stdUna, stdIn, ci, beq_iff_eq, bne_iff_ne, beq_eq_false_iff_ne, bne_eq_false_iff_eq, decide_eq_true_eq, decide_eq_false_iff_not, Bool.not_true, Bool.not_false, Bool.not_eq_true', Bool.not_eq_false', Bool.not_not, tn0, tn1, tn2, tn3, boxP1] at *); all_goals (try omega))
  all_goals (have hq : (1 ≤ dc ∧ dc ≤ 8) ∧ (1 ≤ dh ∧ dh ≤ 16) ∧ (1 ≤ dw ∧ dw ≤ 16) := (by assumption); have := chw_in hq.1 hq.2.1 hq.2.2)
  all_goals first | omega | rfl | skip
  all_goals trace_state
theorem ex_ok : CtrOk Try.prog 38 (boolP [dsTy, exTy] boxP exF) := by
  obtain ⟨G, hG⟩ : ∃ G : List (FuncId × Ctr), G = [(68, boolC [.int .i64, .int .i64, .int .i64] inF), (69, boolC [.sl (.int .i8), .int .i8] hasF), (50, intP [dsTy] .i64 boxP1 sizeF)] := ⟨_, rfl⟩
  refine fn_ok (ck := true) Try.func38 rfl tt_ok (G := G) (by rw [hG]; exact ⟨⟨within_ok, by unfold FnOk; kernel_rfl⟩, ⟨has_ok, by unfold FnOk; kernel_rfl⟩, ⟨size_ok22, by unfold FnOk; kernel_rfl⟩, trivial⟩) mixed (by kernel_rfl) ?_
  intro xa xs h hx hp
  obtain ⟨a0, as0, x0, xs0, rfl, rfl, h0, H1⟩ := svArgs_cons h
  obtain ⟨a1, as1, x1, xs1, rfl, rfl, h1, H2⟩ := svArgs_cons H1
  obtain ⟨rfl, rfl⟩ := svArgs_nil H2
  obtain ⟨dc, dh, dw, de, dk, dx, rfl, rfl⟩ := argSV_ds h0
  obtain ⟨xD, xL, rfl, rfl⟩ := argSV_ex h1
  have sd : (-9223372036854775808 ≤ dc ∧ dc ≤ 9223372036854775807) ∧ (-9223372036854775808 ≤ dh ∧ dh ≤ 9223372036854775807) ∧ (-9223372036854775808 ≤ dw ∧ dw ≤ 9223372036854775807) ∧ (-9223372036854775808 ≤ de ∧ de ≤ 9223372036854775807) ∧ (-9223372036854775808 ≤ dk ∧ dk ≤ 9223372036854775807) ∧ ((ci dx.ls.length ≤ 9223372036854775807) ∧ Wt (.sl exTy) dx) := svf_ds (hx (.agg [.v (.int .i64 dc), .v (.int .i64 dh), .v (.int .i64 dw), .v (.int .i64 de), .v (.int .i64 dk), .imm exTy dx]) (List.mem_of_getElem? (i := 0) rfl))
  have sx : (Fits .i8 xD ∧ ci xD.length ≤ 9223372036854775807) ∧ (-9223372036854775808 ≤ xL ∧ xL ≤ 9223372036854775807) := svf_ex (hx (.agg [.iimm .i8 xD, .v (.int .i64 xL)]) (List.mem_of_getElem? (i := 1) rfl))
  have SD := Lib.hid sd
  clear sd
  have SX := Lib.hid sx
  clear sx
  have HP := Lib.hid (hp _ rfl)
  clear hx hp h h0 H1 h1 H2
  generalize hA : std = A
  subst hG
  generalize h_c : ci = c
  generalize h_fi : inF = fi
  generalize h_fh : hasF = fh
  generalize h_fz : sizeF = fz
  generalize h_pz : boxP1 = pz
  generalize h_fR : exF = fR
  cbv
  (repeat' (first | apply And.intro | apply BrB.mk | apply BrP.mk | intro _))
  (all_goals (subst hA; subst h_c; subst h_fi; subst h_fh; subst h_fz; subst h_pz; subst h_fR); all_goals (have f_sd := SD.out; have f_sx := SX.out; have f_hp := HP.out); all_goals (try simp only [std, stdBin, stdCmp, stdUna, stdIn, ci, beq_iff_eq, bne_iff_ne, beq_eq_false_iff_ne, bne_eq_false_iff_eq, decide_eq_true_eq, decide_eq_false_iff_not, Bool.not_true, Bool.not_false, Bool.not_eq_true', Bool.not_eq_false', Bool.not_not, tn0, tn1, tn2, tn3, inF, inB, exF, hasF, sizeF, boxP1, boxP] at *); all_goals (try omega))
  all_goals (refine vb ?_; rw [Bool.eq_iff_iff]; simp only [exB, decide_eq_true_eq]; simp_all)
  all_goals exact decide_eq_true_iff.symm
theorem ex_hd {c h w e k n : Int} (h' : headB c h w e k n = true) : (1 ≤ c ∧ c ≤ 8) ∧ (1 ≤ h ∧ h ≤ 16) ∧ (1 ≤ w ∧ w ≤ 16) ∧ (-64 ≤ e ∧ e ≤ 64) ∧ (2 ≤ k ∧ k ≤ 10) ∧ 1 ≤ n ∧ n ≤ 64 := by
  simpa only [headB, decide_eq_true_eq] using h'
theorem mayDs_ok : CtrOk Try.prog 16 (boolC [dsTy] mayDsF) := by
  obtain ⟨G, hG⟩ : ∃ G : List (FuncId × Ctr), G = [(37, boolC [dsTy, .int .i64] headF), (38, boolP [dsTy, exTy] boxP exF)] := ⟨_, rfl⟩
  refine fn_ok (ck := true) Try.func16 rfl tt_ok (G := G) (by rw [hG]; exact ⟨⟨head_ok, by unfold FnOk; kernel_rfl⟩, ⟨ex_ok, by unfold FnOk; kernel_rfl⟩, trivial⟩) mixed (by kernel_rfl) ?_
  intro xa xs h hx hp
  obtain ⟨a0, as0, x0, xs0, rfl, rfl, h0, H1⟩ := svArgs_cons h
  obtain ⟨rfl, rfl⟩ := svArgs_nil H1
  obtain ⟨dc, dh, dw, de, dk, dx, rfl, rfl⟩ := argSV_ds h0
  have sd : (-9223372036854775808 ≤ dc ∧ dc ≤ 9223372036854775807) ∧ (-9223372036854775808 ≤ dh ∧ dh ≤ 9223372036854775807) ∧ (-9223372036854775808 ≤ dw ∧ dw ≤ 9223372036854775807) ∧ (-9223372036854775808 ≤ de ∧ de ≤ 9223372036854775807) ∧ (-9223372036854775808 ≤ dk ∧ dk ≤ 9223372036854775807) ∧ ((ci dx.ls.length ≤ 9223372036854775807) ∧ Wt (.sl exTy) dx) := svf_ds (hx (.agg [.v (.int .i64 dc), .v (.int .i64 dh), .v (.int .i64 dw), .v (.int .i64 de), .v (.int .i64 dk), .imm exTy dx]) (List.mem_of_getElem? (i := 0) rfl))
  have SD := Lib.hid sd
  clear sd
  clear hx hp h h0 H1
  generalize hA : std = A
  subst hG
  generalize h_c : ci = c
  generalize h_fh : headF = fh
  generalize h_fe : exF = fe
  generalize h_pe : boxP = pe
  generalize h_fR : mayDsF = fR
  cbv
  (repeat' (first | apply And.intro | apply BrB.mk | apply BrP.mk | intro _))
  all_goals try (refine loop_at Nat 14 (fun x => [(2, .any), (4, .any), (14, .v (.int .i64 (c x)))]) (fun _ o => o) (fun x => ci x ≤ ci dx.ls.length ∧ allTo (fun i => exB dc dh dw dk ((dx.at i).fld 0).ints ((dx.at i).fld 1).z) x = true) (fun x => dx.ls.length - x) 0 ?h0 ?hle ?round)
  case h0 => exact ⟨by simp [ci], rfl⟩
  case hle => (cbv; (repeat' (first | apply And.intro | apply BrB.mk | apply BrP.mk | intro _)); all_goals (subst hA; subst h_c; subst h_fh; subst h_fe; subst h_pe; subst h_fR); all_goals (have f_sd := SD.out); all_goals (try simp only [std, stdBin, stdCmp, stdUna, stdIn, ci, beq_iff_eq, bne_iff_ne, beq_eq_false_iff_ne, bne_eq_false_iff_eq, decide_eq_true_eq, decide_eq_false_iff_not, Bool.not_true, Bool.not_false, Bool.not_eq_true', Bool.not_eq_false', Bool.not_not, tn0, tn1, tn2, tn3] at *); (all_goals first | exact True.intro | rfl | exact congrArg (Value.int .i64) (by omega)))
  case round =>
    intro x hx
    cbv
    (repeat' (first | apply And.intro | apply BrB.mk | apply BrP.mk | intro _))
    all_goals try (refine ⟨x + 1, ?_, ?_, ?_⟩)
    all_goals try (show AS.le _ _; (cbv; (repeat' (first | apply And.intro | apply BrB.mk | apply BrP.mk | intro _)); all_goals (subst hA; subst h_c; subst h_fh; subst h_fe; subst h_pe; subst h_fR); all_goals (have f_sd := SD.out); all_goals (try simp only [std, stdBin, stdCmp, stdUna, stdIn, ci, beq_iff_eq, bne_iff_ne, beq_eq_false_iff_ne, bne_eq_false_iff_eq, decide_eq_true_eq, decide_eq_false_iff_not, Bool.not_true, Bool.not_false, Bool.not_eq_true', Bool.not_eq_false', Bool.not_not, tn0, tn1, tn2, tn3] at *); (all_goals first | exact True.intro | rfl | exact congrArg (Value.int .i64) (by omega))))
    (all_goals (subst hA; subst h_c; subst h_fh; subst h_fe; subst h_pe; subst h_fR); all_goals (have f_sd := SD.out); all_goals (try simp only [std, stdBin, stdCmp, stdUna, stdIn, ci, beq_iff_eq, bne_iff_ne, beq_eq_false_iff_ne, bne_eq_false_iff_eq, decide_eq_true_eq, decide_eq_false_iff_not, Bool.not_true, Bool.not_false, Bool.not_eq_true', Bool.not_eq_false', Bool.not_not, tn0, tn1, tn2, tn3, headF, exF, boxP, Int.toNat_natCast] at *); all_goals (try omega))
    all_goals (have hh := ex_hd (show headB dc dh dw de dk dx.ls.length = true by assumption))
    all_goals first | exact True.intro | omega | skip
    all_goals first
      | exact ⟨hh.1, hh.2.1, hh.2.2.1, hh.2.2.2.2.1⟩
      | (refine vb ?_
         show (headB dc dh dw de dk dx.ls.length && _) = false
         have hg : exB dc dh dw dk ((dx.at x).fld 0).ints ((dx.at x).fld 1).z = false := by assumption
         rw [allTo_false (x := x) (by omega) hg, Bool.and_false])
      | (refine ⟨by omega, ?_⟩
         have hg : exB dc dh dw dk ((dx.at x).fld 0).ints ((dx.at x).fld 1).z = true := by assumption
         simp only [allTo, hx.2, hg, Bool.true_and])
      | (refine vb ?_
         have hl : dx.ls.length = x := by omega
         have hd : headB dc dh dw de dk dx.ls.length = true := by assumption
         show (headB dc dh dw de dk dx.ls.length && allTo _ dx.ls.length) = true
         rw [hd, hl, hx.2]; rfl)
  (all_goals (subst hA; subst h_c; subst h_fh; subst h_fe; subst h_pe; subst h_fR); all_goals (have f_sd := SD.out); all_goals (try simp only [std, stdBin, stdCmp, stdUna, stdIn, ci, beq_iff_eq, bne_iff_ne, beq_eq_false_iff_ne, bne_eq_false_iff_eq, decide_eq_true_eq, decide_eq_false_iff_not, Bool.not_true, Bool.not_false, Bool.not_eq_true', Bool.not_eq_false', Bool.not_not, tn0, tn1, tn2, tn3, headF, mayDsF] at *); all_goals (try omega))
  all_goals (refine vb ?_; simp only [mayDsF, mayDs])
  all_goals (simp_all; done)
theorem rex_ok : CtrOk Try.prog 40 (boolP [dsTy, exTy] boxP exF) := by
  obtain ⟨G, hG⟩ : ∃ G : List (FuncId × Ctr), G = [(60, boolC [.int .i64, .int .i64, .int .i64] inF)] := ⟨_, rfl⟩
  refine fn_ok (ck := true) Try.func40 rfl tt_ok (G := G) (by rw [hG]; exact ⟨⟨rin_ok, by unfold FnOk; kernel_rfl⟩, trivial⟩) mixed (by kernel_rfl) ?_
  intro xa xs h hx hp
  obtain ⟨a0, as0, x0, xs0, rfl, rfl, h0, H1⟩ := svArgs_cons h
  obtain ⟨a1, as1, x1, xs1, rfl, rfl, h1, H2⟩ := svArgs_cons H1
  obtain ⟨rfl, rfl⟩ := svArgs_nil H2
  obtain ⟨dc, dh, dw, de, dk, dx, rfl, rfl⟩ := argSV_ds h0
  obtain ⟨xD, xL, rfl, rfl⟩ := argSV_ex h1
  have sd : (-9223372036854775808 ≤ dc ∧ dc ≤ 9223372036854775807) ∧ (-9223372036854775808 ≤ dh ∧ dh ≤ 9223372036854775807) ∧ (-9223372036854775808 ≤ dw ∧ dw ≤ 9223372036854775807) ∧ (-9223372036854775808 ≤ de ∧ de ≤ 9223372036854775807) ∧ (-9223372036854775808 ≤ dk ∧ dk ≤ 9223372036854775807) ∧ ((ci dx.ls.length ≤ 9223372036854775807) ∧ Wt (.sl exTy) dx) := svf_ds (hx (.agg [.v (.int .i64 dc), .v (.int .i64 dh), .v (.int .i64 dw), .v (.int .i64 de), .v (.int .i64 dk), .imm exTy dx]) (List.mem_of_getElem? (i := 0) rfl))
  have sx : (Fits .i8 xD ∧ ci xD.length ≤ 9223372036854775807) ∧ (-9223372036854775808 ≤ xL ∧ xL ≤ 9223372036854775807) := svf_ex (hx (.agg [.iimm .i8 xD, .v (.int .i64 xL)]) (List.mem_of_getElem? (i := 1) rfl))
  have SD := Lib.hid sd
  clear sd
  have SX := Lib.hid sx
  clear sx
  have HP := Lib.hid (hp _ rfl)
  clear hx hp h h0 H1 h1 H2
  generalize hA : std = A
  subst hG
  generalize h_c : ci = c
  generalize h_fi : inF = fi
  generalize h_fR : exF = fR
  cbv
  (repeat' (first | apply And.intro | apply BrB.mk | apply BrP.mk | intro _))
  all_goals try (refine loop_at Nat 34 (fun x => [(4, .any), (6, .any), (34, .v (.int .i64 (c x)))]) (fun _ o => o) (fun x => x ≤ xD.length ∧ ∀ j, j < x → xD.getD j 0 ≠ -128) (fun x => xD.length - x) 0 ?h0 ?hle ?round)
  case h0 => exact ⟨Nat.zero_le _, fun j hj => absurd hj (Nat.not_lt_zero _)⟩
  case hle => (cbv; (repeat' (first | apply And.intro | apply BrB.mk | apply BrP.mk | intro _)); all_goals (subst hA; subst h_c; subst h_fi; subst h_fR); all_goals (have f_sd := SD.out; have f_sx := SX.out; have f_hp := HP.out); all_goals (try simp only [std, stdBin, stdCmp, stdUna, stdIn, ci, beq_iff_eq, bne_iff_ne, beq_eq_false_iff_ne, bne_eq_false_iff_eq, decide_eq_true_eq, decide_eq_false_iff_not, Bool.not_true, Bool.not_false, Bool.not_eq_true', Bool.not_eq_false', Bool.not_not, tn0, tn1, tn2, tn3] at *); (all_goals first | exact True.intro | rfl | exact congrArg (Value.int .i64) (by omega)))
  case round =>
    intro x hx
    cbv
    (repeat' (first | apply And.intro | apply BrB.mk | apply BrP.mk | intro _))
    all_goals try (refine ⟨x + 1, ?_, ?_, ?_⟩)
    all_goals try (show AS.le _ _; (cbv; (repeat' (first | apply And.intro | apply BrB.mk | apply BrP.mk | intro _)); all_goals (subst hA; subst h_c; subst h_fi; subst h_fR); all_goals (have f_sd := SD.out; have f_sx := SX.out; have f_hp := HP.out); all_goals (try simp only [std, stdBin, stdCmp, stdUna, stdIn, ci, beq_iff_eq, bne_iff_ne, beq_eq_false_iff_ne, bne_eq_false_iff_eq, decide_eq_true_eq, decide_eq_false_iff_not, Bool.not_true, Bool.not_false, Bool.not_eq_true', Bool.not_eq_false', Bool.not_not, tn0, tn1, tn2, tn3] at *); (all_goals first | exact True.intro | rfl | exact congrArg (Value.int .i64) (by omega))))
    (all_goals (subst hA; subst h_c; subst h_fi; subst h_fR); all_goals (have f_sd := SD.out; have f_sx := SX.out; have f_hp := HP.out); all_goals (try simp only [std, stdBin, stdCmp, stdUna, stdIn, ci, beq_iff_eq, bne_iff_ne, beq_eq_false_iff_ne, bne_eq_false_iff_eq, decide_eq_true_eq, decide_eq_false_iff_not, Bool.not_true, Bool.not_false, Bool.not_eq_true', Bool.not_eq_false', Bool.not_not, tn0, tn1, tn2, tn3, inF, inB, exF, boxP, Int.toNat_natCast] at *); all_goals (try omega))
    all_goals first | exact True.intro | skip
    · refine vb ?_
      have hb : xD.getD x 0 = -128 := by assumption
      have := has_of hb (by omega)
      simp only [exB]
      simp_all
    · refine ⟨by omega, fun j hj => ?_⟩
      by_cases e : j = x
      · subst e; first | assumption | (intro h; simp_all)
      · exact hx.2 j (by omega)
    · refine vb ?_
      have := all_ne xD (-128) x hx.2 (by omega)
      have hL : decide (0 ≤ xL ∧ xL ≤ dk - 1) = true := by assumption
      rw [decide_eq_true_eq] at hL
      simp only [exB]
      rw [decide_eq_true_eq]
      exact ⟨by omega, this, hL⟩
  (all_goals (subst hA; subst h_c; subst h_fi; subst h_fR); all_goals (have f_sd := SD.out; have f_sx := SX.out; have f_hp := HP.out); all_goals (try simp only [std, stdBin, stdCmp, stdUna, stdIn, ci, beq_iff_eq, bne_iff_ne, beq_eq_false_iff_ne, bne_eq_false_iff_eq, decide_eq_true_eq, decide_eq_false_iff_not, Bool.not_true, Bool.not_false, Bool.not_eq_true', Bool.not_eq_false', Bool.not_not, tn0, tn1, tn2, tn3, inF, inB, exF, boxP] at *); all_goals (try omega))
  all_goals (have hq := f_hp; have := chw_in hq.1 hq.2.1 hq.2.2.1)
  all_goals first | omega | (refine vb ?_; simp only [exB, decide_eq_false_iff_not]; rintro ⟨h1, h2, h3⟩; first | omega | (have hF : decide (0 ≤ xL ∧ xL ≤ dk - 1) = false := (by assumption); rw [decide_eq_false_iff_not] at hF; exact hF h3))
theorem rmayDs_ok : CtrOk Try.prog 17 (boolC [dsTy] mayDsF) := by
  obtain ⟨G, hG⟩ : ∃ G : List (FuncId × Ctr), G = [(39, boolC [dsTy, .int .i64] headF), (40, boolP [dsTy, exTy] boxP exF)] := ⟨_, rfl⟩
  refine fn_ok (ck := true) Try.func17 rfl tt_ok (G := G) (by rw [hG]; exact ⟨⟨rhead_ok, by unfold FnOk; kernel_rfl⟩, ⟨rex_ok, by unfold FnOk; kernel_rfl⟩, trivial⟩) mixed (by kernel_rfl) ?_
  intro xa xs h hx hp
  obtain ⟨a0, as0, x0, xs0, rfl, rfl, h0, H1⟩ := svArgs_cons h
  obtain ⟨rfl, rfl⟩ := svArgs_nil H1
  obtain ⟨dc, dh, dw, de, dk, dx, rfl, rfl⟩ := argSV_ds h0
  have sd : (-9223372036854775808 ≤ dc ∧ dc ≤ 9223372036854775807) ∧ (-9223372036854775808 ≤ dh ∧ dh ≤ 9223372036854775807) ∧ (-9223372036854775808 ≤ dw ∧ dw ≤ 9223372036854775807) ∧ (-9223372036854775808 ≤ de ∧ de ≤ 9223372036854775807) ∧ (-9223372036854775808 ≤ dk ∧ dk ≤ 9223372036854775807) ∧ ((ci dx.ls.length ≤ 9223372036854775807) ∧ Wt (.sl exTy) dx) := svf_ds (hx (.agg [.v (.int .i64 dc), .v (.int .i64 dh), .v (.int .i64 dw), .v (.int .i64 de), .v (.int .i64 dk), .imm exTy dx]) (List.mem_of_getElem? (i := 0) rfl))
  have SD := Lib.hid sd
  clear sd
  clear hx hp h h0 H1
  generalize hA : std = A
  subst hG
  generalize h_c : ci = c
  generalize h_fh : headF = fh
  generalize h_fe : exF = fe
  generalize h_pe : boxP = pe
  generalize h_fR : mayDsF = fR
  cbv
  (repeat' (first | apply And.intro | apply BrB.mk | apply BrP.mk | intro _))
  all_goals try (refine loop_at Nat 14 (fun x => [(2, .any), (4, .any), (14, .v (.int .i64 (c x)))]) (fun _ o => o) (fun x => ci x ≤ ci dx.ls.length ∧ allTo (fun i => exB dc dh dw dk ((dx.at i).fld 0).ints ((dx.at i).fld 1).z) x = true) (fun x => dx.ls.length - x) 0 ?h0 ?hle ?round)
  case h0 => exact ⟨by simp [ci], rfl⟩
  case hle => (cbv; (repeat' (first | apply And.intro | apply BrB.mk | apply BrP.mk | intro _)); all_goals (subst hA; subst h_c; subst h_fh; subst h_fe; subst h_pe; subst h_fR); all_goals (have f_sd := SD.out); all_goals (try simp only [std, stdBin, stdCmp, stdUna, stdIn, ci, beq_iff_eq, bne_iff_ne, beq_eq_false_iff_ne, bne_eq_false_iff_eq, decide_eq_true_eq, decide_eq_false_iff_not, Bool.not_true, Bool.not_false, Bool.not_eq_true', Bool.not_eq_false', Bool.not_not, tn0, tn1, tn2, tn3] at *); (all_goals first | exact True.intro | rfl | exact congrArg (Value.int .i64) (by omega)))
  case round =>
    intro x hx
    cbv
    (repeat' (first | apply And.intro | apply BrB.mk | apply BrP.mk | intro _))
    all_goals try (refine ⟨x + 1, ?_, ?_, ?_⟩)
    all_goals try (show AS.le _ _; (cbv; (repeat' (first | apply And.intro | apply BrB.mk | apply BrP.mk | intro _)); all_goals (subst hA; subst h_c; subst h_fh; subst h_fe; subst h_pe; subst h_fR); all_goals (have f_sd := SD.out); all_goals (try simp only [std, stdBin, stdCmp, stdUna, stdIn, ci, beq_iff_eq, bne_iff_ne, beq_eq_false_iff_ne, bne_eq_false_iff_eq, decide_eq_true_eq, decide_eq_false_iff_not, Bool.not_true, Bool.not_false, Bool.not_eq_true', Bool.not_eq_false', Bool.not_not, tn0, tn1, tn2, tn3] at *); (all_goals first | exact True.intro | rfl | exact congrArg (Value.int .i64) (by omega))))
    (all_goals (subst hA; subst h_c; subst h_fh; subst h_fe; subst h_pe; subst h_fR); all_goals (have f_sd := SD.out); all_goals (try simp only [std, stdBin, stdCmp, stdUna, stdIn, ci, beq_iff_eq, bne_iff_ne, beq_eq_false_iff_ne, bne_eq_false_iff_eq, decide_eq_true_eq, decide_eq_false_iff_not, Bool.not_true, Bool.not_false, Bool.not_eq_true', Bool.not_eq_false', Bool.not_not, tn0, tn1, tn2, tn3, headF, exF, boxP, Int.toNat_natCast] at *); all_goals (try omega))
    all_goals (have hh := ex_hd (show headB dc dh dw de dk dx.ls.length = true by assumption))
    all_goals first | exact True.intro | omega | skip
    all_goals first
      | exact ⟨hh.1, hh.2.1, hh.2.2.1, hh.2.2.2.2.1⟩
      | (refine vb ?_
         show (headB dc dh dw de dk dx.ls.length && _) = false
         have hg : exB dc dh dw dk ((dx.at x).fld 0).ints ((dx.at x).fld 1).z = false := by assumption
         rw [allTo_false (x := x) (by omega) hg, Bool.and_false])
      | (refine ⟨by omega, ?_⟩
         have hg : exB dc dh dw dk ((dx.at x).fld 0).ints ((dx.at x).fld 1).z = true := by assumption
         simp only [allTo, hx.2, hg, Bool.true_and])
      | (refine vb ?_
         have hl : dx.ls.length = x := by omega
         have hd : headB dc dh dw de dk dx.ls.length = true := by assumption
         show (headB dc dh dw de dk dx.ls.length && allTo _ dx.ls.length) = true
         rw [hd, hl, hx.2]; rfl)
  (all_goals (subst hA; subst h_c; subst h_fh; subst h_fe; subst h_pe; subst h_fR); all_goals (have f_sd := SD.out); all_goals (try simp only [std, stdBin, stdCmp, stdUna, stdIn, ci, beq_iff_eq, bne_iff_ne, beq_eq_false_iff_ne, bne_eq_false_iff_eq, decide_eq_true_eq, decide_eq_false_iff_not, Bool.not_true, Bool.not_false, Bool.not_eq_true', Bool.not_eq_false', Bool.not_not, tn0, tn1, tn2, tn3, headF, mayDsF] at *); all_goals (try omega))
  all_goals (refine vb ?_; simp only [mayDsF, mayDs])
  all_goals (simp_all; done)
end Go.Proofs.Ytmlfiphpcjkadaa
