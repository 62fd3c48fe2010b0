/- Layer 19: what is asked; what comes back. -/
import Derived.Test.YtdbfgcpohloabaaLossA
namespace Go.Proofs.Ytdbfgcpohloabaa
open Go.RowKit
set_option maxRecDepth 100000
set_option linter.unusedSimpArgs false
set_option linter.unusedVariables false
set_option maxHeartbeats 8000000
def tq {α : Type} (f : Tn → List Int → α) (d : α) (xa : List AV) : α := match xa with
  | [.st [.l D1, .z e1, .l L1], .l D] => f ⟨D1, e1, L1⟩ D
  | _ => d
def chkI (t : Tn) : Int := if mayB t = true then (if (t.dims.length : Int) = 2 ∧ 2 ≤ t.dims.getD 1 0 ∧ t.dims.getD 1 0 ≤ 10 then 0 else 2) else 1
theorem check_ok : CtrOk Try.prog 29 (intC [tnTy .i8] .i64 (t1 chkI 0)) := by
  obtain ⟨G, hG⟩ : ∃ G : List (FuncId × Ctr), G = [(35, boolC [tnTy .i8] tnMayF)] := ⟨_, rfl⟩
  refine fn_ok (ck := true) Try.func29 rfl tt_ok (G := G) (by rw [hG]; exact ⟨⟨tnMay_ok, by unfold FnOk; kernel_rfl⟩, trivial⟩) mixed (by kernel_rfl) ?_
  intro xa xs h hx hp
  obtain ⟨a0, as0, x0, xs0, rfl, rfl, h0, H1⟩ := svArgs_cons h
  obtain ⟨rfl, rfl⟩ := svArgs_nil H1
  obtain ⟨⟨yD, yE, yL⟩, rfl, rfl⟩ := argSV_tn h0
  have sy : (Fits .i64 yD ∧ ci yD.length ≤ 9223372036854775807) ∧ (-9223372036854775808 ≤ yE ∧ yE ≤ 9223372036854775807) ∧ Fits .i8 yL ∧ ci yL.length ≤ 9223372036854775807 := svf_tn (hx (Tn.sv .i8 ⟨yD, yE, yL⟩) (by simp))
  have SY := Lib.hid sy
  clear sy
  clear hx hp h h0 H1
  subst hG
  generalize hA : std = A
  generalize h_c : ci = c
  generalize h_fm : tnMayF = fm
  generalize h_fR : t1 chkI 0 = fR
  cbv
  (repeat' (first | apply And.intro | apply BrB.mk | apply BrP.mk | intro _))
  (all_goals (subst hA; subst h_c; subst h_fm; subst h_fR); all_goals (have f_sy := SY.out); all_goals (try simp only [std, stdBin, stdCmp, stdUna, stdIn, ci, beq_iff_eq, bne_iff_ne, beq_eq_false_iff_ne, bne_eq_false_iff_eq, decide_eq_true_eq, decide_eq_false_iff_not, Bool.not_true, Bool.not_false, Bool.not_eq_true', Bool.not_eq_false', Bool.not_not, tn0, tn1, tn2, tn3, t1, tnMayF] at *); all_goals (try omega))
  all_goals (simp only [chkI] at *)
  all_goals (simp_all; try omega)
theorem mat2 {t : Tn} (h : mayB t = true) (hl : (t.dims.length : Int) = 2) : ∃ n k : Nat, t.dims.getD 0 0 = (n : Int) ∧ t.dims.getD 1 0 = (k : Int) ∧ 1 ≤ n ∧ n ≤ 4096 ∧ 1 ≤ k ∧ k ≤ 4096 ∧ t.data.length = n * k ∧ n * k ≤ 8192 ∧ -64 ≤ t.exp ∧ t.exp ≤ 64 := by
  obtain ⟨D, e, L⟩ := t
  obtain ⟨h1, h2, h3, h4⟩ := (mayB_eq D L e).1 h
  have h5 := (mayD_iff D).1 h1
  simp only at hl
  match D, hl with
  | [a, b], _ =>
    have ha := h5.2.1 a (by simp)
    have hb := h5.2.1 b (by simp)
    have hp := h5.2.2
    have e1 : prodFrom 1 [a, b] = a * b := by simp [prodFrom]
    simp only [szD, h1, if_true] at h2
    rw [e1] at h2 hp
    obtain ⟨n, rfl⟩ := Int.eq_ofNat_of_zero_le (show 0 ≤ a by omega)
    obtain ⟨k, rfl⟩ := Int.eq_ofNat_of_zero_le (show 0 ≤ b by omega)
    rw [← Int.natCast_mul] at h2 hp
    exact ⟨n, k, rfl, rfl, by omega, by omega, by omega, by omega, by simpa using Int.ofNat.inj h2, by omega, h3.1, h3.2⟩
def okq (q : List Int) (c : Int) : Nat → Bool := allTo (fun i => decide (0 ≤ q.getD i 0 ∧ q.getD i 0 < c))
def chqI (t : Tn) (q : List Int) : Int := if chkI t = 0 then (if (q.length : Int) = t.dims.getD 0 0 then (if okq q (t.dims.getD 1 0) q.length = true then 0 else 1) else 2) else chkI t
theorem chk_zero {t : Tn} (h : chkI t = 0) : mayB t = true ∧ (t.dims.length : Int) = 2 ∧ 2 ≤ t.dims.getD 1 0 ∧ t.dims.getD 1 0 ≤ 10 := by
  unfold chkI at h
  split at h
  · split at h
    · exact ⟨by assumption, by assumption⟩
    · omega
  · omega
theorem chq_ok : CtrOk Try.prog 25 (intC [tnTy .i8, .sl (.int .i64)] .i64 (tq chqI 0)) := by
  obtain ⟨G, hG⟩ : ∃ G : List (FuncId × Ctr), G = [(29, intC [tnTy .i8] .i64 (t1 chkI 0))] := ⟨_, rfl⟩
  refine fn_ok (ck := true) Try.func25 rfl tt_ok (G := G) (by rw [hG]; exact ⟨⟨check_ok, by unfold FnOk; kernel_rfl⟩, trivial⟩) mixed (by kernel_rfl) ?_
  intro xa xs h hx hp
  obtain ⟨a0, as0, x0, xs0, rfl, rfl, h0, H1⟩ := svArgs_cons h
  obtain ⟨a1, as1, x1, xs1, rfl, rfl, h1, H2⟩ := svArgs_cons H1
  obtain ⟨rfl, rfl⟩ := svArgs_nil H2
  obtain ⟨⟨yD, yE, yL⟩, rfl, rfl⟩ := argSV_tn h0
  obtain ⟨q, rfl, rfl⟩ := argSV_ints h1
  have sy : (Fits .i64 yD ∧ ci yD.length ≤ 9223372036854775807) ∧ (-9223372036854775808 ≤ yE ∧ yE ≤ 9223372036854775807) ∧ Fits .i8 yL ∧ ci yL.length ≤ 9223372036854775807 := svf_tn (hx (Tn.sv .i8 ⟨yD, yE, yL⟩) (by simp))
  have sq : Fits .i64 q ∧ ci q.length ≤ 9223372036854775807 := svf_ints (hx (.iimm .i64 q) (by simp))
  have SY := Lib.hid sy
  clear sy
  have SQ := Lib.hid sq
  clear sq
  clear hx hp h h0 H1 h1 H2
  subst hG
  generalize hA : std = A
  generalize h_c : ci = c
  generalize h_fc : t1 chkI 0 = fc
  generalize h_fR : tq chqI 0 = fR
  cbv
  (repeat' (first | apply And.intro | apply BrB.mk | apply BrP.mk | intro _))
  all_goals try (refine loop_at Nat 22 (fun j => [(7, .any), (22, .v (.int .i64 (c j)))]) (fun _ o => o) (fun j => j ≤ q.length ∧ okq q (yD.getD 1 0) j = true) (fun j => q.length - j) 0 ?h0 ?hle ?round)
  case h0 => exact ⟨Nat.zero_le _, rfl⟩
  case hle => (cbv; (repeat' (first | apply And.intro | apply BrB.mk | apply BrP.mk | intro _)); all_goals (subst hA; subst h_c; subst h_fc; subst h_fR); all_goals (have f_sy := SY.out; have f_sq := SQ.out); all_goals (try simp only [std, stdBin, stdCmp, stdUna, stdIn, ci, beq_iff_eq, bne_iff_ne, beq_eq_false_iff_ne, bne_eq_false_iff_eq, decide_eq_true_eq, decide_eq_false_iff_not, Bool.not_true, Bool.not_false, Bool.not_eq_true', Bool.not_eq_false', Bool.not_not, tn0, tn1, tn2, tn3] at *); (all_goals first | exact True.intro | rfl | exact congrArg (Value.int .i64) (by omega)))
  case round =>
    intro j hj
    cbv
    (repeat' (first | apply And.intro | apply BrB.mk | apply BrP.mk | intro _))
    all_goals try (refine ⟨j + 1, ?_, ?_, ?_⟩)
    all_goals try (show AS.le _ _; (cbv; (repeat' (first | apply And.intro | apply BrB.mk | apply BrP.mk | intro _)); all_goals (subst hA; subst h_c; subst h_fc; subst h_fR); all_goals (have f_sy := SY.out; have f_sq := SQ.out); all_goals (try simp only [std, stdBin, stdCmp, stdUna, stdIn, ci, beq_iff_eq, bne_iff_ne, beq_eq_false_iff_ne, bne_eq_false_iff_eq, decide_eq_true_eq, decide_eq_false_iff_not, Bool.not_true, Bool.not_false, Bool.not_eq_true', Bool.not_eq_false', Bool.not_not, tn0, tn1, tn2, tn3] at *); (all_goals first | exact True.intro | rfl | exact congrArg (Value.int .i64) (by omega))))
    (all_goals (subst hA; subst h_c; subst h_fc; subst h_fR); all_goals (have f_sy := SY.out; have f_sq := SQ.out); all_goals (try simp only [std, stdBin, stdCmp, stdUna, stdIn, ci, beq_iff_eq, bne_iff_ne, beq_eq_false_iff_ne, bne_eq_false_iff_eq, decide_eq_true_eq, decide_eq_false_iff_not, Bool.not_true, Bool.not_false, Bool.not_eq_true', Bool.not_eq_false', Bool.not_not, tn0, tn1, tn2, tn3, t1, tq] at *); all_goals (try omega))
    all_goals (obtain ⟨c1, c2, c3, c4⟩ := chk_zero (t := ⟨yD, yE, yL⟩) (by assumption); simp only at c2 c3 c4)
    all_goals (try omega)
    · refine congrArg _ ?_
      unfold chqI
      rw [if_pos (by assumption), if_pos (by assumption), if_neg]
      simp only
      rw [okq, allTo_false (x := j) (by omega) (decide_eq_false (by rw [Int.toNat_natCast] at *; omega))]
      decide
    · refine ⟨by omega, ?_⟩
      unfold okq
      rw [allTo, Bool.and_eq_true]
      exact ⟨hj.2, decide_eq_true (by rw [Int.toNat_natCast] at *; omega)⟩
    · refine congrArg _ ?_
      unfold chqI
      rw [if_pos (by assumption), if_pos (by assumption), if_neg]
      simp only
      rw [okq, allTo_false (x := j) (by omega) (decide_eq_false (by rw [Int.toNat_natCast] at *; omega))]
      decide
    · refine congrArg _ ?_
      unfold chqI
      rw [if_pos (by assumption), if_pos (by assumption), if_pos]
      rw [show q.length = j by omega]
      exact hj.2
  (all_goals (subst hA; subst h_c; subst h_fc; subst h_fR); all_goals (have f_sy := SY.out; have f_sq := SQ.out); all_goals (try simp only [std, stdBin, stdCmp, stdUna, stdIn, ci, beq_iff_eq, bne_iff_ne, beq_eq_false_iff_ne, bne_eq_false_iff_eq, decide_eq_true_eq, decide_eq_false_iff_not, Bool.not_true, Bool.not_false, Bool.not_eq_true', Bool.not_eq_false', Bool.not_not, tn0, tn1, tn2, tn3, t1, tq] at *); all_goals (try omega))
  · refine congrArg _ ?_
    unfold chqI
    rw [if_neg (by assumption)]
  · have := chk_zero (t := ⟨yD, yE, yL⟩) (by assumption)
    simp only at this
    omega
  · refine congrArg _ ?_
    unfold chqI
    rw [if_pos (by assumption), if_neg (by assumption)]
/-- Row n of a tensor. -/
def rowL (t : Tn) (n : Nat) : List Int := (t.data.drop (n * (t.dims.getD 1 0).toNat)).take (t.dims.getD 1 0).toNat
/-- A part of what is handed over. -/
def rowlC (p : List AV → Prop) (f : List AV → List Int) : Ctr where
  tys := [tnTy .i8, .int .i64]
  pre := fun xa => some (p xa)
  res := fun xa => .ret (.iimm .i8 (f xa)) []
  al := true
def rowlP (xa : List AV) : Prop := match xa with
  | [.st [.l D, .z _, .l L], .z n] => (D.length : Int) = 2 ∧ 0 ≤ n ∧ n ≤ 4096 ∧ 0 ≤ D.getD 1 0 ∧ D.getD 1 0 ≤ 4096 ∧ (n + 1) * D.getD 1 0 ≤ (L.length : Int)
  | _ => False
def rowlF (xa : List AV) : List Int := match xa with
  | [.st [.l D, .z e, .l L], .z n] => rowL ⟨D, e, L⟩ n.toNat
  | _ => []
theorem row_vc (A : Sy) (hA : A = std) (D L : List Int) (e n : Int) (h : rowlP [.st [.l D, .z e, .l L], .z n]) (f : List AV → List Int) (hf : f = rowlF) : vcFn ⟨A, tt, [], true, true, []⟩ Try.f27 [.agg [.iimm .i64 D, .v (.int .i64 e), .iimm .i8 L], .v (.int .i64 n)] (.ret (.iimm .i8 (f [.st [.l D, .z e, .l L], .z n])) []) := by
  cbv
  rw [hA, hf]
  simp only [std, stdBin, stdCmp, stdUna, stdIn, ci, beq_iff_eq, bne_iff_ne, beq_eq_false_iff_ne, bne_eq_false_iff_eq, decide_eq_true_eq, decide_eq_false_iff_not, Bool.not_true, Bool.not_false, Bool.not_eq_true', Bool.not_eq_false', Bool.not_not, tn0, tn1, tn2, tn3, rowlF, rowL]
  obtain ⟨h1, h2, h3, h4, h5, h6⟩ := h
  obtain ⟨k, hk⟩ := Int.eq_ofNat_of_zero_le h4
  obtain ⟨m, rfl⟩ := Int.eq_ofNat_of_zero_le h2
  rw [hk] at h5 h6 ⊢
  have e1 : ((m : Int) + 1) * (k : Int) = (((m + 1) * k : Nat) : Int) := by rw [Int.natCast_mul]; rfl
  rw [e1] at h6 ⊢
  rw [← Int.natCast_mul]
  have b1 : (m + 1) * k = m * k + k := Nat.succ_mul m k
  have b2 : m * k ≤ 4096 * 4096 := Nat.mul_le_mul (by omega) (by omega)
  refine ⟨by omega, by omega, by omega, by omega, by omega, ⟨by omega, by omega⟩, ?_, trivial⟩
  rw [show (((m + 1) * k : Nat) : Int) - ((m * k : Nat) : Int) = (k : Int) by omega, Int.toNat_natCast, Int.toNat_natCast, Int.toNat_natCast]
theorem row_ok : CtrOk Try.prog 27 (rowlC rowlP rowlF) := by
  refine fn_ok (ck := true) Try.func27 rfl tt_ok (G := []) trivial mixed (by kernel_rfl) ?_
  intro xa xs h hx hp
  obtain ⟨a1, as1, x1, xs1, rfl, rfl, h1, h⟩ := svArgs_cons h
  obtain ⟨a2, as2, x2, xs2, rfl, rfl, h2, h⟩ := svArgs_cons h
  obtain ⟨rfl, rfl⟩ := svArgs_nil h
  obtain ⟨t, rfl, rfl⟩ := argSV_tn h1
  obtain ⟨n, rfl, rfl⟩ := argSV_int h2
  exact row_vc _ rfl t.dims t.data t.exp n (hp _ rfl) rowlF rfl
/-- What comes back to one number. -/
def gradAt (t : Tn) (q : List Int) (p : Nat) : Int := if ((p % (t.dims.getD 1 0).toNat : Nat) : Int) = q.getD (p / (t.dims.getD 1 0).toNat) 0 then partI (rowL t (p / (t.dims.getD 1 0).toNat)) t.exp (p % (t.dims.getD 1 0).toNat) - 127 else partI (rowL t (p / (t.dims.getD 1 0).toNat)) t.exp (p % (t.dims.getD 1 0).toNat)
def gradR (t : Tn) (q : List Int) : Tn := ⟨t.dims, -7, (List.range t.data.length).map (gradAt t q)⟩
theorem chq_main {t : Tn} {q : List Int} (h : chqI t q = 0) : ∃ N C : Nat, t.dims.getD 0 0 = N ∧ t.dims.getD 1 0 = C ∧ (1 ≤ N ∧ N ≤ 4096) ∧ (2 ≤ C ∧ C ≤ 10) ∧ q.length = N ∧ t.data.length = N * C ∧ N * C ≤ 8192 ∧ (t.dims.length : Int) = 2 ∧ (-64 ≤ t.exp ∧ t.exp ≤ 64) ∧ okq q (C : Int) N = true ∧ mayB t = true := by
  unfold chqI at h
  split at h
  · rename_i h0
    obtain ⟨h1, h2, h3, h4⟩ := chk_zero h0
    obtain ⟨N, C, a1, a2, a3, a4, a5, a6, a7, a8, a9⟩ := mat2 h1 h2
    split at h
    · split at h
      · rename_i h5 h6
        rw [a2] at h6 h3 h4
        rw [a1] at h5
        have h7 : q.length = N := by omega
        rw [h7] at h6
        exact ⟨N, C, a1, a2, ⟨a3, a4⟩, ⟨by omega, by omega⟩, h7, a7, a8, h2, a9, h6, h1⟩
      · omega
    · omega
  · exact absurd h (by assumption)
theorem row19_len {t : Tn} {N C n : Nat} (h1 : t.dims.getD 1 0 = C) (h2 : t.data.length = N * C) (h : n < N) : (rowL t n).length = C := by
  unfold rowL
  rw [h1, Int.toNat_natCast, List.length_take, List.length_drop, h2]
  have := Nat.mul_le_mul_right C (show n + 1 ≤ N from h)
  rw [Nat.succ_mul] at this
  omega
theorem row_fits {t : Tn} (h : Fits .i8 t.data) (n : Nat) : Fits .i8 (rowL t n) := fun x hx => h x (List.mem_of_mem_drop (List.mem_of_mem_take hx))
theorem soft_row {l : List Int} {e : Int} (h : 1 ≤ l.length ∧ l.length ≤ 10) : softF [.l l, .z e] = softL l e := by
  show (if l.length < 1 ∨ l.length > 10 then [] else softL l e) = _
  rw [if_neg (by omega)]
theorem soft_len (l : List Int) (e : Int) : (softL l e).length = l.length := by simp [softL]
theorem soft_get {l : List Int} (e : Int) {k : Nat} (h : k < l.length) : (softL l e).getD k 0 = partI l e k := by
  unfold softL
  rw [List.getD_eq_getElem?_getD, List.getElem?_map, List.getElem?_range h]
  rfl
theorem grad_at {t : Tn} {q : List Int} {C n k : Nat} (h1 : t.dims.getD 1 0 = C) (h : k < C) : gradAt t q (n * C + k) = if (k : Int) = q.getD n 0 then partI (rowL t n) t.exp k - 127 else partI (rowL t n) t.exp k := by
  unfold gradAt
  obtain ⟨e1, e2⟩ := idx_div (i := n) h
  rw [h1, Int.toNat_natCast, e1, e2]
theorem grad_ok : CtrOk Try.prog 12 (resC [tnTy .i8, .sl (.int .i64)] .i8 3 41 (tq chqI 0) (tq gradR ⟨[], 0, []⟩)) := by
  obtain ⟨G, hG⟩ : ∃ G : List (FuncId × Ctr), G = [(25, intC [tnTy .i8, .sl (.int .i64)] .i64 (tq chqI 0)), (26, rowP [.sl (.int .i64)] 3 .i64 (lenP 8) sameL), (27, rowlC rowlP rowlF), (20, rowC [.sl (.int .i8), .int .i64] 3 .i64 softF)] := ⟨_, rfl⟩
  refine fn_ok (ck := true) Try.func12 rfl tt_ok (G := G) (by rw [hG]; exact ⟨⟨chq_ok, by unfold FnOk; kernel_rfl⟩, ⟨cloneI_ok, by unfold FnOk; kernel_rfl⟩, ⟨row_ok, by unfold FnOk; kernel_rfl⟩, ⟨soft_ok, by unfold FnOk; kernel_rfl⟩, trivial⟩) mixed (by kernel_rfl) ?_
  intro xa xs h hx hp
  obtain ⟨a0, as0, x0, xs0, rfl, rfl, h0, H1⟩ := svArgs_cons h
  obtain ⟨a1, as1, x1, xs1, rfl, rfl, h1, H2⟩ := svArgs_cons H1
  obtain ⟨rfl, rfl⟩ := svArgs_nil H2
  obtain ⟨⟨yD, yE, yL⟩, rfl, rfl⟩ := argSV_tn h0
  obtain ⟨q, rfl, rfl⟩ := argSV_ints h1
  have sy : (Fits .i64 yD ∧ ci yD.length ≤ 9223372036854775807) ∧ (-9223372036854775808 ≤ yE ∧ yE ≤ 9223372036854775807) ∧ Fits .i8 yL ∧ ci yL.length ≤ 9223372036854775807 := svf_tn (hx (Tn.sv .i8 ⟨yD, yE, yL⟩) (by simp))
  have sq : Fits .i64 q ∧ ci q.length ≤ 9223372036854775807 := svf_ints (hx (.iimm .i64 q) (by simp))
  have SY := Lib.hid sy
  clear sy
  have SQ := Lib.hid sq
  clear sq
  clear hx hp h h0 H1 h1 H2
  subst hG
  generalize hA : std = A
  generalize h_c : ci = c
  generalize h_fl : lenP 8 = fl
  generalize h_fc : sameL = fc
  generalize h_fr : rowlF = fr
  generalize h_pr : rowlP = pr
  generalize h_fs : softF = fs
  generalize h_fE : tq chqI 0 = fE
  generalize h_fR : tq gradR ⟨[], 0, []⟩ = fR
  obtain ⟨T, hT⟩ : ∃ T : Nat → Nat → List Int, ∀ n k, T n k = mixL (fun _ => 0) (gradAt ⟨yD, yE, yL⟩ q) yL.length (n * (yD.getD 1 0).toNat + k) := ⟨_, fun _ _ => rfl⟩
  have HT := Lib.hid hT
  clear hT
  cbv
  (repeat' (first | apply And.intro | apply BrB.mk | apply BrP.mk | intro _))
  all_goals try (refine loop_at Nat 29 (fun x => [(8, .any), (9, .any), (10, .any), (11, .any), (29, .v (.int .i64 (c x)))]) (fun x o => o.set 3 (.irow 41 .i8 (T x 0))) (fun x => x ≤ q.length) (fun x => q.length - x) 0 (Nat.zero_le _) ?hle ?round)
  case hle =>
    cbv
    (repeat' (first | apply And.intro | apply BrB.mk | apply BrP.mk | intro _))
    (all_goals (subst hA; subst h_c; subst h_fl; subst h_fc; subst h_fr; subst h_pr; subst h_fs; subst h_fE; subst h_fR); all_goals (have f_sy := SY.out; have f_sq := SQ.out); all_goals (try simp only [std, stdBin, stdCmp, stdUna, stdIn, ci, beq_iff_eq, bne_iff_ne, beq_eq_false_iff_ne, bne_eq_false_iff_eq, decide_eq_true_eq, decide_eq_false_iff_not, Bool.not_true, Bool.not_false, Bool.not_eq_true', Bool.not_eq_false', Bool.not_not, tn0, tn1, tn2, tn3, tq] at *); all_goals (try omega))
    all_goals first | exact True.intro | rfl | skip
    rw [HT.out, Nat.zero_mul, mixL_nil, Int.toNat_natCast]
  case round =>
    intro n hn
    cbv
    refine BrB.mk (fun gx => ?yx) (fun gx => ?nx)
    case yx =>
      (repeat' (first | apply And.intro | apply BrB.mk | apply BrP.mk | intro _))
      all_goals try (refine loop_at Nat 41 (fun x => [(10, .any), (11, .any), (41, .v (.int .i64 (c x)))]) (fun x o => o.set 3 (.irow 41 .i8 (T n x))) (fun x => ci x ≤ yD.getD 1 0) (fun x => (yD.getD 1 0 - ci x).toNat) 0 ?h0 ?hle ?round)
      case h0 =>
        (all_goals (subst hA; subst h_c; subst h_fl; subst h_fc; subst h_fr; subst h_pr; subst h_fs; subst h_fE; subst h_fR); all_goals (have f_sy := SY.out; have f_sq := SQ.out); all_goals (try simp only [std, stdBin, stdCmp, stdUna, stdIn, ci, beq_iff_eq, bne_iff_ne, beq_eq_false_iff_ne, bne_eq_false_iff_eq, decide_eq_true_eq, decide_eq_false_iff_not, Bool.not_true, Bool.not_false, Bool.not_eq_true', Bool.not_eq_false', Bool.not_not, tn0, tn1, tn2, tn3, tq] at *); all_goals (try omega))
        (all_goals (obtain ⟨N, C, c1, c2, ⟨n1, n2⟩, ⟨k1, k2⟩, c3, c4, c5, c6, ⟨x1, x2⟩, c7, c8⟩ := chq_main (t := ⟨yD, yE, yL⟩) (q := q) (by assumption); simp only at c1 c2 c4 c6 x1 x2; have K2 := Lib.hid c2; have K4 := Lib.hid c4))
        omega
      case hle =>
        cbv
        (repeat' (first | apply And.intro | apply BrB.mk | apply BrP.mk | intro _))
        (all_goals (subst hA; subst h_c; subst h_fl; subst h_fc; subst h_fr; subst h_pr; subst h_fs; subst h_fE; subst h_fR); all_goals (have f_sy := SY.out; have f_sq := SQ.out); all_goals (try simp only [std, stdBin, stdCmp, stdUna, stdIn, ci, beq_iff_eq, bne_iff_ne, beq_eq_false_iff_ne, bne_eq_false_iff_eq, decide_eq_true_eq, decide_eq_false_iff_not, Bool.not_true, Bool.not_false, Bool.not_eq_true', Bool.not_eq_false', Bool.not_not, tn0, tn1, tn2, tn3, tq] at *); all_goals (try omega))
        all_goals first | exact True.intro | rfl | skip
      case round =>
        intro k hk
        cbv
        refine BrB.mk (fun gy => ?yy) (fun gy => ?ny)
        case yy =>
          (repeat' (first | apply And.intro | apply BrB.mk | apply BrP.mk | intro _))
          all_goals try (refine ⟨k + 1, ?_, ?_, ?_⟩)
          all_goals try (show AS.le _ _; cbv; (repeat' (first | apply And.intro | apply BrB.mk | apply BrP.mk | intro _)))
          (all_goals (subst hA; subst h_c; subst h_fl; subst h_fc; subst h_fr; subst h_pr; subst h_fs; subst h_fE; subst h_fR); all_goals (have f_sy := SY.out; have f_sq := SQ.out); all_goals (try simp only [std, stdBin, stdCmp, stdUna, stdIn, ci, beq_iff_eq, bne_iff_ne, beq_eq_false_iff_ne, bne_eq_false_iff_eq, decide_eq_true_eq, decide_eq_false_iff_not, Bool.not_true, Bool.not_false, Bool.not_eq_true', Bool.not_eq_false', Bool.not_not, tn0, tn1, tn2, tn3, tq] at *); all_goals (try omega))
          (all_goals (obtain ⟨N, C, c1, c2, ⟨n1, n2⟩, ⟨k1, k2⟩, c3, c4, c5, c6, ⟨x1, x2⟩, c7, c8⟩ := chq_main (t := ⟨yD, yE, yL⟩) (q := q) (by assumption); simp only at c1 c2 c4 c6 x1 x2; have K2 := Lib.hid c2; have K4 := Lib.hid c4))
          (all_goals (have hr := row19_len (t := ⟨yD, yE, yL⟩) (n := n) K2.out K4.out (by omega); have hs : softF [.l (rowlF [.st [.l yD, .z yE, .l yL], .z (n : Int)]), .z yE] = softL (rowL ⟨yD, yE, yL⟩ n) yE := (by show softF [.l (rowL _ ((n : Int).toNat)), _] = _; rw [Int.toNat_natCast]; exact soft_row (by omega)); have hc : (k : Int) < C → (0 ≤ partI (rowL ⟨yD, yE, yL⟩ n) yE k ∧ partI (rowL ⟨yD, yE, yL⟩ n) yE k ≤ 127) ∧ (softL (rowL ⟨yD, yE, yL⟩ n) yE).getD k 0 = partI (rowL ⟨yD, yE, yL⟩ n) yE k ∧ gradAt ⟨yD, yE, yL⟩ q (n * C + k) = (if (k : Int) = q.getD n 0 then partI (rowL ⟨yD, yE, yL⟩ n) yE k - 127 else partI (rowL ⟨yD, yE, yL⟩ n) yE k) ∧ n * C + k < N * C := (fun h => ⟨part_in (row_fits (t := ⟨yD, yE, yL⟩) f_sy.2.2.1 n) yE (by omega), soft_get yE (by omega), grad_at (t := ⟨yD, yE, yL⟩) (q := q) (n := n) K2.out (by omega), idx_lt (by omega) (by omega)⟩); have HC := Lib.hid hc; clear hc; (try simp only [hs, soft_len, hr, K2.out, K4.out, HT.out, mixL_len, Int.toNat_natCast] at *)))
          all_goals (obtain ⟨hp, hg, ha, hi⟩ := HC.out (by omega); (try simp only [hg, ← Int.natCast_mul, ← Int.natCast_add, Int.toNat_natCast] at *))
          all_goals (try first | omega | exact True.intro | rfl)
          · exact mixL_store hi (by rw [w8 (by omega) (by omega), ha, if_pos (by assumption)])
          · exact mixL_store hi (by rw [w8 (by omega) (by omega), ha, if_neg (by assumption)])
        case ny =>
          (repeat' (first | apply And.intro | apply BrB.mk | apply BrP.mk | intro _))
          all_goals try (refine ⟨n + 1, ?_, ?_, ?_⟩)
          all_goals try (show AS.le _ _; cbv; (repeat' (first | apply And.intro | apply BrB.mk | apply BrP.mk | intro _)))
          (all_goals (subst hA; subst h_c; subst h_fl; subst h_fc; subst h_fr; subst h_pr; subst h_fs; subst h_fE; subst h_fR); all_goals (have f_sy := SY.out; have f_sq := SQ.out); all_goals (try simp only [std, stdBin, stdCmp, stdUna, stdIn, ci, beq_iff_eq, bne_iff_ne, beq_eq_false_iff_ne, bne_eq_false_iff_eq, decide_eq_true_eq, decide_eq_false_iff_not, Bool.not_true, Bool.not_false, Bool.not_eq_true', Bool.not_eq_false', Bool.not_not, tn0, tn1, tn2, tn3, tq] at *); all_goals (try omega))
          all_goals (try first | exact True.intro | rfl)
          (all_goals (obtain ⟨N, C, c1, c2, ⟨n1, n2⟩, ⟨k1, k2⟩, c3, c4, c5, c6, ⟨x1, x2⟩, c7, c8⟩ := chq_main (t := ⟨yD, yE, yL⟩) (q := q) (by assumption); simp only at c1 c2 c4 c6 x1 x2; have K2 := Lib.hid c2; have K4 := Lib.hid c4))
          (all_goals (have hr := row19_len (t := ⟨yD, yE, yL⟩) (n := n) K2.out K4.out (by omega); have hs : softF [.l (rowlF [.st [.l yD, .z yE, .l yL], .z (n : Int)]), .z yE] = softL (rowL ⟨yD, yE, yL⟩ n) yE := (by show softF [.l (rowL _ ((n : Int).toNat)), _] = _; rw [Int.toNat_natCast]; exact soft_row (by omega)); have hc : (k : Int) < C → (0 ≤ partI (rowL ⟨yD, yE, yL⟩ n) yE k ∧ partI (rowL ⟨yD, yE, yL⟩ n) yE k ≤ 127) ∧ (softL (rowL ⟨yD, yE, yL⟩ n) yE).getD k 0 = partI (rowL ⟨yD, yE, yL⟩ n) yE k ∧ gradAt ⟨yD, yE, yL⟩ q (n * C + k) = (if (k : Int) = q.getD n 0 then partI (rowL ⟨yD, yE, yL⟩ n) yE k - 127 else partI (rowL ⟨yD, yE, yL⟩ n) yE k) ∧ n * C + k < N * C := (fun h => ⟨part_in (row_fits (t := ⟨yD, yE, yL⟩) f_sy.2.2.1 n) yE (by omega), soft_get yE (by omega), grad_at (t := ⟨yD, yE, yL⟩) (q := q) (n := n) K2.out (by omega), idx_lt (by omega) (by omega)⟩); have HC := Lib.hid hc; clear hc; (try simp only [hs, soft_len, hr, K2.out, K4.out, HT.out, mixL_len, Int.toNat_natCast] at *)))
          all_goals (try first | omega | exact True.intro | rfl)
          rw [show k = C by omega, Nat.add_zero, Nat.succ_mul]
      (all_goals (subst hA; subst h_c; subst h_fl; subst h_fc; subst h_fr; subst h_pr; subst h_fs; subst h_fE; subst h_fR); all_goals (have f_sy := SY.out; have f_sq := SQ.out); all_goals (try simp only [std, stdBin, stdCmp, stdUna, stdIn, ci, beq_iff_eq, bne_iff_ne, beq_eq_false_iff_ne, bne_eq_false_iff_eq, decide_eq_true_eq, decide_eq_false_iff_not, Bool.not_true, Bool.not_false, Bool.not_eq_true', Bool.not_eq_false', Bool.not_not, tn0, tn1, tn2, tn3, tq] at *); all_goals (try omega))
      (all_goals (obtain ⟨N, C, c1, c2, ⟨n1, n2⟩, ⟨k1, k2⟩, c3, c4, c5, c6, ⟨x1, x2⟩, c7, c8⟩ := chq_main (t := ⟨yD, yE, yL⟩) (q := q) (by assumption); simp only at c1 c2 c4 c6 x1 x2; have K2 := Lib.hid c2; have K4 := Lib.hid c4))
      have h7 : (((n + 1) * C : Nat) : Int) ≤ ((N * C : Nat) : Int) := Int.ofNat_le.2 (Nat.mul_le_mul_right C (by omega))
      rw [Int.natCast_mul] at h7
      show (yD.length : Int) = 2 ∧ 0 ≤ (n : Int) ∧ (n : Int) ≤ 4096 ∧ 0 ≤ yD.getD 1 0 ∧ yD.getD 1 0 ≤ 4096 ∧ ((n : Int) + 1) * yD.getD 1 0 ≤ (yL.length : Int)
      rw [c2, c4]
      exact ⟨by omega, by omega, by omega, by omega, by omega, h7⟩
    case nx =>
      (repeat' (first | apply And.intro | apply BrB.mk | apply BrP.mk | intro _))
      (all_goals (subst hA; subst h_c; subst h_fl; subst h_fc; subst h_fr; subst h_pr; subst h_fs; subst h_fE; subst h_fR); all_goals (have f_sy := SY.out; have f_sq := SQ.out); all_goals (try simp only [std, stdBin, stdCmp, stdUna, stdIn, ci, beq_iff_eq, bne_iff_ne, beq_eq_false_iff_ne, bne_eq_false_iff_eq, decide_eq_true_eq, decide_eq_false_iff_not, Bool.not_true, Bool.not_false, Bool.not_eq_true', Bool.not_eq_false', Bool.not_not, tn0, tn1, tn2, tn3, tq] at *); all_goals (try omega))
      · rfl
      · rfl
      · (all_goals (obtain ⟨N, C, c1, c2, ⟨n1, n2⟩, ⟨k1, k2⟩, c3, c4, c5, c6, ⟨x1, x2⟩, c7, c8⟩ := chq_main (t := ⟨yD, yE, yL⟩) (q := q) (by assumption); simp only at c1 c2 c4 c6 x1 x2; have K2 := Lib.hid c2; have K4 := Lib.hid c4))
        rw [HT.out, c2, c4, Int.toNat_natCast, show n = N by omega, Nat.add_zero, mixL_all]
        show _ = (List.range yL.length).map _
        rw [c4]
  (all_goals (subst hA; subst h_c; subst h_fl; subst h_fc; subst h_fr; subst h_pr; subst h_fs; subst h_fE; subst h_fR); all_goals (have f_sy := SY.out; have f_sq := SQ.out); all_goals (try simp only [std, stdBin, stdCmp, stdUna, stdIn, ci, beq_iff_eq, bne_iff_ne, beq_eq_false_iff_ne, bne_eq_false_iff_eq, decide_eq_true_eq, decide_eq_false_iff_not, Bool.not_true, Bool.not_false, Bool.not_eq_true', Bool.not_eq_false', Bool.not_not, tn0, tn1, tn2, tn3, tq] at *); all_goals (try omega))
  (all_goals (obtain ⟨N, C, c1, c2, ⟨n1, n2⟩, ⟨k1, k2⟩, c3, c4, c5, c6, ⟨x1, x2⟩, c7, c8⟩ := chq_main (t := ⟨yD, yE, yL⟩) (q := q) (by assumption); simp only at c1 c2 c4 c6 x1 x2; have K2 := Lib.hid c2; have K4 := Lib.hid c4))
  · simp only [lenP]
    omega
  · omega
theorem gradU_ok : CtrOk Try.prog 12 (resU [tnTy .i8, .sl (.int .i64)] .i8 3 41 (tq chqI 0) (rU (tq chqI 0) (tq gradR ⟨[], 0, []⟩))) := by
  exact resU_of grad_ok
theorem awk19 : (tq chqI 0) [.st [.l [1, 2], .z 0, .l [0, 0]], .l [1]] = 0 := by kernel_rfl
theorem awk19' : (rU (tq chqI 0) (tq gradR ⟨[], 0, []⟩)) [.st [.l [1, 2], .z 0, .l [0, 0]], .l [1]] = ⟨[1, 2], -7, [63, -64]⟩ := by kernel_rfl
theorem awake19_ok : CtrOk Try.prog 11 (boolC [] yes) := by
  obtain ⟨G, hG⟩ : ∃ G : List (FuncId × Ctr), G = [(12, resU [tnTy .i8, .sl (.int .i64)] .i8 3 41 (tq chqI 0) (rU (tq chqI 0) (tq gradR ⟨[], 0, []⟩)))] := ⟨_, rfl⟩
  refine fn_ok (ck := true) Try.func11 rfl tt_ok (G := G) (by rw [hG]; exact ⟨⟨gradU_ok, by unfold FnOk; kernel_rfl⟩, trivial⟩) mixed (by kernel_rfl) ?_
  intro xa xs h hx hp
  obtain ⟨rfl, rfl⟩ := svArgs_nil h
  clear hx hp h 
  subst hG
  generalize hA : std = A
  generalize h_c : ci = c
  generalize h_fR : rU (tq chqI 0) (tq gradR ⟨[], 0, []⟩) = fR
  generalize h_fE : tq chqI 0 = fE
  generalize h_fY : yes = fY
  cbv
  (repeat' (first | apply And.intro | apply BrB.mk | apply BrP.mk | intro _))
  (all_goals (subst hA; subst h_c; subst h_fR; subst h_fE; subst h_fY); all_goals (skip); all_goals (try simp only [std, stdBin, stdCmp, stdUna, stdIn, ci, beq_iff_eq, bne_iff_ne, beq_eq_false_iff_ne, bne_eq_false_iff_eq, decide_eq_true_eq, decide_eq_false_iff_not, Bool.not_true, Bool.not_false, Bool.not_eq_true', Bool.not_eq_false', Bool.not_not, tn0, tn1, tn2, tn3, awk19, awk19'] at *); all_goals (try omega))
  all_goals (first | rfl | contradiction | simp_all)
end Go.Proofs.Ytdbfgcpohloabaa
