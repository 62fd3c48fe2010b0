/- Layer 19: LossRows. -/
import Derived.Test.YtdbfgcpohloabaaLossF
namespace Go.Proofs.Ytdbfgcpohloabaa
open Go.RowKit
set_option maxRecDepth 100000
set_option linter.unusedSimpArgs false
set_option linter.unusedVariables false
set_option maxHeartbeats 40000000
set_option cbv.maxSteps 10000000
theorem range_snoc19 (f : Nat → Int) (j : Nat) : (List.range (j + 1)).map f = (List.range j).map f ++ [f j] := by
  rw [List.range_succ, List.map_append]; rfl
theorem chq_ok0 {N C : Nat} {e : Int} {L q : List Int} (hN : 1 ≤ N ∧ N ≤ 4096) (hC : 2 ≤ C ∧ C ≤ 10) (h : N * C ≤ 8192) (he : -64 ≤ e ∧ e ≤ 64) (hl : L.length = N * C) (hn : L.contains (-128) = false) (hq : q.length = N) (hv : okq q (C : Int) N = true) : chqI ⟨[(N : Int), (C : Int)], e, L⟩ q = 0 := by
  have hd : mayD [(N : Int), (C : Int)] = true := by
    refine (mayD_iff _).2 ⟨by simp, fun x hx => ?_, ?_⟩
    · simp only [List.mem_cons, List.not_mem_nil, or_false] at hx
      rcases hx with rfl | rfl <;> omega
    · simp only [prodFrom, List.foldl_cons, List.foldl_nil, Int.one_mul]; rw [← Int.natCast_mul]; omega
  have hs : szD [(N : Int), (C : Int)] = ((N * C : Nat) : Int) := by
    unfold szD
    rw [if_pos hd]
    simp [prodFrom]
  have hm : mayB ⟨[(N : Int), (C : Int)], e, L⟩ = true := (mayB_eq _ _ _).2 ⟨hd, by rw [hs, hl], he, hn⟩
  have hc : chkI ⟨[(N : Int), (C : Int)], e, L⟩ = 0 := by
    unfold chkI
    rw [if_pos hm, if_pos]
    exact ⟨rfl, by show 2 ≤ (C : Int); omega, by show (C : Int) ≤ 10; omega⟩
  unfold chqI
  rw [if_pos hc, if_pos (by rw [hq]; rfl), hq]
  exact if_pos hv
theorem okq_one {i : Int} {C : Nat} (h : 0 ≤ i ∧ i < C) : okq [i] (C : Int) 1 = true := by
  show (true && decide (0 ≤ i ∧ i < (C : Int))) = true
  rw [decide_eq_true h]; rfl
theorem okq_two {i j : Int} {C : Nat} (h : 0 ≤ i ∧ i < C) (h2 : 0 ≤ j ∧ j < C) : okq [i, j] (C : Int) 2 = true := by
  show ((true && decide (0 ≤ i ∧ i < (C : Int))) && decide (0 ≤ j ∧ j < (C : Int))) = true
  rw [decide_eq_true h, decide_eq_true h2]; rfl
theorem row_take {D L : List Int} {e : Int} {C : Nat} (h : D.getD 1 0 = C) (n : Nat) : rowL ⟨D, e, L⟩ n = (L.drop (n * C)).take C := by
  unfold rowL
  simp only
  rw [h, Int.toNat_natCast]
theorem grad_first {e i j : Int} {C k : Nat} {M : List Int} (hk : k < C) : gradAt ⟨[2, (C : Int)], e, M⟩ [i, j] k = gradAt ⟨[1, (C : Int)], e, M.take C⟩ [i] k := by
  have h1 := grad_at (t := ⟨[2, (C : Int)], e, M⟩) (q := [i, j]) (n := 0) (C := C) rfl hk
  have h2 := grad_at (t := ⟨[1, (C : Int)], e, M.take C⟩) (q := [i]) (n := 0) (C := C) rfl hk
  rw [Nat.zero_mul, Nat.zero_add] at h1 h2
  rw [h1, h2, row_take (C := C) rfl, row_take (C := C) rfl, Nat.zero_mul, List.drop_zero, List.drop_zero, List.take_take, Nat.min_self]
  rfl
theorem grad_second {e i j : Int} {C k : Nat} {M : List Int} (hk : k < C) (hM : M.length = 2 * C) : gradAt ⟨[2, (C : Int)], e, M⟩ [i, j] (C + k) = gradAt ⟨[1, (C : Int)], e, M.drop C⟩ [j] k := by
  have h1 := grad_at (t := ⟨[2, (C : Int)], e, M⟩) (q := [i, j]) (n := 1) (C := C) rfl hk
  have h2 := grad_at (t := ⟨[1, (C : Int)], e, M.drop C⟩) (q := [j]) (n := 0) (C := C) rfl hk
  rw [Nat.one_mul] at h1
  rw [Nat.zero_mul, Nat.zero_add] at h2
  rw [h1, h2, row_take (C := C) rfl, row_take (C := C) rfl, Nat.zero_mul, Nat.one_mul, List.drop_zero]
  rfl
/-- What they take of a number. -/
def upI (l : List Int) (p : Nat) : Int := if -127 > l.getD p 0 then -127 else l.getD p 0
theorem upL_no {l : List Int} {n : Nat} (h : ∀ p, l.getD p 0 ≤ 127) : ((List.range n).map (upI l)).contains (-128) = false := by
  rw [List.contains_eq_mem, decide_eq_false_iff_not]
  intro hm
  obtain ⟨p, _, he⟩ := List.mem_map.1 hm
  unfold upI at he
  split at he <;> omega
theorem upL_len (l : List Int) (n : Nat) : ((List.range n).map (upI l)).length = n := by simp
theorem rows_at {e I J : Int} {C x : Nat} {M : List Int} (hM : M.length = 2 * C) (hx : x < C) :
    (gL ⟨[2, (C : Int)], e, M⟩ [I, J]).getD x 0 = (gL ⟨[1, (C : Int)], e, M.take C⟩ [I]).getD x 0 ∧ (gL ⟨[2, (C : Int)], e, M⟩ [I, J]).getD (C + x) 0 = (gL ⟨[1, (C : Int)], e, M.drop C⟩ [J]).getD x 0 := by
  rw [gL_get _ _ (by show x < M.length; omega), gL_get _ _ (by show x < (M.take C).length; rw [List.length_take]; omega), gL_get _ _ (by show C + x < M.length; omega), gL_get _ _ (by show x < (M.drop C).length; rw [List.length_drop]; omega)]
  exact ⟨grad_first hx, grad_second hx hM⟩
theorem no_sub {M : List Int} {n : Int} (h : M.contains n = false) (C : Nat) : (M.take C).contains n = false ∧ (M.drop C).contains n = false := by
  rw [List.contains_eq_mem, decide_eq_false_iff_not] at h
  rw [List.contains_eq_mem, decide_eq_false_iff_not, List.contains_eq_mem, decide_eq_false_iff_not]
  exact ⟨fun hm => h (List.mem_of_mem_take hm), fun hm => h (List.mem_of_mem_drop hm)⟩
theorem sub_first {M : List Int} {C : Nat} : List.take ((C : Int) - 0).toNat (List.drop 0 M) = M.take C := by
  rw [List.drop_zero, Int.sub_zero, Int.toNat_natCast]
theorem sub_second {M : List Int} {C : Nat} (h : M.length = 2 * C) : List.take ((M.length : Int) - (C : Int)).toNat (List.drop (C : Int).toNat M) = M.drop C := by
  rw [Int.toNat_natCast, List.take_of_length_le]
  rw [List.length_drop]
  omega
theorem wrapu {C : Nat} (h : C ≤ 1000) : IntKind.u64.wrap (C : Int) = (C : Int) := by rw [wrap64u]; omega
/-- All three go well. -/
theorem rows_ok {e I J : Int} {C : Nat} {M : List Int} (hC : 2 ≤ C ∧ C ≤ 10) (hM : M.length = 2 * C) (hn : M.contains (-128) = false) (he : -64 ≤ e ∧ e ≤ 64) (hI : 0 ≤ I ∧ I < C) (hJ : 0 ≤ J ∧ J < C) :
    chqI ⟨[2, (C : Int)], e, M⟩ [I, J] = 0 ∧ chqI ⟨[1, (C : Int)], e, M.take C⟩ [I] = 0 ∧ chqI ⟨[1, (C : Int)], e, M.drop C⟩ [J] = 0 := by
  have h2 := no_sub hn C
  refine ⟨chq_ok0 (N := 2) (by omega) hC (by omega) he hM hn rfl (okq_two hI hJ), chq_ok0 (N := 1) (by omega) hC (by omega) he (by rw [List.length_take]; omega) h2.1 rfl (okq_one hI), chq_ok0 (N := 1) (by omega) hC (by omega) he (by rw [List.length_drop]; omega) h2.2 rfl (okq_one hJ)⟩
theorem app_le {a b : List Int} (ha : Fits .i8 a) (hb : Fits .i8 b) (p : Nat) : (a ++ b).getD p 0 ≤ 127 := by
  have h : Fits .i8 (a ++ b) := fun x hx => (List.mem_append.1 hx).elim (ha x) (hb x)
  exact (fits8 h p).2
theorem rows19_ok : CtrOk Try.prog 8 (boolC [.sl (.int .i8), .sl (.int .i8), .int .i64, .int .i64, .int .i64] yes) := by
  obtain ⟨G, hG⟩ : ∃ G : List (FuncId × Ctr), G = [(12, resU [tnTy .i8, .sl (.int .i64)] .i8 3 41 (tq chqI 0) (rU (tq chqI 0) (tq gradR ⟨[], 0, []⟩))), (11, boolC [] yes)] := ⟨_, rfl⟩
  refine fn_ok (ck := true) Try.func8 rfl tt_ok (G := G) (by rw [hG]; exact ⟨⟨gradU_ok, by unfold FnOk; kernel_rfl⟩, ⟨awake19_ok, by unfold FnOk; kernel_rfl⟩, trivial⟩) mixed (by kernel_rfl) ?_
  intro xa xs h hx hp
  obtain ⟨a0, as0, x0, xs0, rfl, rfl, h0, H1⟩ := svArgs_cons h
  obtain ⟨a1, as1, x1, xs1, rfl, rfl, h1, H2⟩ := svArgs_cons H1
  obtain ⟨a2, as2, x2, xs2, rfl, rfl, h2, H3⟩ := svArgs_cons H2
  obtain ⟨a3, as3, x3, xs3, rfl, rfl, h3, H4⟩ := svArgs_cons H3
  obtain ⟨a4, as4, x4, xs4, rfl, rfl, h4, H5⟩ := svArgs_cons H4
  obtain ⟨rfl, rfl⟩ := svArgs_nil H5
  obtain ⟨a, rfl, rfl⟩ := argSV_ints h0
  obtain ⟨b, rfl, rfl⟩ := argSV_ints h1
  obtain ⟨e, rfl, rfl⟩ := argSV_int h2
  obtain ⟨i, rfl, rfl⟩ := argSV_int h3
  obtain ⟨j, rfl, rfl⟩ := argSV_int h4
  have sa : Fits .i8 a ∧ ci a.length ≤ 9223372036854775807 := svf_ints (hx (.iimm .i8 a) (by simp))
  have sb : Fits .i8 b ∧ ci b.length ≤ 9223372036854775807 := svf_ints (hx (.iimm .i8 b) (by simp))
  have se := of_i64 (hx (.v (.int .i64 e)) (by simp))
  have si := of_i64 (hx (.v (.int .i64 i)) (by simp))
  have sj := of_i64 (hx (.v (.int .i64 j)) (by simp))
  have SA := Lib.hid sa
  clear sa
  have SB := Lib.hid sb
  clear sb
  have SE := Lib.hid se
  clear se
  have SI := Lib.hid si
  clear si
  have SJ := Lib.hid sj
  clear sj
  clear hx hp h h0 H1 h1 H2 h2 H3 h3 H4 h4 H5
  subst hG
  generalize hA : std = A
  generalize h_c : ci = c
  generalize h_fR : rU (tq chqI 0) (tq gradR ⟨[], 0, []⟩) = fR
  generalize h_fE : tq chqI 0 = fE
  generalize h_fY : yes = fY
  obtain ⟨S, hS⟩ : ∃ S : Nat → List Int, ∀ j, S j = (List.range j).map (upI (a ++ b)) := ⟨_, fun _ => rfl⟩
  have HS := Lib.hid hS
  clear hS
  cbv
  (repeat' (first | apply And.intro | apply BrB.mk | apply BrP.mk | intro _))
  all_goals try (refine loop_nil [.cell 1 2 41 .i8] Nat 51 (fun k => [(14, .any), (51, .v (.int .i64 (c k)))]) (fun k o => o.set 3 (.irow 41 .i8 (S k))) (fun k => k ≤ a.length + b.length) (fun k => a.length + b.length - k) 0 (Nat.zero_le _) ?hle ?round)
  case hle =>
    cbv
    (repeat' (first | apply And.intro | apply BrB.mk | apply BrP.mk | intro _))
    (all_goals (subst hA; subst h_c; subst h_fR; subst h_fE; subst h_fY); all_goals (have f_sa := SA.out; have f_sb := SB.out; have f_se := SE.out; have f_si := SI.out; have f_sj := SJ.out); all_goals (try simp only [std, stdBin, stdCmp, stdUna, stdIn, ci, beq_iff_eq, bne_iff_ne, beq_eq_false_iff_ne, bne_eq_false_iff_eq, decide_eq_true_eq, decide_eq_false_iff_not, Bool.not_true, Bool.not_false, Bool.not_eq_true', Bool.not_eq_false', Bool.not_not, tn0, tn1, tn2, tn3] at *); all_goals (try omega))
    all_goals first | exact True.intro | rfl | skip
    all_goals (rw [HS.out]; rfl)
  case round =>
    intro k hk
    cbv
    refine BrB.mk (fun gx => ?yx) (fun gx => ?nx)
    case yx =>
      (repeat' (first | apply And.intro | apply BrB.mk | apply BrP.mk | intro _))
      all_goals try (refine ⟨k + 1, ?_, ?_, ?_⟩)
      all_goals try (show AS.le _ _; cbv; (repeat' (first | apply And.intro | apply BrB.mk | apply BrP.mk | intro _)))
      (all_goals (subst hA; subst h_c; subst h_fR; subst h_fE; subst h_fY); all_goals (have f_sa := SA.out; have f_sb := SB.out; have f_se := SE.out; have f_si := SI.out; have f_sj := SJ.out); all_goals (try simp only [std, stdBin, stdCmp, stdUna, stdIn, ci, beq_iff_eq, bne_iff_ne, beq_eq_false_iff_ne, bne_eq_false_iff_eq, decide_eq_true_eq, decide_eq_false_iff_not, Bool.not_true, Bool.not_false, Bool.not_eq_true', Bool.not_eq_false', Bool.not_not, tn0, tn1, tn2, tn3, HS.out, List.length_append] at *); all_goals (try omega))
      all_goals (simp only [List.nil_append, List.length_append, List.length_nil, List.length_singleton, upL_len, Int.toNat_natCast, range_snoc19] at *)
      all_goals (try first | omega | rfl)
    case nx =>
      (repeat' (first | apply And.intro | apply BrB.mk | apply BrP.mk | intro _))
      all_goals try (refine loop_at Nat 146 (fun x => [(10, .any), (21, .any), (146, .v (.int .i64 (c x)))]) (fun _ o => o) (fun x => x ≤ a.length) (fun x => a.length - x) 0 (Nat.zero_le _) ?hle ?round)
      case hle =>
        cbv
        (repeat' (first | apply And.intro | apply BrB.mk | apply BrP.mk | intro _))
        (all_goals (subst hA; subst h_c; subst h_fR; subst h_fE; subst h_fY); all_goals (have f_sa := SA.out; have f_sb := SB.out; have f_se := SE.out; have f_si := SI.out; have f_sj := SJ.out); all_goals (try simp only [std, stdBin, stdCmp, stdUna, stdIn, ci, beq_iff_eq, bne_iff_ne, beq_eq_false_iff_ne, bne_eq_false_iff_eq, decide_eq_true_eq, decide_eq_false_iff_not, Bool.not_true, Bool.not_false, Bool.not_eq_true', Bool.not_eq_false', Bool.not_not, tn0, tn1, tn2, tn3] at *); all_goals (try omega))
        all_goals first | exact True.intro | rfl | skip
      case round =>
        intro x hx
        cbv
        (repeat' (first | apply And.intro | apply BrB.mk | apply BrP.mk | intro _))
        all_goals try (refine ⟨x + 1, ?_, ?_, ?_⟩)
        all_goals try (show AS.le _ _; cbv; (repeat' (first | apply And.intro | apply BrB.mk | apply BrP.mk | intro _)))
        (all_goals (subst hA; subst h_c; subst h_fR; subst h_fE; subst h_fY); all_goals (have f_sa := SA.out; have f_sb := SB.out; have f_se := SE.out; have f_si := SI.out; have f_sj := SJ.out); all_goals (try simp only [std, stdBin, stdCmp, stdUna, stdIn, ci, beq_iff_eq, bne_iff_ne, beq_eq_false_iff_ne, bne_eq_false_iff_eq, decide_eq_true_eq, decide_eq_false_iff_not, Bool.not_true, Bool.not_false, Bool.not_eq_true', Bool.not_eq_false', Bool.not_not, tn0, tn1, tn2, tn3] at *); all_goals (try omega))
        (all_goals (have hk2 : k = 2 * a.length := (by simp only [List.nil_append, List.length_append] at *; omega); have hM : (S k).length = 2 * a.length := (by rw [HS.out, upL_len]; exact hk2); have hn : (S k).contains (-128) = false := (by rw [HS.out]; exact upL_no (app_le f_sa.1 f_sb.1)); have r6 := rem60 e; have hu := wrapu (C := a.length) (by omega); have hI := modU i (a.length : Int) (by omega) (by omega); have hJ := modU j (a.length : Int) (by omega) (by omega); simp only [sub_first, sub_second hM, hu, tq] at *; generalize IntKind.i64.wrap ((IntKind.u64.wrap i).tmod (a.length : Int)) = I at *; generalize IntKind.i64.wrap ((IntKind.u64.wrap j).tmod (a.length : Int)) = J at *; obtain ⟨z1, z2, z3⟩ := rows_ok (e := e.tmod 60) ⟨by omega, by omega⟩ hM hn (by omega) hI hJ; have W := (fun (x : Nat) (hx : x < a.length) => rows_at (e := e.tmod 60) (I := I) (J := J) hM hx); have e1 := gradU_at z1; have e2 := gradU_at z2; have e3 := gradU_at z3; simp only [e1, e2, e3, z1, z2, z3, gL_len, hM, List.length_take, List.length_drop] at *))
        all_goals (try first | omega | rfl | contradiction)
        all_goals (obtain ⟨w1, w2⟩ := W x (by omega))
        all_goals (simp only [w1, w2, ← Int.natCast_add, Int.toNat_natCast] at *)
        all_goals (try first | omega | rfl | contradiction)
      (all_goals (subst hA; subst h_c; subst h_fR; subst h_fE; subst h_fY); all_goals (have f_sa := SA.out; have f_sb := SB.out; have f_se := SE.out; have f_si := SI.out; have f_sj := SJ.out); all_goals (try simp only [std, stdBin, stdCmp, stdUna, stdIn, ci, beq_iff_eq, bne_iff_ne, beq_eq_false_iff_ne, bne_eq_false_iff_eq, decide_eq_true_eq, decide_eq_false_iff_not, Bool.not_true, Bool.not_false, Bool.not_eq_true', Bool.not_eq_false', Bool.not_not, tn0, tn1, tn2, tn3] at *); all_goals (try omega))
      (all_goals (have hk2 : k = 2 * a.length := (by simp only [List.nil_append, List.length_append] at *; omega); have hM : (S k).length = 2 * a.length := (by rw [HS.out, upL_len]; exact hk2); have hn : (S k).contains (-128) = false := (by rw [HS.out]; exact upL_no (app_le f_sa.1 f_sb.1)); have r6 := rem60 e; have hu := wrapu (C := a.length) (by omega); have hI := modU i (a.length : Int) (by omega) (by omega); have hJ := modU j (a.length : Int) (by omega) (by omega); simp only [sub_first, sub_second hM, hu, tq] at *; generalize IntKind.i64.wrap ((IntKind.u64.wrap i).tmod (a.length : Int)) = I at *; generalize IntKind.i64.wrap ((IntKind.u64.wrap j).tmod (a.length : Int)) = J at *; obtain ⟨z1, z2, z3⟩ := rows_ok (e := e.tmod 60) ⟨by omega, by omega⟩ hM hn (by omega) hI hJ; have W := (fun (x : Nat) (hx : x < a.length) => rows_at (e := e.tmod 60) (I := I) (J := J) hM hx); have e1 := gradU_at z1; have e2 := gradU_at z2; have e3 := gradU_at z3; simp only [e1, e2, e3, z1, z2, z3, gL_len, hM, List.length_take, List.length_drop] at *))
      all_goals (try first | omega | rfl | contradiction)
  (all_goals (subst hA; subst h_c; subst h_fR; subst h_fE; subst h_fY); all_goals (have f_sa := SA.out; have f_sb := SB.out; have f_se := SE.out; have f_si := SI.out; have f_sj := SJ.out); all_goals (try simp only [std, stdBin, stdCmp, stdUna, stdIn, ci, beq_iff_eq, bne_iff_ne, beq_eq_false_iff_ne, bne_eq_false_iff_eq, decide_eq_true_eq, decide_eq_false_iff_not, Bool.not_true, Bool.not_false, Bool.not_eq_true', Bool.not_eq_false', Bool.not_not, tn0, tn1, tn2, tn3] at *); all_goals (try omega))
  all_goals (try first | omega | rfl | contradiction)
  all_goals (simp only [List.length_nil, List.nil_append, List.length_append] at *; omega)
end Go.Proofs.Ytdbfgcpohloabaa
