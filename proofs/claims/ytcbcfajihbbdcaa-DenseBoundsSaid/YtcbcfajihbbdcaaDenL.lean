/- Layer 10: no sum reaches the bound. -/
import Derived.Test.YtcbcfajihbbdcaaDenK
namespace Go.Proofs.Ytcbcfajihbbdcaa
open Go.RowKit
set_option maxRecDepth 100000
set_option linter.unusedSimpArgs false
set_option linter.unusedVariables false
set_option maxHeartbeats 8000000
/-- A sum that is too long is refused. -/
theorem fwd_long {n k m e1 e2 e3 : Int} {A B D : List Int} (hn : 1 ≤ n ∧ n ≤ 4096) (hk : 960 ≤ k ∧ k ≤ 4096) (hm : 1 ≤ m ∧ m ≤ 4096) (h1 : n * k ≤ 8192) (h2 : m * k ≤ 8192) (q1 : -64 ≤ e1 ∧ e1 ≤ 64) (q2 : -64 ≤ e2 ∧ e2 ≤ 64) (q3 : -64 ≤ e3 ∧ e3 ≤ 64)
    (l1 : (A.length : Int) = n * k) (l2 : (B.length : Int) = m * k) (l3 : (D.length : Int) = m) (c1 : A.contains (-128) = false) (c2 : B.contains (-128) = false) (c3 : D.contains (-128) = false) :
    fwdE [.st [.l [n, k], .z e1, .l A], .st [.l [m, k], .z e2, .l B], .st [.l [m], .z e3, .l D]] = 3 ∧ rU fwdE fwdR [.st [.l [n, k], .z e1, .l A], .st [.l [m, k], .z e2, .l B], .st [.l [m], .z e3, .l D]] = ⟨[], 0, []⟩ := by
  have he : fwdE [.st [.l [n, k], .z e1, .l A], .st [.l [m, k], .z e2, .l B], .st [.l [m], .z e3, .l D]] = 3 := by
    show fwdErr ⟨[n, k], e1, A⟩ ⟨[m, k], e2, B⟩ ⟨[m], e3, D⟩ = 3
    rw [fwdErr_eq, may_pair hn ⟨by omega, by omega⟩ h1 q1 l1 c1, may_pair hm ⟨by omega, by omega⟩ h2 q2 l2 c2, may_vec hm q3 l3 c3]
    rw [if_pos (by rfl), if_pos ⟨rfl, rfl, rfl, rfl, rfl⟩, if_neg (by show ¬ decide _ = true; rw [decide_eq_true_eq]; show ¬ (0 ≤ k ∧ k ≤ 959); omega)]
  refine ⟨he, ?_⟩
  unfold rU
  rw [if_neg (by rw [he]; decide)]
theorem rep_no {X : Int} (h : -127 ≤ X) (n : Nat) : (List.replicate n X).contains (-128) = false := by
  rw [List.contains_eq_mem, decide_eq_false_iff_not]
  intro hm
  have := (List.mem_replicate.1 hm).2
  omega
theorem mixL_rep (lo : Nat → Int) (X : Int) (N : Nat) : mixL lo (fun _ => X) N N = List.replicate N X := by
  rw [mixL_all, List.map_const', List.length_range]
theorem fits_rep {X : Int} (h : -128 ≤ X ∧ X ≤ 127) (n : Nat) : Fits .i8 (List.replicate n X) := by
  intro y hy
  rw [(List.mem_replicate.1 hy).2]
  exact (stdIn_iff .i8 _).1 ⟨by omega, by omega⟩
theorem tmod128 (a : Int) : -127 ≤ a.tmod 128 ∧ a.tmod 128 ≤ 127 := by
  have h1 := Int.tmod_lt_of_pos a (show (0 : Int) < 128 by decide)
  have h2 := Int.lt_tmod_of_pos a (show (0 : Int) < 128 by decide)
  omega
theorem outL_in {D1 A D2 B D3 D : List Int} {e1 e2 e3 : Int} (hA : Fits .i8 A) (hB : Fits .i8 B) (hD : Fits .i8 D) (hk : D1.getD 1 0 ≤ 959) (j : Nat) : -16777216 < outL ⟨D1, e1, A⟩ ⟨D2, e2, B⟩ ⟨D3, e3, D⟩ j ∧ outL ⟨D1, e1, A⟩ ⟨D2, e2, B⟩ ⟨D3, e3, D⟩ j < 16777216 := by
  have h1 := dt_in (a := rowsR ⟨D1, e1, A⟩) (b := rowsR ⟨D2, e2, B⟩) hA hB (D2.getD 0 0).toNat j (D1.getD 1 0).toNat (by omega)
  have h2 := alignS (D.getD (j % D.length) 0) e3 (e1 + e2) (fits8 hD _)
  unfold outL
  simp only
  omega
theorem bounds10_ok : CtrOk Try.prog 10 (boolC [.int .i8, .int .i8, .int .i64, .int .i64, .int .i64] yes) := by
  obtain ⟨G, hG⟩ : ∃ G : List (FuncId × Ctr), G = [(24, resU [tnTy .i8, tnTy .i8, tnTy .i8] .i32 3 21 fwdE (rU fwdE fwdR)), (33, boolC [.int .i64] fitsF), (23, boolC [] yes)] := ⟨_, rfl⟩
  refine fn_ok (ck := true) Try.func10 rfl tt_ok (G := G) (by rw [hG]; exact ⟨⟨fwdU_ok, by unfold FnOk; kernel_rfl⟩, ⟨fits_ok, by unfold FnOk; kernel_rfl⟩, ⟨awake10_ok, by unfold FnOk; kernel_rfl⟩, trivial⟩) mixed (by kernel_rfl) ?_
  intro xa xs h hx hp
  obtain ⟨a0, as0, x0, xs0, rfl, rfl, h0, H1⟩ := svArgs_cons h
  obtain ⟨a1, as1, x1, xs1, rfl, rfl, h1, H2⟩ := svArgs_cons H1
  obtain ⟨a2, as2, x2, xs2, rfl, rfl, h2, H3⟩ := svArgs_cons H2
  obtain ⟨a3, as3, x3, xs3, rfl, rfl, h3, H4⟩ := svArgs_cons H3
  obtain ⟨a4, as4, x4, xs4, rfl, rfl, h4, H5⟩ := svArgs_cons H4
  obtain ⟨rfl, rfl⟩ := svArgs_nil H5
  obtain ⟨x, rfl, rfl⟩ := argSV_int h0
  obtain ⟨w, rfl, rfl⟩ := argSV_int h1
  obtain ⟨k, rfl, rfl⟩ := argSV_int h2
  obtain ⟨b, rfl, rfl⟩ := argSV_int h3
  obtain ⟨e, rfl, rfl⟩ := argSV_int h4
  have sx := of_i8 (hx (.v (.int .i8 x)) (by simp))
  have sw := of_i8 (hx (.v (.int .i8 w)) (by simp))
  have sk := of_i64 (hx (.v (.int .i64 k)) (by simp))
  have sb := of_i64 (hx (.v (.int .i64 b)) (by simp))
  have se := of_i64 (hx (.v (.int .i64 e)) (by simp))
  have SX := Lib.hid sx
  clear sx
  have SW := Lib.hid sw
  clear sw
  have SK := Lib.hid sk
  clear sk
  have SB := Lib.hid sb
  clear sb
  have SE := Lib.hid se
  clear se
  clear hx hp h h0 H1 h1 H2 h2 H3 h3 H4 h4 H5
  subst hG
  generalize hA : std = A
  generalize h_c : ci = c
  generalize h_fR : rU fwdE fwdR = fR
  generalize h_fE : fwdE = fE
  generalize h_fF : fitsF = fF
  generalize h_fY : yes = fY
  obtain ⟨S1, hS1⟩ : ∃ S : Nat → List Int, ∀ j, S j = mixL (fun _ => 0) (fun _ => if -127 > x then -127 else x) (940 + IntKind.i64.wrap ((IntKind.u64.wrap k).tmod 60)).toNat j := ⟨_, fun _ => rfl⟩
  obtain ⟨S2, hS2⟩ : ∃ S : Nat → List Int, ∀ j, S j = mixL (fun _ => 0) (fun _ => if -127 > w then -127 else w) (940 + IntKind.i64.wrap ((IntKind.u64.wrap k).tmod 60)).toNat j := ⟨_, fun _ => rfl⟩
  cbv
  (repeat' (first | apply And.intro | apply BrB.mk | apply BrP.mk | intro _))
  all_goals try (refine loop_at Nat 40 (fun j => [(13, .any), (40, .v (.int .i64 (c j)))]) (fun j o => (o.set 1 (.irow 38 .i8 (S1 j))).set 4 (.irow 38 .i8 (S2 j))) (fun j => ci j ≤ 940 + IntKind.i64.wrap ((IntKind.u64.wrap k).tmod 60)) (fun j => (940 + IntKind.i64.wrap ((IntKind.u64.wrap k).tmod 60) - ci j).toNat) 0 ?h0 ?hle ?round)
  case h0 =>
    have hk := modU k 60 (by decide) (by decide)
    (all_goals (subst hA; subst h_c; subst h_fR; subst h_fE; subst h_fF; subst h_fY); all_goals (have f_sx := SX.out; have f_sw := SW.out; have f_sk := SK.out; have f_sb := SB.out; have f_se := SE.out); all_goals (try simp only [std, stdBin, stdCmp, stdUna, stdIn, ci, beq_iff_eq, bne_iff_ne, beq_eq_false_iff_ne, bne_eq_false_iff_eq, decide_eq_true_eq, decide_eq_false_iff_not, Bool.not_true, Bool.not_false, Bool.not_eq_true', Bool.not_eq_false', Bool.not_not, tn0, tn1, tn2, tn3] at *); all_goals (try omega))
  case hle =>
    cbv
    (repeat' (first | apply And.intro | apply BrB.mk | apply BrP.mk | intro _))
    (all_goals (subst hA; subst h_c; subst h_fR; subst h_fE; subst h_fF; subst h_fY); all_goals (have f_sx := SX.out; have f_sw := SW.out; have f_sk := SK.out; have f_sb := SB.out; have f_se := SE.out); all_goals (try simp only [std, stdBin, stdCmp, stdUna, stdIn, ci, beq_iff_eq, bne_iff_ne, beq_eq_false_iff_ne, bne_eq_false_iff_eq, decide_eq_true_eq, decide_eq_false_iff_not, Bool.not_true, Bool.not_false, Bool.not_eq_true', Bool.not_eq_false', Bool.not_not, tn0, tn1, tn2, tn3] at *); all_goals (try omega))
    all_goals first | exact True.intro | rfl | skip
    · rw [hS1, mixL_nil]
    · rw [hS2, mixL_nil]
  case round =>
    intro j hj
    cbv
    have hk := modU k 60 (by decide) (by decide)
    refine BrB.mk (fun gx => ?yx) (fun gx => ?nx)
    case yx =>
      (repeat' (first | apply And.intro | apply BrB.mk | apply BrP.mk | intro _))
      all_goals try (refine ⟨j + 1, ?jI, ?jL, ?jM⟩)
      case jL =>
        cbv
        (repeat' (first | apply And.intro | apply BrB.mk | apply BrP.mk | intro _))
        (all_goals (subst hA; subst h_c; subst h_fR; subst h_fE; subst h_fF; subst h_fY); all_goals (have f_sx := SX.out; have f_sw := SW.out; have f_sk := SK.out; have f_sb := SB.out; have f_se := SE.out); all_goals (try simp only [std, stdBin, stdCmp, stdUna, stdIn, ci, beq_iff_eq, bne_iff_ne, beq_eq_false_iff_ne, bne_eq_false_iff_eq, decide_eq_true_eq, decide_eq_false_iff_not, Bool.not_true, Bool.not_false, Bool.not_eq_true', Bool.not_eq_false', Bool.not_not, tn0, tn1, tn2, tn3] at *); all_goals (try omega))
        all_goals first | exact True.intro | rfl | skip
        · rw [hS1, hS1, Int.toNat_natCast]; exact mixL_store (by omega) rfl
        · rw [hS2, hS2, Int.toNat_natCast]; exact mixL_store (by omega) rfl
      (all_goals (subst hA; subst h_c; subst h_fR; subst h_fE; subst h_fF; subst h_fY); all_goals (have f_sx := SX.out; have f_sw := SW.out; have f_sk := SK.out; have f_sb := SB.out; have f_se := SE.out); all_goals (try simp only [std, stdBin, stdCmp, stdUna, stdIn, ci, beq_iff_eq, bne_iff_ne, beq_eq_false_iff_ne, bne_eq_false_iff_eq, decide_eq_true_eq, decide_eq_false_iff_not, Bool.not_true, Bool.not_false, Bool.not_eq_true', Bool.not_eq_false', Bool.not_not, tn0, tn1, tn2, tn3, hS1, hS2, mixL_len] at *); all_goals (try omega))
    case nx =>
      (repeat' (first | apply And.intro | apply BrB.mk | apply BrP.mk | intro _))
      all_goals (subst hA; subst h_c; subst h_fR; subst h_fE; subst h_fF; subst h_fY)
      all_goals (have f_sx := SX.out; have f_sw := SW.out; have f_sk := SK.out; have f_sb := SB.out; have f_se := SE.out)
      all_goals (try simp only [std, stdBin, stdCmp, stdUna, stdIn, ci, beq_iff_eq, bne_iff_ne, beq_eq_false_iff_ne, bne_eq_false_iff_eq, decide_eq_true_eq, decide_eq_false_iff_not, Bool.not_true, Bool.not_false, Bool.not_eq_true', Bool.not_eq_false', Bool.not_not, tn0, tn1, tn2, tn3] at *)
      all_goals (have hb := tmod128 b; have he := modU e 60 (by decide) (by decide); have h8 : IntKind.i8.wrap (b.tmod 128) = b.tmod 128 := w8 (by omega) (by omega))
      all_goals (generalize IntKind.i64.wrap ((IntKind.u64.wrap k).tmod 60) = K at *; generalize IntKind.i64.wrap ((IntKind.u64.wrap e).tmod 60) = E at *)
      all_goals (generalize hX : (if -127 > x then -127 else x) = X at *; generalize hW : (if -127 > w then -127 else w) = W at *)
      all_goals (have bX : -127 ≤ X ∧ X ≤ 127 := (by rw [← hX]; split <;> omega); have bW : -127 ≤ W ∧ W ≤ 127 := (by rw [← hW]; split <;> omega))
      all_goals (have hj' : j = (940 + K).toNat := by omega)
      all_goals (simp only [hS1, hS2, h8, hj', mixL_rep] at *)
      all_goals (try omega)
      all_goals try (refine vb ?_; rfl)
      all_goals (have f1 : fitsF [AV.z (940 + K)] = decide (0 ≤ 940 + K ∧ 940 + K ≤ 959) := rfl; (try simp only [f1, decide_eq_true_eq, decide_eq_false_iff_not] at *); by_cases hK : 940 + K ≤ 959)
      all_goals (try omega)
      all_goals (have rA : ((List.replicate (940 + K).toNat X).length : Int) = 1 * (940 + K) := (by rw [List.length_replicate]; omega); have rB : ((List.replicate (940 + K).toNat W).length : Int) = 1 * (940 + K) := (by rw [List.length_replicate]; omega); have cD : ([b.tmod 128] : List Int).contains (-128) = false := (by simp only [List.contains_cons, List.contains_nil, Bool.or_false, beq_eq_false_iff_ne]; omega))
      all_goals try (obtain ⟨F, R⟩ := fwd_pair (n := 1) (k := 940 + K) (m := 1) (e1 := 0) (e2 := 0) (e3 := E) (A := List.replicate (940 + K).toNat X) (B := List.replicate (940 + K).toNat W) (D := [b.tmod 128]) (by decide) (by omega) (by decide) (by omega) (by omega) (by decide) (by decide) (by decide) (by omega) rA rB rfl (rep_no bX.1 _) (rep_no bW.1 _) cD; have o := outL_in (D1 := [1, 940 + K]) (A := List.replicate (940 + K).toNat X) (D2 := [1, 940 + K]) (B := List.replicate (940 + K).toNat W) (D3 := [1]) (D := [b.tmod 128]) (e1 := 0) (e2 := 0) (e3 := E) (fits_rep (by omega) _) (fits_rep (by omega) _) (fun y hy => by rw [List.mem_singleton.1 hy]; exact (stdIn_iff .i8 _).1 ⟨by omega, by omega⟩) hK 0; have g0 : ((List.range ((1 : Int).toNat * (1 : Int).toNat)).map (outL ⟨[1, 940 + K], 0, List.replicate (940 + K).toNat X⟩ ⟨[1, 940 + K], 0, List.replicate (940 + K).toNat W⟩ ⟨[1], E, [b.tmod 128]⟩)).getD 0 0 = outL ⟨[1, 940 + K], 0, List.replicate (940 + K).toNat X⟩ ⟨[1, 940 + K], 0, List.replicate (940 + K).toNat W⟩ ⟨[1], E, [b.tmod 128]⟩ 0 := rfl; (try simp only [F, R, g0, List.length_map, List.length_range, tn1] at *); first | omega | contradiction)
      all_goals (obtain ⟨F, R⟩ := fwd_long (n := 1) (k := 940 + K) (m := 1) (e1 := 0) (e2 := 0) (e3 := E) (A := List.replicate (940 + K).toNat X) (B := List.replicate (940 + K).toNat W) (D := [b.tmod 128]) (by decide) (by omega) (by decide) (by omega) (by omega) (by decide) (by decide) (by omega) rA rB rfl (rep_no bX.1 _) (rep_no bW.1 _) cD; (try simp only [F, R, List.length_nil] at *); first | omega | contradiction)
  all_goals (have hk := modU k 60 (by decide) (by decide); have hb := tmod128 b; have he := modU e 60 (by decide) (by decide))
  (all_goals (subst hA; subst h_c; subst h_fR; subst h_fE; subst h_fF; subst h_fY); all_goals (have f_sx := SX.out; have f_sw := SW.out; have f_sk := SK.out; have f_sb := SB.out; have f_se := SE.out); all_goals (try simp only [std, stdBin, stdCmp, stdUna, stdIn, ci, beq_iff_eq, bne_iff_ne, beq_eq_false_iff_ne, bne_eq_false_iff_eq, decide_eq_true_eq, decide_eq_false_iff_not, Bool.not_true, Bool.not_false, Bool.not_eq_true', Bool.not_eq_false', Bool.not_not, tn0, tn1, tn2, tn3] at *); all_goals (try omega))
end Go.Proofs.Ytcbcfajihbbdcaa
