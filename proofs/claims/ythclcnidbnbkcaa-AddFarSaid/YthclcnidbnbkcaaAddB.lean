/- Layer 14: two tensors whose exponents are near, or far. -/
import Derived.Test.YthclcnidbnbkcaaAddA
namespace Go.Proofs.Ythclcnidbnbkcaa
open Go.RowKit
set_option maxRecDepth 100000
set_option linter.unusedSimpArgs false
set_option linter.unusedVariables false
set_option maxHeartbeats 8000000
/-- Not below -127. -/
def lo8 (v : Int) : Int := if -127 > v then -127 else v
def rowZ (l : List Int) (N : Nat) : List Int := (List.range N).map fun i => lo8 (l.getD i 0)
theorem rowZ_len (l : List Int) (N : Nat) : (rowZ l N).length = N := by simp [rowZ]
theorem rowZ_get (l : List Int) {N i : Nat} (h : i < N) : (rowZ l N).getD i 0 = lo8 (l.getD i 0) := by
  unfold rowZ
  rw [List.getD_eq_getElem?_getD, List.getElem?_map, List.getElem?_range h]
  rfl
theorem lo8_in {v : Int} (h : -128 ≤ v ∧ v ≤ 127) : -127 ≤ lo8 v ∧ lo8 v ≤ 127 := by unfold lo8; split <;> omega
theorem rowZ_in {l : List Int} (h : Fits .i8 l) (N i : Nat) : -127 ≤ (rowZ l N).getD i 0 ∧ (rowZ l N).getD i 0 ≤ 127 := by
  by_cases hi : i < N
  · rw [rowZ_get l hi]; exact lo8_in (fits8 h i)
  · rw [List.getD_eq_getElem?_getD, List.getElem?_eq_none (by rw [rowZ_len]; omega)]; exact ⟨by decide, by decide⟩
theorem rowZ_no {l : List Int} (h : Fits .i8 l) (N : Nat) : (rowZ l N).contains (-128) = false := by
  rw [List.contains_eq_mem, decide_eq_false_iff_not]
  intro hm
  obtain ⟨j, hj, he⟩ := List.mem_iff_getElem.1 hm
  have h1 := rowZ_in h N j
  rw [List.getD_eq_getElem?_getD, List.getElem?_eq_getElem hj, he] at h1
  simp at h1
theorem rowZ_fits {l : List Int} (h : Fits .i8 l) (N : Nat) : Fits .i8 (rowZ l N) := by
  intro x hx
  obtain ⟨j, hj, he⟩ := List.mem_iff_getElem.1 hx
  have h1 := rowZ_in h N j
  rw [List.getD_eq_getElem?_getD, List.getElem?_eq_getElem hj, he] at h1
  simp at h1
  exact (stdIn_iff .i8 _).1 ⟨by omega, by omega⟩
theorem may_row {l : List Int} (h : Fits .i8 l) {N : Nat} (hN : 1 ≤ N ∧ N ≤ 300) {e : Int} (he : -64 ≤ e ∧ e ≤ 64) : mayB ⟨[(N : Int)], e, rowZ l N⟩ = true := by
  have hd : mayD [(N : Int)] = true := by
    refine (mayD_iff _).2 ⟨by simp, fun x hx => ?_, ?_⟩
    · simp only [List.mem_cons, List.not_mem_nil, or_false] at hx
      subst hx; omega
    · simp only [prodFrom, List.foldl_cons, List.foldl_nil, Int.one_mul]; omega
  refine (mayB_eq _ _ _).2 ⟨hd, ?_, he, rowZ_no h N⟩
  rw [rowZ_len]
  unfold szD; rw [if_pos hd]; simp [prodFrom]
theorem addX_sym (a b : Int) : addX a b = addX b a := by
  unfold addX
  repeat' split
  all_goals omega
theorem addAt_sym (a b : Tn) (i : Nat) : addAt a b i = addAt b a i := by
  unfold addAt
  rw [addX_sym, Int.add_comm]
theorem add_rows {l m : List Int} (hl : Fits .i8 l) (hm : Fits .i8 m) {N : Nat} (hN : 1 ≤ N ∧ N ≤ 300) {ea eb : Int} (ha : -64 ≤ ea ∧ ea ≤ 64) (hb : -64 ≤ eb ∧ eb ≤ 64) :
    addErr ⟨[(N : Int)], ea, rowZ l N⟩ ⟨[(N : Int)], eb, rowZ m N⟩ = 0 ∧ addRes ⟨[(N : Int)], ea, rowZ l N⟩ ⟨[(N : Int)], eb, rowZ m N⟩ = ⟨[(N : Int)], addX ea eb, (List.range N).map (addAt ⟨[(N : Int)], ea, rowZ l N⟩ ⟨[(N : Int)], eb, rowZ m N⟩)⟩ := by
  refine ⟨?_, ?_⟩
  · unfold addErr
    rw [may_row hl hN ha, may_row hm hN hb, if_pos (by rfl)]
    exact if_pos rfl
  · unfold addRes
    simp only [rowZ_len]
theorem add_rows_sym {l m : List Int} {N : Nat} {ea eb : Int} : (⟨[(N : Int)], addX eb ea, (List.range N).map (addAt ⟨[(N : Int)], eb, rowZ m N⟩ ⟨[(N : Int)], ea, rowZ l N⟩)⟩ : Tn) = ⟨[(N : Int)], addX ea eb, (List.range N).map (addAt ⟨[(N : Int)], ea, rowZ l N⟩ ⟨[(N : Int)], eb, rowZ m N⟩)⟩ := by
  rw [addX_sym eb ea]
  congr 1
  exact List.map_congr_left fun i _ => addAt_sym _ _ i
theorem align_up {v a b : Int} (hv : -127 ≤ v ∧ v ≤ 127) (ha : -64 ≤ a ∧ a ≤ 64) (hb : -76 ≤ b ∧ b ≤ 64) (h0 : b ≤ a) (h1 : a - b ≤ 12) : alignI v a b = v * 2 ^ (a - b).toNat := by
  have hg : gap a b = a - b := by unfold gap cl; omega
  unfold alignI
  rw [hg, if_neg (by omega)]
  have hc : cut20 v = v := by unfold cut20 cl; omega
  have hm : min (a - b) 20 = a - b := by omega
  rw [hc, hm]
  have hp : (2 : Int) ^ (a - b).toNat ≤ 2 ^ 12 := by
    have h := Nat.pow_le_pow_right (show 0 < 2 by decide) (show (a - b).toNat ≤ 12 by omega)
    have h2 : ((2 ^ (a - b).toNat : Nat) : Int) ≤ ((2 ^ 12 : Nat) : Int) := Int.ofNat_le.2 h
    simpa using h2
  have hp0 : (0 : Int) < 2 ^ (a - b).toNat := Int.pow_pos (by decide)
  have := mulAbs (a := v) (b := 2 ^ (a - b).toNat) (A := 127) (B := 4096) (by omega) (by omega) (by omega) (by omega)
  unfold cut20 cl
  omega
theorem getD_mapR {f : Nat → Int} {n j : Nat} (h : j < n) : ((List.range n).map f).getD j 0 = f j := by
  rw [List.getD_eq_getElem?_getD, List.getElem?_map, List.getElem?_range h]; rfl
theorem addX_near {a b : Int} (h1 : a - b ≤ 12) (h2 : b - a ≤ 12) : addX a b = if b < a then b else a := by
  unfold addX
  repeat' split
  all_goals omega
theorem addAt_near {l m : List Int} (hl : Fits .i8 l) (hm : Fits .i8 m) {N : Nat} {ea eb : Int} (ha : -64 ≤ ea ∧ ea ≤ 64) (hb : -64 ≤ eb ∧ eb ≤ 64) (h1 : ea - eb ≤ 12) (h2 : eb - ea ≤ 12) (i : Nat) :
    addAt ⟨[(N : Int)], ea, rowZ l N⟩ ⟨[(N : Int)], eb, rowZ m N⟩ i = (rowZ l N).getD i 0 * 2 ^ (ea - (if eb < ea then eb else ea)).toNat + (rowZ m N).getD i 0 * 2 ^ (eb - (if eb < ea then eb else ea)).toNat := by
  unfold addAt
  simp only [addX_near h1 h2]
  have hmn : (if eb < ea then eb else ea) ≤ ea ∧ (if eb < ea then eb else ea) ≤ eb ∧ ea - (if eb < ea then eb else ea) ≤ 12 ∧ eb - (if eb < ea then eb else ea) ≤ 12 ∧ -76 ≤ (if eb < ea then eb else ea) ∧ (if eb < ea then eb else ea) ≤ 64 := by
    split <;> omega
  generalize (if eb < ea then eb else ea) = mn at hmn ⊢
  rw [align_up (rowZ_in hl N i) ha (by omega) hmn.1 (by omega), align_up (rowZ_in hm N i) hb (by omega) hmn.2.1 (by omega)]
theorem tmod64a (a : Int) : -64 ≤ a.tmod 64 ∧ a.tmod 64 ≤ 64 := by
  have h1 := Int.tmod_lt_of_pos a (show (0 : Int) < 64 by decide)
  have h2 := Int.lt_tmod_of_pos a (show (0 : Int) < 64 by decide)
  omega
/-- The least of two lengths, and of 300. -/
def least3 (a b : Nat) : Nat := min (min a b) 300
theorem least3_eq (a b : Nat) : (if (300 : Int) < (if (b : Int) < (a : Int) then (b : Int) else (a : Int)) then (300 : Int) else (if (b : Int) < (a : Int) then (b : Int) else (a : Int))) = ((least3 a b : Nat) : Int) := by
  unfold least3
  repeat' split
  all_goals omega
theorem least3_le (a b : Nat) : least3 a b ≤ a ∧ least3 a b ≤ b ∧ least3 a b ≤ 300 := by unfold least3; omega
theorem mix_rowZ (l : List Int) (N : Nat) : (List.range N).map (fun i => lo8 (l.getD i 0)) = rowZ l N := rfl
theorem rU_rows {l m : List Int} (hl : Fits .i8 l) (hm : Fits .i8 m) {N : Nat} (hN : 1 ≤ N ∧ N ≤ 300) {ea eb : Int} (ha : -64 ≤ ea ∧ ea ≤ 64) (hb : -64 ≤ eb ∧ eb ≤ 64) :
    t2 addErr 0 [.st [.l [(N : Int)], .z ea, .l (rowZ l N)], .st [.l [(N : Int)], .z eb, .l (rowZ m N)]] = 0 ∧ rU (t2 addErr 0) (t2 addRes ⟨[], 0, []⟩) [.st [.l [(N : Int)], .z ea, .l (rowZ l N)], .st [.l [(N : Int)], .z eb, .l (rowZ m N)]] = ⟨[(N : Int)], addX ea eb, (List.range N).map (addAt ⟨[(N : Int)], ea, rowZ l N⟩ ⟨[(N : Int)], eb, rowZ m N⟩)⟩ := by
  obtain ⟨h1, h2⟩ := add_rows hl hm hN ha hb
  have h3 : t2 addErr 0 [.st [.l [(N : Int)], .z ea, .l (rowZ l N)], .st [.l [(N : Int)], .z eb, .l (rowZ m N)]] = 0 := h1
  refine ⟨h3, ?_⟩
  unfold rU
  rw [if_pos h3]
  exact h2
theorem same_rows (l m : List Int) (N : Nat) (ea eb : Int) : sameTnF [.st [.l [(N : Int)], .z (addX ea eb), .l ((List.range N).map (addAt ⟨[(N : Int)], ea, rowZ l N⟩ ⟨[(N : Int)], eb, rowZ m N⟩))], .st [.l [(N : Int)], .z (addX eb ea), .l ((List.range N).map (addAt ⟨[(N : Int)], eb, rowZ m N⟩ ⟨[(N : Int)], ea, rowZ l N⟩))]] = true := by
  refine (sameTn_iff _ _ _ _ _ _).2 ⟨rfl, addX_sym _ _, ?_⟩
  exact List.map_congr_left fun i _ => addAt_sym _ _ i
theorem wrapU_small {z : Int} (h : 0 ≤ z ∧ z ≤ 200) : IntKind.u64.wrap z = z := by rw [wrap64u]; omega
theorem pow12 {k : Int} (h : 0 ≤ k ∧ k ≤ 12) : (1 : Int) ≤ 2 ^ k.toNat ∧ (2 : Int) ^ k.toNat ≤ 4096 := by
  have h1 := Nat.pow_le_pow_right (show 0 < 2 by decide) (show k.toNat ≤ 12 by omega)
  have h2 : ((2 ^ k.toNat : Nat) : Int) ≤ ((2 ^ 12 : Nat) : Int) := Int.ofNat_le.2 h1
  have h3 : (0 : Int) < 2 ^ k.toNat := Int.pow_pos (by decide)
  have h4 : (2 : Int) ^ k.toNat ≤ 4096 := by simpa using h2
  omega
theorem exact14_ok : CtrOk Try.prog 8 (boolC [.sl (.int .i8), .sl (.int .i8), .int .i64, .int .i64] yes) := by
  obtain ⟨G, hG⟩ : ∃ G : List (FuncId × Ctr), G = [(24, resU [tnTy .i8, tnTy .i8] .i32 3 21 (t2 addErr 0) (rU (t2 addErr 0) (t2 addRes ⟨[], 0, []⟩))), (28, boolC [tnTy .i32, tnTy .i32] sameTnF), (29, boolC [] yes)] := ⟨_, rfl⟩
  refine fn_ok (ck := true) Try.func8 rfl tt_ok (G := G) (by rw [hG]; exact ⟨⟨addU_ok, by unfold FnOk; kernel_rfl⟩, ⟨rsameAcc_ok, by unfold FnOk; kernel_rfl⟩, ⟨awake14_ok, by unfold FnOk; kernel_rfl⟩, trivial⟩) mixed (by kernel_rfl) ?_
  intro xa xs h hx hp
  obtain ⟨a0, as0, x0, xs0, rfl, rfl, h0, H1⟩ := svArgs_cons h
  obtain ⟨a1, as1, x1, xs1, rfl, rfl, h1, H2⟩ := svArgs_cons H1
  obtain ⟨a2, as2, x2, xs2, rfl, rfl, h2, H3⟩ := svArgs_cons H2
  obtain ⟨a3, as3, x3, xs3, rfl, rfl, h3, H4⟩ := svArgs_cons H3
  obtain ⟨rfl, rfl⟩ := svArgs_nil H4
  obtain ⟨l, rfl, rfl⟩ := argSV_ints h0
  obtain ⟨m, rfl, rfl⟩ := argSV_ints h1
  obtain ⟨a, rfl, rfl⟩ := argSV_int h2
  obtain ⟨b, rfl, rfl⟩ := argSV_int h3
  have sl : Fits .i8 l ∧ ci l.length ≤ 9223372036854775807 := svf_ints (hx (.iimm .i8 l) (by simp))
  have sm : Fits .i8 m ∧ ci m.length ≤ 9223372036854775807 := svf_ints (hx (.iimm .i8 m) (by simp))
  have sa := of_i64 (hx (.v (.int .i64 a)) (by simp))
  have sb := of_i64 (hx (.v (.int .i64 b)) (by simp))
  have SL := Lib.hid sl
  clear sl
  have SM := Lib.hid sm
  clear sm
  have SA := Lib.hid sa
  clear sa
  have SB := Lib.hid sb
  clear sb
  clear hx hp h h0 H1 h1 H2 h2 H3 h3 H4
  subst hG
  generalize hA : std = A
  generalize h_c : ci = c
  generalize h_fR : rU (t2 addErr 0) (t2 addRes ⟨[], 0, []⟩) = fR
  generalize h_fE : t2 addErr 0 = fE
  generalize h_fs : sameTnF = fs
  generalize h_fY : yes = fY
  obtain ⟨N, hN⟩ : ∃ N : Nat, N = least3 l.length m.length := ⟨_, rfl⟩
  have HN := Lib.hid hN
  clear hN
  obtain ⟨S1, hS1⟩ : ∃ S : Nat → List Int, ∀ j, S j = mixL (fun _ => 0) (fun i => lo8 (l.getD i 0)) N j := ⟨_, fun _ => rfl⟩
  obtain ⟨S2, hS2⟩ : ∃ S : Nat → List Int, ∀ j, S j = mixL (fun _ => 0) (fun i => lo8 (m.getD i 0)) N j := ⟨_, fun _ => rfl⟩
  have HS1 := Lib.hid hS1
  have HS2 := Lib.hid hS2
  clear hS1 hS2
  cbv
  (repeat' (first | apply And.intro | apply BrB.mk | apply BrP.mk | intro _))
  all_goals try (refine loop_at Nat 47 (fun j => [(12, .any), (47, .v (.int .i64 (c j)))]) (fun j o => (o.set 1 (.irow 35 .i8 (S1 j))).set 4 (.irow 35 .i8 (S2 j))) (fun j => j ≤ N) (fun j => N - j) 0 ?h0 ?hle ?round)
  case h0 => exact Nat.zero_le _
  case hle =>
    cbv
    (repeat' (first | apply And.intro | apply BrB.mk | apply BrP.mk | intro _))
    (all_goals (subst hA; subst h_c; subst h_fR; subst h_fE; subst h_fs; subst h_fY); all_goals (have f_sl := SL.out; have f_sm := SM.out; have f_sa := SA.out; have f_sb := SB.out); all_goals (have hN := least3_eq l.length m.length; have hB := least3_le l.length m.length; rw [← HN.out] at hN hB; obtain ⟨n1, n2, n3⟩ := hB; have ha := tmod64a a; have hb := tmod64a b); all_goals (try simp only [std, stdBin, stdCmp, stdUna, stdIn, ci, beq_iff_eq, bne_iff_ne, beq_eq_false_iff_ne, bne_eq_false_iff_eq, decide_eq_true_eq, decide_eq_false_iff_not, Bool.not_true, Bool.not_false, Bool.not_eq_true', Bool.not_eq_false', Bool.not_not, tn0, tn1, tn2, tn3] at *); all_goals (try simp only [hN, Int.toNat_natCast] at *))
    all_goals first | exact True.intro | rfl | skip
    · rw [HS1.out, mixL_nil]
    · rw [HS2.out, mixL_nil]
  case round =>
    intro j hj
    cbv
    refine BrB.mk (fun gx => ?yx) (fun gx => ?nx)
    case yx =>
      (repeat' (first | apply And.intro | apply BrB.mk | apply BrP.mk | intro _))
      all_goals try (refine ⟨j + 1, ?jI, ?jL, ?jM⟩)
      case jL =>
        cbv
        (repeat' (first | apply And.intro | apply BrB.mk | apply BrP.mk | intro _))
        (all_goals (subst hA; subst h_c; subst h_fR; subst h_fE; subst h_fs; subst h_fY); all_goals (have f_sl := SL.out; have f_sm := SM.out; have f_sa := SA.out; have f_sb := SB.out); all_goals (have hN := least3_eq l.length m.length; have hB := least3_le l.length m.length; rw [← HN.out] at hN hB; obtain ⟨n1, n2, n3⟩ := hB; have ha := tmod64a a; have hb := tmod64a b); all_goals (try simp only [std, stdBin, stdCmp, stdUna, stdIn, ci, beq_iff_eq, bne_iff_ne, beq_eq_false_iff_ne, bne_eq_false_iff_eq, decide_eq_true_eq, decide_eq_false_iff_not, Bool.not_true, Bool.not_false, Bool.not_eq_true', Bool.not_eq_false', Bool.not_not, tn0, tn1, tn2, tn3] at *); all_goals (try simp only [hN, Int.toNat_natCast] at *))
        all_goals first | exact True.intro | rfl | skip
        · rw [HS1.out, HS1.out]; exact mixL_store (by omega) rfl
        · rw [HS2.out, HS2.out]; exact mixL_store (by omega) rfl
      (all_goals (subst hA; subst h_c; subst h_fR; subst h_fE; subst h_fs; subst h_fY); all_goals (have f_sl := SL.out; have f_sm := SM.out; have f_sa := SA.out; have f_sb := SB.out); all_goals (have hN := least3_eq l.length m.length; have hB := least3_le l.length m.length; rw [← HN.out] at hN hB; obtain ⟨n1, n2, n3⟩ := hB; have ha := tmod64a a; have hb := tmod64a b); all_goals (try simp only [std, stdBin, stdCmp, stdUna, stdIn, ci, beq_iff_eq, bne_iff_ne, beq_eq_false_iff_ne, bne_eq_false_iff_eq, decide_eq_true_eq, decide_eq_false_iff_not, Bool.not_true, Bool.not_false, Bool.not_eq_true', Bool.not_eq_false', Bool.not_not, tn0, tn1, tn2, tn3] at *); all_goals (try simp only [hN, Int.toNat_natCast] at *))
      all_goals (try simp only [HS1.out, HS2.out, mixL_len])
      all_goals (try omega)
    case nx =>
      (repeat' (first | apply And.intro | apply BrB.mk | apply BrP.mk | intro _))
      all_goals try (refine loop_at Nat 110 (fun j => [(8, .any), (18, .any), (19, .any), (20, .any), (21, .any), (110, .v (.int .i64 (c j)))]) (fun _ o => o) (fun j => j ≤ N) (fun j => N - j) 0 ?h0 ?hle ?round)
      case h0 => exact Nat.zero_le _
      case hle => (cbv; (repeat' (first | apply And.intro | apply BrB.mk | apply BrP.mk | intro _)); all_goals (subst hA; subst h_c; subst h_fR; subst h_fE; subst h_fs; subst h_fY); all_goals (have f_sl := SL.out; have f_sm := SM.out; have f_sa := SA.out; have f_sb := SB.out); all_goals (try simp only [std, stdBin, stdCmp, stdUna, stdIn, ci, beq_iff_eq, bne_iff_ne, beq_eq_false_iff_ne, bne_eq_false_iff_eq, decide_eq_true_eq, decide_eq_false_iff_not, Bool.not_true, Bool.not_false, Bool.not_eq_true', Bool.not_eq_false', Bool.not_not, tn0, tn1, tn2, tn3] at *); (all_goals first | exact True.intro | rfl | exact congrArg (Value.int .i64) (by omega)))
      case round =>
        intro i hi
        cbv
        (repeat' (first | apply And.intro | apply BrB.mk | apply BrP.mk | intro _))
        all_goals try (refine ⟨i + 1, ?_, ?_, ?_⟩)
        all_goals try (show AS.le _ _; (cbv; (repeat' (first | apply And.intro | apply BrB.mk | apply BrP.mk | intro _)); all_goals (subst hA; subst h_c; subst h_fR; subst h_fE; subst h_fs; subst h_fY); all_goals (have f_sl := SL.out; have f_sm := SM.out; have f_sa := SA.out; have f_sb := SB.out); all_goals (try simp only [std, stdBin, stdCmp, stdUna, stdIn, ci, beq_iff_eq, bne_iff_ne, beq_eq_false_iff_ne, bne_eq_false_iff_eq, decide_eq_true_eq, decide_eq_false_iff_not, Bool.not_true, Bool.not_false, Bool.not_eq_true', Bool.not_eq_false', Bool.not_not, tn0, tn1, tn2, tn3] at *); (all_goals first | exact True.intro | rfl | exact congrArg (Value.int .i64) (by omega))))
        (all_goals (subst hA; subst h_c; subst h_fR; subst h_fE; subst h_fs; subst h_fY); all_goals (have f_sl := SL.out; have f_sm := SM.out; have f_sa := SA.out; have f_sb := SB.out); all_goals (have hN := least3_eq l.length m.length; have hB := least3_le l.length m.length; rw [← HN.out] at hN hB; obtain ⟨n1, n2, n3⟩ := hB; have ha := tmod64a a; have hb := tmod64a b); all_goals (try simp only [std, stdBin, stdCmp, stdUna, stdIn, ci, beq_iff_eq, bne_iff_ne, beq_eq_false_iff_ne, bne_eq_false_iff_eq, decide_eq_true_eq, decide_eq_false_iff_not, Bool.not_true, Bool.not_false, Bool.not_eq_true', Bool.not_eq_false', Bool.not_not, tn0, tn1, tn2, tn3] at *); all_goals (try simp only [hN, Int.toNat_natCast] at *))
        (all_goals (have ej : j = N := (by omega); subst ej; have e1 : S1 j = rowZ l j := (by rw [HS1.out, mixL_all]; rfl); have e2 : S2 j = rowZ m j := (by rw [HS2.out, mixL_all]; rfl)); all_goals (obtain ⟨E1, R1⟩ := rU_rows f_sl.1 f_sm.1 (N := j) (by omega) ha hb; obtain ⟨E2, R2⟩ := rU_rows f_sm.1 f_sl.1 (N := j) (by omega) hb ha; have SM := same_rows l m j (a.tmod 64) (b.tmod 64); (try simp only [e1, e2] at *); (try simp only [E1, E2, R1, R2] at *); (try simp only [SM, List.length_map, List.length_range, rowZ_len] at *)))
        all_goals (try first | exact True.intro | omega | (refine vb ?_; rfl))
        all_goals (have hij : i < j := (by omega); have gi := getD_mapR (f := addAt ⟨[(j : Int)], a.tmod 64, rowZ l j⟩ ⟨[(j : Int)], b.tmod 64, rowZ m j⟩) hij; have ab := addAt_in (a := ⟨[(j : Int)], a.tmod 64, rowZ l j⟩) (b := ⟨[(j : Int)], b.tmod 64, rowZ m j⟩) (rowZ_fits f_sl.1 j) (rowZ_fits f_sm.1 j) i; have ri := rowZ_in f_sl.1 j i; have si := rowZ_in f_sm.1 j i; (try simp only [gi] at *))
        all_goals (try first | exact True.intro | omega)
        all_goals (have hfar : a.tmod 64 - b.tmod 64 ≤ 12 ∧ b.tmod 64 - a.tmod 64 ≤ 12 := (by
          have h9 : (if b.tmod 64 - a.tmod 64 > a.tmod 64 - b.tmod 64 then b.tmod 64 - a.tmod 64 else a.tmod 64 - b.tmod 64) ≤ 12 := by assumption
          split at h9 <;> omega))
        all_goals (have nr := addAt_near f_sl.1 f_sm.1 (N := j) ha hb hfar.1 hfar.2 i; have nx := addX_near hfar.1 hfar.2)
        all_goals (have hmn : (if b.tmod 64 < a.tmod 64 then b.tmod 64 else a.tmod 64) ≤ a.tmod 64 ∧ (if b.tmod 64 < a.tmod 64 then b.tmod 64 else a.tmod 64) ≤ b.tmod 64 ∧ a.tmod 64 - (if b.tmod 64 < a.tmod 64 then b.tmod 64 else a.tmod 64) ≤ 12 ∧ b.tmod 64 - (if b.tmod 64 < a.tmod 64 then b.tmod 64 else a.tmod 64) ≤ 12 := (by split <;> omega))
        all_goals (generalize (if b.tmod 64 < a.tmod 64 then b.tmod 64 else a.tmod 64) = mn at *)
        all_goals (have w1 := wrapU_small (z := a.tmod 64 - mn) (by omega); have w2 := wrapU_small (z := b.tmod 64 - mn) (by omega); have p1 := pow12 (k := a.tmod 64 - mn) (by omega); have p2 := pow12 (k := b.tmod 64 - mn) (by omega); have q1 := mulAbs (a := (rowZ l j).getD i 0) (b := 2 ^ (a.tmod 64 - mn).toNat) (A := 127) (B := 4096) (by omega) (by omega) (by omega) (by omega); have q2 := mulAbs (a := (rowZ m j).getD i 0) (b := 2 ^ (b.tmod 64 - mn).toNat) (A := 127) (B := 4096) (by omega) (by omega) (by omega) (by omega); (try simp only [w1, w2, nr, nx] at *))
        all_goals (first | exact True.intro | omega | contradiction)
      (all_goals (subst hA; subst h_c; subst h_fR; subst h_fE; subst h_fs; subst h_fY); all_goals (have f_sl := SL.out; have f_sm := SM.out; have f_sa := SA.out; have f_sb := SB.out); all_goals (have hN := least3_eq l.length m.length; have hB := least3_le l.length m.length; rw [← HN.out] at hN hB; obtain ⟨n1, n2, n3⟩ := hB; have ha := tmod64a a; have hb := tmod64a b); all_goals (try simp only [std, stdBin, stdCmp, stdUna, stdIn, ci, beq_iff_eq, bne_iff_ne, beq_eq_false_iff_ne, bne_eq_false_iff_eq, decide_eq_true_eq, decide_eq_false_iff_not, Bool.not_true, Bool.not_false, Bool.not_eq_true', Bool.not_eq_false', Bool.not_not, tn0, tn1, tn2, tn3] at *); all_goals (try simp only [hN, Int.toNat_natCast] at *))
      (all_goals (have ej : j = N := (by omega); subst ej; have e1 : S1 j = rowZ l j := (by rw [HS1.out, mixL_all]; rfl); have e2 : S2 j = rowZ m j := (by rw [HS2.out, mixL_all]; rfl)); all_goals (obtain ⟨E1, R1⟩ := rU_rows f_sl.1 f_sm.1 (N := j) (by omega) ha hb; obtain ⟨E2, R2⟩ := rU_rows f_sm.1 f_sl.1 (N := j) (by omega) hb ha; have SM := same_rows l m j (a.tmod 64) (b.tmod 64); (try simp only [e1, e2] at *); (try simp only [E1, E2, R1, R2] at *); (try simp only [SM, List.length_map, List.length_range, rowZ_len] at *)))
      all_goals (first | exact True.intro | omega | contradiction)
  (all_goals (subst hA; subst h_c; subst h_fR; subst h_fE; subst h_fs; subst h_fY); all_goals (have f_sl := SL.out; have f_sm := SM.out; have f_sa := SA.out; have f_sb := SB.out); all_goals (have hN := least3_eq l.length m.length; have hB := least3_le l.length m.length; rw [← HN.out] at hN hB; obtain ⟨n1, n2, n3⟩ := hB; have ha := tmod64a a; have hb := tmod64a b); all_goals (try simp only [std, stdBin, stdCmp, stdUna, stdIn, ci, beq_iff_eq, bne_iff_ne, beq_eq_false_iff_ne, bne_eq_false_iff_eq, decide_eq_true_eq, decide_eq_false_iff_not, Bool.not_true, Bool.not_false, Bool.not_eq_true', Bool.not_eq_false', Bool.not_not, tn0, tn1, tn2, tn3] at *); all_goals (try simp only [hN, Int.toNat_natCast] at *))
  all_goals (first | exact True.intro | omega | contradiction | (refine vb ?_; rfl))
end Go.Proofs.Ythclcnidbnbkcaa
