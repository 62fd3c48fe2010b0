/- Contracts of chance below a number, and of an order by chance. -/
import Derived.Test.YtmlfiphpcjkadaaResU
import Derived.Test.YtmlfiphpcjkadaaPrng
namespace Go.Proofs.Ytmlfiphpcjkadaa
open Go.RowKit
set_option maxRecDepth 100000
set_option linter.unusedSimpArgs false
set_option linter.unusedVariables false
set_option maxHeartbeats 4000000
def swapL (l : List Int) (i j : Nat) : List Int := (l.set i (l.getD j 0)).set j (l.getD i 0)
theorem swapL_len (l : List Int) (i j : Nat) : (swapL l i j).length = l.length := by simp [swapL]
/-- The exchanges of the page, from the ith place down to the first. -/
def permDown (a b : BitVec 64) : Nat → List Int → List Int
  | 0, l => l
  | i + 1, l => permDown a b i (swapL l (i + 1) (belowB a b (BitVec.ofInt 64 ((i : Int) + 1)) ((i : Int) + 1 + 1)).toNat)
def iota (n : Nat) : List Int := (List.range n).map (fun (x : Nat) => (x : Int))
def permL (a b : BitVec 64) (n : Nat) : List Int := permDown a b (n - 1) (iota n)
theorem getD_set (l : List Int) (i j : Nat) (x : Int) (h : i < l.length) : (l.set i x).getD j 0 = if i = j then x else l.getD j 0 := by
  rw [List.getD_eq_getElem?_getD, List.getElem?_set, List.getD_eq_getElem?_getD]
  by_cases e : i = j
  · rw [if_pos e, if_pos h, if_pos e]; rfl
  · rw [if_neg e, if_neg e]
theorem permDown_len (a b : BitVec 64) (i : Nat) (l : List Int) : (permDown a b i l).length = l.length := by
  induction i generalizing l with
  | zero => rfl
  | succ i ih => rw [permDown, ih, swapL_len]
theorem iota_len (k : Nat) : (iota k).length = k := by simp [iota]
theorem permL_len (a b : BitVec 64) (n : Nat) : (permL a b n).length = n := by unfold permL; rw [permDown_len, iota_len]
def permZ (a b : BitVec 64) (n : Int) : List Int := if n < 1 ∨ 65536 < n then [] else permL a b n.toNat
theorem permZ_len (a b : BitVec 64) (n : Int) : (permZ a b n).length ≤ 65536 := by
  unfold permZ
  split
  · simp
  · rw [permL_len]; omega
theorem permZ_eq (a b : BitVec 64) {n : Int} (h : 1 ≤ n) (h2 : n ≤ 65536) : (permZ a b n).length = n.toNat := by
  unfold permZ
  rw [if_neg (by omega), permL_len]
theorem swapL_getD (l : List Int) (i j k : Nat) (hi : i < l.length) (hj : j < l.length) :
    (swapL l i j).getD k 0 = l.getD (if k = j then i else if k = i then j else k) 0 := by
  unfold swapL
  by_cases h1 : j = k
  · subst h1
    rw [getD_set _ _ _ _ (by simpa using hj), if_pos rfl, if_pos rfl]
  · rw [getD_set _ _ _ _ (by simpa using hj), if_neg h1, if_neg (fun e => h1 e.symm)]
    by_cases h2 : i = k
    · subst h2; rw [getD_set _ _ _ _ hi, if_pos rfl, if_pos rfl]
    · rw [getD_set _ _ _ _ hi, if_neg h2, if_neg (fun e => h2 e.symm)]
/-- 0 to n - 1, each once. -/
def Each (n : Nat) (l : List Int) : Prop := l.length = n ∧ (∀ i, i < n → 0 ≤ l.getD i 0 ∧ l.getD i 0 < n) ∧ ∀ i j, i < n → j < n → l.getD i 0 = l.getD j 0 → i = j
theorem iota_get (n i : Nat) (h : i < n) : (iota n).getD i 0 = (i : Int) := by
  rw [List.getD_eq_getElem?_getD, List.getElem?_eq_getElem (by rw [iota_len]; exact h)]
  simp [iota]
theorem each_iota (n : Nat) : Each n (iota n) := by
  refine ⟨iota_len n, fun i hi => ?_, fun i j hi hj e => ?_⟩
  · rw [iota_get n i hi]; omega
  · rw [iota_get n i hi, iota_get n j hj] at e; omega
theorem each_swap (n : Nat) (l : List Int) (i j : Nat) (hi : i < n) (hj : j < n) (h : Each n l) : Each n (swapL l i j) := by
  obtain ⟨h1, h2, h3⟩ := h
  refine ⟨by rw [swapL_len, h1], fun k hk => ?_, fun k m hk hm e => ?_⟩
  · rw [swapL_getD _ _ _ _ (by omega) (by omega)]
    exact h2 _ (by split <;> (try split) <;> omega)
  · rw [swapL_getD _ _ _ _ (by omega) (by omega), swapL_getD _ _ _ _ (by omega) (by omega)] at e
    have := h3 _ _ (by split <;> (try split) <;> omega) (by split <;> (try split) <;> omega) e
    by_cases a1 : k = j <;> by_cases a2 : m = j <;> by_cases a3 : k = i <;> by_cases a4 : m = i <;> simp_all
theorem belowJ (a b : BitVec 64) (i : Nat) (hi : i < 65536) : 0 ≤ belowB a b (BitVec.ofInt 64 ((i : Int) + 1)) ((i : Int) + 1 + 1) ∧ (belowB a b (BitVec.ofInt 64 ((i : Int) + 1)) ((i : Int) + 1 + 1)).toNat < i + 2 := by
  have := belowB_lo a b (BitVec.ofInt 64 ((i : Int) + 1)) ((i : Int) + 1 + 1) (by omega) (by omega)
  omega
theorem each_down (a b : BitVec 64) (n i : Nat) (l : List Int) (hi : i < n) (hn : n ≤ 65536) (h : Each n l) : Each n (permDown a b i l) := by
  induction i generalizing l with
  | zero => exact h
  | succ i ih =>
    rw [permDown]
    have := belowJ a b i (by omega)
    exact ih _ (by omega) (each_swap n l _ _ hi (by omega) h)
theorem each_perm (a b : BitVec 64) (n : Nat) (hn : n ≤ 65536) : Each n (permZ a b n) := by
  unfold permZ
  by_cases h : n = 0
  · subst h; exact ⟨rfl, by intro i hi; omega, by intro i j hi; omega⟩
  · rw [if_neg (by omega), Int.toNat_natCast]
    exact each_down a b n (n - 1) _ (by omega) hn (each_iota n)
/-- The exchanges from place n - 1 down, k of them. -/
def dn (a b : BitVec 64) (n : Nat) : Nat → List Int
  | 0 => iota n
  | k + 1 => swapL (dn a b n k) (n - 1 - k) (belowB a b (BitVec.ofInt 64 ((n - 1 - k : Nat) : Int)) (((n - 1 - k : Nat) : Int) + 1)).toNat
theorem dn_len (a b : BitVec 64) (n : Nat) : ∀ k, (dn a b n k).length = n
  | 0 => iota_len n
  | k + 1 => by rw [dn, swapL_len, dn_len a b n k]
theorem dn_down (a b : BitVec 64) (n : Nat) : ∀ k, k ≤ n - 1 → permDown a b (n - 1 - k) (dn a b n k) = permL a b n
  | 0, _ => rfl
  | k + 1, h => by
    rw [← dn_down a b n k (by omega)]
    rw [show n - 1 - k = (n - 1 - (k + 1)) + 1 by omega, permDown, dn, show n - 1 - k = (n - 1 - (k + 1)) + 1 by omega]
    rfl
theorem dn_all (a b : BitVec 64) (n : Nat) : dn a b n (n - 1) = permL a b n := by
  have := dn_down a b n (n - 1) (Nat.le_refl _)
  rwa [Nat.sub_self] at this
def pbv (z : Int) : BitVec 64 := BitVec.ofInt 64 z
theorem u64_pbv {z : Int} (h : (Lit.int .u64 z).wf = true) : u64 (pbv z) = .int .u64 z := by
  have := (stdIn_iff .u64 z).2 h
  simp only [stdIn] at this
  rw [u64, pbv, N_of z this.1 this.2]
def blwF (xa : List AV) : Int := match xa with
  | [.z a, .z b, .z i, .z n] => belowB (pbv a) (pbv b) (pbv i) n
  | _ => 0
theorem belowB_in (a b c : BitVec 64) (n : Int) : 0 ≤ belowB a b c n ∧ belowB a b c n ≤ 2147483648 := by
  by_cases h : n < 1 ∨ 2147483648 < n
  · unfold belowB; rw [if_pos h]; omega
  · have := belowB_lo a b c n (by omega) (by omega)
    omega
theorem blw_ok : CtrOk Try.prog 77 (intC [.int .u64, .int .u64, .int .u64, .int .i64] .i64 blwF) := by
  intro xa w g vs ha _ hp
  obtain ⟨a1, as1, v1, vs1, rfl, rfl, h1, h⟩ := args_cons ha
  obtain ⟨a2, as2, v2, vs2, rfl, rfl, h2, h⟩ := args_cons h
  obtain ⟨a3, as3, v3, vs3, rfl, rfl, h3, h⟩ := args_cons h
  obtain ⟨a4, as4, v4, vs4, rfl, rfl, h4, h⟩ := args_cons h
  obtain ⟨rfl, rfl⟩ := args_nil h
  obtain ⟨x, rfl, rfl, q1⟩ := of_arg_int h1
  obtain ⟨y, rfl, rfl, q2⟩ := of_arg_int h2
  obtain ⟨z, rfl, rfl, q3⟩ := of_arg_int h3
  obtain ⟨n, rfl, rfl, q4⟩ := of_arg_int h4
  have hb := below_any (pbv x) (pbv y) (pbv z) n w
  rw [u64_pbv q1, u64_pbv q2, u64_pbv q3] at hb
  refine hb.mono fun e w' ⟨he, hw⟩ => ⟨_, he, ?_⟩
  subst hw
  have := belowB_in (pbv x) (pbv y) (pbv z) n
  exact gv_val (v := .int .i64 (belowB (pbv x) (pbv y) (pbv z) n)) (WalkArith.wf_i64 (by omega)) (Below.refl _ _)
theorem rblw_ok : CtrOk Try.prog 78 (intC [.int .u64, .int .u64, .int .u64, .int .i64] .i64 blwF) := by
  intro xa w g vs ha _ hp
  obtain ⟨a1, as1, v1, vs1, rfl, rfl, h1, h⟩ := args_cons ha
  obtain ⟨a2, as2, v2, vs2, rfl, rfl, h2, h⟩ := args_cons h
  obtain ⟨a3, as3, v3, vs3, rfl, rfl, h3, h⟩ := args_cons h
  obtain ⟨a4, as4, v4, vs4, rfl, rfl, h4, h⟩ := args_cons h
  obtain ⟨rfl, rfl⟩ := args_nil h
  obtain ⟨x, rfl, rfl, q1⟩ := of_arg_int h1
  obtain ⟨y, rfl, rfl, q2⟩ := of_arg_int h2
  obtain ⟨z, rfl, rfl, q3⟩ := of_arg_int h3
  obtain ⟨n, rfl, rfl, q4⟩ := of_arg_int h4
  have hb := rbelow_any (pbv x) (pbv y) (pbv z) n w
  rw [u64_pbv q1, u64_pbv q2, u64_pbv q3] at hb
  refine hb.mono fun e w' ⟨he, hw⟩ => ⟨_, he, ?_⟩
  subst hw
  have := belowB_in (pbv x) (pbv y) (pbv z) n
  exact gv_val (v := .int .i64 (belowB (pbv x) (pbv y) (pbv z) n)) (WalkArith.wf_i64 (by omega)) (Below.refl _ _)
theorem iota_succ (j : Nat) : iota (j + 1) = iota j ++ [(j : Int)] := by simp [iota, List.range_succ]
theorem wu64 {z : Int} (h : 0 ≤ z) (h2 : z ≤ 18446744073709551615) : IntKind.u64.wrap z = z := wrap_wf ((stdIn_iff .u64 z).1 ⟨h, h2⟩)
def permF (xa : List AV) : List Int := match xa with
  | [.z a, .z b, .z n] => permZ (pbv a) (pbv b) n
  | _ => []
theorem perm_ok : CtrOk Try.prog 62 (rowC [.int .u64, .int .u64, .int .i64] 3 .i64 permF) := by
  obtain ⟨G, hG⟩ : ∃ G : List (FuncId × Ctr), G = [(77, intC [.int .u64, .int .u64, .int .u64, .int .i64] .i64 blwF)] := ⟨_, rfl⟩
  refine fn_ok (ck := true) Try.func62 rfl tt_ok (G := G) (by rw [hG]; exact ⟨⟨blw_ok, by unfold FnOk; kernel_rfl⟩, trivial⟩) mixed (by kernel_rfl) ?_
  intro xa xs h hx hp
  obtain ⟨a0, as0, x0, xs0, rfl, rfl, h0, H1⟩ := svArgs_cons h
  obtain ⟨a1, as1, x1, xs1, rfl, rfl, h1, H2⟩ := svArgs_cons H1
  obtain ⟨a2, as2, x2, xs2, rfl, rfl, h2, H3⟩ := svArgs_cons H2
  obtain ⟨rfl, rfl⟩ := svArgs_nil H3
  obtain ⟨a, rfl, rfl⟩ := argSV_int h0
  obtain ⟨b, rfl, rfl⟩ := argSV_int h1
  obtain ⟨n, rfl, rfl⟩ := argSV_int h2
  have sa : (Lit.int .u64 a).wf = true := (hx (.v (.int .u64 a)) (by simp))
  have sb : (Lit.int .u64 b).wf = true := (hx (.v (.int .u64 b)) (by simp))
  have sn := of_i64 (hx (.v (.int .i64 n)) (by simp))
  have SA := Lib.hid sa
  clear sa
  have SB := Lib.hid sb
  clear sb
  have SN := Lib.hid sn
  clear sn
  clear hx hp h h0 H1 h1 H2 h2 H3
  generalize hA : std = A
  subst hG
  generalize h_c : ci = c
  generalize h_fb : blwF = fb
  generalize h_fR : permF = fR
  obtain ⟨S, hS⟩ : ∃ S : Nat → List Int, ∀ j, S j = mixL (fun _ => 0) (fun i => (i : Int)) n.toNat j := ⟨_, fun _ => rfl⟩
  obtain ⟨D, hD⟩ : ∃ D : Nat → List Int, ∀ j, D j = dn (pbv a) (pbv b) n.toNat j := ⟨_, fun _ => rfl⟩
  obtain ⟨T, hT⟩ : ∃ T : Nat → Int, ∀ k, T k = n - 1 - ci k := ⟨_, fun _ => rfl⟩
  have HS := Lib.hid hS
  have HD := Lib.hid hD
  have HT := Lib.hid hT
  clear hS hD hT
  cbv
  (repeat' (first | apply And.intro | apply BrB.mk | apply BrP.mk | intro _))
  (all_goals try (exfalso; (subst hA; subst h_c; subst h_fb; subst h_fR); (try simp only [std, stdBin, stdCmp, stdUna, stdIn, ci, beq_iff_eq, bne_iff_ne, beq_eq_false_iff_ne, bne_eq_false_iff_eq, decide_eq_true_eq, decide_eq_false_iff_not, Bool.not_true, Bool.not_false, Bool.not_eq_true', Bool.not_eq_false', Bool.not_not, tn0, tn1, tn2, tn3] at *); first | omega | contradiction))
  all_goals try (refine loop_at Nat 21 (fun j => [(8, .any), (21, .v (.int .i64 (c j)))]) (fun j o => o.set 0 (.irow 3 .i64 (S j))) (fun j => j ≤ n.toNat) (fun j => n.toNat - j) 0 (Nat.zero_le _) ?hle ?round)
  case hle =>
    cbv
    (repeat' (first | apply And.intro | apply BrB.mk | apply BrP.mk | intro _))
    (all_goals (subst hA; subst h_c; subst h_fb; subst h_fR); all_goals (have f_sa := SA.out; have f_sb := SB.out; have f_sn := SN.out); all_goals (try simp only [std, stdBin, stdCmp, stdUna, stdIn, ci, beq_iff_eq, bne_iff_ne, beq_eq_false_iff_ne, bne_eq_false_iff_eq, decide_eq_true_eq, decide_eq_false_iff_not, Bool.not_true, Bool.not_false, Bool.not_eq_true', Bool.not_eq_false', Bool.not_not, tn0, tn1, tn2, tn3] at *); all_goals (try omega))
    all_goals first | exact True.intro | rfl | skip
    rw [HS.out, mixL_nil]
  case round =>
    intro j hj
    cbv
    refine BrB.mk (fun gx => ?yx) (fun gx => ?nx)
    case yx =>
      (repeat' (first | apply And.intro | apply BrB.mk | apply BrP.mk | intro _))
      all_goals try (refine ⟨j + 1, ?jI, ?jL, ?jM⟩)
      case jL =>
        cbv
        (repeat' (first | apply And.intro | apply BrB.mk | apply BrP.mk | intro _))
        (all_goals (subst hA; subst h_c; subst h_fb; subst h_fR); all_goals (have f_sa := SA.out; have f_sb := SB.out; have f_sn := SN.out); all_goals (try simp only [std, stdBin, stdCmp, stdUna, stdIn, ci, beq_iff_eq, bne_iff_ne, beq_eq_false_iff_ne, bne_eq_false_iff_eq, decide_eq_true_eq, decide_eq_false_iff_not, Bool.not_true, Bool.not_false, Bool.not_eq_true', Bool.not_eq_false', Bool.not_not, tn0, tn1, tn2, tn3, Int.toNat_natCast, List.length_replicate] at *); all_goals (try omega))
        all_goals first | exact True.intro | rfl | skip
        rw [HS.out, HS.out]
        exact mixL_store (by omega) rfl
      (all_goals (subst hA; subst h_c; subst h_fb; subst h_fR); all_goals (have f_sa := SA.out; have f_sb := SB.out; have f_sn := SN.out); all_goals (try simp only [std, stdBin, stdCmp, stdUna, stdIn, ci, beq_iff_eq, bne_iff_ne, beq_eq_false_iff_ne, bne_eq_false_iff_eq, decide_eq_true_eq, decide_eq_false_iff_not, Bool.not_true, Bool.not_false, Bool.not_eq_true', Bool.not_eq_false', Bool.not_not, tn0, tn1, tn2, tn3, Int.toNat_natCast, List.length_replicate] at *); all_goals (try omega))
      all_goals (rw [HS.out, mixL_len]; omega)
    case nx =>
      refine ⟨?q, loop_at Nat 31 (fun k => [(9, .v (.int .i64 (T k))), (10, .any)]) (fun k o => o.set 0 (.irow 3 .i64 (D k))) (fun k => k ≤ n.toNat - 1) (fun k => n.toNat - k) 0 (Nat.zero_le _) ?hle ?round⟩
      case q => ((all_goals (subst hA; subst h_c; subst h_fb; subst h_fR); all_goals (have f_sa := SA.out; have f_sb := SB.out; have f_sn := SN.out); all_goals (try simp only [std, stdBin, stdCmp, stdUna, stdIn, ci, beq_iff_eq, bne_iff_ne, beq_eq_false_iff_ne, bne_eq_false_iff_eq, decide_eq_true_eq, decide_eq_false_iff_not, Bool.not_true, Bool.not_false, Bool.not_eq_true', Bool.not_eq_false', Bool.not_not, tn0, tn1, tn2, tn3] at *); all_goals (try omega)))
      case hle =>
        cbv
        (repeat' (first | apply And.intro | apply BrB.mk | apply BrP.mk | intro _))
        (all_goals (subst hA; subst h_c; subst h_fb; subst h_fR); all_goals (have f_sa := SA.out; have f_sb := SB.out; have f_sn := SN.out); all_goals (try simp only [std, stdBin, stdCmp, stdUna, stdIn, ci, beq_iff_eq, bne_iff_ne, beq_eq_false_iff_ne, bne_eq_false_iff_eq, decide_eq_true_eq, decide_eq_false_iff_not, Bool.not_true, Bool.not_false, Bool.not_eq_true', Bool.not_eq_false', Bool.not_not, tn0, tn1, tn2, tn3] at *); all_goals (try omega))
        all_goals first | exact True.intro | rfl | skip
        · rw [show T 0 = n - 1 - ((0 : Nat) : Int) from HT.out 0]; exact congrArg _ (by omega)
        · rw [HS.out, HD.out, show j = n.toNat by (simp only [List.length_replicate] at *; omega), mixL_all]; rfl
      case round =>
        intro k hk
        cbv
        refine BrB.mk (fun gy => ?yy) (fun gy => ?ny)
        case yy =>
          have e1 : n - 1 - (k : Int) = ((n.toNat - 1 - k : Nat) : Int) ∧ 1 ≤ n.toNat - 1 - k := by
            have h9 : T k = n - 1 - (k : Int) := HT.out k
            (subst hA; subst h_c; subst h_fb; subst h_fR)
            simp only [std, stdBin, stdCmp, stdUna, stdIn, ci, beq_iff_eq, bne_iff_ne, beq_eq_false_iff_ne, bne_eq_false_iff_eq, decide_eq_true_eq, decide_eq_false_iff_not, Bool.not_true, Bool.not_false, Bool.not_eq_true', Bool.not_eq_false', Bool.not_not, tn0, tn1, tn2, tn3] at *
            rw [h9] at gy
            omega
          have E1 : RowKit.Hid (n - 1 - ci k = ci (n.toNat - 1 - k) ∧ 1 ≤ n.toNat - 1 - k) := Lib.hid e1
          clear e1
          (repeat' (first | apply And.intro | apply BrB.mk | apply BrP.mk | intro _))
          all_goals try (refine ⟨k + 1, ?kI, ?kL, ?kM⟩)
          case kL =>
            cbv
            (repeat' (first | apply And.intro | apply BrB.mk | apply BrP.mk | intro _))
            (all_goals (subst hA; subst h_c; subst h_fb; subst h_fR); all_goals (have f_sa := SA.out; have f_sb := SB.out; have f_sn := SN.out); all_goals (try simp only [std, stdBin, stdCmp, stdUna, stdIn, ci, beq_iff_eq, bne_iff_ne, beq_eq_false_iff_ne, bne_eq_false_iff_eq, decide_eq_true_eq, decide_eq_false_iff_not, Bool.not_true, Bool.not_false, Bool.not_eq_true', Bool.not_eq_false', Bool.not_not, tn0, tn1, tn2, tn3, blwF, Int.toNat_natCast] at *); all_goals (try omega))
            all_goals first | exact True.intro | rfl | skip
            · rw [show T k = n - 1 - (k : Int) from HT.out k, show T (k + 1) = n - 1 - ((k + 1 : Nat) : Int) from HT.out (k + 1)]; exact congrArg _ (by omega)
            · have e1 : n - 1 - (k : Int) = ((n.toNat - 1 - k : Nat) : Int) := E1.out.1
              have e0 := E1.out.2
              rw [show T k = n - 1 - (k : Int) from HT.out k, HD.out, HD.out, e1, wu64 (by omega) (by omega), Int.toNat_natCast]
              rfl
          (all_goals (subst hA; subst h_c; subst h_fb; subst h_fR); all_goals (have f_sa := SA.out; have f_sb := SB.out; have f_sn := SN.out); all_goals (try simp only [std, stdBin, stdCmp, stdUna, stdIn, ci, beq_iff_eq, bne_iff_ne, beq_eq_false_iff_ne, bne_eq_false_iff_eq, decide_eq_true_eq, decide_eq_false_iff_not, Bool.not_true, Bool.not_false, Bool.not_eq_true', Bool.not_eq_false', Bool.not_not, tn0, tn1, tn2, tn3, blwF, Int.toNat_natCast] at *); all_goals (try omega))
          all_goals (have e1 : n - 1 - (k : Int) = ((n.toNat - 1 - k : Nat) : Int) := E1.out.1; have e0 := E1.out.2; have e2 : T k = n - 1 - (k : Int) := HT.out k; rw [e1] at e2; have e3 := belowB_lo (pbv a) (pbv b) (pbv ((n.toNat - 1 - k : Nat) : Int)) (((n.toNat - 1 - k : Nat) : Int) + 1) (by omega) (by omega))
          all_goals (try simp only [e2, wu64 (show (0 : Int) ≤ ((n.toNat - 1 - k : Nat) : Int) by omega) (show ((n.toNat - 1 - k : Nat) : Int) ≤ 18446744073709551615 by omega), HD.out, dn_len, List.length_set] at *)
          all_goals (try omega)
        case ny =>
          (repeat' (first | apply And.intro | apply BrB.mk | apply BrP.mk | intro _))
          (all_goals (subst hA; subst h_c; subst h_fb; subst h_fR); all_goals (have f_sa := SA.out; have f_sb := SB.out; have f_sn := SN.out); all_goals (try simp only [std, stdBin, stdCmp, stdUna, stdIn, ci, beq_iff_eq, bne_iff_ne, beq_eq_false_iff_ne, bne_eq_false_iff_eq, decide_eq_true_eq, decide_eq_false_iff_not, Bool.not_true, Bool.not_false, Bool.not_eq_true', Bool.not_eq_false', Bool.not_not, tn0, tn1, tn2, tn3, permF] at *); all_goals (try omega))
          have e2 : T k = n - 1 - (k : Int) := HT.out k
          rw [e2] at gy
          rw [HD.out, show k = n.toNat - 1 by omega, dn_all]
          unfold permZ
          rw [if_neg (by omega)]
  (all_goals (subst hA; subst h_c; subst h_fb; subst h_fR); all_goals (have f_sa := SA.out; have f_sb := SB.out; have f_sn := SN.out); all_goals (try simp only [std, stdBin, stdCmp, stdUna, stdIn, ci, beq_iff_eq, bne_iff_ne, beq_eq_false_iff_ne, bne_eq_false_iff_eq, decide_eq_true_eq, decide_eq_false_iff_not, Bool.not_true, Bool.not_false, Bool.not_eq_true', Bool.not_eq_false', Bool.not_not, tn0, tn1, tn2, tn3, permF] at *); all_goals (try omega))
  all_goals (unfold permZ; rw [if_pos (by omega)])
theorem rperm_ok : CtrOk Try.prog 65 (rowC [.int .u64, .int .u64, .int .i64] 3 .i64 permF) := by
  obtain ⟨G, hG⟩ : ∃ G : List (FuncId × Ctr), G = [(78, intC [.int .u64, .int .u64, .int .u64, .int .i64] .i64 blwF)] := ⟨_, rfl⟩
  refine fn_ok (ck := true) Try.func65 rfl tt_ok (G := G) (by rw [hG]; exact ⟨⟨rblw_ok, by unfold FnOk; kernel_rfl⟩, trivial⟩) mixed (by kernel_rfl) ?_
  intro xa xs h hx hp
  obtain ⟨a0, as0, x0, xs0, rfl, rfl, h0, H1⟩ := svArgs_cons h
  obtain ⟨a1, as1, x1, xs1, rfl, rfl, h1, H2⟩ := svArgs_cons H1
  obtain ⟨a2, as2, x2, xs2, rfl, rfl, h2, H3⟩ := svArgs_cons H2
  obtain ⟨rfl, rfl⟩ := svArgs_nil H3
  obtain ⟨a, rfl, rfl⟩ := argSV_int h0
  obtain ⟨b, rfl, rfl⟩ := argSV_int h1
  obtain ⟨n, rfl, rfl⟩ := argSV_int h2
  have sa : (Lit.int .u64 a).wf = true := (hx (.v (.int .u64 a)) (by simp))
  have sb : (Lit.int .u64 b).wf = true := (hx (.v (.int .u64 b)) (by simp))
  have sn := of_i64 (hx (.v (.int .i64 n)) (by simp))
  have SA := Lib.hid sa
  clear sa
  have SB := Lib.hid sb
  clear sb
  have SN := Lib.hid sn
  clear sn
  clear hx hp h h0 H1 h1 H2 h2 H3
  generalize hA : std = A
  subst hG
  generalize h_c : ci = c
  generalize h_fb : blwF = fb
  generalize h_fR : permF = fR
  obtain ⟨S, hS⟩ : ∃ S : Nat → List Int, ∀ j, S j = iota j := ⟨_, fun _ => rfl⟩
  obtain ⟨D, hD⟩ : ∃ D : Nat → List Int, ∀ j, D j = dn (pbv a) (pbv b) n.toNat j := ⟨_, fun _ => rfl⟩
  obtain ⟨T, hT⟩ : ∃ T : Nat → Int, ∀ k, T k = n - 1 - ci k := ⟨_, fun _ => rfl⟩
  have HS := Lib.hid hS
  have HD := Lib.hid hD
  have HT := Lib.hid hT
  clear hS hD hT
  cbv
  (repeat' (first | apply And.intro | apply BrB.mk | apply BrP.mk | intro _))
  (all_goals try (exfalso; (subst hA; subst h_c; subst h_fb; subst h_fR); (try simp only [std, stdBin, stdCmp, stdUna, stdIn, ci, beq_iff_eq, bne_iff_ne, beq_eq_false_iff_ne, bne_eq_false_iff_eq, decide_eq_true_eq, decide_eq_false_iff_not, Bool.not_true, Bool.not_false, Bool.not_eq_true', Bool.not_eq_false', Bool.not_not, tn0, tn1, tn2, tn3] at *); first | omega | contradiction))
  all_goals try (refine loop_nil [.slot 7 3 .i64] Nat 18 (fun j => [(7, .hdl 0), (8, .any), (18, .v (.int .i64 (c j)))]) (fun j o => o.set 0 (.irow 3 .i64 (S j))) (fun j => j ≤ n.toNat) (fun j => n.toNat - j) 0 (Nat.zero_le _) ?hle ?round)
  case hle =>
    cbv
    (repeat' (first | apply And.intro | apply BrB.mk | apply BrP.mk | intro _))
    (all_goals (subst hA; subst h_c; subst h_fb; subst h_fR); all_goals (have f_sa := SA.out; have f_sb := SB.out; have f_sn := SN.out); all_goals (try simp only [std, stdBin, stdCmp, stdUna, stdIn, ci, beq_iff_eq, bne_iff_ne, beq_eq_false_iff_ne, bne_eq_false_iff_eq, decide_eq_true_eq, decide_eq_false_iff_not, Bool.not_true, Bool.not_false, Bool.not_eq_true', Bool.not_eq_false', Bool.not_not, tn0, tn1, tn2, tn3] at *); all_goals (try omega))
    all_goals first | exact True.intro | rfl | (rw [HS.out]; rfl)
  case round =>
    intro j hj
    cbv
    refine BrB.mk (fun gx => ?yx) (fun gx => ?nx)
    case yx =>
      (repeat' (first | apply And.intro | apply BrB.mk | apply BrP.mk | intro _))
      all_goals try (refine ⟨j + 1, ?jI, ?jL, ?jM⟩)
      case jL =>
        cbv
        (repeat' (first | apply And.intro | apply BrB.mk | apply BrP.mk | intro _))
        (all_goals (subst hA; subst h_c; subst h_fb; subst h_fR); all_goals (have f_sa := SA.out; have f_sb := SB.out; have f_sn := SN.out); all_goals (try simp only [std, stdBin, stdCmp, stdUna, stdIn, ci, beq_iff_eq, bne_iff_ne, beq_eq_false_iff_ne, bne_eq_false_iff_eq, decide_eq_true_eq, decide_eq_false_iff_not, Bool.not_true, Bool.not_false, Bool.not_eq_true', Bool.not_eq_false', Bool.not_not, tn0, tn1, tn2, tn3, Int.toNat_natCast] at *); all_goals (try omega))
        all_goals first | exact True.intro | rfl | skip
        rw [HS.out, HS.out]
        exact (iota_succ j).symm
      (all_goals (subst hA; subst h_c; subst h_fb; subst h_fR); all_goals (have f_sa := SA.out; have f_sb := SB.out; have f_sn := SN.out); all_goals (try simp only [std, stdBin, stdCmp, stdUna, stdIn, ci, beq_iff_eq, bne_iff_ne, beq_eq_false_iff_ne, bne_eq_false_iff_eq, decide_eq_true_eq, decide_eq_false_iff_not, Bool.not_true, Bool.not_false, Bool.not_eq_true', Bool.not_eq_false', Bool.not_not, tn0, tn1, tn2, tn3, Int.toNat_natCast] at *); all_goals (try omega))
      rw [HS.out, iota_len]
      simp only [List.length_cons, List.length_nil]
      omega
    case nx =>
      refine ⟨?q, loop_at Nat 28 (fun k => [(9, .v (.int .i64 (T k))), (10, .any)]) (fun k o => o.set 0 (.irow 3 .i64 (D k))) (fun k => k ≤ n.toNat - 1) (fun k => n.toNat - k) 0 (Nat.zero_le _) ?hle ?round⟩
      case q => ((all_goals (subst hA; subst h_c; subst h_fb; subst h_fR); all_goals (have f_sa := SA.out; have f_sb := SB.out; have f_sn := SN.out); all_goals (try simp only [std, stdBin, stdCmp, stdUna, stdIn, ci, beq_iff_eq, bne_iff_ne, beq_eq_false_iff_ne, bne_eq_false_iff_eq, decide_eq_true_eq, decide_eq_false_iff_not, Bool.not_true, Bool.not_false, Bool.not_eq_true', Bool.not_eq_false', Bool.not_not, tn0, tn1, tn2, tn3] at *); all_goals (try omega)))
      case hle =>
        cbv
        (repeat' (first | apply And.intro | apply BrB.mk | apply BrP.mk | intro _))
        (all_goals (subst hA; subst h_c; subst h_fb; subst h_fR); all_goals (have f_sa := SA.out; have f_sb := SB.out; have f_sn := SN.out); all_goals (try simp only [std, stdBin, stdCmp, stdUna, stdIn, ci, beq_iff_eq, bne_iff_ne, beq_eq_false_iff_ne, bne_eq_false_iff_eq, decide_eq_true_eq, decide_eq_false_iff_not, Bool.not_true, Bool.not_false, Bool.not_eq_true', Bool.not_eq_false', Bool.not_not, tn0, tn1, tn2, tn3] at *); all_goals (try omega))
        all_goals first | exact True.intro | rfl | skip
        · rw [show T 0 = n - 1 - ((0 : Nat) : Int) from HT.out 0]; exact congrArg _ (by omega)
        · rw [HS.out, HD.out, show j = n.toNat by omega]; rfl
      case round =>
        intro k hk
        cbv
        refine BrB.mk (fun gy => ?yy) (fun gy => ?ny)
        case yy =>
          have e1 : n - 1 - (k : Int) = ((n.toNat - 1 - k : Nat) : Int) ∧ 1 ≤ n.toNat - 1 - k := by
            have h9 : T k = n - 1 - (k : Int) := HT.out k
            (subst hA; subst h_c; subst h_fb; subst h_fR)
            simp only [std, stdBin, stdCmp, stdUna, stdIn, ci, beq_iff_eq, bne_iff_ne, beq_eq_false_iff_ne, bne_eq_false_iff_eq, decide_eq_true_eq, decide_eq_false_iff_not, Bool.not_true, Bool.not_false, Bool.not_eq_true', Bool.not_eq_false', Bool.not_not, tn0, tn1, tn2, tn3] at *
            rw [h9] at gy
            omega
          have E1 : RowKit.Hid (n - 1 - ci k = ci (n.toNat - 1 - k) ∧ 1 ≤ n.toNat - 1 - k) := Lib.hid e1
          clear e1
          (repeat' (first | apply And.intro | apply BrB.mk | apply BrP.mk | intro _))
          all_goals try (refine ⟨k + 1, ?kI, ?kL, ?kM⟩)
          case kL =>
            cbv
            (repeat' (first | apply And.intro | apply BrB.mk | apply BrP.mk | intro _))
            (all_goals (subst hA; subst h_c; subst h_fb; subst h_fR); all_goals (have f_sa := SA.out; have f_sb := SB.out; have f_sn := SN.out); all_goals (try simp only [std, stdBin, stdCmp, stdUna, stdIn, ci, beq_iff_eq, bne_iff_ne, beq_eq_false_iff_ne, bne_eq_false_iff_eq, decide_eq_true_eq, decide_eq_false_iff_not, Bool.not_true, Bool.not_false, Bool.not_eq_true', Bool.not_eq_false', Bool.not_not, tn0, tn1, tn2, tn3, blwF, Int.toNat_natCast] at *); all_goals (try omega))
            all_goals first | exact True.intro | rfl | skip
            · rw [show T k = n - 1 - (k : Int) from HT.out k, show T (k + 1) = n - 1 - ((k + 1 : Nat) : Int) from HT.out (k + 1)]; exact congrArg _ (by omega)
            · have e1 : n - 1 - (k : Int) = ((n.toNat - 1 - k : Nat) : Int) := E1.out.1
              have e0 := E1.out.2
              rw [show T k = n - 1 - (k : Int) from HT.out k, HD.out, HD.out, e1, wu64 (by omega) (by omega), Int.toNat_natCast]
              rfl
          (all_goals (subst hA; subst h_c; subst h_fb; subst h_fR); all_goals (have f_sa := SA.out; have f_sb := SB.out; have f_sn := SN.out); all_goals (try simp only [std, stdBin, stdCmp, stdUna, stdIn, ci, beq_iff_eq, bne_iff_ne, beq_eq_false_iff_ne, bne_eq_false_iff_eq, decide_eq_true_eq, decide_eq_false_iff_not, Bool.not_true, Bool.not_false, Bool.not_eq_true', Bool.not_eq_false', Bool.not_not, tn0, tn1, tn2, tn3, blwF, Int.toNat_natCast] at *); all_goals (try omega))
          all_goals (have e1 : n - 1 - (k : Int) = ((n.toNat - 1 - k : Nat) : Int) := E1.out.1; have e0 := E1.out.2; have e2 : T k = n - 1 - (k : Int) := HT.out k; rw [e1] at e2; have e3 := belowB_lo (pbv a) (pbv b) (pbv ((n.toNat - 1 - k : Nat) : Int)) (((n.toNat - 1 - k : Nat) : Int) + 1) (by omega) (by omega))
          all_goals (try simp only [e2, wu64 (show (0 : Int) ≤ ((n.toNat - 1 - k : Nat) : Int) by omega) (show ((n.toNat - 1 - k : Nat) : Int) ≤ 18446744073709551615 by omega), HD.out, dn_len, List.length_set] at *)
          all_goals (try omega)
        case ny =>
          (repeat' (first | apply And.intro | apply BrB.mk | apply BrP.mk | intro _))
          (all_goals (subst hA; subst h_c; subst h_fb; subst h_fR); all_goals (have f_sa := SA.out; have f_sb := SB.out; have f_sn := SN.out); all_goals (try simp only [std, stdBin, stdCmp, stdUna, stdIn, ci, beq_iff_eq, bne_iff_ne, beq_eq_false_iff_ne, bne_eq_false_iff_eq, decide_eq_true_eq, decide_eq_false_iff_not, Bool.not_true, Bool.not_false, Bool.not_eq_true', Bool.not_eq_false', Bool.not_not, tn0, tn1, tn2, tn3, permF] at *); all_goals (try omega))
          have e2 : T k = n - 1 - (k : Int) := HT.out k
          rw [e2] at gy
          rw [HD.out, show k = n.toNat - 1 by omega, dn_all]
          unfold permZ
          rw [if_neg (by omega)]
  (all_goals (subst hA; subst h_c; subst h_fb; subst h_fR); all_goals (have f_sa := SA.out; have f_sb := SB.out; have f_sn := SN.out); all_goals (try simp only [std, stdBin, stdCmp, stdUna, stdIn, ci, beq_iff_eq, bne_iff_ne, beq_eq_false_iff_ne, bne_eq_false_iff_eq, decide_eq_true_eq, decide_eq_false_iff_not, Bool.not_true, Bool.not_false, Bool.not_eq_true', Bool.not_eq_false', Bool.not_not, tn0, tn1, tn2, tn3, permF] at *); all_goals (try omega))
  all_goals (unfold permZ; rw [if_pos (by omega)])
end Go.Proofs.Ytmlfiphpcjkadaa
