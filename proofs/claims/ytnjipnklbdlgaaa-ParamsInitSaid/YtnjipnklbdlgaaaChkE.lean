/- Layer 16: a net is let for the classes that it gives; whatever is let has sums that fit. -/
import Derived.Test.YtnjipnklbdlgaaaChkD
namespace Go.Proofs.Ytnjipnklbdlgaaa
open Go.RowKit
set_option maxRecDepth 1000000
set_option linter.unusedSimpArgs false
set_option linter.unusedVariables false
set_option maxHeartbeats 16000000
set_option cbv.maxSteps 10000000
theorem netR_cases (c h w : Int) (x : Dat) (n b : Int) : (¬ (shpR c h w x).2 = 0 ∧ netR c h w x n b = shpR c h w x) ∨ netR c h w x n b = (0, 1) ∨ netR c h w x n b = ((x.ls.length : Int), 2) ∨
    ((shpR c h w x).2 = 0 ∧ ((2 ≤ n ∧ n ≤ 10) ∧ 1 ≤ b ∧ b ≤ 8) ∧ clsB (shT c h w x x.ls.length) n = true ∧ netR c h w x n b = lowE (netE c h w x b) 0 x.ls.length) := by
  by_cases h1 : (shpR c h w x).2 = 0
  · by_cases h2 : (2 ≤ n ∧ n ≤ 10) ∧ 1 ≤ b ∧ b ≤ 8
    · cases h3 : clsB (shT c h w x x.ls.length) n with
      | false => exact .inr (.inr (.inl (net_c h1 h2 h3)))
      | true => exact .inr (.inr (.inr ⟨h1, h2, rfl, net_d h1 h2 h3⟩))
    · exact .inr (.inl (net_b h1 h2))
  · exact .inl ⟨h1, net_a h1⟩
theorem netR_ok {c h w : Int} {x : Dat} {n b : Int} (hh : (netR c h w x n b).2 = 0) : (shpR c h w x).2 = 0 ∧ ((2 ≤ n ∧ n ≤ 10) ∧ 1 ≤ b ∧ b ≤ 8) ∧ clsB (shT c h w x x.ls.length) n = true ∧ ∀ i, i < x.ls.length → netE c h w x b i = 0 := by
  rcases netR_cases c h w x n b with ⟨h1, h2⟩ | h2 | h2 | ⟨h1, h2, h3, h4⟩
  · rw [h2] at hh; exact absurd hh h1
  · rw [h2] at hh; exact absurd hh (by decide)
  · rw [h2] at hh; simp at hh
  · rw [h4] at hh
    exact ⟨h1, h2, h3, fun i hi => lowE_zero _ 0 hh i (Nat.zero_le _) (by omega)⟩
theorem net_cls {c h w : Int} {x : Dat} {n n' b : Int} (h1 : (netR c h w x n b).2 = 0) (h2 : (netR c h w x n' b).2 = 0) : n = n' := by
  have e1 := of_decide_eq_true (netR_ok h1).2.2.1
  have e2 := of_decide_eq_true (netR_ok h2).2.2.1
  omega
theorem classes_ok : CtrOk Try.prog 7 (yes6 [mdlTy, .int .i64, .int .i64, .int .i64] (fun _ => True)) := by
  obtain ⟨G, hG⟩ : ∃ G : List (FuncId × Ctr), G = [(15, twoC [mdlTy, .int .i64, .int .i64] netN netF), (11, yes6 [] (fun _ => True))] := ⟨_, rfl⟩
  refine fn_ok (ck := true) Try.func7 rfl tt_ok (G := G) (by rw [hG]; exact ⟨⟨net_ok, by unfold FnOk; kernel_rfl⟩, ⟨awake16_ok, by unfold FnOk; kernel_rfl⟩, trivial⟩) mixed (by kernel_rfl) ?_
  intro xa xs h hx hp
  obtain ⟨a0, as0, x0, xs0, rfl, rfl, h0, H1⟩ := svArgs_cons h
  obtain ⟨a1, as1, x1, xs1, rfl, rfl, h1, H2⟩ := svArgs_cons H1
  obtain ⟨a2, as2, x2, xs2, rfl, rfl, h2, H3⟩ := svArgs_cons H2
  obtain ⟨a3, as3, x3, xs3, rfl, rfl, h3, H4⟩ := svArgs_cons H3
  obtain ⟨rfl, rfl⟩ := svArgs_nil H4
  obtain ⟨mc, mh, mw, mx, rfl, rfl⟩ := argSV_mdl h0
  obtain ⟨a, rfl, rfl⟩ := argSV_int h1
  obtain ⟨b, rfl, rfl⟩ := argSV_int h2
  obtain ⟨n, rfl, rfl⟩ := argSV_int h3
  have sm : (-9223372036854775808 ≤ mc ∧ mc ≤ 9223372036854775807) ∧ (-9223372036854775808 ≤ mh ∧ mh ≤ 9223372036854775807) ∧ (-9223372036854775808 ≤ mw ∧ mw ≤ 9223372036854775807) ∧ ((ci mx.ls.length ≤ 9223372036854775807) ∧ Wt (.sl layTy) mx) := svf_mdl (hx (.agg [.v (.int .i64 mc), .v (.int .i64 mh), .v (.int .i64 mw), .imm layTy mx]) (List.mem_of_getElem? (i := 0) rfl))
  have sa := of_i64 (hx (.v (.int .i64 a)) (by simp))
  have sb := of_i64 (hx (.v (.int .i64 b)) (by simp))
  have sn := of_i64 (hx (.v (.int .i64 n)) (by simp))
  have SM := Lib.hid sm
  clear sm
  have SA := Lib.hid sa
  clear sa
  have SB := Lib.hid sb
  clear sb
  have SN := Lib.hid sn
  clear sn
  clear hx hp h h0 H1 h1 H2 h2 H3 h3 H4
  generalize hA : std = A
  subst hG
  generalize h_c : ci = c
  generalize h_gN : netN = gN
  generalize h_gE : netF = gE
  cbv
  (repeat' (first | apply And.intro | apply BrB.mk | apply BrP.mk | intro _))
  (all_goals (subst hA; subst h_c; subst h_gN; subst h_gE); all_goals (have f_sm := SM.out; have f_sa := SA.out; have f_sb := SB.out; have f_sn := SN.out); all_goals (try simp only [std, stdBin, stdCmp, stdUna, stdIn, ci, beq_iff_eq, bne_iff_ne, beq_eq_false_iff_ne, bne_eq_false_iff_eq, decide_eq_true_eq, decide_eq_false_iff_not, Bool.not_true, Bool.not_false, Bool.not_eq_true', Bool.not_eq_false', Bool.not_not, tn0, tn1, tn2, tn3, netF] at *); all_goals (try omega))
  all_goals first
    | rfl
    | omega
    | (exfalso; have e : a = b := net_cls (by assumption) (by assumption); omega)
    | (have e : a = b := net_cls (by assumption) (by assumption); subst e; refine vb ?_; simp)
    | trace_state
theorem lowE_val {g : Nat → Int} {v : Int} (hv : v ≠ 0) : ∀ (f i : Nat), (lowE g i f).2 = v → ∃ j, i ≤ j ∧ j < i + f ∧ g j = v
  | 0, i, h => absurd h.symm hv
  | f + 1, i, h => by
    unfold lowE at h
    by_cases hg : g i = 0
    · rw [if_pos hg] at h
      obtain ⟨j, h1, h2, h3⟩ := lowE_val hv f (i + 1) h
      exact ⟨j, by omega, by omega, h3⟩
    · rw [if_neg hg] at h
      exact ⟨i, Nat.le_refl _, by omega, h⟩
theorem shErr_in (c h w : Int) (x : Dat) (i : Nat) : shErr c h w x i = 0 ∨ shErr c h w x i = 1 ∨ shErr c h w x i = 2 := by
  unfold shErr; split
  · exact .inr (.inr rfl)
  · split
    · exact .inr (.inl rfl)
    · exact .inl rfl
theorem shpR_three (c h w : Int) (x : Dat) : (shpR c h w x).2 ≠ 3 := by
  unfold shpR
  split
  · intro hh
    obtain ⟨j, _, _, h3⟩ := lowE_val (by decide) _ _ hh
    rcases shErr_in c h w x j with h | h | h <;> omega
  · decide
theorem netR_three {c h w : Int} {x : Dat} {n b : Int} (hh : (netR c h w x n b).2 = 3) : (shpR c h w x).2 = 0 ∧ ((2 ≤ n ∧ n ≤ 10) ∧ 1 ≤ b ∧ b ≤ 8) ∧ clsB (shT c h w x x.ls.length) n = true ∧ ∃ i, i < x.ls.length ∧ fitsN (prdI c h w x b i) = false := by
  rcases netR_cases c h w x n b with ⟨h1, h2⟩ | h2 | h2 | ⟨h1, h2, h3, h4⟩
  · rw [h2] at hh; exact absurd hh (shpR_three c h w x)
  · rw [h2] at hh; exact absurd hh (by decide)
  · rw [h2] at hh; simp at hh
  · rw [h4] at hh
    obtain ⟨j, _, hj, h5⟩ := lowE_val (by decide) _ _ hh
    refine ⟨h1, h2, h3, j, by omega, ?_⟩
    unfold netE at h5
    split at h5
    · omega
    · split at h5
      · assumption
      · omega
theorem mx_le {a b : Int} : a ≤ mx a b ∧ b ≤ mx a b := by unfold mx; split <;> omega
theorem mx_mono {a b a' b' : Int} (h1 : a ≤ a') (h2 : b ≤ b') : mx a b ≤ mx a' b' := by unfold mx; split <;> split <;> omega
theorem shT_pos {c h w : Int} {x : Dat} (hz : (shpR c h w x).2 = 0) {i : Nat} (hi : i ≤ x.ls.length) : 1 ≤ (shT c h w x i).getD 0 0 ∧ ∀ j, 0 ≤ (shT c h w x i).getD j 0 := by
  obtain ⟨hm, hS⟩ := shpR_ok hz
  have h1 := shT_may hm hS i hi
  have h2 := mayD_len h1
  refine ⟨(mayD_at h1 (by omega)).1, fun j => ?_⟩
  by_cases hj : j < (shT c h w x i).length
  · have := mayD_at h1 hj; omega
  · rw [List.getD_eq_getElem?_getD, List.getElem?_eq_none (by omega)]; exact Int.le_refl _
theorem prdI_mono {c h w : Int} {x : Dat} (hz : (shpR c h w x).2 = 0) {i : Nat} (hi : i < x.ls.length) {b b' : Int} (hb : 0 ≤ b' ∧ b' ≤ b) : prdI c h w x b' i ≤ prdI c h w x b i := by
  have h2 := (shT_pos hz (show i + 1 ≤ x.ls.length by omega)).2
  unfold prdI prdV
  split
  · exact mx_mono (Int.le_refl _) hb.2
  · split
    · refine mx_mono (Int.le_refl _) ?_
      have h1 : b' * (shT c h w x (i + 1)).getD 1 0 ≤ b * (shT c h w x (i + 1)).getD 1 0 := Int.mul_le_mul_of_nonneg_right hb.2 (h2 1)
      exact Int.mul_le_mul_of_nonneg_right h1 (h2 2)
    · exact Int.le_refl _
theorem prdI_pos {c h w : Int} {x : Dat} (hz : (shpR c h w x).2 = 0) {i : Nat} (hi : i < x.ls.length) {b : Int} : 0 ≤ prdI c h w x b i := by
  have h1 := (shT_pos hz (show i ≤ x.ls.length by omega)).1
  unfold prdI prdV
  split
  · have a1 := @mx_le (mx ((shT c h w x i).getD 0 0) (layI x i 1)) b
    have a2 := @mx_le ((shT c h w x i).getD 0 0) (layI x i 1)
    omega
  · split
    · have a1 := @mx_le (mx ((shT c h w x i).getD 0 0 * layI x i 2 * layI x i 2) (layI x i 1 * layI x i 2 * layI x i 2)) (b * (shT c h w x (i + 1)).getD 1 0 * (shT c h w x (i + 1)).getD 2 0)
      have a2 := @mx_le ((shT c h w x i).getD 0 0 * layI x i 2 * layI x i 2) (layI x i 1 * layI x i 2 * layI x i 2)
      have a3 : 0 ≤ (shT c h w x i).getD 0 0 * layI x i 2 * layI x i 2 := by
        rw [Int.mul_assoc]
        refine Int.mul_nonneg (by omega) ?_
        rcases Int.le_total 0 (layI x i 2) with h | h
        · exact Int.mul_nonneg h h
        · exact Int.mul_nonneg_of_nonpos_of_nonpos h h
      omega
    · exact Int.le_refl _
theorem room_mono {c h w : Int} {x : Dat} {i : Nat} {b b' : Int} (hb : 0 ≤ b' ∧ b' ≤ b) (hr : roomI c h w x b i = true) : roomI c h w x b' i = true := by
  unfold roomI roomB at *
  have h1 := of_decide_eq_true hr
  have a1 : b' * szD (shT c h w x i) ≤ b * szD (shT c h w x i) := Int.mul_le_mul_of_nonneg_right hb.2 (szD_in _).1
  have a2 : b' * szD (shT c h w x (i + 1)) ≤ b * szD (shT c h w x (i + 1)) := Int.mul_le_mul_of_nonneg_right hb.2 (szD_in _).1
  exact decide_eq_true (by omega)
theorem netE_of {c h w : Int} {x : Dat} {b : Int} {i : Nat} (he : netE c h w x b i = 0) : roomI c h w x b i = true ∧ fitsN (prdI c h w x b i) = true := by
  unfold netE at he
  cases h1 : roomI c h w x b i with
  | false => rw [h1] at he; simp at he
  | true =>
    cases h2 : fitsN (prdI c h w x b i) with
    | false => rw [h1, h2] at he; simp at he
    | true => exact ⟨rfl, rfl⟩
theorem longUp_fits {c h w : Int} {x : Dat} {b : Int} : ∀ (k : Nat), (∀ i, i < k → fitsN (prdI c h w x b i) = true) → 0 ≤ longUp c h w x b k ∧ longUp c h w x b k ≤ 959
  | 0, _ => ⟨Int.le_refl _, show (0 : Int) ≤ 959 by decide⟩
  | k + 1, hk => by
    have h1 := longUp_fits k fun i hi => hk i (by omega)
    have h2 := of_decide_eq_true (hk k (by omega))
    unfold longUp mx
    split <;> omega
theorem longUp_ge {c h w : Int} {x : Dat} {b : Int} : ∀ (k i : Nat), i < k → prdI c h w x b i ≤ longUp c h w x b k
  | 0, i, hi => by omega
  | k + 1, i, hi => by
    have a1 := @mx_le (longUp c h w x b k) (prdI c h w x b k)
    unfold longUp
    by_cases e : i = k
    · subst e; exact a1.2
    · exact Int.le_trans (longUp_ge k i (by omega)) a1.1
theorem longUp_mono {c h w : Int} {x : Dat} (hz : (shpR c h w x).2 = 0) {b b' : Int} (hb : 0 ≤ b' ∧ b' ≤ b) : ∀ (k : Nat), k ≤ x.ls.length → longUp c h w x b' k ≤ longUp c h w x b k
  | 0, _ => Int.le_refl _
  | k + 1, hk => by
    unfold longUp
    exact mx_mono (longUp_mono hz hb k (by omega)) (prdI_mono hz (by omega) hb)
theorem allTo_all {g : Nat → Bool} : ∀ {n : Nat}, (∀ i, i < n → g i = true) → allTo g n = true
  | 0, _ => rfl
  | n + 1, h => by
    simp only [allTo, Bool.and_eq_true]
    have h1 := allTo_all (n := n) fun i hi => h i (by omega)
    have h2 := h n (by omega)
    first | exact ⟨h1, h2⟩ | exact ⟨h2, h1⟩
/-- What is let: its longest sum fits; with a lesser batch it is let too. -/
theorem just_ok {c h w : Int} {x : Dat} {n b b' : Int} (hh : (netR c h w x n b).2 = 0) (hb : 1 ≤ b' ∧ b' ≤ b) : fitsN (longR c h w x b) = true ∧ (netR c h w x n b').2 = 0 ∧ longR c h w x b' ≤ longR c h w x b := by
  obtain ⟨h1, h2, h3, h4⟩ := netR_ok hh
  have hc := of_decide_eq_true h3
  have g : (shT c h w x x.ls.length).length = 1 ∧ 2 ≤ (shT c h w x x.ls.length).getD 0 0 ∧ (shT c h w x x.ls.length).getD 0 0 ≤ 10 := by omega
  have e4 : ∀ i, i < x.ls.length → netE c h w x b' i = 0 := fun i hi => by
    obtain ⟨k1, k2⟩ := netE_of (h4 i hi)
    have k3 := of_decide_eq_true k2
    have k4 := prdI_mono h1 hi (show 0 ≤ b' ∧ b' ≤ b by omega)
    exact netE_zero (room_mono (show 0 ≤ b' ∧ b' ≤ b by omega) k1) (decide_eq_true ⟨prdI_pos h1 hi, by omega⟩)
  have r1 : longR c h w x b = longUp c h w x b x.ls.length := long_d h1 h2.2 g (allTo_all fun i hi => (netE_of (h4 i hi)).1)
  have r2 : longR c h w x b' = longUp c h w x b' x.ls.length := long_d h1 (by omega) g (allTo_all fun i hi => (netE_of (e4 i hi)).1)
  refine ⟨?_, ?_, ?_⟩
  · rw [r1]; exact decide_eq_true (longUp_fits _ fun i hi => (netE_of (h4 i hi)).2)
  · rw [net_d h1 ⟨h2.1, by omega, by omega⟩ h3, lowE_none e4]
  · rw [r1, r2]; exact longUp_mono h1 (by omega) _ (Nat.le_refl _)
/-- What is refused for a sum: its longest sum does not fit, or it may not be otherwise. -/
theorem just_bound {c h w : Int} {x : Dat} {n b : Int} (hh : (netR c h w x n b).2 = 3) : longR c h w x b = 0 ∨ fitsN (longR c h w x b) = false := by
  obtain ⟨h1, h2, h3, i, hi, h4⟩ := netR_three hh
  have hc := of_decide_eq_true h3
  have g : (shT c h w x x.ls.length).length = 1 ∧ 2 ≤ (shT c h w x x.ls.length).getD 0 0 ∧ (shT c h w x x.ls.length).getD 0 0 ≤ 10 := by omega
  cases hr : allTo (roomI c h w x b) x.ls.length with
  | false => exact .inl (long_c hr)
  | true =>
    right
    rw [long_d h1 h2.2 g hr]
    have k1 := longUp_ge (c := c) (h := h) (w := w) (x := x) (b := b) x.ls.length i hi
    have k2 := of_decide_eq_false h4
    have k3 := prdI_pos (b := b) h1 hi
    exact decide_eq_false (by omega)
theorem bat_in (z : Int) : 1 ≤ 1 + IntKind.i64.wrap ((IntKind.u64.wrap z).tmod 8) ∧ 1 + IntKind.i64.wrap ((IntKind.u64.wrap z).tmod 8) ≤ 8 := by
  have h0 : 0 ≤ IntKind.u64.wrap z := by
    rw [IntKind.wrap_u64]; omega
  have h1 := Int.tmod_lt_of_pos (IntKind.u64.wrap z) (show (0 : Int) < 8 by decide)
  have h2 := Int.tmod_nonneg 8 h0
  rw [w64 (by omega) (by omega)]
  omega
theorem less_in (z b : Int) (hb : 1 ≤ b ∧ b ≤ 8) : 1 ≤ 1 + IntKind.i64.wrap ((IntKind.u64.wrap z).tmod (IntKind.u64.wrap b)) ∧ 1 + IntKind.i64.wrap ((IntKind.u64.wrap z).tmod (IntKind.u64.wrap b)) ≤ b := by
  have h0 : 0 ≤ IntKind.u64.wrap z := by
    rw [IntKind.wrap_u64]; omega
  have hw : IntKind.u64.wrap b = b := by
    rw [IntKind.wrap_u64]; omega
  rw [hw]
  have h1 := Int.tmod_lt_of_pos (IntKind.u64.wrap z) (show (0 : Int) < b by omega)
  have h2 := Int.tmod_nonneg b h0
  rw [w64 (by omega) (by omega)]
  omega
theorem just16_ok : CtrOk Try.prog 4 (yes6 [mdlTy, .int .i64, .int .i64, .int .i64] (fun _ => True)) := by
  obtain ⟨G, hG⟩ : ∃ G : List (FuncId × Ctr), G = [(15, twoC [mdlTy, .int .i64, .int .i64] netN netF), (17, intC [mdlTy, .int .i64] .i64 longF), (19, boolC [.int .i64] fitsF), (11, yes6 [] (fun _ => True))] := ⟨_, rfl⟩
  refine fn_ok (ck := true) Try.func4 rfl tt_ok (G := G) (by rw [hG]; exact ⟨⟨net_ok, by unfold FnOk; kernel_rfl⟩, ⟨long_ok, by unfold FnOk; kernel_rfl⟩, ⟨ckfits_ok, by unfold FnOk; kernel_rfl⟩, ⟨awake16_ok, by unfold FnOk; kernel_rfl⟩, trivial⟩) mixed (by kernel_rfl) ?_
  intro xa xs h hx hp
  obtain ⟨a0, as0, x0, xs0, rfl, rfl, h0, H1⟩ := svArgs_cons h
  obtain ⟨a1, as1, x1, xs1, rfl, rfl, h1, H2⟩ := svArgs_cons H1
  obtain ⟨a2, as2, x2, xs2, rfl, rfl, h2, H3⟩ := svArgs_cons H2
  obtain ⟨a3, as3, x3, xs3, rfl, rfl, h3, H4⟩ := svArgs_cons H3
  obtain ⟨rfl, rfl⟩ := svArgs_nil H4
  obtain ⟨mc, mh, mw, mx, rfl, rfl⟩ := argSV_mdl h0
  obtain ⟨n, rfl, rfl⟩ := argSV_int h1
  obtain ⟨b, rfl, rfl⟩ := argSV_int h2
  obtain ⟨s, rfl, rfl⟩ := argSV_int h3
  have sm : (-9223372036854775808 ≤ mc ∧ mc ≤ 9223372036854775807) ∧ (-9223372036854775808 ≤ mh ∧ mh ≤ 9223372036854775807) ∧ (-9223372036854775808 ≤ mw ∧ mw ≤ 9223372036854775807) ∧ ((ci mx.ls.length ≤ 9223372036854775807) ∧ Wt (.sl layTy) mx) := svf_mdl (hx (.agg [.v (.int .i64 mc), .v (.int .i64 mh), .v (.int .i64 mw), .imm layTy mx]) (List.mem_of_getElem? (i := 0) rfl))
  have sn := of_i64 (hx (.v (.int .i64 n)) (by simp))
  have sb := of_i64 (hx (.v (.int .i64 b)) (by simp))
  have ss := of_i64 (hx (.v (.int .i64 s)) (by simp))
  have SM := Lib.hid sm
  clear sm
  have SN := Lib.hid sn
  clear sn
  have SB := Lib.hid sb
  clear sb
  have SS := Lib.hid ss
  clear ss
  clear hx hp h h0 H1 h1 H2 h2 H3 h3 H4
  generalize hA : std = A
  subst hG
  generalize h_c : ci = c
  generalize h_gN : netN = gN
  generalize h_gE : netF = gE
  generalize h_gL : longF = gL
  generalize h_gF : fitsF = gF
  cbv
  (repeat' (first | apply And.intro | apply BrB.mk | apply BrP.mk | intro _))
  (all_goals (subst hA; subst h_c; subst h_gN; subst h_gE; subst h_gL; subst h_gF); all_goals (have f_sm := SM.out; have f_sn := SN.out; have f_sb := SB.out; have f_ss := SS.out); all_goals (try simp only [std, stdBin, stdCmp, stdUna, stdIn, ci, beq_iff_eq, bne_iff_ne, beq_eq_false_iff_ne, bne_eq_false_iff_eq, decide_eq_true_eq, decide_eq_false_iff_not, Bool.not_true, Bool.not_false, Bool.not_eq_true', Bool.not_eq_false', Bool.not_not, tn0, tn1, tn2, tn3, netF, longF, fitsF] at *); all_goals (try omega))
  all_goals (have q1 := bat_in b)
  all_goals (have q2 := less_in s _ q1)
  all_goals (generalize hB : 1 + IntKind.i64.wrap ((IntKind.u64.wrap b).tmod 8) = B at *)
  all_goals (generalize hS : 1 + IntKind.i64.wrap ((IntKind.u64.wrap s).tmod (IntKind.u64.wrap B)) = S at *)
  all_goals first
    | omega
    | (rw [IntKind.wrap_u64]; omega)
    | (exfalso; have j := just_ok (b' := S) (show (netR mc mh mw mx n B).2 = 0 by assumption) q2; obtain ⟨j1, j2, j3⟩ := j; first | omega | (have j4 : fitsN (longR mc mh mw mx B) = false := (by assumption); rw [j1] at j4; cases j4))
    | (exfalso; have j := just_bound (show (netR mc mh mw mx n B).2 = 3 by assumption); rcases j with j | j; omega; have j4 : fitsN (longR mc mh mw mx B) = true := (by assumption); rw [j] at j4; cases j4)
    | trace_state
end Go.Proofs.Ytnjipnklbdlgaaa
