/- Layer 21: where there is no gradient nothing is pushed. -/
import Derived.Test.YtekokhlldcmjfaaOptG
namespace Go.Proofs.Ytekokhlldcmjfaa
open Go.RowKit
set_option maxRecDepth 1000000
set_option linter.unusedSimpArgs false
set_option linter.unusedVariables false
set_option maxHeartbeats 16000000
set_option cbv.maxSteps 10000000
theorem mapz (l : List Int) : (l.map Dat.int).map Dat.z = l := by
  rw [List.map_map]
  conv => rhs; rw [← List.map_id l]
  rfl
theorem spr_one (D L M F H D' L' M' F' H' : List Int) (E G E' G' : Int) : sprF [.d (.list [.agg [.agg [.list (D.map .int), .int E, .list (L.map .int)], .list (M.map .int), .agg [.list (F.map .int), .int G, .list (H.map .int)]]]), .d (.list [.agg [.agg [.list (D'.map .int), .int E', .list (L'.map .int)], .list (M'.map .int), .agg [.list (F'.map .int), .int G', .list (H'.map .int)]]])] =
    (sameTn ⟨D, E, L⟩ ⟨D', E', L'⟩ && sameTn ⟨F, G, H⟩ ⟨F', G', H'⟩ && decide (M = M')) := by
  show (true && (true && (sameTn ⟨(D.map Dat.int).map Dat.z, E, (L.map Dat.int).map Dat.z⟩ ⟨(D'.map Dat.int).map Dat.z, E', (L'.map Dat.int).map Dat.z⟩ && sameTn ⟨(F.map Dat.int).map Dat.z, G, (H.map Dat.int).map Dat.z⟩ ⟨(F'.map Dat.int).map Dat.z, G', (H'.map Dat.int).map Dat.z⟩ && decide ((M.map Dat.int).map Dat.z = (M'.map Dat.int).map Dat.z)))) = _
  simp only [mapz, Bool.true_and]
theorem sameTn_self (t : Tn) : sameTn t t = true := (sameTn_iff t.dims t.data t.dims t.data t.exp t.exp).2 ⟨rfl, rfl, rfl⟩
theorem chance_0 {v s : Int} (r : BitVec 64) (hs : s = 0) (h : -4611686018427387904 ≤ v ∧ v ≤ 4611686018427387904) : chanceI v s r = v := by
  subst hs
  have hn : numb v = v := by unfold numb cl; omega
  have hp : shN 0 = 0 := by decide
  unfold chanceI
  rw [hp, hn]
  simp [Int.emod_one]
theorem chance_z (s : Int) (r : BitVec 64) : chanceI 0 s r = 0 := by
  have := chance_bd (v := 0) (s := s) (B := 0) r (by decide) (by decide)
  omega
theorem near_z (s : Int) : nearI 0 s = 0 := by
  have := near_bd (v := 0) (s := s) (B := 0) (by decide) (by decide)
  omega
theorem clamp8_id {v : Int} (h : -127 ≤ v ∧ v ≤ 127) : clampI v 8 = v := by
  have hw : wid 8 = 7 := by decide
  unfold clampI cl
  rw [hw]
  omega
theorem clampx_z (x : Int) : clampI 0 x = 0 := by
  have hp := pow_pos1 (wid x)
  unfold clampI cl
  omega
theorem bits7 {x : Int} (h : -127 ≤ x ∧ x ≤ 127) : bitsI x ≤ 7 := by
  unfold bitsI
  have hn : numb x = x := by unfold numb cl; omega
  have := Lib.bitLen_le x.natAbs 7 (by omega) (by omega)
  rw [hn]
  omega
theorem width7 {l : List Int} (h : ∀ y ∈ l, -127 ≤ y ∧ y ≤ 127) : ∀ a, a ≤ 7 → l.foldl (fun a x => max a (bitsI x)) a ≤ 7 := by
  induction l with
  | nil => intro a ha; exact ha
  | cons x l ih =>
    intro a ha
    rw [List.foldl_cons]
    have := bits7 (h x (by simp))
    exact ih (fun y hy => h y (List.mem_cons_of_mem _ hy)) _ (by omega)
theorem smallFrom_id (s r : BitVec 64) : ∀ (l : List Int) (i : Nat), (∀ y ∈ l, -127 ≤ y ∧ y ≤ 127) → smallFrom 8 0 s r i l = l
  | [], _, _ => rfl
  | v :: l, i, h => by
    have hv := h v (by simp)
    rw [smallFrom, smallFrom_id s r l (i + 1) fun y hy => h y (List.mem_cons_of_mem _ hy), smallAt, chance_0 _ rfl (by omega), clamp8_id hv]
theorem smallFrom_z (x z : Int) (s r : BitVec 64) : ∀ (n i : Nat), smallFrom x z s r i (List.replicate n 0) = List.replicate n 0
  | 0, _ => rfl
  | n + 1, i => by
    rw [List.replicate_succ, smallFrom, smallFrom_z x z s r n, smallAt, chance_z, clampx_z]
theorem width_z (n : Nat) : widthL (List.replicate n 0) = 0 := by
  have h0 : bitsI 0 = 0 := by decide
  unfold widthL
  induction n with
  | zero => rfl
  | succ n ih => rw [List.replicate_succ, List.foldl_cons, h0]; exact ih
theorem acc_z {D : List Int} {n : Nat} (hm : mayD D = true) (hn : (n : Int) = szD D) : mayAccB ⟨D, 0, List.replicate n 0⟩ = true := by
  unfold mayAccB expB
  simp [hm, hn]
/-- Noughts are made small without a change. -/
theorem small_z {D : List Int} {n : Nat} {x : Int} (s r : BitVec 64) (hm : mayD D = true) (hn : (n : Int) = szD D) (hx : 2 ≤ x ∧ x ≤ 8) : smallE ⟨D, 0, List.replicate n 0⟩ x s r = (⟨D, 0, List.replicate n 0⟩, 0) := by
  have ha := acc_z hm hn
  have hw : widthB ⟨D, 0, List.replicate n 0⟩ = 0 := by unfold widthB; rw [if_pos ha]; exact width_z n
  have hz : max 0 ((0 : Int) - (x - 1)) = 0 := by omega
  unfold smallE
  rw [if_neg (by rw [ha]; simp; omega)]
  simp only [hw, hz]
  rw [if_pos (by decide)]
  simp only [smallFrom_z, Int.add_zero]
theorem has_of21 {L : List Int} {v : Int} {j : Nat} (h : L.getD j 0 = v) (hj : j < L.length) : L.contains v = true := by
  rw [List.contains_eq_mem, decide_eq_true_eq, ← h, List.getD_eq_getElem?_getD, List.getElem?_eq_getElem hj]
  exact List.getElem_mem _
theorem nil_no {L : List Int} (h : L.contains (-128) = false) (hf : Fits .i8 L) (i : Nat) : -127 ≤ L.getD i 0 ∧ L.getD i 0 ≤ 127 := by
  have h1 := fits8 hf i
  by_cases hi : i < L.length
  · have : L.getD i 0 ≠ -128 := fun e => by
      have := has_of21 e hi
      rw [h] at this; cases this
    omega
  · rw [List.getD_eq_getElem?_getD, List.getElem?_eq_none (by omega)]; decide
theorem map_getD {L : List Int} {f : Nat → Int} (h : ∀ i, i < L.length → f i = L.getD i 0) : (List.range L.length).map f = L := by
  conv => rhs; rw [← range_getD L]
  exact List.map_congr_left fun i hi => h i (List.mem_range.1 hi)
theorem ov_no {f : Nat → Int} : ∀ {n : Nat}, (∀ i, i < n → -127 ≤ f i ∧ f i ≤ 127) → ovB f n = false
  | 0, _ => rfl
  | n + 1, h => by
    unfold ovB
    have := h n (by omega)
    rw [ov_no fun i hi => h i (by omega), decide_eq_false (by omega), decide_eq_false (by omega)]
    rfl
theorem map_rep {f : Nat → Int} {n : Nat} (h : ∀ i, i < n → f i = 0) : (List.range n).map f = List.replicate n 0 := by
  rw [List.eq_replicate_iff]
  refine ⟨by simp, fun b hb => ?_⟩
  obtain ⟨i, hi, rfl⟩ := List.mem_map.1 hb
  exact h i (List.mem_range.1 hi)
theorem rep_getD (n i : Nat) : (List.replicate n (0 : Int)).getD i 0 = 0 := by
  rw [List.getD_eq_getElem?_getD, List.getElem?_replicate]
  split <;> rfl
theorem hy_of {a b c d e f : Int} (h : hyB a b c d e f = true) : (1 ≤ a ∧ a ≤ 8) ∧ (2 ≤ b ∧ b ≤ 8) ∧ (0 ≤ c ∧ c ≤ 20) ∧ (0 ≤ d ∧ d ≤ 20) ∧ (0 ≤ e ∧ e ≤ 20) ∧ 0 ≤ f ∧ f ≤ 1000000 := by
  simpa only [hyB, decide_eq_true_eq] using h
theorem fade {m : Int} (s : Int) (h : -1048576 ≤ m ∧ m ≤ 1048576) : (0 ≤ m → 0 ≤ m - downI m s ∧ m - downI m s ≤ m) ∧ (m ≤ 0 → m ≤ m - downI m s ∧ m - downI m s ≤ 0) ∧ (s = 0 → m - downI m s = 0) := by
  have hn : numb m = m := by unfold numb cl; omega
  have hp := pow_pos1 (shN s)
  refine ⟨fun h0 => ?_, fun h0 => ?_, fun hs => ?_⟩
  · have h1 : 0 ≤ downI m s := by
      unfold downI; rw [hn]; exact Int.ediv_nonneg h0 (by omega)
    have h2 := (down_bd (v := m) (s := s) (B := m) h0 (by omega)).2
    omega
  · have h1 : downI m s ≤ 0 := by
      unfold downI; rw [hn]
      exact Int.ediv_le_of_le_mul (by omega) (by omega)
    have h2 := (down_bd (v := m) (s := s) (B := -m) (by omega) (by omega)).1
    omega
  · subst hs
    have h1 : shN 0 = 0 := by decide
    unfold downI
    rw [hn, h1]
    simp
theorem still_none {D : List Int} {E : Int} {L M F : List Int} {G : Int} {H : List Int} {a b c d e f s t : Int} (hh : hyB a b c d e f = true) (ht : 0 ≤ t ∧ t ≤ 1000000) : stErr D E L M F G H false [] 0 [] [] 0 [] a b c d e f s t 1 = 0 ∧ stRes D E L M F G H false [] 0 [] [] 0 [] a b c d e f s t 1 = ⟨D, E, L, M, F, G, H⟩ := by
  constructor
  · unfold stErr
    rw [if_pos ⟨hh, ht, by decide⟩, if_neg (by decide)]
  · unfold stRes
    rw [if_neg (by decide)]
theorem mostB_z (n : Nat) : mostB (List.replicate n 0) n = true := mostB_of fun i hi => by rw [rep_getD]; decide
theorem still_err {D : List Int} {E : Int} {L M F : List Int} {G : Int} {H : List Int} {a b c d e f s t : Int} (hp : rmpB D E L M F G H = true) (hh : hyB a b c d e f = true) (ht : 0 ≤ t ∧ t ≤ 1000000) {M' : List Int} (hM : M'.length = L.length) (hm : mostB M' M'.length = true) :
    stErr D E L M' F G H true D 0 (List.replicate L.length 0) F 0 (List.replicate H.length 0) a b c d 0 f s t 1 = 0 ∧
    (stRes D E L M' F G H true D 0 (List.replicate L.length 0) F 0 (List.replicate H.length 0) a b c d 0 f s t 1).m = (List.range M'.length).map (fun i => M'.getD i 0 - downI (M'.getD i 0) d) := by
  obtain ⟨h1, h2, h3, h4, h5⟩ := rmp_of hp
  obtain ⟨m1, m2, m3, m4⟩ := (mayB_eq D L E).1 h1
  obtain ⟨n1, n2, n3, n4⟩ := (mayB_eq F H G).1 h2
  have hy := hy_of hh
  have hh0 : hyB a b c d 0 f = true := by
    unfold hyB
    simp only [decide_eq_true_eq]
    omega
  have s1 := small_z (x := b) (bv s) (bv (strmI t 1 3)) m1 m2 hy.2.1
  have s2 := small_z (x := b) (bv s) (bv (strmI t 1 5)) n1 n2 hy.2.1
  have hmv : moveB D E L M' F G H D 0 (List.replicate L.length 0) F 0 (List.replicate H.length 0) = true := by
    unfold moveB
    rw [h1, h2, acc_z m1 m2, acc_z n1 n2, hm, decide_eq_true hM]
    rfl
  constructor
  · unfold stErr
    rw [if_pos ⟨hh0, ht, by decide⟩, if_pos rfl, if_pos hmv, if_pos ⟨rfl, rfl⟩, s1, s2]
    rfl
  · unfold stRes moved
    rw [if_pos rfl, s1]
    refine List.map_congr_left fun i hi => ?_
    have hi := List.mem_range.1 hi
    have hb := mostB_at hm i hi
    have hf := fade d hb
    unfold momA
    simp only [rep_getD, Int.add_zero]
    unfold cl
    by_cases h0 : 0 ≤ M'.getD i 0
    · have := hf.1 h0; omega
    · have := hf.2.1 (by omega); omega
theorem still_all {D : List Int} {E : Int} {L M F : List Int} {G : Int} {H : List Int} {a b c d e f s t : Int} (hL : Fits .i8 L) (hH : Fits .i8 H) (hp : rmpB D E L M F G H = true) (hh : hyB a b c d e f = true) (ht : 0 ≤ t ∧ t ≤ 1000000) :
    stRes D E L (List.replicate M.length 0) F G H true D 0 (List.replicate L.length 0) F 0 (List.replicate H.length 0) a b c d 0 f s t 1 = ⟨D, E, L, List.replicate M.length 0, F, G, H⟩ := by
  obtain ⟨h1, h2, h3, h4, h5⟩ := rmp_of hp
  obtain ⟨m1, m2, m3, m4⟩ := (mayB_eq D L E).1 h1
  obtain ⟨n1, n2, n3, n4⟩ := (mayB_eq F H G).1 h2
  have hy := hy_of hh
  have s1 := small_z (x := b) (bv s) (bv (strmI t 1 3)) m1 m2 hy.2.1
  have s2 := small_z (x := b) (bv s) (bv (strmI t 1 5)) n1 n2 hy.2.1
  have em : moved (List.replicate M.length 0) D 0 (List.replicate L.length 0) b d s t 1 = List.replicate M.length 0 := by
    unfold moved
    rw [s1, List.length_replicate]
    refine map_rep fun i hi => ?_
    unfold momA
    have h0 : downI 0 d = 0 := by
      have := down_bd (v := 0) (s := d) (B := 0) (by decide) (by decide)
      omega
    simp only [rep_getD, h0]
    decide
  have en : ∀ i, numA L (List.replicate M.length 0) c 0 s t 1 i = L.getD i 0 := by
    intro i
    unfold numA pchI
    rw [rep_getD, chance_z, if_pos rfl]
    omega
  have eo : wtO (numA L (List.replicate M.length 0) c 0 s t 1) L.length E = false := wtO_f (.inl (ov_no fun i hi => by rw [en]; exact nil_no m4 hL i))
  unfold stRes
  rw [if_pos rfl, em, s2]
  have e1 : (wtT D E (numA L (List.replicate M.length 0) c 0 s t 1) L.length).exp = E := by
    unfold wtT
    simp only [eo]
    rfl
  have e2 : (wtT D E (numA L (List.replicate M.length 0) c 0 s t 1) L.length).data = L := by
    unfold wtT
    simp only [eo]
    refine map_getD fun i hi => ?_
    unfold wtA
    rw [if_neg (by decide), en, clamp8_id (nil_no m4 hL i)]
  have e3 : (List.range H.length).map (biA H (List.replicate H.length 0) c s t 1) = H := map_getD fun i hi => by
    unfold biA pchI
    rw [rep_getD, chance_z, Int.sub_zero, clamp8_id (nil_no n4 hH i)]
  rw [e1, e2, e3]
end Go.Proofs.Ytekokhlldcmjfaa
