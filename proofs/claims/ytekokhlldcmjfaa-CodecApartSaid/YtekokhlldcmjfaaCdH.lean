/- Layer 24: two states have the same bytes just if they are the same (its pure part). -/
import Derived.Test.YtekokhlldcmjfaaByQ
namespace Go.Proofs.Ytekokhlldcmjfaa
open Go.RowKit
set_option maxRecDepth 100000
set_option linter.unusedSimpArgs false
set_option linter.unusedVariables false
theorem app_inj {X Y R S : List Int} (h : X ++ R = Y ++ S) (hl : X.length = Y.length) : X = Y ∧ R = S := List.append_inj h hl
theorem bU8_inj {a b : Int} (h : bU8 a = bU8 b) : a % 256 = b % 256 := by
  unfold bU8 at h
  rw [put_one, put_one] at h
  exact (List.cons.inj h).1
theorem bU16_inj {a b : Int} (ha : 0 ≤ a ∧ a ≤ 65535) (hb : 0 ≤ b ∧ b ≤ 65535) (h : bU16 a = bU16 b) : a = b := by
  unfold bU16 at h
  rw [put_two a ha, put_two b hb] at h
  obtain ⟨h1, h2⟩ := List.cons.inj h
  obtain ⟨h3, _⟩ := List.cons.inj h2
  omega
theorem put_inj {n m w : Nat} (hw : w ≤ 8) (hn : n < 2 ^ (8 * w)) (hm : m < 2 ^ (8 * w)) (h : putK (n : Int) (w : Int) w = putK (m : Int) (w : Int) w) : n = m := by
  have h1 := gF_put n w hw w (Nat.le_refl _)
  have h2 := gF_put m w hw w (Nat.le_refl _)
  rw [h, h2] at h1
  simp only [Nat.sub_self, Nat.mul_zero, Nat.pow_zero, Nat.div_one] at h1
  rw [Nat.mod_eq_of_lt hn, Nat.mod_eq_of_lt hm] at h1
  omega
theorem seed_inj {s t : Int} (hs : 0 ≤ s ∧ s ≤ 18446744073709551615) (ht : 0 ≤ t ∧ t ≤ 18446744073709551615) (h : putK s 8 8 = putK t 8 8) : s = t := by
  obtain ⟨n, rfl⟩ : ∃ n : Nat, s = (n : Int) := ⟨s.toNat, by omega⟩
  obtain ⟨m, rfl⟩ : ∃ m : Nat, t = (m : Int) := ⟨t.toNat, by omega⟩
  have h64 : (2 : Nat) ^ (8 * 8) = 18446744073709551616 := by decide
  have := put_inj (n := n) (m := m) (w := 8) (by decide) (by omega) (by omega) h
  omega
theorem wrap_u32' (z : Int) : IntKind.u32.wrap z = z % 4294967296 := by simp [IntKind.wrap, IntKind.bits, IntKind.signed]
theorem bU32_inj {a b : Int} (ha : -2147483648 ≤ a ∧ a ≤ 2147483647) (hb : -2147483648 ≤ b ∧ b ≤ 2147483647) (h : bU32 a = bU32 b) : a = b := by
  unfold bU32 at h
  rw [wrap_u32', wrap_u32'] at h
  obtain ⟨n, hn⟩ : ∃ n : Nat, a % 4294967296 = (n : Int) := ⟨(a % 4294967296).toNat, by omega⟩
  obtain ⟨m, hm⟩ : ∃ m : Nat, b % 4294967296 = (m : Int) := ⟨(b % 4294967296).toNat, by omega⟩
  rw [hn, hm] at h
  have h32 : (2 : Nat) ^ (8 * 4) = 4294967296 := by decide
  have := put_inj (n := n) (m := m) (w := 4) (by decide) (by omega) (by omega) h
  omega
theorem getD_ext' {a b : List Int} (hl : a.length = b.length) (h : ∀ j, j < a.length → a.getD j 0 = b.getD j 0) : a = b := getD_ext hl h
theorem bDat_inj {L K : List Int} (hL : Fits .i8 L) (hK : Fits .i8 K) : ∀ n : Nat, n ≤ L.length → n ≤ K.length → bDat L n = bDat K n → ∀ j, j < n → L.getD j 0 = K.getD j 0
  | 0, _, _, _, j, hj => absurd hj (Nat.not_lt_zero _)
  | n + 1, h1, h2, h, j, hj => by
    rw [bDat, bDat] at h
    obtain ⟨e1, e2⟩ := app_inj h (by rw [bDat_len, bDat_len])
    by_cases e : j = n
    · subst e
      have q := bU8_inj e2
      have hr : ∀ M : List Int, Fits .i8 M → j < M.length → -128 ≤ M.getD j 0 ∧ M.getD j 0 ≤ 127 := fun M hM hj => by
        have hw : (Lit.int .i8 (M.getD j 0)).wf = true := by
          rw [List.getD_eq_getElem?_getD, List.getElem?_eq_getElem hj]
          exact hM _ (List.getElem_mem _)
        exact (stdIn_iff .i8 _).2 hw
      have r1 := hr L hL (by omega)
      have r2 := hr K hK (by omega)
      omega
    · exact bDat_inj hL hK n (by omega) (by omega) e1 j (by omega)
theorem bMov_inj {L K : List Int} (hL : Fits .i32 L) (hK : Fits .i32 K) : ∀ n : Nat, n ≤ L.length → n ≤ K.length → bMov L n = bMov K n → ∀ j, j < n → L.getD j 0 = K.getD j 0
  | 0, _, _, _, j, hj => absurd hj (Nat.not_lt_zero _)
  | n + 1, h1, h2, h, j, hj => by
    rw [bMov, bMov] at h
    obtain ⟨e1, e2⟩ := app_inj h (by rw [bMov_len, bMov_len])
    by_cases e : j = n
    · subst e
      have hr : ∀ M : List Int, Fits .i32 M → j < M.length → -2147483648 ≤ M.getD j 0 ∧ M.getD j 0 ≤ 2147483647 := fun M hM hj => by
        have hw : (Lit.int .i32 (M.getD j 0)).wf = true := by
          rw [List.getD_eq_getElem?_getD, List.getElem?_eq_getElem hj]
          exact hM _ (List.getElem_mem _)
        exact (stdIn_iff .i32 _).2 hw
      exact bU32_inj (hr L hL (by omega)) (hr K hK (by omega)) e2
    · exact bMov_inj hL hK n (by omega) (by omega) e1 j (by omega)
theorem bDim_inj {D F : List Int} (hD : ∀ x ∈ D, 1 ≤ x ∧ x ≤ 4096) (hF : ∀ x ∈ F, 1 ≤ x ∧ x ≤ 4096) : ∀ n : Nat, n ≤ D.length → n ≤ F.length → bDim D n = bDim F n → ∀ j, j < n → D.getD j 0 = F.getD j 0
  | 0, _, _, _, j, hj => absurd hj (Nat.not_lt_zero _)
  | n + 1, h1, h2, h, j, hj => by
    rw [bDim, bDim] at h
    obtain ⟨e1, e2⟩ := app_inj h (by rw [bDim_len, bDim_len])
    by_cases e : j = n
    · subst e
      have hr : ∀ M : List Int, (∀ x ∈ M, 1 ≤ x ∧ x ≤ 4096) → j < M.length → 0 ≤ M.getD j 0 ∧ M.getD j 0 ≤ 65535 := fun M hM hj => by
        rw [List.getD_eq_getElem?_getD, List.getElem?_eq_getElem hj]
        have := hM _ (List.getElem_mem hj)
        exact ⟨by show 0 ≤ M[j]; omega, by show M[j] ≤ 65535; omega⟩
      exact bU16_inj (hr D hD (by omega)) (hr F hF (by omega)) e2
    · exact bDim_inj hD hF n (by omega) (by omega) e1 j (by omega)
/-- A tensor's bytes, other bytes behind them: of as many lengths. -/
theorem tnB_inj {D F : List Int} {E G : Int} {L K R S : List Int} (h1 : mayB ⟨D, E, L⟩ = true) (h2 : mayB ⟨F, G, K⟩ = true) (hL : Fits .i8 L) (hK : Fits .i8 K) (hl : D.length = F.length) (h : tnB D E L ++ R = tnB F G K ++ S) : D = F ∧ E = G ∧ L = K ∧ R = S := by
  obtain ⟨m1, l1, x1, _⟩ := (mayB_eq D L E).1 h1
  obtain ⟨m2, l2, x2, _⟩ := (mayB_eq F K G).1 h2
  unfold tnB at h
  simp only [List.append_assoc] at h
  obtain ⟨e1, h3⟩ := app_inj h (by rw [bDim_len, bDim_len, hl])
  obtain ⟨e2, h4⟩ := app_inj h3 (by rw [bU8_len, bU8_len])
  have eD : D = F := by
    rw [hl] at e1
    exact getD_ext hl fun j hj => bDim_inj ((mayD_iff D).1 m1).2.1 ((mayD_iff F).1 m2).2.1 F.length (by omega) (by omega) e1 j (by omega)
  have eL : L.length = K.length := by rw [eD] at l1; omega
  obtain ⟨e3, h5⟩ := app_inj h4 (by rw [bDat_len, bDat_len, eL])
  have e4 := bU8_inj e2
  refine ⟨eD, by omega, ?_, h5⟩
  rw [eL] at e3
  exact getD_ext eL fun j hj => bDat_inj hL hK K.length (by omega) (by omega) e3 j (by omega)
end Go.Proofs.Ytekokhlldcmjfaa
