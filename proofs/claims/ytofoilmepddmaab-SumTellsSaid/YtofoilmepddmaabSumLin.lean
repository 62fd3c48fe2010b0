/- What the sums tell: four bytes side by side are one word of 32 bits. No program in sight but the sum's own function. -/
import Derived.Test.YtofoilmepddmaabCrc
namespace Go.Proofs.Ytofoilmepddmaab
open Go.RowKit
set_option maxHeartbeats 1000000
theorem bit_linear (x y : BitVec 32) : crcBit (x ^^^ y) = crcBit x ^^^ crcBit y := by
  have ha : (x ^^^ y) &&& 1#32 = (x &&& 1#32) ^^^ (y &&& 1#32) := by
    ext i
    simp only [BitVec.getElem_and, BitVec.getElem_xor]
    cases x[i] <;> cases y[i] <;> cases (1#32)[i] <;> rfl
  unfold crcBit
  rw [ha, BitVec.ushiftRight_xor_distrib]
  rcases and1_or x with h | h <;> rcases and1_or y with k | k <;> simp only [h, k]
  · simp
    rw [show x >>> 1 ^^^ 3988292384#32 ^^^ (y >>> 1 ^^^ 3988292384#32) = (x >>> 1 ^^^ y >>> 1) ^^^ (3988292384#32 ^^^ 3988292384#32) from by ac_rfl]
    simp
  · simp; ac_rfl
  · simp; ac_rfl
  · simp
theorem on_linear (k : Nat) : ∀ (x y : BitVec 32), bitsOn k (x ^^^ y) = bitsOn k x ^^^ bitsOn k y := by
  induction k with
  | zero => intro x y; rfl
  | succ k ih => intro x y; simp only [bitsOn, bit_linear, ih]
theorem bit_zero (x : BitVec 32) (h : crcBit x = 0#32) : x = 0#32 := by
  unfold crcBit at h
  rcases and1_or x with k | k
  · rw [if_pos k] at h
    have h1 : x >>> 1 = 3988292384#32 := by
      have := congrArg (· ^^^ 3988292384#32) h
      simpa [BitVec.xor_assoc] using this
    have h2 := congrArg BitVec.toNat h1
    rw [BitVec.toNat_ushiftRight, Nat.shiftRight_eq_div_pow] at h2
    have := x.isLt
    simp at h2
    omega
  · rw [if_neg (by rw [k]; decide)] at h
    have h2 := congrArg BitVec.toNat h
    have h3 := congrArg BitVec.toNat k
    rw [BitVec.toNat_ushiftRight, Nat.shiftRight_eq_div_pow] at h2
    rw [BitVec.toNat_and] at h3
    have h4 : x.toNat % 2 = 0 := by rw [← Nat.and_one_is_mod]; exact h3
    apply BitVec.eq_of_toNat_eq
    simp at h2 ⊢
    omega
theorem on_zero (k : Nat) : ∀ x : BitVec 32, bitsOn k x = 0#32 → x = 0#32 := by
  induction k with
  | zero => intro x h; exact h
  | succ k ih => intro x h; exact bit_zero _ (ih _ h)
theorem xor_eq_zero {x y : BitVec 32} (h : x ^^^ y = 0#32) : x = y := by
  have := congrArg (· ^^^ y) h
  simpa [BitVec.xor_assoc] using this
theorem on_inj (k : Nat) (x y : BitVec 32) (h : bitsOn k x = bitsOn k y) : x = y := by
  apply xor_eq_zero
  apply on_zero k
  rw [on_linear, h, BitVec.xor_self]
theorem on_add (j k : Nat) : ∀ x, bitsOn (j + k) x = bitsOn k (bitsOn j x) := by
  induction j with
  | zero => intro x; rw [Nat.zero_add]; rfl
  | succ j ih => intro x; rw [show j + 1 + k = (j + k) + 1 from by omega]; exact ih _
theorem bit_even (x : BitVec 32) (h : x.toNat % 2 = 0) : crcBit x = x >>> 1 := by
  unfold crcBit
  rw [if_neg]
  intro e
  have := congrArg BitVec.toNat e
  rw [BitVec.toNat_and] at this
  have h4 : x.toNat % 2 = 1 := by rw [← Nat.and_one_is_mod]; exact this
  omega
theorem on_even (k : Nat) : ∀ x : BitVec 32, x.toNat % 2 ^ k = 0 → bitsOn k x = x >>> k := by
  induction k with
  | zero => intro x _; simp [bitsOn]
  | succ k ih =>
    intro x h
    have h2 : x.toNat % 2 = 0 := by
      have : x.toNat % 2 ^ (k + 1) % 2 = x.toNat % 2 := Nat.mod_mod_of_dvd _ ⟨2 ^ k, by rw [Nat.pow_succ, Nat.mul_comm]⟩
      omega
    show bitsOn k (crcBit x) = _
    rw [bit_even x h2, ih]
    · rw [← BitVec.shiftRight_add, Nat.add_comm]
    · rw [BitVec.toNat_ushiftRight, Nat.shiftRight_eq_div_pow, Nat.pow_one]
      have e : x.toNat = 2 ^ (k + 1) * (x.toNat / 2 ^ (k + 1)) := by have := Nat.div_add_mod x.toNat (2 ^ (k + 1)); omega
      have e2 : x.toNat / 2 = 2 ^ k * (x.toNat / 2 ^ (k + 1)) := by
        obtain ⟨q, hq⟩ : ∃ q, x.toNat / 2 ^ (k + 1) = q := ⟨_, rfl⟩
        rw [hq] at e ⊢
        rw [e, Nat.pow_succ, Nat.mul_assoc, Nat.mul_left_comm]
        omega
      rw [e2]
      exact Nat.mul_mod_right _ _
/-- So many bytes as one word, the first one lowest. -/
def wordOf : List Int → Nat
  | [] => 0
  | x :: l => x.toNat + 256 * wordOf l
theorem wordOf_lt : ∀ l : List Int, (∀ x ∈ l, 0 ≤ x ∧ x ≤ 255) → wordOf l < 256 ^ l.length
  | [], _ => by simp [wordOf]
  | x :: l, h => by
    have h1 := h x (by simp)
    have h2 := wordOf_lt l (fun y hy => h y (by simp [hy]))
    simp only [wordOf, List.length_cons, Nat.pow_succ]
    omega
theorem wordOf_inj : ∀ l m : List Int, l.length = m.length → (∀ x ∈ l, 0 ≤ x ∧ x ≤ 255) → (∀ x ∈ m, 0 ≤ x ∧ x ≤ 255) → wordOf l = wordOf m → l = m
  | [], [], _, _, _, _ => rfl
  | [], _ :: _, h, _, _, _ => by simp at h
  | _ :: _, [], h, _, _, _ => by simp at h
  | x :: l, y :: m, h, hl, hm, e => by
    have h1 := hl x (by simp)
    have h2 := hm y (by simp)
    simp only [wordOf] at e
    have e1 : x = y := by omega
    have e2 : wordOf l = wordOf m := by omega
    rw [e1, wordOf_inj l m (by simpa using h) (fun z hz => hl z (by simp [hz])) (fun z hz => hm z (by simp [hz])) e2]
theorem xor_word (x : Int) (k : Nat) (h0 : 0 ≤ x) (h1 : x ≤ 255) (hk : 256 * k < 4294967296) : BitVec.ofInt 32 x ^^^ BitVec.ofNat 32 (256 * k) = BitVec.ofNat 32 (x.toNat + 256 * k) := by
  obtain ⟨n, rfl⟩ := Int.eq_ofNat_of_zero_le h0
  apply BitVec.eq_of_toNat_eq
  rw [BitVec.ofInt_natCast, BitVec.toNat_xor, BitVec.toNat_ofNat, BitVec.toNat_ofNat, BitVec.toNat_ofNat, Nat.mod_eq_of_lt (by omega), Nat.mod_eq_of_lt (by omega), Nat.mod_eq_of_lt (by omega)]
  rw [show 256 * k = k <<< 8 from by rw [Nat.shiftLeft_eq]; omega]
  show n ^^^ (k <<< 8) = n + k <<< 8
  have : n < 2 ^ 8 := by omega
  rw [Nat.add_comm, Nat.shiftLeft_add_eq_or_of_lt this, Nat.xor_comm]
  apply Nat.eq_of_testBit_eq
  intro i
  rw [Nat.testBit_xor, Nat.testBit_or, Nat.testBit_shiftLeft]
  by_cases hi : 8 ≤ i
  · have : n.testBit i = false := Nat.testBit_lt_two_pow (Nat.lt_of_lt_of_le this (Nat.pow_le_pow_right (by omega) hi))
    simp [this]
  · simp [hi]
/-- Up to four bytes are worked in as one word. -/
theorem on_word : ∀ (l : List Int) (s : BitVec 32), l.length ≤ 4 → (∀ x ∈ l, 0 ≤ x ∧ x ≤ 255) → crcOn s l = bitsOn (8 * l.length) (s ^^^ BitVec.ofNat 32 (wordOf l))
  | [], s, _, _ => by simp [crcOn, wordOf, bitsOn]
  | x :: l, s, hl, h => by
    have h1 := h x (by simp)
    have ht : ∀ y ∈ l, 0 ≤ y ∧ y ≤ 255 := fun y hy => h y (by simp [hy])
    have hw := wordOf_lt l ht
    have hl' : l.length ≤ 3 := by simpa using hl
    have hp : 256 ^ l.length ≤ 256 ^ 3 := Nat.pow_le_pow_right (by omega) hl'
    have ih := on_word l (crcByte s x) (by omega) ht
    show crcOn (crcByte s x) l = _
    rw [ih, wordOf, ← xor_word x (wordOf l) h1.1 h1.2 (by omega), show 8 * (x :: l).length = 8 + 8 * l.length from by simp; omega, on_add, ← BitVec.xor_assoc, on_linear 8 (s ^^^ BitVec.ofInt 32 x)]
    congr 1
    show bitsOn 8 (s ^^^ BitVec.ofInt 32 x) ^^^ _ = _
    congr 1
    have e32 : 256 * wordOf l % 2 ^ 32 = 256 * wordOf l := Nat.mod_eq_of_lt (by omega)
    rw [on_even 8 _ (by rw [BitVec.toNat_ofNat, e32]; omega)]
    apply BitVec.eq_of_toNat_eq
    rw [BitVec.toNat_ushiftRight, BitVec.toNat_ofNat, BitVec.toNat_ofNat, Nat.mod_eq_of_lt (by omega), Nat.mod_eq_of_lt (by omega), Nat.shiftRight_eq_div_pow]
    omega
theorem crcOn_inj_state : ∀ (l : List Int) (s t : BitVec 32), crcOn s l = crcOn t l → s = t
  | [], _, _, h => h
  | x :: l, s, t, h => by
    have h1 := crcOn_inj_state l (crcByte s x) (crcByte t x) h
    have h2 := on_inj 8 _ _ h1
    apply xor_eq_zero
    have h3 : (s ^^^ BitVec.ofInt 32 x) ^^^ (t ^^^ BitVec.ofInt 32 x) = 0#32 := by rw [h2, BitVec.xor_self]
    rw [show (s ^^^ BitVec.ofInt 32 x) ^^^ (t ^^^ BitVec.ofInt 32 x) = (s ^^^ t) ^^^ (BitVec.ofInt 32 x ^^^ BitVec.ofInt 32 x) from by ac_rfl, BitVec.xor_self, BitVec.xor_zero] at h3
    exact h3
theorem crc_tells (p m m' s : List Int) (h : m.length = m'.length) (h4 : m.length ≤ 4) (hm : ∀ x ∈ m, 0 ≤ x ∧ x ≤ 255) (hm' : ∀ x ∈ m', 0 ≤ x ∧ x ≤ 255) (e : crcL (p ++ m ++ s) = crcL (p ++ m' ++ s)) : m = m' := by
  unfold crcL at e
  have e1 := congrArg (fun x => ~~~ x) e
  simp only [BitVec.not_not] at e1
  unfold crcOn at e1
  rw [List.foldl_append, List.foldl_append, List.foldl_append, List.foldl_append] at e1
  have e2 := crcOn_inj_state s _ _ e1
  have e3 := on_word m (List.foldl crcByte 4294967295#32 p) h4 hm
  have e4 := on_word m' (List.foldl crcByte 4294967295#32 p) (by omega) hm'
  unfold crcOn at e3 e4
  rw [e3, e4, h] at e2
  have e5 := on_inj _ _ _ e2
  have e6 : BitVec.ofNat 32 (wordOf m) = BitVec.ofNat 32 (wordOf m') := by
    have := congrArg (fun x => List.foldl crcByte 4294967295#32 p ^^^ x) e5
    simpa [← BitVec.xor_assoc] using this
  have w1 := wordOf_lt m hm
  have w2 := wordOf_lt m' hm'
  have p1 : 256 ^ m.length ≤ 256 ^ 4 := Nat.pow_le_pow_right (by omega) h4
  have p2 : 256 ^ m'.length ≤ 256 ^ 4 := Nat.pow_le_pow_right (by omega) (by omega)
  have e7 := congrArg BitVec.toNat e6
  rw [BitVec.toNat_ofNat, BitVec.toNat_ofNat, Nat.mod_eq_of_lt (by omega), Nat.mod_eq_of_lt (by omega)] at e7
  exact wordOf_inj m m' h hm hm' e7
end Go.Proofs.Ytofoilmepddmaab
