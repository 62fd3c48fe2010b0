/- Numbers as bytes (the same that DsE holds for layer 22). No program in sight. -/
import Derived.Test.YtekokhlldcmjfaaCdF
namespace Go.Proofs.Ytekokhlldcmjfaa
open Go.RowKit
set_option maxRecDepth 100000
set_option linter.unusedSimpArgs false
set_option linter.unusedVariables false
theorem wrap_u8 (z : Int) : IntKind.u8.wrap z = z % 256 := by
  simp [IntKind.wrap, IntKind.bits, IntKind.signed]
theorem wrap_u64 (z : Int) : IntKind.u64.wrap z = z % 18446744073709551616 := by
  simp [IntKind.wrap, IntKind.bits, IntKind.signed]
theorem fdiv_pow (z : Int) (j : Nat) : z.fdiv (2 ^ j) = z / 2 ^ j := Int.fdiv_eq_ediv_of_nonneg _ (Int.le_of_lt (Int.pow_pos (by decide)))
def byteD (n : Int) (j : Nat) : Int := IntKind.u8.wrap (n.fdiv (2 ^ j))
theorem byte_at (n s : Int) (j : Nat) (h : min s.toNat 64 = j) : byteAt n s = byteD n j := by
  unfold byteAt byteD
  rw [show IntKind.u64.bits = 64 from rfl, h]
theorem or_byte {x b : Nat} (hx : x < 2 ^ 56) (hb : b < 256) : stdBin .or .u64 (stdBin .shl .u64 (x : Int) 8) (b : Int) = ((x * 256 + b : Nat) : Int) := by
  have e1 : stdBin .shl .u64 (x : Int) 8 = ((x * 256 : Nat) : Int) := by
    show IntKind.u64.wrap ((x : Int) * 2 ^ (min (8 : Int).toNat 64)) = _
    rw [show min (8 : Int).toNat 64 = 8 from rfl, wrap_u64]
    have : (2 : Nat) ^ 56 = 72057594037927936 := by decide
    omega
  rw [e1]
  show IntKind.u64.wrap (((BitVec.ofInt 64 ((x * 256 : Nat) : Int) ||| BitVec.ofInt 64 (b : Int)).toNat : Nat) : Int) = _
  have h56 : (2 : Nat) ^ 56 = 72057594037927936 := by decide
  have h64 : (2 : Nat) ^ 64 = 18446744073709551616 := by decide
  rw [BitVec.toNat_or, BitVec.ofInt_natCast, BitVec.ofInt_natCast, BitVec.toNat_ofNat, BitVec.toNat_ofNat, Nat.mod_eq_of_lt (by omega), Nat.mod_eq_of_lt (by omega)]
  have h2 : x * 256 = x <<< 8 := by rw [Nat.shiftLeft_eq]
  have h3 : b < 2 ^ 8 := by omega
  rw [h2, ← Nat.shiftLeft_add_eq_or_of_lt h3, ← h2, wrap_u64]
  omega
theorem putK_get (n w : Int) : ∀ (k i : Nat), i < k → (putK n w k).getD i 0 = byteAt n (8 * (w - 1 - (i : Int)))
  | 0, i, h => by omega
  | k + 1, i, h => by
    rw [putK]
    have hl := putK_len n w k
    simp only [List.getD_eq_getElem?_getD]
    by_cases e : i < k
    · rw [List.getElem?_append, if_pos (by omega)]
      have := putK_get n w k i e
      rwa [List.getD_eq_getElem?_getD] at this
    · have : i = k := by omega
      subst this
      rw [List.getElem?_append, if_neg (by omega), hl, Nat.sub_self]
      rfl
theorem byte_nat (n w i : Nat) (hw : w ≤ 8) (hi : i < w) : byteAt (n : Int) (8 * ((w : Int) - 1 - (i : Int))) = ((n / 2 ^ (8 * (w - 1 - i)) % 256 : Nat) : Int) := by
  rw [byte_at _ _ (8 * (w - 1 - i)) (by omega)]
  unfold byteD
  rw [fdiv_pow, wrap_u8]
  have : ((2 : Int) ^ (8 * (w - 1 - i))) = ((2 ^ (8 * (w - 1 - i)) : Nat) : Int) := by
    rw [Int.natCast_pow]; rfl
  rw [this]
  rfl
theorem gF_put (n w : Nat) (hw : w ≤ 8) : ∀ k : Nat, k ≤ w → gF (putK (n : Int) (w : Int) w) 0 k = ((n / 2 ^ (8 * (w - k)) % 2 ^ (8 * k) : Nat) : Int)
  | 0, _ => by simp [gF, Nat.mod_one]
  | k + 1, hk => by
    have ih := gF_put n w hw k (by omega)
    show stdBin .or .u64 (stdBin .shl .u64 (gF (putK (n : Int) (w : Int) w) 0 k) 8) ((putK (n : Int) (w : Int) w).getD (0 + (k : Int)).toNat 0) = _
    have e1 : (0 + (k : Int)).toNat = k := by omega
    rw [ih, e1, putK_get _ _ w k (by omega), byte_nat n w k hw (by omega)]
    have h1 : (2 : Nat) ^ (8 * k) ≤ 2 ^ 56 := Nat.pow_le_pow_right (by decide) (by omega)
    have h0 : 0 < (2 : Nat) ^ (8 * k) := Nat.pow_pos (by decide)
    rw [or_byte (Nat.lt_of_lt_of_le (Nat.mod_lt _ h0) h1) (Nat.mod_lt _ (by decide))]
    obtain ⟨m, hm⟩ : ∃ m, m = n / 2 ^ (8 * (w - (k + 1))) := ⟨_, rfl⟩
    have e2 : n / 2 ^ (8 * (w - 1 - k)) = m := by rw [hm]; congr 2; omega
    have e3 : n / 2 ^ (8 * (w - k)) = m / 256 := by
      rw [hm, Nat.div_div_eq_div_mul]
      have : 8 * (w - k) = 8 * (w - (k + 1)) + 8 := by omega
      rw [this, Nat.pow_add]
    have e4 : (2 : Nat) ^ (8 * (k + 1)) = 256 * 2 ^ (8 * k) := by
      have : 8 * (k + 1) = 8 + 8 * k := by omega
      rw [this, Nat.pow_add]
    rw [← hm, e2, e3, e4, Nat.mod_mul]
    congr 1
    omega
theorem gF_mid {X E Y : List Int} : gF (X ++ (E ++ Y)) (X.length : Int) E.length = gF E 0 E.length := by
  refine gF_congr _ fun i hi => ?_
  have e1 : ((X.length : Int) + (i : Int)).toNat = X.length + i := by omega
  have e2 : (0 + (i : Int)).toNat = i := by omega
  rw [e1, e2]
  simp only [List.getD_eq_getElem?_getD]
  rw [List.getElem?_append, if_neg (by omega), show X.length + i - X.length = i from by omega, List.getElem?_append, if_pos hi]
theorem take_mid {X E Y : List Int} : std.lsub (X ++ (E ++ Y)) (X.length : Int) (E.length : Int) = E := by
  show List.take (E.length : Int).toNat (List.drop (X.length : Int).toNat (X ++ (E ++ Y))) = E
  have e1 : ((E.length : Nat) : Int).toNat = E.length := by omega
  have e2 : ((X.length : Nat) : Int).toNat = X.length := by omega
  rw [e1, e2, List.drop_left, List.take_left]
/-- A byte, read. -/
theorem gF_byte {l : List Int} {a : Int} (h : 0 ≤ l.getD a.toNat 0 ∧ l.getD a.toNat 0 ≤ 255) : gF l a 1 = l.getD a.toNat 0 := by
  show stdBin .or .u64 (stdBin .shl .u64 0 8) (l.getD (a + (0 : Nat)).toNat 0) = _
  have e0 : a + ((0 : Nat) : Int) = a := by omega
  rw [e0]
  obtain ⟨b, hb⟩ : ∃ b : Nat, l.getD a.toNat 0 = (b : Int) := ⟨(l.getD a.toNat 0).toNat, by omega⟩
  rw [hb] at h ⊢
  have := or_byte (x := 0) (b := b) (by decide) (by omega)
  simpa using this
theorem gF_two {l : List Int} {a : Int} (h0 : 0 ≤ a) (h : 0 ≤ l.getD a.toNat 0 ∧ l.getD a.toNat 0 ≤ 255) (h' : 0 ≤ l.getD (a + 1).toNat 0 ∧ l.getD (a + 1).toNat 0 ≤ 255) : gF l a 2 = l.getD a.toNat 0 * 256 + l.getD (a + 1).toNat 0 := by
  have h1 := gF_byte h
  show stdBin .or .u64 (stdBin .shl .u64 (gF l a 1) 8) (l.getD (a + (1 : Nat)).toNat 0) = _
  rw [h1]
  have e0 : a + ((1 : Nat) : Int) = a + 1 := rfl
  rw [e0]
  obtain ⟨x, hx⟩ : ∃ x : Nat, l.getD a.toNat 0 = (x : Int) := ⟨(l.getD a.toNat 0).toNat, by omega⟩
  obtain ⟨b, hb⟩ : ∃ b : Nat, l.getD (a + 1).toNat 0 = (b : Int) := ⟨(l.getD (a + 1).toNat 0).toNat, by omega⟩
  rw [hx] at h ⊢
  rw [hb] at h' ⊢
  have h56 : (2 : Nat) ^ 56 = 72057594037927936 := by decide
  rw [or_byte (x := x) (b := b) (by omega) (by omega)]
  push_cast
  rfl
theorem put_one (v : Int) : putK (IntKind.u64.wrap v) 1 1 = [v % 256] := by
  show [] ++ [byteAt (IntKind.u64.wrap v) (8 * (1 - 1 - ((0 : Nat) : Int)))] = _
  rw [byte_at _ _ 0 (by decide)]
  unfold byteD
  rw [List.nil_append, fdiv_pow, wrap_u8, wrap_u64]
  congr 1
  omega
theorem put_two (v : Int) (h : 0 ≤ v ∧ v ≤ 65535) : putK (IntKind.u64.wrap v) 2 2 = [v / 256, v % 256] := by
  show ([] ++ [byteAt (IntKind.u64.wrap v) (8 * (2 - 1 - ((0 : Nat) : Int)))]) ++ [byteAt (IntKind.u64.wrap v) (8 * (2 - 1 - ((1 : Nat) : Int)))] = _
  rw [byte_at _ _ 8 (by decide), byte_at _ _ 0 (by decide)]
  unfold byteD
  rw [List.nil_append, fdiv_pow, fdiv_pow, wrap_u8, wrap_u8, wrap_u64]
  have e1 : v % 18446744073709551616 = v := by omega
  rw [e1]
  have e2 : v / 2 ^ 8 % 256 = v / 256 := by
    have : (2 : Int) ^ 8 = 256 := by decide
    rw [this]; omega
  have e3 : v / 2 ^ 0 % 256 = v % 256 := by
    have : (2 : Int) ^ 0 = 1 := by decide
    rw [this]; omega
  rw [e2, e3]
  rfl
/-- Texts that are the same, of bytes that are. -/
theorem str_eq {a b : List Int} (h : a = b) : ((strOfNums a).toList == (strOfNums b).toList) = true := by rw [h, beq_iff_eq]
end Go.Proofs.Ytekokhlldcmjfaa
