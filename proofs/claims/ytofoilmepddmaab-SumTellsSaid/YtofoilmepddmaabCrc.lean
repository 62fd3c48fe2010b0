/- What the sums of bytes are. -/
import Derived.Test.YtofoilmepddmaabProg
import Derived.Test.YtofoilmepddmaabBv
import Derived.Test.YtofoilmepddmaabMem
import Derived.Lib.SlBytesConst
namespace Go.Proofs.Ytofoilmepddmaab
open Go.RowKit
set_option maxHeartbeats 1000000
/-! ### 32 bits -/
def N32 (x : BitVec 32) : Int := (x.toNat : Int)
theorem N32_lo (x : BitVec 32) : 0 ≤ N32 x := by unfold N32; omega
theorem N32_hi (x : BitVec 32) : N32 x ≤ 4294967295 := by unfold N32; omega
theorem N32_inj {x y : BitVec 32} (h : N32 x = N32 y) : x = y := BitVec.eq_of_toNat_eq (by unfold N32 at h; omega)
theorem N32_of (a : Int) (h0 : 0 ≤ a) (h1 : a ≤ 4294967295) : N32 (BitVec.ofInt 32 a) = a := by
  unfold N32
  obtain ⟨n, rfl⟩ := Int.eq_ofNat_of_zero_le h0
  rw [BitVec.ofInt_natCast, BitVec.toNat_ofNat]; omega
theorem N32_back (x : BitVec 32) : BitVec.ofInt 32 (N32 x) = x := by
  apply N32_inj
  exact N32_of _ (N32_lo x) (N32_hi x)
theorem xor32 (a b : BitVec 32) : bits .xor .u32 (N32 a) (N32 b) = N32 (a ^^^ b) := by
  show IntKind.u32.wrap ((BitVec.ofInt 32 (N32 a) ^^^ BitVec.ofInt 32 (N32 b)).toNat : Int) = _
  rw [N32_back, N32_back]
  exact IntWalk.u32_in _ ⟨N32_lo _, N32_hi _⟩
theorem and32 (a b : BitVec 32) : bits .and .u32 (N32 a) (N32 b) = N32 (a &&& b) := by
  show IntKind.u32.wrap ((BitVec.ofInt 32 (N32 a) &&& BitVec.ofInt 32 (N32 b)).toNat : Int) = _
  rw [N32_back, N32_back]
  exact IntWalk.u32_in _ ⟨N32_lo _, N32_hi _⟩
theorem shr32 (a : BitVec 32) : N32 a / (2 : Int) = N32 (a >>> 1) := by
  unfold N32; rw [BitVec.toNat_ushiftRight, Nat.shiftRight_eq_div_pow]; omega
def crcBit (s : BitVec 32) : BitVec 32 := if s &&& 1#32 = 1#32 then (s >>> 1) ^^^ 0xedb88320#32 else s >>> 1
def bitsOn : Nat → BitVec 32 → BitVec 32
  | 0, s => s
  | k + 1, s => bitsOn k (crcBit s)
def crcByte (s : BitVec 32) (x : Int) : BitVec 32 := bitsOn 8 (s ^^^ BitVec.ofInt 32 x)
def crcOn (s : BitVec 32) (l : List Int) : BitVec 32 := l.foldl crcByte s
def crcL (l : List Int) : BitVec 32 := ~~~ (crcOn 0xffffffff#32 l)
theorem and1_or (s : BitVec 32) : s &&& 1#32 = 1#32 ∨ s &&& 1#32 = 0#32 := by
  have h : (s &&& 1#32).toNat = s.toNat % 2 := by
    rw [BitVec.toNat_and]; exact Nat.and_one_is_mod _
  rcases Nat.mod_two_eq_zero_or_one s.toNat with h0 | h0
  · exact .inr (BitVec.eq_of_toNat_eq (by rw [h, h0]; rfl))
  · exact .inl (BitVec.eq_of_toNat_eq (by rw [h, h0]; rfl))
theorem bit_one (s : BitVec 32) (h : s &&& 1#32 = 1#32) : bits .and .u32 (N32 s) 1 = 1 ∧ bits .xor .u32 (N32 (s >>> 1)) 3988292384 = N32 (crcBit s) := by
  constructor
  · have := and32 s 1#32; rw [h] at this; exact this
  · have := xor32 (s >>> 1) 0xedb88320#32
    unfold crcBit; rw [if_pos h]; exact this
theorem bit_none (s : BitVec 32) (h : s &&& 1#32 = 0#32) : bits .and .u32 (N32 s) 1 = 0 ∧ N32 (s >>> 1) = N32 (crcBit s) := by
  constructor
  · have := and32 s 1#32; rw [h] at this; exact this
  · unfold crcBit; rw [if_neg (by rw [h]; decide)]
theorem not32 (a : BitVec 32) : bits .xor .u32 IntKind.u32.max (N32 a) = N32 (~~~ a) := by
  have := xor32 0xffffffff#32 a
  rw [show 0xffffffff#32 ^^^ a = ~~~ a from by rw [BitVec.xor_comm, ← BitVec.xor_allOnes]; rfl] at this
  exact this
theorem xor_byte (s : BitVec 32) (x : Int) (h0 : 0 ≤ x) (h1 : x ≤ 255) : bits .xor .u32 (N32 s) x = N32 (s ^^^ BitVec.ofInt 32 x) := by
  have := xor32 s (BitVec.ofInt 32 x)
  rwa [N32_of x h0 (by omega)] at this
theorem crc_any (v : Value) (l : List Int) (w : World) (hr : Reads .u8 w v l) :
    Calls Try.prog 43 #[v] w fun e w' => e = .returned (.int .u32 (N32 (crcL l))) ∧ w = w' := by
  obtain ⟨⟨ao, cap, rfl, _, _, h⟩, hb, hm⟩ := hr
  unfold maxLen at hm
  simp only [List.length_map] at h ⊢
  obtain ⟨n, hn⟩ : ∃ n, l.length = n := ⟨_, rfl⟩
  rw [hn] at hm ⊢
  obtain ⟨R, hR⟩ : ∃ R, crcOn 0xffffffff#32 l = R := ⟨_, rfl⟩
  have HR := Lib.hid hR
  have HB := Lib.hid hb
  clear hR hb
  go_enter Try.func43, Try.ntmps43
  go_wp2
  go_loop [3, 9] (fun s c => ∃ (k : Nat) (S : BitVec 32), c = .int .i64 k ∧ s = .int .u32 (N32 S) ∧ k ≤ n ∧ crcOn S (l.drop k) = R) (fun _ c => n - (intOf c).toNat)
  case atStart => exact ⟨0, _, rfl, rfl, by omega, HR.out⟩
  case round =>
    obtain ⟨k, S, rfl, rfl, hk, hS⟩ := hrel
    have HS := Lib.hid hS
    clear hS
    by_cases hlt : k < n
    · have e1 := kv_getD .u8 l k (by omega)
      rcases h with h | ⟨b1, o1, rfl, h⟩
      · simp [h] at e1
      have g1 := h k _ e1
      obtain ⟨hx0, hx1⟩ := HB.out.u8 k
      have hdr := drop_getD l k (by omega)
      obtain ⟨x, hx⟩ : ∃ x, l.getD k 0 = x := ⟨_, rfl⟩
      rw [hx] at g1 hx0 hx1 hdr
      have HD := Lib.hid hdr
      have hxb := xor_byte S x hx0 hx1
      clear e1 h hx hdr
      have HT : Hid (crcOn (bitsOn 8 (S ^^^ BitVec.ofInt 32 x)) (l.drop (k + 1)) = R) := Lib.hid (by have := HS.out; rw [HD.out] at this; exact this)
      go_wp2
      go_loop [3, 17] (fun s c => ∃ (j : Nat) (S' : BitVec 32), c = .int .i64 j ∧ s = .int .u32 (N32 S') ∧ j ≤ 8 ∧ bitsOn (8 - j) S' = bitsOn 8 (S ^^^ BitVec.ofInt 32 x)) (fun _ c => 8 - (intOf c).toNat)
      case atStart => exact ⟨0, _, rfl, rfl, by omega, rfl⟩
      case round =>
        obtain ⟨j, S', rfl, rfl, hj, hS'⟩ := hrel
        have HJ := Lib.hid hS'
        clear hS'
        by_cases hlt2 : j < 8
        · have hs := shr32 S'
          have HK : Hid (bitsOn (8 - (j + 1)) (crcBit S') = bitsOn 8 (S ^^^ BitVec.ofInt 32 x)) := Lib.hid (by
            have := HJ.out; rw [show 8 - j = (8 - (j + 1)) + 1 from by omega, bitsOn] at this; exact this)
          rcases and1_or S' with hb | hb
          · obtain ⟨e1, e2⟩ := bit_one S' hb
            clear hb
            go_wp2
            go_round
            case rel => exact ⟨j + 1, _, by go_num, rfl, by omega, HK.out⟩
            case measure => simp [intOf]; omega
          · obtain ⟨e1, e2⟩ := bit_none S' hb
            have E2 := Lib.hid e2
            clear hb e2
            go_wp2
            go_round
            case rel => exact ⟨j + 1, _, by go_num, by rw [E2.out], by omega, HK.out⟩
            case measure => simp [intOf]; omega
        · have hj8 : j = 8 := by omega
          subst hj8
          have HZ : Hid (S' = bitsOn 8 (S ^^^ BitVec.ofInt 32 x)) := Lib.hid HJ.out
          go_wp2
          go_round
          case rel => exact ⟨k + 1, S', by go_num, rfl, by omega, by rw [HZ.out]; exact HT.out⟩
          case measure => simp [intOf]; omega
    · have hkn : k = n := by omega
      subst hkn
      have hn2 := not32 S
      go_wp2
      go_ret
      exact ⟨ret_int (by
        have := HS.out
        rw [← hn, List.drop_length] at this
        unfold crcL; rw [HR.out, ← this]; rfl), rfl⟩
theorem rcrc_any (v : Value) (l : List Int) (w : World) (hr : Reads .u8 w v l) :
    Calls Try.prog 44 #[v] w fun e w' => e = .returned (.int .u32 (N32 (crcL l))) ∧ w = w' := by
  obtain ⟨⟨ao, cap, rfl, _, _, h⟩, hb, hm⟩ := hr
  unfold maxLen at hm
  simp only [List.length_map] at h ⊢
  obtain ⟨n, hn⟩ : ∃ n, l.length = n := ⟨_, rfl⟩
  rw [hn] at hm ⊢
  obtain ⟨R, hR⟩ : ∃ R, crcOn 0xffffffff#32 l = R := ⟨_, rfl⟩
  have HR := Lib.hid hR
  have HB := Lib.hid hb
  clear hR hb
  go_enter Try.func44, Try.ntmps44
  go_wp2
  go_loop [3, 8] (fun s c => ∃ (k : Nat) (S : BitVec 32), c = .int .i64 k ∧ s = .int .u32 (N32 S) ∧ k ≤ n ∧ crcOn S (l.drop k) = R) (fun _ c => n - (intOf c).toNat)
  case atStart => exact ⟨0, _, rfl, rfl, by omega, HR.out⟩
  case round =>
    obtain ⟨k, S, rfl, rfl, hk, hS⟩ := hrel
    have HS := Lib.hid hS
    clear hS
    by_cases hlt : k < n
    · have e1 := kv_getD .u8 l k (by omega)
      rcases h with h | ⟨b1, o1, rfl, h⟩
      · simp [h] at e1
      have g1 := h k _ e1
      obtain ⟨hx0, hx1⟩ := HB.out.u8 k
      have hdr := drop_getD l k (by omega)
      obtain ⟨x, hx⟩ : ∃ x, l.getD k 0 = x := ⟨_, rfl⟩
      rw [hx] at g1 hx0 hx1 hdr
      have HD := Lib.hid hdr
      have hxb := xor_byte S x hx0 hx1
      clear e1 h hx hdr
      have HT : Hid (crcOn (bitsOn 8 (S ^^^ BitVec.ofInt 32 x)) (l.drop (k + 1)) = R) := Lib.hid (by have := HS.out; rw [HD.out] at this; exact this)
      go_wp2
      go_loop [3, 16] (fun s c => ∃ (j : Nat) (S' : BitVec 32), c = .int .i64 j ∧ s = .int .u32 (N32 S') ∧ j ≤ 8 ∧ bitsOn (8 - j) S' = bitsOn 8 (S ^^^ BitVec.ofInt 32 x)) (fun _ c => 8 - (intOf c).toNat)
      case atStart => exact ⟨0, _, rfl, rfl, by omega, rfl⟩
      case round =>
        obtain ⟨j, S', rfl, rfl, hj, hS'⟩ := hrel
        have HJ := Lib.hid hS'
        clear hS'
        by_cases hlt2 : j < 8
        · have hs := shr32 S'
          have HK : Hid (bitsOn (8 - (j + 1)) (crcBit S') = bitsOn 8 (S ^^^ BitVec.ofInt 32 x)) := Lib.hid (by
            have := HJ.out; rw [show 8 - j = (8 - (j + 1)) + 1 from by omega, bitsOn] at this; exact this)
          rcases and1_or S' with hb | hb
          · obtain ⟨e1, e2⟩ := bit_one S' hb
            clear hb
            go_wp2
            go_round
            case rel => exact ⟨j + 1, _, by go_num, rfl, by omega, HK.out⟩
            case measure => simp [intOf]; omega
          · obtain ⟨e1, e2⟩ := bit_none S' hb
            have E2 := Lib.hid e2
            clear hb e2
            go_wp2
            go_round
            case rel => exact ⟨j + 1, _, by go_num, by rw [E2.out], by omega, HK.out⟩
            case measure => simp [intOf]; omega
        · have hj8 : j = 8 := by omega
          subst hj8
          have HZ : Hid (S' = bitsOn 8 (S ^^^ BitVec.ofInt 32 x)) := Lib.hid HJ.out
          go_wp2
          go_round
          case rel => exact ⟨k + 1, S', by go_num, rfl, by omega, by rw [HZ.out]; exact HT.out⟩
          case measure => simp [intOf]; omega
    · have hkn : k = n := by omega
      subst hkn
      have hn2 := not32 S
      go_wp2
      go_ret
      exact ⟨ret_int (by
        have := HS.out
        rw [← hn, List.drop_length] at this
        unfold crcL; rw [HR.out, ← this]; rfl), rfl⟩
theorem digits_crc : crcL [49, 50, 51, 52, 53, 54, 55, 56, 57] = 0xcbf43926#32 := by decide +kernel
theorem awake4_eq : (N32 (crcL [49, 50, 51, 52, 53, 54, 55, 56, 57]) == 3421780262) = true := by rw [digits_crc]; decide
theorem awake4_any (w : World) : Calls Try.prog 45 #[] w fun e w' => e = .returned (.bool true) ∧ Below w.heap.size w w' := by
  have h := awake4_eq
  have kc := fun (w : World) (C : Array Value) (n c : Nat) => Lib.run_convert_bytes_const (P := Try.prog) w 32 5 C n c Try.underlying32 Try.underlying5
  go_enter Try.func45, Try.ntmps45
  go_wp2_with fail
  refine (crc_any _ [49, 50, 51, 52, 53, 54, 55, 56, 57] _ ⟨?_, ?_, ?_⟩).mono ?_
  · refine ⟨_, 9, rfl, by decide, by decide, .inr ⟨w.heap.size, 0, rfl, ?_⟩⟩
    intro i u hu
    rw [Nat.zero_add, World.cell?_alloc_mark]
    simpa using hu
  · intro x hx; simp at hx; rcases hx with rfl | rfl | rfl | rfl | rfl | rfl | rfl | rfl | rfl <;> rfl
  · unfold maxLen; simp
  rintro e w' ⟨rfl, rfl⟩
  go_wp2
  go_ret
  exact ⟨rfl, (Below.refl _ _).alloc (Nat.le_refl _) _⟩
end Go.Proofs.Ytofoilmepddmaab
