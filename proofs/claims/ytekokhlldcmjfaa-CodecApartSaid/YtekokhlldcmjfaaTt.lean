/- The seat's types; loops; small facts about wrapping. -/
import Derived.Test.YtekokhlldcmjfaaUse
import Derived.Test.YtekokhlldcmjfaaProg
namespace Go.Proofs.Ytekokhlldcmjfaa
open Go.RowKit
def tt : List (TypeId × TD) :=
   (2, ⟨.int .i64, 1, 8, [.int .i64 0], []⟩) ::
   (3, ⟨.int .i64, 1, 8, [.int .i64 0], []⟩) ::
   (4, ⟨.bool, 1, 1, [.bool false], []⟩) ::
   (5, ⟨.int .u8, 1, 1, [.int .u8 0], []⟩) ::
   (9, ⟨.str, 1, 16, [.string ByteArray.empty], []⟩) ::
   (15, ⟨.ptr 155, 1, 8, [.pointer none], []⟩) ::
   (16, ⟨.ptr 158, 1, 8, [.pointer none], []⟩) ::
   (17, ⟨.ptr 166, 1, 8, [.pointer none], []⟩) ::
   (21, ⟨.int .i32, 1, 4, [.int .i32 0], []⟩) ::
   (22, ⟨.slice 3, 1, 24, [.slice none 0 0], []⟩) ::
   (23, ⟨.slice 52, 1, 24, [.slice none 0 0], []⟩) ::
   (25, ⟨.struct [(0, 22), (1, 3), (2, 23)], 3, 56, [.slice none 0 0, .int .i64 0, .slice none 0 0], []⟩) ::
   (26, ⟨.slice 21, 1, 24, [.slice none 0 0], []⟩) ::
   (28, ⟨.struct [(0, 25), (3, 26), (4, 25)], 7, 136, [.slice none 0 0, .int .i64 0, .slice none 0 0, .slice none 0 0, .slice none 0 0, .int .i64 0, .slice none 0 0], []⟩) ::
   (30, ⟨.struct [(0, 22), (1, 3), (2, 26)], 3, 56, [.slice none 0 0, .int .i64 0, .slice none 0 0], []⟩) ::
   (32, ⟨.struct [(0, 4), (1, 30), (4, 30)], 7, 120, [.bool false, .slice none 0 0, .int .i64 0, .slice none 0 0, .slice none 0 0, .int .i64 0, .slice none 0 0], []⟩) ::
   (34, ⟨.struct [(0, 3), (1, 3), (2, 3), (3, 3), (4, 3), (5, 3)], 6, 48, [.int .i64 0, .int .i64 0, .int .i64 0, .int .i64 0, .int .i64 0, .int .i64 0], [.int .i64, .int .i64, .int .i64, .int .i64, .int .i64, .int .i64]⟩) ::
   (35, ⟨.int .u64, 1, 8, [.int .u64 0], []⟩) ::
   (38, ⟨.int .i64, 1, 8, [.int .i64 0], []⟩) ::
   (42, ⟨.slice 28, 1, 24, [.slice none 0 0], []⟩) ::
   (46, ⟨.slice 32, 1, 24, [.slice none 0 0], []⟩) ::
   (52, ⟨.int .i8, 1, 1, [.int .i8 0], []⟩) ::
   (53, ⟨.slice 2, 1, 24, [.slice none 0 0], []⟩) ::
   (62, ⟨.struct [(0, 35), (1, 3), (2, 42)], 3, 40, [.int .u64 0, .int .i64 0, .slice none 0 0], []⟩) ::
   (64, ⟨.slice 5, 1, 24, [.slice none 0 0], []⟩) ::
   (78, ⟨.struct [(0, 35), (1, 3), (2, 3)], 3, 24, [.int .u64 0, .int .i64 0, .int .i64 0], [.int .u64, .int .i64, .int .i64]⟩) ::
   (99, ⟨.struct [(0, 64)], 1, 24, [.slice none 0 0], []⟩) ::
   (103, ⟨.int .u32, 1, 4, [.int .u32 0], []⟩) ::
   (106, ⟨.ptr 99, 1, 8, [.pointer none], []⟩) ::
   (112, ⟨.ptr 141, 1, 8, [.pointer none], []⟩) ::
   (120, ⟨.ptr 122, 1, 8, [.pointer none], []⟩) ::
   (122, ⟨.struct [(0, 64), (1, 38)], 2, 32, [.slice none 0 0, .int .i64 0], []⟩) ::
   (130, ⟨.int .u64, 1, 8, [.int .u64 0], []⟩) ::
   (133, ⟨.slice 25, 1, 24, [.slice none 0 0], []⟩) ::
   (141, ⟨.struct [(0, 64), (1, 38)], 2, 32, [.slice none 0 0, .int .i64 0], []⟩) ::
   (162, ⟨.ptr 5, 1, 8, [.pointer none], []⟩) ::
  []
set_option maxRecDepth 100000 in
theorem tt_ok : ttOk Try.prog tt := by
  unfold tt
  repeat (refine ⟨⟨by kernel_rfl, by kernel_rfl, rfl, rfl, by kernel_rfl⟩, ?_⟩)
  trivial
theorem mixed : Try.prog.follows .mixedOrders = true := by kernel_rfl
def setAll : Fm → List (Nat × SV) → Fm
  | l, [] => l
  | l, (i, x) :: r => setAll (l.set i x) r
/-- A loop's state: slots from keep on are made anew, but those that upd tells. -/
def mkS {β : Type} (keep : Nat) (upd : β → List (Nat × SV)) (objs : β → List SO → List SO) (s : AS) (x : β) : AS := ⟨setAll (s.slots.keep keep 0 1) (upd x), objs x s.objs, s.sav⟩
theorem loop_at {A : Sy} {R : List NilAt → Prop} {s : AS} {V : (α : Type) → (α → AS) → (α → Prop) → (α → Nat) → α → Prop} (β : Type) (keep : Nat) (upd : β → List (Nat × SV)) (objs : β → List SO → List SO) (I : β → Prop) (μ : β → Nat) (x0 : β) (h0 : I x0) (hle : s.le (mkS keep upd objs s x0)) (h : ∀ x, I x → V β (mkS keep upd objs s) I μ x) (hR : R [] := by first | exact True.intro | rfl) :
    ∃ (α : Type) (S : α → AS) (I : α → Prop) (μ : α → Nat) (x : α) (ns : List NilAt), I x ∧ (R ns ∧ ((s.nil A ns).le (S x) ∧ ∀ x, I x → V α S I μ x)) := ⟨β, _, I, μ, x0, [], h0, hR, hle, h⟩
/-- The same, where slices that are none are seen as rows of nothing. -/
theorem loop_nil {A : Sy} {R : List NilAt → Prop} {s : AS} {V : (α : Type) → (α → AS) → (α → Prop) → (α → Nat) → α → Prop} (ns : List NilAt) (β : Type) (keep : Nat) (upd : β → List (Nat × SV)) (objs : β → List SO → List SO) (I : β → Prop) (μ : β → Nat) (x0 : β) (h0 : I x0) (hle : (s.nil A ns).le (mkS keep upd objs (s.nil A ns) x0)) (h : ∀ x, I x → V β (mkS keep upd objs (s.nil A ns)) I μ x) (hR : R ns := by first | exact True.intro | rfl) :
    ∃ (α : Type) (S : α → AS) (I : α → Prop) (μ : α → Nat) (x : α) (ns : List NilAt), I x ∧ (R ns ∧ ((s.nil A ns).le (S x) ∧ ∀ x, I x → V α S I μ x)) := ⟨β, _, I, μ, x0, ns, h0, hR, hle, h⟩
/-- A count as a number. -/
def ci (n : Nat) : Int := n
theorem tn0 : Int.toNat 0 = 0 := rfl
theorem tn1 : Int.toNat 1 = 1 := rfl
theorem tn2 : Int.toNat 2 = 2 := rfl
theorem tn3 : Int.toNat 3 = 3 := rfl
theorem nc (x : Nat) : @NatCast.natCast Int instNatCastInt x = Int.ofNat x := rfl
theorem w64 {z : Int} (h1 : -9223372036854775808 ≤ z) (h2 : z ≤ 9223372036854775807) : IntKind.i64.wrap z = z := by rw [IntKind.wrap_i64]; omega
theorem wrap32 (n : Int) : IntKind.i32.wrap n = (n + 2147483648) % 4294967296 - 2147483648 := by
  simp [IntKind.wrap, IntKind.bits, IntKind.signed]; omega
theorem w32 {z : Int} (h1 : -2147483648 ≤ z) (h2 : z ≤ 2147483647) : IntKind.i32.wrap z = z := by rw [wrap32]; omega
theorem wrap8 (n : Int) : IntKind.i8.wrap n = (n + 128) % 256 - 128 := by
  simp [IntKind.wrap, IntKind.bits, IntKind.signed]; omega
theorem w8 {z : Int} (h1 : -128 ≤ z) (h2 : z ≤ 127) : IntKind.i8.wrap z = z := by rw [wrap8]; omega
theorem mulB {a b A B : Int} (h0 : 0 ≤ a) (h1 : a ≤ A) (h2 : 0 ≤ b) (h3 : b ≤ B) : 0 ≤ a * b ∧ a * b ≤ A * B :=
  ⟨Int.mul_nonneg h0 h2, Int.mul_le_mul h1 h3 h2 (by omega)⟩
theorem fits8 {l : List Int} (h : Fits .i8 l) (i : Nat) : -128 ≤ l.getD i 0 ∧ l.getD i 0 ≤ 127 := by
  rw [List.getD_eq_getElem?_getD]
  by_cases hi : i < l.length
  · rw [List.getElem?_eq_getElem hi]
    exact of_i8 (h _ (List.getElem_mem hi))
  · rw [List.getElem?_eq_none (by omega)]; exact ⟨by decide, by decide⟩
theorem mulAbs {a b A B : Int} (h0 : -A ≤ a) (h1 : a ≤ A) (h2 : -B ≤ b) (h3 : b ≤ B) : -(A * B) ≤ a * b ∧ a * b ≤ A * B := by
  have hA : 0 ≤ A := by omega
  have hB : 0 ≤ B := by omega
  have h : (a * b).natAbs ≤ (A * B).natAbs := by
    rw [Int.natAbs_mul, Int.natAbs_mul]
    exact Nat.mul_le_mul (by omega) (by omega)
  have h4 : 0 ≤ A * B := Int.mul_nonneg hA hB
  omega
end Go.Proofs.Ytekokhlldcmjfaa
