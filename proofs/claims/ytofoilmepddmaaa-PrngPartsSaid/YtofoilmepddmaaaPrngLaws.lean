/- The laws of prng over numbers alone: PrngForms, PrngParts, PrngBelow, PrngUnlike. -/
import Derived.Test.YtofoilmepddmaaaPrng
namespace Go.Proofs.Ytofoilmepddmaaa
open Go.RowKit
set_option maxHeartbeats 400000
theorem prngParts_any (a b c : BitVec 64) (w : World) :
    Calls Try.prog 8 #[u64 a, u64 b, u64 c] w fun e w' => e = .returned (.bool true) ∧ w = w' := by
  go_enter Try.func8, Try.ntmps8
  go_wp2_with (first | (go_at_call 15; (try rw [bv_xor]); refine (mix_any _ _).mono ?_; rintro e w' ⟨rfl, rfl⟩) | (go_at_call 17; refine (at_any _ _ _ _).mono ?_; rintro e w' ⟨rfl, rfl⟩; unfold atB) | (go_at_call 21; refine (awake1_any _).mono ?_; rintro e w' ⟨rfl, rfl⟩))
  go_ret
  exact ⟨rfl, rfl⟩
theorem prngForms_any (x a b c : BitVec 64) (n : Int) (w : World) :
    Calls Try.prog 3 #[u64 x, u64 a, u64 b, u64 c, .int .i64 n] w fun e w' => e = .returned (.bool true) ∧ w = w' := by
  go_enter Try.func3, Try.ntmps3
  go_wp2_with (first | (go_at_call 15; refine (mix_any _ _).mono ?_; rintro e w' ⟨rfl, rfl⟩) | (go_at_call 16; refine (rmix_any _ _).mono ?_; rintro e w' ⟨rfl, rfl⟩) | (go_at_call 17; refine (at_any _ _ _ _).mono ?_; rintro e w' ⟨rfl, rfl⟩) | (go_at_call 18; refine (rat_any _ _ _ _).mono ?_; rintro e w' ⟨rfl, rfl⟩) | (go_at_call 19; refine (below_any _ _ _ _ _).mono ?_; rintro e w' ⟨rfl, rfl⟩) | (go_at_call 20; refine (rbelow_any _ _ _ _ _).mono ?_; rintro e w' ⟨rfl, rfl⟩) | (go_at_call 21; refine (awake1_any _).mono ?_; rintro e w' ⟨rfl, rfl⟩))
  go_ret
  exact ⟨rfl, rfl⟩
end Go.Proofs.Ytofoilmepddmaaa
