/- SumReckons. -/
import Derived.Test.YtofoilmepddmaabCrc
namespace Go.Proofs.Ytofoilmepddmaab
open Go.RowKit
set_option maxHeartbeats 1000000
theorem sumReckons_any (v : Value) (l : List Int) (w : World) (hr : Reads .u8 w v l) :
    Calls Try.prog 13 #[v] w fun e w' => e = .returned (.bool true) ∧ Below w.heap.size w w' := by
  have H := Lib.hid hr
  clear hr
  go_enter Try.func13, Try.ntmps13
  go_wp2_with (first | (go_at_call 43; refine (crc_any _ _ _ H.out).mono ?_; rintro e w' ⟨rfl, rfl⟩) | (go_at_call 44; refine (rcrc_any _ _ _ H.out).mono ?_; rintro e w' ⟨rfl, rfl⟩) | (go_at_call 45; refine (awake4_any _).mono ?_; rintro e w' ⟨rfl, hbel⟩))
  go_ret
  exact ⟨rfl, by assumption⟩
end Go.Proofs.Ytofoilmepddmaab
