import Derived.Test.YtofoilmepddmaabOctet
namespace Go.Proofs.Ytofoilmepddmaab
open Go.RowKit
set_option maxHeartbeats 1000000
theorem awake3_any (w : World) : Calls Try.prog 22 #[] w fun e w' => e = .returned (.bool true) ∧ Below w.heap.size w w' := by
  obtain ⟨wo, rfl⟩ : ∃ wo : World, wo = w := ⟨_, rfl⟩
  have HW := Lib.hid (wr_new wo)
  go_enter Try.func22, Try.ntmps22
  have hd : ((strOfNums (putBytes (258#64) 2)).toList == [1, 2]) = true := by kernel_rfl
  go_wp2_with (first | (go_at_call 38; refine (u16_any _ _ _ 258 (by decide) _ HW.out).mono ?_; rintro e w' ⟨rfl, v1, hw1, hk1, hv1⟩; have HW1 := Lib.hid hw1; have HK1 := Lib.hid hk1; clear hw1 hk1 hv1) | (go_at_call 42; refine (bytes_any _ _ _ _ HW1.out (by simp [putBytes_len])).mono ?_; rintro e w' ⟨v2, rfl, h2, hb2⟩; have hs2 := str_holds (holds_own h2)))
  (try simp only [hd])
  go_ret
  exact ⟨rfl, ((((Keeps.refl (fun _ => False) wo).alloc _).trans (U := fun k => k = wo.heap.size) HK1.out (fun x e => e.elim) (fun x _ e => e.elim id (fun e => by simp [Value.ownBlock] at e))).below (Nat.le_refl _) (fun x e => Nat.le_of_eq e.symm)).trans (hb2.mono (Nat.le_trans (by rw [Deep.nblk_alloc]; omega) HK1.out.size))⟩
theorem octetNil_any (n : BitVec 64) (v : Value) (w : World) : Calls Try.prog 9 #[u64 n, v] w fun e w' => e = .returned (.bool true) ∧ Below w.heap.size w w' := by
  go_enter Try.func9, Try.ntmps9
  go_wp2_with fail
  refine (u8_nil _ _).mono ?_
  rintro e w' ⟨rfl, rfl⟩
  go_wp2_with fail
  refine (u16_nil _ _).mono ?_
  rintro e w' ⟨rfl, rfl⟩
  go_wp2_with fail
  refine (u32_nil _ _).mono ?_
  rintro e w' ⟨rfl, rfl⟩
  go_wp2_with fail
  refine (u64_nil _ _).mono ?_
  rintro e w' ⟨rfl, rfl⟩
  go_wp2_with fail
  refine (raw_nil _ _).mono ?_
  rintro e w' ⟨rfl, rfl⟩
  go_wp2_with fail
  refine (bytes_nil _).mono ?_
  rintro e w' ⟨rfl, rfl⟩
  go_wp2_with fail
  refine (ru8_nil _).mono ?_
  rintro e w' ⟨rfl, rfl⟩
  go_wp2_with fail
  refine (ru16_nil _).mono ?_
  rintro e w' ⟨rfl, rfl⟩
  go_wp2_with fail
  refine (ru32_nil _).mono ?_
  rintro e w' ⟨rfl, rfl⟩
  go_wp2_with fail
  refine (ru64_nil _).mono ?_
  rintro e w' ⟨rfl, rfl⟩
  go_wp2_with fail
  refine (rraw_nil _).mono ?_
  rintro e w' ⟨rfl, rfl⟩
  go_wp2_with fail
  refine (rleft_nil _).mono ?_
  rintro e w' ⟨rfl, rfl⟩
  go_wp2_with fail
  refine (rend_nil _).mono ?_
  rintro e w' ⟨rfl, rfl⟩
  go_wp2_with fail
  refine (awake3_any _).mono ?_
  rintro e w' ⟨rfl, hb⟩
  have HB := Lib.hid hb
  clear hb
  go_wp2_with fail
  go_ret
  exact ⟨rfl, HB.out⟩
end Go.Proofs.Ytofoilmepddmaab
