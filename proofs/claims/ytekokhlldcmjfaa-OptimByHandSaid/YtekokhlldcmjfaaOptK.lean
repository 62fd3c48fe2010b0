/- Layer 21: by hand: what a step without momentum, without decay leaves. -/
import Derived.Test.YtekokhlldcmjfaaOptJ
namespace Go.Proofs.Ytekokhlldcmjfaa
open Go.RowKit
set_option maxRecDepth 1000000
set_option linter.unusedSimpArgs false
set_option linter.unusedVariables false
set_option maxHeartbeats 16000000
theorem mayD_pair {n k : Int} (hn : 1 ≤ n ∧ n ≤ 4096) (hk : 1 ≤ k ∧ k ≤ 4096) (h : n * k ≤ 8192) : mayD [n, k] = true := by
  refine (mayD_iff _).2 ⟨by simp, fun x hx => ?_, ?_⟩
  · simp only [List.mem_cons, List.not_mem_nil, or_false] at hx
    rcases hx with rfl | rfl
    · exact hn
    · exact hk
  · simp only [prodFrom, List.foldl_cons, List.foldl_nil, Int.one_mul]; exact h
theorem may_row {N : Nat} (h : 1 ≤ N ∧ N ≤ 100) : mayD [1, (N : Int)] = true ∧ szD [1, (N : Int)] = (N : Int) := by
  have hm : mayD [1, (N : Int)] = true := mayD_pair (by decide) (by omega) (by omega)
  refine ⟨hm, ?_⟩
  unfold szD
  rw [if_pos hm]
  simp [prodFrom]
theorem may_one : mayD [1] = true ∧ szD [1] = 1 := by constructor <;> decide
def hF (w g : List Int) (ra se st : Int) (i : Nat) : Int := gA w i - pchI se st 3 (gA g i) ra 4 (i : Int)
theorem hF_bd {w g : List Int} (hw : Fits .i8 w) (hg : Fits .i8 g) (ra se st : Int) (i : Nat) : (-127 ≤ gA w i ∧ gA w i ≤ 127) ∧ (-127 ≤ gA g i ∧ gA g i ≤ 127) ∧ -254 ≤ hF w g ra se st i ∧ hF w g ra se st i ≤ 254 := by
  have e1 : -127 ≤ gA w i ∧ gA w i ≤ 127 := gA_in hw (i + 1) _ (List.mem_map.2 ⟨i, List.mem_range.2 (by omega), rfl⟩)
  have e2 : -127 ≤ gA g i ∧ gA g i ≤ 127 := gA_in hg (i + 1) _ (List.mem_map.2 ⟨i, List.mem_range.2 (by omega), rfl⟩)
  have b := pch_bd (v := gA g i) (B := 127) se st 3 ra 4 (i : Int) (by decide) (by omega)
  unfold hF
  omega
def PN (w : List Int) (N : Nat) : List Int := (List.range N).map (gA w)
theorem PN_len (w : List Int) (N : Nat) : (PN w N).length = N := by simp [PN]
theorem rep1 : List.replicate ([0] : List Int).length (0 : Int) = [0] := rfl
theorem hand_p {w : List Int} {N : Nat} (hw : Fits .i8 w) (h : 1 ≤ N ∧ N ≤ 100) : rmpB [1, (N : Int)] 0 (PN w N) (List.replicate N 0) [1] 0 [0] = true := by
  obtain ⟨q1, q2⟩ := may_row h
  obtain ⟨q3, q4⟩ := may_one
  refine rmp_mk ((mayB_eq _ _ _).2 ⟨q1, by rw [PN_len, q2], by decide, ?_⟩) ((mayB_eq _ _ _).2 ⟨q3, by rw [q4]; rfl, by decide, by decide⟩) rfl (by rw [List.length_replicate, PN_len]) (by rw [List.length_replicate]; exact mostB_z N)
  exact map_no fun i hi => (hF_bd hw hw 0 0 0 i).1.1
theorem by_hand {w g : List Int} {N : Nat} (hw : Fits .i8 w) (hg : Fits .i8 g) (h : 1 ≤ N ∧ N ≤ 100) {ra se st : Int} (hr : 0 ≤ ra ∧ ra ≤ 8) (ht : 0 ≤ st ∧ st ≤ 1000000) :
    stErr [1, (N : Int)] 0 (PN w N) (List.replicate N 0) [1] 0 [0] true [1, (N : Int)] 0 (PN g N) [1] 0 [0] 1 8 ra 0 0 0 se st 3 = 0 ∧
    stRes [1, (N : Int)] 0 (PN w N) (List.replicate N 0) [1] 0 [0] true [1, (N : Int)] 0 (PN g N) [1] 0 [0] 1 8 ra 0 0 0 se st 3 = ⟨[1, (N : Int)], if ovB (hF w g ra se st) N = true then 1 else 0, (List.range N).map (wtA (hF w g ra se st) (ovB (hF w g ra se st) N)), PN g N, [1], 0, [0]⟩ ∧
    mayB ⟨[1, (N : Int)], if ovB (hF w g ra se st) N = true then 1 else 0, (List.range N).map (wtA (hF w g ra se st) (ovB (hF w g ra se st) N))⟩ = true := by
  obtain ⟨q1, q2⟩ := may_row h
  obtain ⟨q3, q4⟩ := may_one
  have hp := hand_p hw h
  obtain ⟨h1, h2, h3, h4, h5⟩ := rmp_of hp
  have gl : ((PN g N).length : Int) = szD [1, (N : Int)] := by rw [PN_len, q2]
  have s1 := small_id (bv se) (bv (strmI st 3 3)) q1 gl (gA_in hg N)
  have s2 : smallE ⟨[1], 0, [0]⟩ 8 (bv se) (bv (strmI st 3 5)) = (⟨[1], 0, [0]⟩, 0) := small_z (n := 1) (bv se) (bv (strmI st 3 5)) q3 (by rw [q4]; rfl) (by decide)
  have hmv : moveB [1, (N : Int)] 0 (PN w N) (List.replicate N 0) [1] 0 [0] [1, (N : Int)] 0 (PN g N) [1] 0 [0] = true := by
    unfold moveB
    have a2 : mayAccB ⟨[1], 0, [0]⟩ = true := by decide
    rw [h1, h2, acc_u q1 gl, a2, h5, decide_eq_true h4]
    rfl
  have hy0 : hyB 1 8 ra 0 0 0 = true := by
    unfold hyB
    simp only [decide_eq_true_eq]
    omega
  have em : moved (List.replicate N 0) [1, (N : Int)] 0 (PN g N) 8 0 se st 3 = PN g N := by
    unfold moved
    rw [s1, List.length_replicate]
    refine List.map_congr_left fun i hi => ?_
    have hi := List.mem_range.1 hi
    have b := (hF_bd hw hg 0 0 0 i).2.1
    have h0 : downI 0 0 = 0 := by decide
    unfold momA
    simp only [rep_getD, h0]
    show cl (0 - 0 + (PN g N).getD i 0) _ _ = _
    unfold PN
    rw [getD_mapF hi]
    unfold cl
    omega
  have ef : ∀ i, i < N → numA (PN w N) (PN g N) ra 0 se st 3 i = hF w g ra se st i := by
    intro i hi
    unfold numA hF PN
    rw [getD_mapF hi, getD_mapF hi, if_pos rfl, Int.sub_zero]
  have eov : ∀ n, n ≤ N → ovB (numA (PN w N) (PN g N) ra 0 se st 3) n = ovB (hF w g ra se st) n := by
    intro n
    induction n with
    | zero => intro _; rfl
    | succ n ih =>
      intro hn
      unfold ovB
      rw [ih (by omega), ef n (by omega)]
  have ewo : wtO (numA (PN w N) (PN g N) ra 0 se st 3) (PN w N).length 0 = ovB (hF w g ra se st) N := by
    unfold wtO
    rw [PN_len, eov N (Nat.le_refl _)]
    simp
  have hres : stRes [1, (N : Int)] 0 (PN w N) (List.replicate N 0) [1] 0 [0] true [1, (N : Int)] 0 (PN g N) [1] 0 [0] 1 8 ra 0 0 0 se st 3 = ⟨[1, (N : Int)], if ovB (hF w g ra se st) N = true then 1 else 0, (List.range N).map (wtA (hF w g ra se st) (ovB (hF w g ra se st) N)), PN g N, [1], 0, [0]⟩ := by
    unfold stRes
    rw [if_pos rfl, em, s2]
    have e1 : (wtT [1, (N : Int)] 0 (numA (PN w N) (PN g N) ra 0 se st 3) (PN w N).length).exp = if ovB (hF w g ra se st) N = true then 1 else 0 := by
      unfold wtT
      simp only [ewo]
      rfl
    have e2 : (wtT [1, (N : Int)] 0 (numA (PN w N) (PN g N) ra 0 se st 3) (PN w N).length).data = (List.range N).map (wtA (hF w g ra se st) (ovB (hF w g ra se st) N)) := by
      unfold wtT
      simp only [ewo]
      rw [PN_len]
      refine List.map_congr_left fun i hi => ?_
      unfold wtA
      rw [ef i (List.mem_range.1 hi)]
    have e3 : (List.range ([0] : List Int).length).map (biA [0] [0] ra se st 3) = [0] := by
      show [biA [0] [0] ra se st 3 0] = [0]
      unfold biA pchI
      show [clampI (0 - chanceI 0 ra _) 8] = [0]
      rw [chance_z, Int.sub_zero, clampx_z]
    rw [e1, e2, e3]
  refine ⟨?_, hres, ?_⟩
  · unfold stErr
    rw [if_pos ⟨hy0, ht, by decide⟩, if_pos rfl, if_pos hmv, if_pos ⟨rfl, rfl⟩, s1, s2]
    rfl
  · have k := (st_may (gb := true) (gD := [1, (N : Int)]) (gE := 0) (gL := PN g N) (gF := [1]) (gG := 0) (gH := [0]) (a := 1) (b := 8) (c := ra) (d := 0) (e := 0) (f := 0) (seed := se) (step := st) (layer := 3) hp).1
    rw [hres] at k
    exact (rmp_of k).1
theorem hand_n (a b : Int) (ha : 0 ≤ a) (hb : 0 ≤ b) : ∃ N : Nat, std.min (std.min a b) 100 = ci N ∧ N ≤ 100 ∧ (N : Int) ≤ a ∧ (N : Int) ≤ b := by
  refine ⟨(std.min (std.min a b) 100).toNat, ?_, ?_, ?_, ?_⟩ <;> (simp only [std, ci]; repeat' split) <;> omega
end Go.Proofs.Ytekokhlldcmjfaa
