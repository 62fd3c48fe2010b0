/- SumTells: bytes that differ within four side by side have unlike sums. -/
import Derived.Test.YtofoilmepddmaabCrc
import Derived.Test.YtofoilmepddmaabSumLin
import Derived.Laws.BytesArg
import Derived.StillTailTactics
import Derived.Deep.DrawnRows
namespace Go.Proofs.Ytofoilmepddmaab
open Go.RowKit
set_option maxHeartbeats 4000000
theorem iByteT : (Try.prog.info? 5).map (fun i => (i.zero, i.size, i.bytes)) = some (some (.int .u8 0), 1, 1) := by kernel_rfl
theorem str_of {w : World} {v : Value} {l : List Int} (h : Holds w v (kv .u8 l)) : (convert 32 9 v).run Try.prog w = .ok (.string (strOfNums l)) w := by
  obtain ⟨ao, cap, rfl, _, _, hh⟩ := h
  rw [kv_len]
  cases ao with
  | none =>
    have hl0 : l = [] := by
      rcases hh with e | ⟨b, off, e, _⟩
      · simpa [kv] using e
      · simp at e
    subst hl0
    exact run_convert_bytes_nil (P := Try.prog) w 32 5 Try.underlying32 Try.underlying5 _ _ 9 Try.underlying9
  | some ad =>
    rcases hh with e | ⟨b, off, e, hc⟩
    · have hl0 : l = [] := by simpa [kv] using e
      subst hl0
      exact run_convert_bytes_back (P := Try.prog) w 32 9 5 ad cap [] Try.underlying32 Try.underlying5 Try.underlying9 (fun j hj => absurd hj (by simp))
    · injection e with e
      subst e
      exact run_convert_bytes_arg (P := Try.prog) w 32 5 Try.underlying32 Try.underlying5 b off _ cap l rfl (fun i hi => hc i _ (kv_getD .u8 l i hi)) 9 Try.underlying9
theorem crc_q' (v : Value) (l : List Int) (S : BitVec 32) (hS : crcL l = S) (w : World) (hr : Reads .u8 w v l) :
    Calls Try.prog 43 #[v] w fun e w'' => e = .returned (.int .u32 (N32 S)) ∧ w'' = w := (hS ▸ crc_any v l w hr).mono fun _ _ ⟨he, hw⟩ => ⟨he, hw.symm⟩
theorem strOfNums_key : ∀ (l m : List Int), Fits .u8 l → Fits .u8 m → (l.map fun n => UInt8.ofNat n.toNat) = (m.map fun n => UInt8.ofNat n.toNat) → l = m := by
  intro l
  induction l with
    | nil => intro m _ _ h; cases m with
      | nil => rfl
      | cons y m => simp at h
    | cons x l ih =>
      intro m hl hm h
      cases m with
      | nil => simp at h
      | cons y m =>
        simp only [List.map_cons, List.cons.injEq] at h
        have h1 := hl x (by simp)
        have h2 := hm y (by simp)
        have hx : 0 ≤ x ∧ x ≤ 255 := by simpa [Lit.wf, IntKind.min, IntKind.max, IntKind.signed, IntKind.bits] using h1
        have hy : 0 ≤ y ∧ y ≤ 255 := by simpa [Lit.wf, IntKind.min, IntKind.max, IntKind.signed, IntKind.bits] using h2
        have e := congrArg UInt8.toNat h.1
        simp only [UInt8.toNat_ofNat'] at e
        rw [show x = y from by omega, ih m (fun z hz => hl z (by simp [hz])) (fun z hz => hm z (by simp [hz])) h.2]
theorem strOfNums_beq (l m : List Int) (hl : Fits .u8 l) (hm : Fits .u8 m) : ((strOfNums l).toList == (strOfNums m).toList) = decide (l = m) := by
  by_cases h : l = m
  · subst h; simp
  · rw [decide_eq_false h, beq_eq_false_iff_ne]
    intro e
    rw [ByteArray.toList_eq, ByteArray.toList_eq, strOfNums_data, strOfNums_data] at e
    exact h (strOfNums_key l m hl hm e)
theorem sumTells_nil (a : Int) (ao : Option Addr) (cap : Nat) (y0 y1 y2 y3 : Value) (w : World) (hr : Reads .u8 w (.slice ao 0 cap) []) :
    Calls Try.prog 14 #[.slice ao 0 cap, .int .i64 a, .agg #[y0, y1, y2, y3]] w fun e w' => e = .returned (.bool true) ∧ Below w.heap.size w w' := by
  have H := Lib.hid hr
  have hz : (N32 (crcL []) == 0) = true := by decide +kernel
  clear hr
  go_enter Try.func14, Try.ntmps14
  go_wp2_with fail
  refine (crc_any _ [] _ ⟨H.out.1.below ((Below.refl _ _).alloc (Nat.le_refl _) _), H.out.2⟩).mono ?_
  rintro e w' ⟨rfl, rfl⟩
  go_wp2_with fail
  refine (awake4_any _).mono ?_
  rintro e w' ⟨rfl, hb⟩
  go_wp2
  go_ret
  exact ⟨rfl, ((Below.refl _ _).alloc (Nat.le_refl _) _).trans (hb.mono (by simp))⟩
theorem owned_shape1 {w : World} {base : Nat} {e : TypeId} {size : Nat} {v : Value} {n : Nat} {xs : List Value} (h : w.ownsRow base e size v n xs) (hn : 0 < n) :
    ∃ g cap, v = .slice (some ⟨g, 0, none⟩) n cap ∧ base ≤ g ∧ g < w.heap.size ∧ n ≤ cap := owned_shape h hn
theorem getD4 (y0 y1 y2 y3 : Int) (k : Nat) (h : k < 4) (w : World) (T : TypeId) : (w.alloc (.cells #[.int .u8 y0, .int .u8 y1, .int .u8 y2, .int .u8 y3] T)).cell? ⟨w.heap.size, k, none⟩ = some (.int .u8 ([y0, y1, y2, y3].getD k 0)) := by
  rw [World.cell?_alloc_at _ _ _ _ rfl]
  rcases (show k = 0 ∨ k = 1 ∨ k = 2 ∨ k = 3 by omega) with rfl | rfl | rfl | rfl <;> rfl
theorem getD_app3 (P M S : List Int) (x : Int) (A k : Nat) (hP : P.length = A) (hM : M.length = k) : (P ++ M ++ x :: S).getD (A + k) 0 = x := by
  rw [List.getD_eq_getElem?_getD, List.getElem?_append_right (by simp; omega)]
  simp [hP, hM]
theorem set_app3 (P M S : List Int) (x z : Int) (A k : Nat) (hP : P.length = A) (hM : M.length = k) : (P ++ M ++ x :: S).set (A + k) z = P ++ (M ++ [z]) ++ S := by
  rw [List.set_append_right _ _ (by simp; omega)]
  simp [hP, hM]
theorem xor_fits (a b : Int) (ha : 0 ≤ a ∧ a ≤ 255) (hb : 0 ≤ b ∧ b ≤ 255) : 0 ≤ bits .xor .u8 a b ∧ bits .xor .u8 a b ≤ 255 := by
  obtain ⟨x, rfl⟩ := Int.eq_ofNat_of_zero_le ha.1
  obtain ⟨y, rfl⟩ := Int.eq_ofNat_of_zero_le hb.1
  rw [u8_xor_nat x y (by omega) (by omega)]
  have hlt : x ^^^ y < 256 := Nat.xor_lt_two_pow (n := 8) (by omega) (by omega)
  omega
theorem inB_of {l : List Int} (h : Fits .u8 l) : ∀ x ∈ l, 0 ≤ x ∧ x ≤ 255 := fun x hx => by
  have := h x hx
  simpa [Lit.wf, IntKind.min, IntKind.max, IntKind.signed, IntKind.bits] using this
theorem of_inB {l : List Int} (h : ∀ x ∈ l, 0 ≤ x ∧ x ≤ 255) : Fits .u8 l := fun x hx => by
  have := h x hx
  simpa [Lit.wf, IntKind.min, IntKind.max, IntKind.signed, IntKind.bits] using this
theorem sumTells_any (v : Value) (l : List Int) (a : Int) (y0 y1 y2 y3 : Int) (w : World) (hr : Reads .u8 w v l) (hY : Fits .u8 [y0, y1, y2, y3]) (hl : l.length ≤ 140737488351232) :
    Calls Try.prog 14 #[v, .int .i64 a, .agg #[.int .u8 y0, .int .u8 y1, .int .u8 y2, .int .u8 y3]] w fun e w' => e = .returned (.bool true) ∧ Below w.heap.size w w' := by
  by_cases h0 : l = []
  · subst h0
    obtain ⟨⟨ao, cap, rfl, x⟩, y⟩ := hr
    exact sumTells_nil a ao cap _ _ _ _ w ⟨⟨ao, cap, rfl, x⟩, y⟩
  have HRE := Lib.hid hr
  obtain ⟨i0, hi, hz0, hz1, hz2⟩ := info_parts iByteT
  obtain ⟨⟨ao, cap, rfl, hcap, hcm, hh⟩, hf, _⟩ := hr
  rw [kv_len] at hcap HRE ⊢
  obtain ⟨b, off, rfl, hc⟩ := hh.resolve_left (by simpa [kv] using h0)
  obtain ⟨n, hn⟩ : ∃ n, l.length = n := ⟨_, rfl⟩
  have hn0 : 0 < n := by rw [← hn]; exact List.length_pos_iff.2 h0
  have hne : ((n : Int) == 0) = false := by rw [beq_eq_false_iff_ne]; omega
  rw [hn] at hl hcap HRE ⊢
  have HN := Lib.hid hn
  have HC := Lib.hid hc
  have HF := Lib.hid hf
  have HY := Lib.hid hY
  obtain ⟨A, hA, hAn⟩ := u64_mod a n (by omega) (by omega)
  have hnw : IntKind.u64.wrap (n : Int) = n := IntWalk.u64_in _ (by omega)
  have hAw : IntKind.i64.wrap (A : Int) = A := IntWalk.i64_in _ (by omega)
  obtain ⟨wo, rfl⟩ : ∃ wo : World, wo = w := ⟨_, rfl⟩
  have hb0 : wo.heap.size + 1 ≤ (wo.alloc (.cells #[.int .u8 y0, .int .u8 y1, .int .u8 y2, .int .u8 y3] 63)).heap.size := by simp
  have HO : Hid (((wo.alloc (.cells #[.int .u8 y0, .int .u8 y1, .int .u8 y2, .int .u8 y3] 63)).alloc (.cells #[] 5)).ownsRow (wo.heap.size + 1) 5 1 (.slice (some ⟨wo.heap.size + 1, 0, none⟩) 0 0) 0 []) := Lib.hid (by
    have := World.ownsRow_made (base := wo.heap.size + 1) (e := 5) (size := 1) (wo.alloc (.cells #[.int .u8 y0, .int .u8 y1, .int .u8 y2, .int .u8 y3] 63)) #[] 0 hb0 (Nat.zero_le _) rfl
    simpa using this)
  clear hn hc hf hY hh h0 hb0
  go_enter Try.func14, Try.ntmps14
  go_wp2_with (at_builtin; refine wpList_append_own _ rfl _ _ 32 rfl (wo.heap.size + 1) 5 i0 (.int .u8 0) 1 1 Try.underlying32 hi hz0 hz1 hz2 rfl (by decide) _ _ _ rfl HO.out ⟨b, off, none⟩ n cap (kv .u8 l) rfl ?c1 ?c2 ?c3 ?c4 ?c5 ?c6 ?_)
  case c1 => rw [kv_len, HN.out]; omega
  case c2 =>
    intro j u hj
    rw [Addr.add_lit]
    exact Lib.cell?_alloc_some _ (Lib.cell?_alloc_some _ (HC.out j u hj))
  case c3 => intro u hu; obtain ⟨x, _, rfl⟩ := List.mem_map.1 hu; rfl
  case c4 => unfold maxLen; omega
  case c5 => omega
  case c6 => simp
  intro v' w1 hown hgrow hnil
  obtain ⟨wb, hwb⟩ : ∃ wb : World, wb = wo.alloc (.cells #[.int .u8 y0, .int .u8 y1, .int .u8 y2, .int .u8 y3] 63) := ⟨_, rfl⟩
  have hbw : Below (wo.heap.size + 1) wb w1 := by
    subst hwb
    refine ((Below.refl _ (wo.alloc _)).alloc (by simp) _).grown hgrow (by simp) ?_
    intro k hk
    simp [Value.ownBlock] at hk
    omega
  have hb2 : Below wo.heap.size wo wb := by subst hwb; exact (Below.refl _ _).alloc (Nat.le_refl _) _
  have hYc : ∀ k, k < 4 → wb.cell? ⟨wo.heap.size, k, none⟩ = some (.int .u8 ([y0, y1, y2, y3].getD k 0)) := by subst hwb; exact fun k hk => getD4 y0 y1 y2 y3 k hk wo _
  obtain ⟨g, cg, rfl, hg1, hg2, hg3⟩ := owned_shape1 hown hn0
  have HYC := Lib.hid hYc
  have HBO := Lib.hid hb2
  have hPl : (l.take A).length = A := by rw [List.length_take, HN.out]; omega
  obtain ⟨P, hP⟩ : ∃ P, l.take A = P := ⟨_, rfl⟩
  have hPS : l = P ++ l.drop A := by rw [← hP, List.take_append_drop]
  rw [hP] at hPl
  have HPL := Lib.hid hPl
  have HPS := Lib.hid hPS
  have HHW := Lib.hid hwb
  clear hnil hgrow hYc hb2 hP hPl hPS hwb
  go_wp2
  go_loopw [8] (fun c wr => ∃ (k : Nat) (M M' S : List Int), c = .int .i64 k ∧ k ≤ 4 ∧ l = P ++ M ++ S ∧ M.length = k ∧ M'.length = k ∧ Fits .u8 M' ∧ wr.ownsRow (wo.heap.size + 1) 5 1 (.slice (some ⟨g, 0, none⟩) n cg) n (kv .u8 (P ++ M' ++ S)) ∧ Below (wo.heap.size + 1) wb wr) (fun c _ => 4 - (intOf c).toNat)
  case atStart => exact ⟨0, [], [], l.drop A, rfl, by omega, by simpa using HPS.out, rfl, rfl, (by intro x hx; simp at hx), by rw [List.append_nil, ← HPS.out]; exact hown, hbw⟩
  case round =>
    obtain ⟨k, M, M', S, rfl, hk, hlS, hM, hM', hfM, howr, hbr⟩ := hrel
    obtain ⟨w2, rfl⟩ : ∃ w2 : World, w2 = wr := ⟨_, rfl⟩
    have hlen : P.length + k + S.length = n := by
      have := congrArg List.length hlS
      rw [HN.out, List.length_append, List.length_append, hM] at this
      exact this.symm
    rw [HPL.out] at hlen
    have HLS := Lib.hid hlS
    have HM := Lib.hid hM
    have HM' := Lib.hid hM'
    have HFM := Lib.hid hfM
    clear hlS hM hM' hfM hown hbw
    by_cases hgo : k < 4 ∧ A + k < n
    · obtain ⟨hk4, hAk⟩ := hgo
      obtain ⟨x, S', hS⟩ : ∃ x S', S = x :: S' := by
        cases S with
        | nil => simp at hlen; omega
        | cons x S' => exact ⟨x, S', rfl⟩
      subst hS
      have hDl : (P ++ M' ++ x :: S').length = n := by rw [List.length_append, List.length_append, HM'.out, HPL.out]; exact hlen
      have gx : w2.cell? ⟨g, A + k, none⟩ = some (.int .u8 x) := (howr.cellAt (A + k) (by omega)).trans (by rw [kv_getD _ _ _ (by omega), getD_app3 _ _ _ _ _ _ HPL.out HM'.out])
      have hfz := howr.frozenAt (A + k)
      have gy : w2.cell? ⟨wo.heap.size, k, none⟩ = some (.int .u8 ([y0, y1, y2, y3].getD k 0)) := (hbr.cell (p := ⟨wo.heap.size, k, none⟩) (by simp)).trans (HYC.out k hk4)
      obtain ⟨y, hy⟩ : ∃ y, [y0, y1, y2, y3].getD k 0 = y := ⟨_, rfl⟩
      have hyb : 0 ≤ y ∧ y ≤ 255 := by rw [← hy]; exact HY.out.u8 k
      have hxb : 0 ≤ x ∧ x ≤ 255 := inB_of HF.out x (by rw [HLS.out]; simp)
      rw [hy] at gy
      obtain ⟨z, hz⟩ : ∃ z, bits .xor .u8 x y = z := ⟨_, rfl⟩
      have hzb : 0 ≤ z ∧ z ≤ 255 := by rw [← hz]; exact xor_fits x y hxb hyb
      obtain ⟨hs1, hs2⟩ := howr.stored (A + k) (.int .u8 z)
      rw [kv_set, set_app3 _ _ _ _ _ _ _ HPL.out HM'.out] at hs1
      have HS1 := Lib.hid hs1
      have HB2 := Lib.hid (hbr.grown hs2 (by have := hbr.size; rw [HHW.out] at this; simp at this; omega) (by simp; omega))
      have HZB := Lib.hid hzb
      have hak : ((A : Int) + (k : Int)).toNat = A + k := by omega
      have i0k : (0 : Int) ≤ (A : Int) + (k : Int) := by omega
      have i1k : (A : Int) + (k : Int) < (n : Int) := by omega
      have i4k : (k : Int) < 4 := by omega
      clear hy hyb hxb hzb hs1 hs2 howr hbr hDl
      go_wp2_with fail
      have hws : IntKind.i64.wrap ((A : Int) + (k : Int)) = (A : Int) + (k : Int) := IntWalk.i64_in _ (by omega)
      go_still_tail 11, (by kernel_rfl)
      go_wp2
      go_roundw
      case rel => exact ⟨k + 1, M ++ [x], M' ++ [z], S', by go_num, by omega, by rw [HLS.out]; simp, by simp [HM.out], by simp [HM'.out], of_inB (fun q hq => by rcases List.mem_append.1 hq with hq | hq; exact inB_of HFM.out q hq; simp at hq; subst hq; exact HZB.out), HS1.out, HB2.out.drew⟩
      case measure => simp [intOf]; omega
    · have hDf : Fits .u8 (P ++ M' ++ S) := of_inB (fun q hq => by
        rw [List.append_assoc, List.mem_append, List.mem_append] at hq
        rcases hq with hq | hq | hq
        · exact inB_of HF.out q (by rw [HLS.out]; simp [hq])
        · exact inB_of HFM.out q hq
        · exact inB_of HF.out q (by rw [HLS.out]; simp [hq]))
      have hDl : (P ++ M' ++ S).length = n := by rw [List.length_append, List.length_append, HM'.out, HPL.out]; exact hlen
      have htell : crcL l = crcL (P ++ M' ++ S) → l = P ++ M' ++ S := fun e => by
        rw [HLS.out] at e ⊢
        rw [crc_tells P M M' S (by rw [HM.out, HM'.out]) (by rw [HM.out]; exact hk) (fun q hq => inB_of HF.out q (by rw [HLS.out]; simp [hq])) (inB_of HFM.out) e]
      obtain ⟨D, hD⟩ : ∃ D, P ++ M' ++ S = D := ⟨_, rfl⟩
      rw [hD] at hDf hDl htell howr
      obtain ⟨X, hX⟩ : ∃ X, crcL l = X := ⟨_, rfl⟩
      obtain ⟨Y, hY⟩ : ∃ Y, crcL D = Y := ⟨_, rfl⟩
      rw [hX, hY] at htell
      obtain ⟨β, hβ⟩ : ∃ β, β = decide (l = D) := ⟨_, rfl⟩
      have e1 : (N32 X == N32 Y) = β := by
        rw [hβ]
        by_cases h : l = D
        · rw [decide_eq_true h, beq_iff_eq, ← hX, ← hY, h]
        · rw [decide_eq_false h, beq_eq_false_iff_ne]
          exact fun e => h (htell (N32_inj e))
      have e2 := strOfNums_beq l D HF.out hDf
      rw [← hβ] at e2
      have hb3 := hbr.mono (Nat.le_succ _)
      have HBW : Hid (Below wo.heap.size wo w2.drew) := Lib.hid (HBO.out.trans hb3).drew
      have hRL : Reads .u8 w2.drew (.slice (some ⟨b, off, none⟩) n cap) l := ⟨(HRE.out.1.below HBW.out), HRE.out.2⟩
      have hRD : Reads .u8 w2.drew (.slice (some ⟨g, 0, none⟩) n cg) D := ⟨by have := holds_own howr; exact this, hDf, by rw [hDl]; unfold maxLen; omega⟩
      have s1 := str_of hRL.1
      have s2 := str_of hRD.1
      have HRL := Lib.hid hRL
      have HRD := Lib.hid hRD
      have HX := Lib.hid hX
      have HYY := Lib.hid hY
      clear hX hY hRL hRD hβ htell hDf hDl hD howr hbr hb3 hlen
      by_cases hk4 : k < 4
      all_goals
        (try have hAk : n ≤ A + k := by omega)
        (try have hd : decide ((A : Int) + (k : Int) < (n : Int)) = false := by simp; omega)
        clear hgo
        go_wp2_with fail
        refine wp_region_still_tail 12 (by kernel_rfl) (by kernel_rfl) ?_
        simp only [List.take_succ_cons, List.take_zero, List.drop_succ_cons, List.drop_zero]
        still_step
        still_call (crc_q' _ _ _ HX.out _ HRL.out)
        still_step
        still_call (crc_q' _ _ _ HYY.out _ HRD.out)
        still_step
        still_step
        still_step
        still_step
        still_step
        still_step
        still_step
        still_step
        refine wpStill_nil ?_
        go_wp2_with (first | (go_at_call 45; refine (awake4_any _).mono ?_; rintro e w' ⟨rfl, hbel⟩))
        go_ret
        exact ⟨rfl, HBW.out.trans (hbel.mono HBW.out.size)⟩
end Go.Proofs.Ytofoilmepddmaab
