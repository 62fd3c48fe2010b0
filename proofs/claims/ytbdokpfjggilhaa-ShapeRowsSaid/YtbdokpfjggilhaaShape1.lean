/- Rows of lengths: the document's Strides; Index. -/
import Derived.Test.YtbdokpfjggilhaaShape0
namespace Go.Proofs.Ytbdokpfjggilhaa
open Go.RowKit
set_option maxHeartbeats 1000000
theorem stridesOf_getD (l : List Int) (k : Nat) (h : k < l.length) : (stridesOf l).getD k 0 = prodFrom 1 (l.drop (k + 1)) := by
  induction l generalizing k with
  | nil => simp at h
  | cons x l ih =>
    cases k with
    | zero => simp [stridesOf]
    | succ k => simp only [stridesOf, List.drop_succ_cons]; rw [List.getD_cons_succ]; exact ih k (by simpa using h)
theorem rstrides_any (v : Value) (l : List Int) (w : World) (hr : Reads .i64 w v l) :
    Calls Try.prog 16 #[v] w (Fresh w 3 (kv .i64 (strD l))) := by
  have HRE := Lib.hid hr
  obtain ⟨⟨ao, cap, rfl, hcl, hcm, h⟩, _, hm⟩ := hr
  unfold maxLen at hm
  have hll : (kv .i64 l).length = l.length := kv_len _ _
  rw [hll] at HRE hcl ⊢
  clear hll
  obtain ⟨n, hn⟩ : ∃ n, l.length = n := ⟨_, rfl⟩
  rw [hn] at HRE hm hcl ⊢
  unfold maxLen at hcm
  obtain ⟨wo, rfl⟩ : ∃ wo : World, wo = w := ⟨_, rfl⟩
  by_cases hmay : mayD l = true
  · obtain ⟨h4, hx4, hp⟩ := (mayD_iff l).1 hmay
    have HM := Lib.hid hmay
    have HX := Lib.hid hx4
    have hsd : strD l = stridesOf l := by unfold strD; rw [if_pos hmay]
    rw [hsd]
    clear hmay hx4 hsd
    rw [hn] at h4
    have HPP := Lib.hid hp
    clear hp
    obtain ⟨i0, hi, hz0, hz1, hz2⟩ := info_parts iInt
    rcases h with h | ⟨b1, o1, rfl, h⟩
    · rw [List.map_eq_nil_iff] at h; rw [h] at hn; simp at hn; omega
    have HH := Lib.hid h
    clear h
    go_enter Try.func16, Try.ntmps16
    go_wp2_with (go_at_call 11; refine (rmay_any _ _ _ HRE.out).mono ?_; rintro e w' ⟨rfl, rfl⟩; rw [HM.out])
    go_loopw [3, 13] (fun s c wr => ∃ (k : Nat), c = .int .i64 k ∧ k ≤ n ∧ wr.ownsRow wo.heap.size 3 1 s k (kv .i64 ((stridesOf l).take k)) ∧ Below wo.heap.size wo wr) (fun _ c _ => n - (intOf c).toNat)
    case atStart => exact ⟨0, rfl, by omega, World.ownsRow_nil _ _ _ _, Below.refl _ _⟩
    case round =>
      obtain ⟨k, rfl, hk, howr, hbr⟩ := hrel
      obtain ⟨w1, rfl⟩ : ∃ w1 : World, w1 = wr := ⟨_, rfl⟩
      have hsz := hbr.size
      by_cases hlt : k < n
      · have hlt1 : k + 1 ≤ n := hlt
        obtain ⟨P, hP⟩ : ∃ P, prodFrom 1 (l.drop (k + 1)) = P := ⟨_, rfl⟩
        have hPb : P ≤ 8192 := by
          have h1 : prodFrom 1 l = prodFrom (prodFrom 1 (l.take (k + 1))) (l.drop (k + 1)) := by
            unfold prodFrom; rw [← List.foldl_append, List.take_append_drop]
          have h1' := prodFrom_one (prodFrom 1 (l.take (k + 1))) (l.drop (k + 1))
          have h2 := prodFrom_pos 1 (l.take (k + 1)) (by omega) (fun y hy => HX.out y (List.mem_of_mem_take hy))
          have h3 := prodFrom_pos 1 (l.drop (k + 1)) (by omega) (fun y hy => HX.out y (List.mem_of_mem_drop hy))
          have h5 := Int.mul_le_mul_of_nonneg_right h2 (show 0 ≤ prodFrom 1 (l.drop (k + 1)) by omega)
          have := HPP.out
          omega
        have HP := Lib.hid hP
        have HSG : Hid ((stridesOf l).take (k + 1) = (stridesOf l).take k ++ [P]) := Lib.hid (by
          rw [take_getD _ _ (by rw [stridesOf_len]; omega), stridesOf_getD _ _ (by omega), hP])
        clear hP
        by_cases hck : cap = k + 1
        · have hnk : n ≤ k + 1 := by omega
          have hP1 : P = 1 := by have := HP.out; rw [show k + 1 = n from by omega, ← hn, List.drop_length] at this; exact this.symm
          subst hP1
          subst hck
          clear HRE
          go_wp2
          go_loop [5, 21] (fun s c => s = .int .i64 1 ∧ c = .int .i64 0) (fun _ c => 1)
          case atStart => exact ⟨rfl, rfl⟩
          case round =>
            obtain ⟨rfl, rfl⟩ := hrel
            go_wp2_with (at_builtin; refine wpList_append_own _ rfl _ _ 22 rfl wo.heap.size 3 i0 (.int .i64 0) 1 8 Try.underlying22 hi hz0 hz1 hz2 rfl (by decide) _ _ _ rfl (howr.alloc _) ⟨w1.heap.size, 0, none⟩ 1 1 [.int .i64 1] rfl rfl ?c1 ?c2 ?c3 ?c4 ?c5 ?_)
            case c2 => first | rfl | (intro u hu; simp at hu; subst hu; rfl)
            case c3 => unfold maxLen; omega
            case c4 => omega
            case c5 => first | omega | (simp; omega)
            intro v' w2 hown2 hgrow2 _
            have hb2 := ((hbr.alloc hsz _).grown hgrow2 (by simp; omega) (fun k hk => (howr.lt k hk).1))
            go_wp2
            go_roundw
            case rel => exact ⟨k + 1, by go_num, by omega, by rw [HSG.out]; simpa [kv] using hown2, hb2⟩
            case measure => simp [intOf]; omega
        · go_wp2
          go_loop [5, 21] (fun s c => ∃ (j : Nat) (a : Int), s = .int .i64 a ∧ c = .int .i64 j ∧ j ≤ n - (k + 1) ∧ 1 ≤ a ∧ prodFrom a (l.drop (k + 1 + j)) = P) (fun _ c => n - (intOf c).toNat)
          case atStart => exact ⟨0, 1, rfl, rfl, by omega, by omega, HP.out⟩
          case round =>
            obtain ⟨j, a, rfl, rfl, hj, ha, haP⟩ := hrel
            have HA := Lib.hid haP
            clear haP
            by_cases hlt2 : j < n - (k + 1)
            · have e1 := kv_getD .i64 l (k + 1 + j) (by omega)
              have g0 := HH.out _ _ e1
              have g1 := (hbr.cell (p := ⟨b1, o1 + (k + 1 + j), none⟩) (World.block_lt_of_cell? wo _ g0)).trans g0
              have hdr := drop_getD l (k + 1 + j) (by omega)
              have hxm : l.getD (k + 1 + j) 0 ∈ l := by rw [List.getD_eq_getElem?_getD, List.getElem?_eq_getElem (by omega)]; exact List.getElem_mem _
              have hx4 := HX.out _ hxm
              obtain ⟨x, hx⟩ : ∃ x, l.getD (k + 1 + j) 0 = x := ⟨_, rfl⟩
              rw [hx] at g1 hdr hx4
              have HN : Hid (prodFrom (a * x) (l.drop (k + 1 + (j + 1))) = P) := Lib.hid (by have := HA.out; rw [hdr] at this; exact this)
              have hm1 := Int.mul_le_mul_of_nonneg_left hx4.1 (show 0 ≤ a by omega)
              have hm3 : 1 ≤ a * x := by omega
              have hm4 : a * x ≤ 8192 := by
                have := prodFrom_pos (a * x) (l.drop (k + 1 + (j + 1))) hm3 (fun y hy => HX.out y (List.mem_of_mem_drop hy))
                rw [HN.out] at this
                omega
              have g2 : w1.cell? ⟨b1, o1 + (k + 1) + j, none⟩ = some (.int .i64 x) := by rw [Nat.add_assoc]; exact g1
              clear e1 hx hdr hm1 hxm g0 g1
              go_wp2
              go_round
              case rel => exact ⟨j + 1, a * x, rfl, by go_num, by omega, hm3, HN.out⟩
              case measure => simp [intOf]; omega
            · have hjn : j = n - (k + 1) := by omega
              subst hjn
              have hPa : a = P := by have := HA.out; rw [show k + 1 + (n - (k + 1)) = n from by omega, ← hn, List.drop_length] at this; exact this
              subst hPa
              go_wp2_with (at_builtin; refine wpList_append_own _ rfl _ _ 22 rfl wo.heap.size 3 i0 (.int .i64 0) 1 8 Try.underlying22 hi hz0 hz1 hz2 rfl (by decide) _ _ _ rfl (howr.alloc _) ⟨w1.heap.size, 0, none⟩ 1 1 [.int .i64 a] rfl rfl ?d1 ?d2 ?d3 ?d4 ?d5 ?_)
              case d2 => first | rfl | (intro u hu; simp at hu; subst hu; rfl)
              case d3 => unfold maxLen; omega
              case d4 => omega
              case d5 => first | omega | (simp; omega)
              intro v' w2 hown2 hgrow2 _
              have hb2 := ((hbr.alloc hsz _).grown hgrow2 (by simp; omega) (fun k hk => (howr.lt k hk).1))
              go_wp2
              go_roundw
              case rel => exact ⟨k + 1, by go_num, by omega, by rw [HSG.out]; simpa [kv] using hown2, hb2⟩
              case measure => simp [intOf]; omega
      · have hkn : k = n := by omega
        subst hkn
        go_wp2
        go_ret
        exact ⟨_, rfl, by rw [kv_len, stridesOf_len, hn]; rw [List.take_of_length_le (by rw [stridesOf_len]; omega)] at howr; exact howr, hbr⟩
  · have HM : Hid (mayD l = false) := Lib.hid (by simpa using hmay)
    have hsd : strD l = [] := by unfold strD; rw [if_neg hmay]
    rw [hsd]
    clear hmay hsd
    go_enter Try.func16, Try.ntmps16
    go_wp2_with (go_at_call 11; refine (rmay_any _ _ _ HRE.out).mono ?_; rintro e w' ⟨rfl, rfl⟩; rw [HM.out])
    go_ret
    exact ⟨_, rfl, World.ownsRow_nil _ _ _ _, Below.refl _ _⟩
def hornerFrom : Int → List Int → List Int → Int
  | n, x :: d, a :: t => if a < 0 ∨ x ≤ a then -1 else hornerFrom (n * x + a) d t
  | n, _, _ => n
def sumFrom : Int → List Int → List Int → Int
  | n, _ :: d, a :: t => if a < 0 then -1 else sumFrom n d t
  | n, _, _ => n
/-- The number of a place, stride by stride. -/
def idxFrom : Int → List Int → List Int → Int
  | n, x :: d, a :: t => if a < 0 ∨ x ≤ a then -1 else idxFrom (n + a * prodFrom 1 d) d t
  | n, _, _ => n
theorem horner_eq (n : Int) (d t : List Int) (hl : t.length = d.length) : hornerFrom n d t = idxFrom (n * prodFrom 1 d) d t := by
  induction d generalizing n t with
  | nil => cases t with
    | nil => simp [hornerFrom, idxFrom, prodFrom]
    | cons a t => simp at hl
  | cons x d ih => cases t with
    | nil => simp at hl
    | cons a t =>
      unfold hornerFrom idxFrom
      split
      · rfl
      · rw [ih _ _ (by simpa using hl), prodFrom_cons, Int.one_mul, prodFrom_one x d, Int.add_mul, Int.mul_assoc]
def idxD (d t : List Int) : Int := if mayD d = true ∧ t.length = d.length then idxFrom 0 d t else -1
theorem index_any (v1 v2 : Value) (d t : List Int) (w : World) (hr1 : Reads .i64 w v1 d) (hr2 : Reads .i64 w v2 t) :
    Calls Try.prog 18 #[v1, v2] w fun e w' => e = .returned (.int .i64 (idxD d t)) ∧ Below w.heap.size w w' := by
  have HRE1 := Lib.hid hr1
  obtain ⟨⟨ao, cap, rfl, _, _, hd⟩, _, hm1⟩ := hr1
  obtain ⟨⟨ao2, cap2, rfl, _, _, ht⟩, _, hm2⟩ := hr2
  unfold maxLen at hm1 hm2
  rw [kv_len] at HRE1 ⊢
  rw [kv_len]
  obtain ⟨n, hn⟩ : ∃ n, d.length = n := ⟨_, rfl⟩
  obtain ⟨m, hmm⟩ : ∃ m, t.length = m := ⟨_, rfl⟩
  rw [hn] at HRE1 hm1 ⊢
  rw [hmm] at hm2 ⊢
  obtain ⟨wo, rfl⟩ : ∃ wo : World, wo = w := ⟨_, rfl⟩
  by_cases hmay : mayD d = true
  · obtain ⟨h4, hx4, hp⟩ := (mayD_iff d).1 hmay
    rw [hn] at h4
    have HM := Lib.hid hmay
    by_cases hnm : m = n
    · subst hnm
      obtain ⟨R, hR⟩ : ∃ R, idxFrom 0 d t = R := ⟨_, rfl⟩
      have hid : idxD d t = R := by unfold idxD; rw [if_pos ⟨hmay, by omega⟩, hR]
      rw [hid]
      have HX := Lib.hid hx4
      have HR := Lib.hid hR
      clear hmay hx4 hid hR
      rcases hd with hd | ⟨b1, o1, rfl, hd⟩
      · rw [List.map_eq_nil_iff] at hd; rw [hd] at hn; simp at hn; omega
      rcases ht with ht | ⟨b2, o2, rfl, ht⟩
      · rw [List.map_eq_nil_iff] at ht; rw [ht] at hmm; simp at hmm; omega
      have HD := Lib.hid hd
      have HT := Lib.hid ht
      clear hd ht
      go_enter Try.func18, Try.ntmps18
      go_wp2_with (go_at_call 10; refine (may_any _ _ _ HRE1.out).mono ?_; rintro e w' ⟨rfl, rfl⟩; rw [HM.out])
      refine (strides_any _ _ _ HRE1.out).mono ?_
      rintro e w1 ⟨vs, rfl, ho1, hb1⟩
      have hsd : strD d = stridesOf d := by unfold strD; rw [if_pos HM.out]
      rw [kv_len, hsd, stridesOf_len, hn] at ho1
      obtain ⟨g, cg, rfl, hg1, hg2, hg3⟩ := owned_shape ho1 (by omega)
      clear hsd
      obtain ⟨w2, rfl⟩ : ∃ w2 : World, w2 = w1 := ⟨_, rfl⟩
      go_wp2
      go_loopw [5, 21] (fun s c wr => ∃ (k : Nat) (a : Int), c = .int .i64 k ∧ s = .int .i64 a ∧ k ≤ m ∧ 0 ≤ a ∧ a + prodFrom 1 (d.drop k) ≤ 8192 ∧ idxFrom a (d.drop k) (t.drop k) = R ∧ ∃ q, wr = w2.drewN q) (fun _ c _ => m - (intOf c).toNat)
      case atStart => exact ⟨0, 0, rfl, rfl, by omega, by omega, by rw [List.drop_zero]; omega, HR.out, 0, rfl⟩
      case round =>
        obtain ⟨k, a, rfl, rfl, hk, ha, ha2, hS, q, rfl⟩ := hrel
        have HSS := Lib.hid hS
        clear hS
        by_cases hlt : k < m
        · have gd := HD.out k _ (kv_getD .i64 d k (by omega))
          have gt := HT.out k _ (kv_getD .i64 t k (by omega))
          have gd := (hb1.cell (p := ⟨b1, o1 + k, none⟩) (World.block_lt_of_cell? wo _ gd)).trans gd
          have gt := (hb1.cell (p := ⟨b2, o2 + k, none⟩) (World.block_lt_of_cell? wo _ gt)).trans gt
          have gs := (ho1.cellAt k (by omega)).trans (kv_getD .i64 (stridesOf d) k (by rw [stridesOf_len]; omega))
          rw [stridesOf_getD d k (by omega)] at gs
          obtain ⟨S, hS⟩ : ∃ S, prodFrom 1 (d.drop (k + 1)) = S := ⟨_, rfl⟩
          have hdr := drop_getD d k (by omega)
          have htr := drop_getD t k (by omega)
          have hxm : d.getD k 0 ∈ d := by rw [List.getD_eq_getElem?_getD, List.getElem?_eq_getElem (by omega)]; exact List.getElem_mem _
          have hx4 := HX.out _ hxm
          obtain ⟨x, hx⟩ : ∃ x, d.getD k 0 = x := ⟨_, rfl⟩
          obtain ⟨y, hy⟩ : ∃ y, t.getD k 0 = y := ⟨_, rfl⟩
          rw [hx] at gd hdr hx4
          rw [hy] at gt htr
          rw [hS] at gs
          have HS := Lib.hid hS
          have HE : Hid (idxFrom a (x :: d.drop (k + 1)) (y :: t.drop (k + 1)) = R) := Lib.hid (by have := HSS.out; rw [hdr, htr] at this; exact this)
          have hpd : prodFrom 1 (d.drop k) = x * S := by rw [hdr, prodFrom_cons, Int.one_mul, prodFrom_one, hS]
          rw [hpd] at ha2
          have hs1 : 1 ≤ S := by rw [← hS]; exact prodFrom_pos 1 _ (by omega) (fun y hy => HX.out y (List.mem_of_mem_drop hy))
          have hsb : S ≤ x * S := by have := Int.mul_le_mul_of_nonneg_right hx4.1 (show 0 ≤ S by omega); omega
          clear hS hdr htr hxm hx hy hpd
          by_cases hy0 : y < 0
          · have hf : Hid (R = -1) := Lib.hid (by have := HE.out; rw [idxFrom, if_pos (by omega)] at this; exact this.symm)
            clear ha2 hsb
            go_wp2
            go_quiet (fail)
            go_wp2
            go_ret
            exact ⟨ret_int hf.out.symm, below_drewN (below_drewN hb1 _) _⟩
          · have hy1 : decide (y < 0) = false := by simp; omega
            by_cases hyx : x ≤ y
            · have hf : Hid (R = -1) := Lib.hid (by have := HE.out; rw [idxFrom, if_pos (by omega)] at this; exact this.symm)
              clear ha2 hsb
              go_wp2
              go_quiet (fail)
              go_wp2
              go_ret
              exact ⟨ret_int hf.out.symm, below_drewN (below_drewN hb1 _) _⟩
            · have hyx1 : decide (x ≤ y) = false := by simp; omega
              have HN : Hid (idxFrom (a + y * S) (d.drop (k + 1)) (t.drop (k + 1)) = R) := Lib.hid (by have := HE.out; rw [idxFrom, if_neg (by omega), HS.out] at this; exact this)
              have hm := Int.mul_le_mul_of_nonneg_right (show y + 1 ≤ x by omega) (show 0 ≤ S by omega)
              rw [Int.add_mul, Int.one_mul] at hm
              have hm0 := Int.mul_nonneg (show 0 ≤ y by omega) (show 0 ≤ S by omega)
              have hb : a + y * S + S ≤ 8192 := by omega
              have HB : Hid (a + y * S + prodFrom 1 (d.drop (k + 1)) ≤ 8192) := Lib.hid (by rw [HS.out]; exact hb)
              clear hm ha2 hsb
              go_wp2
              go_quiet (fail)
              go_wp2
              go_roundw
              case rel => exact ⟨k + 1, a + y * S, by go_num, rfl, by omega, by omega, HB.out, HN.out, _, by first | rfl | rw [World.drewN_drewN]⟩
              case measure => simp [intOf]; omega
        · have hkn : k = m := by omega
          subst hkn
          go_wp2
          go_ret
          exact ⟨ret_int (by have := HSS.out; rw [← hn, List.drop_length] at this; rw [idxFrom] at this; exact this; intros; simp_all), below_drewN hb1 _⟩
    · have hid : idxD d t = -1 := by unfold idxD; rw [if_neg (by omega)]
      rw [hid]
      have hne : ((m : Int) != (n : Int)) = true := by rw [bne_iff_ne]; omega
      clear hmay hx4 hid hnm hd ht
      go_enter Try.func18, Try.ntmps18
      go_wp2_with (go_at_call 10; refine (may_any _ _ _ HRE1.out).mono ?_; rintro e w' ⟨rfl, rfl⟩; rw [HM.out])
      go_ret
      exact ⟨rfl, Below.refl _ _⟩
  · have hid : idxD d t = -1 := by unfold idxD; rw [if_neg (fun e => hmay e.1)]
    rw [hid]
    have HM : Hid (mayD d = false) := Lib.hid (by simpa using hmay)
    clear hmay hid hd ht
    go_enter Try.func18, Try.ntmps18
    go_wp2_with (go_at_call 10; refine (may_any _ _ _ HRE1.out).mono ?_; rintro e w' ⟨rfl, rfl⟩; rw [HM.out])
    go_ret
    exact ⟨rfl, Below.refl _ _⟩
theorem rindex_any (v1 v2 : Value) (d t : List Int) (w : World) (hr1 : Reads .i64 w v1 d) (hr2 : Reads .i64 w v2 t) :
    Calls Try.prog 19 #[v1, v2] w fun e w' => e = .returned (.int .i64 (idxD d t)) ∧ Below w.heap.size w w' := by
  have HRE1 := Lib.hid hr1
  obtain ⟨⟨ao, cap, rfl, _, _, hd⟩, _, hm1⟩ := hr1
  obtain ⟨⟨ao2, cap2, rfl, _, _, ht⟩, _, hm2⟩ := hr2
  unfold maxLen at hm1 hm2
  rw [kv_len] at HRE1 ⊢
  rw [kv_len]
  obtain ⟨n, hn⟩ : ∃ n, d.length = n := ⟨_, rfl⟩
  obtain ⟨m, hmm⟩ : ∃ m, t.length = m := ⟨_, rfl⟩
  rw [hn] at HRE1 hm1 ⊢
  rw [hmm] at hm2 ⊢
  obtain ⟨wo, rfl⟩ : ∃ wo : World, wo = w := ⟨_, rfl⟩
  by_cases hmay : mayD d = true
  · obtain ⟨h4, hx4, hp⟩ := (mayD_iff d).1 hmay
    rw [hn] at h4
    have HM := Lib.hid hmay
    by_cases hnm : m = n
    · subst hnm
      obtain ⟨R, hR⟩ : ∃ R, hornerFrom 0 d t = R := ⟨_, rfl⟩
      have hid : idxD d t = R := by unfold idxD; rw [if_pos ⟨hmay, by omega⟩, ← hR, horner_eq 0 d t (by omega), Int.zero_mul]
      rw [hid]
      have HX := Lib.hid hx4
      have HR := Lib.hid hR
      clear hmay hx4 hid hR
      rcases hd with hd | ⟨b1, o1, rfl, hd⟩
      · rw [List.map_eq_nil_iff] at hd; rw [hd] at hn; simp at hn; omega
      rcases ht with ht | ⟨b2, o2, rfl, ht⟩
      · rw [List.map_eq_nil_iff] at ht; rw [ht] at hmm; simp at hmm; omega
      have HD := Lib.hid hd
      have HT := Lib.hid ht
      clear hd ht
      go_enter Try.func19, Try.ntmps19
      go_wp2_with (go_at_call 11; refine (rmay_any _ _ _ HRE1.out).mono ?_; rintro e w' ⟨rfl, rfl⟩; rw [HM.out])
      obtain ⟨w2, rfl⟩ : ∃ w2 : World, w2 = wo := ⟨_, rfl⟩
      go_loopw [5, 20] (fun s c wr => ∃ (k : Nat) (a : Int), c = .int .i64 k ∧ s = .int .i64 a ∧ k ≤ m ∧ 0 ≤ a ∧ (a + 1) * prodFrom 1 (d.drop k) ≤ 8192 ∧ hornerFrom a (d.drop k) (t.drop k) = R ∧ ∃ q, wr = w2.drewN q) (fun _ c _ => m - (intOf c).toNat)
      case atStart => exact ⟨0, 0, rfl, rfl, by omega, by omega, by rw [List.drop_zero]; omega, HR.out, 0, rfl⟩
      case round =>
        obtain ⟨k, a, rfl, rfl, hk, ha, ha2, hS, q, rfl⟩ := hrel
        have HSS := Lib.hid hS
        clear hS
        by_cases hlt : k < m
        · have gd := HD.out k _ (kv_getD .i64 d k (by omega))
          have gt := HT.out k _ (kv_getD .i64 t k (by omega))
          obtain ⟨S, hS⟩ : ∃ S, prodFrom 1 (d.drop (k + 1)) = S := ⟨_, rfl⟩
          have hdr := drop_getD d k (by omega)
          have htr := drop_getD t k (by omega)
          have hxm : d.getD k 0 ∈ d := by rw [List.getD_eq_getElem?_getD, List.getElem?_eq_getElem (by omega)]; exact List.getElem_mem _
          have hx4 := HX.out _ hxm
          obtain ⟨x, hx⟩ : ∃ x, d.getD k 0 = x := ⟨_, rfl⟩
          obtain ⟨y, hy⟩ : ∃ y, t.getD k 0 = y := ⟨_, rfl⟩
          rw [hx] at gd hdr hx4
          rw [hy] at gt htr
          have HS := Lib.hid hS
          have HE : Hid (hornerFrom a (x :: d.drop (k + 1)) (y :: t.drop (k + 1)) = R) := Lib.hid (by have := HSS.out; rw [hdr, htr] at this; exact this)
          have hpd : prodFrom 1 (d.drop k) = x * S := by rw [hdr, prodFrom_cons, Int.one_mul, prodFrom_one, hS]
          rw [hpd] at ha2
          have hs1 : 1 ≤ S := by rw [← hS]; exact prodFrom_pos 1 _ (by omega) (fun y hy => HX.out y (List.mem_of_mem_drop hy))
          have hax := Int.mul_nonneg ha (show 0 ≤ x by omega)
          have hsb : y < x → (a * x + y + 1) * S ≤ 8192 := by
            intro hyx
            have h1 : (a * x + y + 1) * S ≤ (a + 1) * (x * S) := by
              rw [← Int.mul_assoc]
              exact Int.mul_le_mul_of_nonneg_right (by rw [Int.add_mul, Int.one_mul]; omega) (by omega)
            omega
          clear hS hdr htr hxm hx hy hpd
          by_cases hy0 : y < 0
          · have hf : Hid (R = -1) := Lib.hid (by have := HE.out; rw [hornerFrom, if_pos (by omega)] at this; exact this.symm)
            clear ha2 hsb
            go_wp2
            go_ret
            exact ⟨ret_int hf.out.symm, below_drewN (Below.refl _ _) _⟩
          · have hy1 : decide (y < 0) = false := by simp; omega
            by_cases hyx : x ≤ y
            · have hf : Hid (R = -1) := Lib.hid (by have := HE.out; rw [hornerFrom, if_pos (by omega)] at this; exact this.symm)
              clear ha2 hsb
              go_wp2
              go_ret
              exact ⟨ret_int hf.out.symm, below_drewN (Below.refl _ _) _⟩
            · have hyx1 : decide (x ≤ y) = false := by simp; omega
              have HN : Hid (hornerFrom (a * x + y) (d.drop (k + 1)) (t.drop (k + 1)) = R) := Lib.hid (by have := HE.out; rw [hornerFrom, if_neg (by omega)] at this; exact this)
              have h2 := hsb (by omega)
              have h3 := Int.mul_le_mul_of_nonneg_left hs1 (show 0 ≤ a * x + y + 1 by omega)
              have hb : a * x + y + 1 ≤ 8192 := by omega
              have HB : Hid ((a * x + y + 1) * prodFrom 1 (d.drop (k + 1)) ≤ 8192) := Lib.hid (by rw [HS.out]; exact h2)
              clear h2 h3 ha2 hsb
              go_wp2
              go_roundw
              case rel => exact ⟨k + 1, a * x + y, by go_num, rfl, by omega, by omega, HB.out, HN.out, _, by first | rfl | rw [World.drewN_drewN]⟩
              case measure => simp [intOf]; omega
        · have hkn : k = m := by omega
          subst hkn
          go_wp2
          go_ret
          exact ⟨ret_int (by have := HSS.out; rw [← hn, List.drop_length] at this; rw [hornerFrom] at this; exact this; intros; simp_all), below_drewN (Below.refl _ _) _⟩
    · have hid : idxD d t = -1 := by unfold idxD; rw [if_neg (by omega)]
      rw [hid]
      have hne : ((m : Int) != (n : Int)) = true := by rw [bne_iff_ne]; omega
      clear hmay hx4 hid hnm hd ht
      go_enter Try.func19, Try.ntmps19
      go_wp2_with (go_at_call 11; refine (rmay_any _ _ _ HRE1.out).mono ?_; rintro e w' ⟨rfl, rfl⟩; rw [HM.out])
      go_ret
      exact ⟨rfl, Below.refl _ _⟩
  · have hid : idxD d t = -1 := by unfold idxD; rw [if_neg (fun e => hmay e.1)]
    rw [hid]
    have HM : Hid (mayD d = false) := Lib.hid (by simpa using hmay)
    clear hmay hid hd ht
    go_enter Try.func19, Try.ntmps19
    go_wp2_with (go_at_call 11; refine (rmay_any _ _ _ HRE1.out).mono ?_; rintro e w' ⟨rfl, rfl⟩; rw [HM.out])
    go_ret
    exact ⟨rfl, Below.refl _ _⟩
end Go.Proofs.Ytbdokpfjggilhaa
