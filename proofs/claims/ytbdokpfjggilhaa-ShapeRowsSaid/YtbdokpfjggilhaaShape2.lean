/- Rows of lengths: At. -/
import Derived.Test.YtbdokpfjggilhaaShape1
namespace Go.Proofs.Ytbdokpfjggilhaa
open Go.RowKit
set_option maxHeartbeats 1000000
def atFrom : Int → List Int → List Int
  | _, [] => []
  | i, s :: ss => i / s :: atFrom (i % s) ss
theorem atFrom_len (i : Int) (ss : List Int) : (atFrom i ss).length = ss.length := by
  induction ss generalizing i with
  | nil => rfl
  | cons s ss ih => simp [atFrom, ih]
def atD (d : List Int) (i : Int) : List Int := if i < 0 ∨ szD d ≤ i then [] else atFrom i (stridesOf d)
theorem stridesOf_pos (d : List Int) (h : ∀ x ∈ d, 1 ≤ x ∧ x ≤ 4096) (k : Nat) (hk : k < d.length) : 1 ≤ (stridesOf d).getD k 0 := by
  rw [stridesOf_getD d k hk]
  exact prodFrom_pos 1 _ (by omega) (fun y hy => h y (List.mem_of_mem_drop hy))
theorem szD_le (d : List Int) : szD d ≤ 8192 := by
  unfold szD
  split
  · rename_i h; exact ((mayD_iff d).1 h).2.2
  · omega
theorem emod_le' (I s : Int) (hI : 0 ≤ I) (hs : 1 ≤ s) : I % s ≤ I := by
  have h1 := Int.mul_ediv_add_emod I s
  have h2 := Int.mul_nonneg (show 0 ≤ s by omega) (Int.ediv_nonneg hI (show 0 ≤ s by omega))
  omega
theorem owned_mono {w : World} {base base' : Nat} {e : TypeId} {size : Nat} {v : Value} {n : Nat} {xs : List Value} (h : w.ownsRow base e size v n xs) (hb : base' ≤ base) : w.ownsRow base' e size v n xs := by
  refine ⟨h.1, ?_⟩
  rcases h.2 with h | ⟨g, cap, cur, rfl, h1, h2⟩
  · exact .inl h
  · exact .inr ⟨g, cap, cur, rfl, Nat.le_trans hb h1, h2⟩
theorem splice_set (A B : List Int) (s v : Int) : (A ++ s :: B).set A.length v = (A ++ [v]) ++ B := by
  simp
theorem at_any (v : Value) (d : List Int) (i : Int) (w : World) (hr : Reads .i64 w v d) :
    Calls Try.prog 20 #[v, .int .i64 i] w (Fresh w 3 (kv .i64 (atD d i))) := by
  have HRE := Lib.hid hr
  obtain ⟨wo, rfl⟩ : ∃ wo : World, wo = w := ⟨_, rfl⟩
  by_cases hi : i < 0 ∨ szD d ≤ i
  · have hid : atD d i = [] := by unfold atD; rw [if_pos hi]
    rw [hid]
    clear hid hr
    rcases hi with hi | hi
    · go_enter Try.func20, Try.ntmps20
      go_wp2
      go_ret
      exact ⟨_, rfl, World.ownsRow_nil _ _ _ _, Below.refl _ _⟩
    · by_cases h0 : i < 0
      · go_enter Try.func20, Try.ntmps20
        go_wp2
        go_ret
        exact ⟨_, rfl, World.ownsRow_nil _ _ _ _, Below.refl _ _⟩
      · go_enter Try.func20, Try.ntmps20
        go_wp2_with (go_at_call 12; refine (size_any _ _ _ HRE.out).mono ?_; rintro e w' ⟨rfl, rfl⟩)
        go_ret
        exact ⟨_, rfl, World.ownsRow_nil _ _ _ _, Below.refl _ _⟩
  · have hid : atD d i = atFrom i (stridesOf d) := by unfold atD; rw [if_neg hi]
    rw [hid]
    have hmay : mayD d = true := by
      unfold szD at hi
      by_cases h : mayD d = true
      · exact h
      · rw [if_neg h] at hi; omega
    obtain ⟨h4, hx4, hp⟩ := (mayD_iff d).1 hmay
    have hsd : strD d = stridesOf d := by unfold strD; rw [if_pos hmay]
    have hsz := szD_le d
    have h0 : 0 ≤ i := by omega
    have h1 : i < szD d := by omega
    have HX := Lib.hid hx4
    obtain ⟨n, hn⟩ : ∃ n, d.length = n := ⟨_, rfl⟩
    rw [hn] at h4
    obtain ⟨P, hP⟩ : ∃ P, atFrom i (stridesOf d) = P := ⟨_, rfl⟩
    have hPl : P.length = n := by rw [← hP, atFrom_len, stridesOf_len, hn]
    have HP := Lib.hid hP
    rw [hP]
    clear hi hid hr hmay hx4 hp hP
    have hss : (stridesOf d).length = n := by rw [stridesOf_len, hn]
    go_enter Try.func20, Try.ntmps20
    go_wp2_with (go_at_call 12; refine (size_any _ _ _ HRE.out).mono ?_; rintro e w' ⟨rfl, rfl⟩)
    refine (strides_any _ _ _ HRE.out).mono ?_
    rintro e w1 ⟨vs, rfl, ho1, hb1⟩
    rw [kv_len, hsd, hss] at ho1
    obtain ⟨g, cg, rfl, hg1, hg2, hg3⟩ := owned_shape ho1 (by omega)
    clear hsd
    obtain ⟨w2, rfl⟩ : ∃ w2 : World, w2 = w1 := ⟨_, rfl⟩
    go_wp2
    go_loopw [1, 20] (fun iv c wr => ∃ (k : Nat) (I : Int), c = .int .i64 k ∧ iv = .int .i64 I ∧ k ≤ n ∧ 0 ≤ I ∧ I ≤ 8192 ∧ atFrom I ((stridesOf d).drop k) = P.drop k ∧ wr.ownsRow wo.heap.size 3 1 (.slice (some ⟨g, 0, none⟩) n cg) n (kv .i64 (P.take k ++ (stridesOf d).drop k)) ∧ Below wo.heap.size wo wr) (fun _ c _ => n - (intOf c).toNat)
    case atStart => exact ⟨0, i, rfl, rfl, by omega, h0, by omega, HP.out, ho1, hb1⟩
    case round =>
      obtain ⟨k, I, rfl, rfl, hk, hI, hI2, hA, howr, hbr⟩ := hrel
      have HA := Lib.hid hA
      clear hA ho1 hb1
      obtain ⟨w3, rfl⟩ : ∃ w3 : World, w3 = wr := ⟨_, rfl⟩
      by_cases hlt : k < n
      · have htk : (P.take k).length = k := by rw [List.length_take]; omega
        have hdr := drop_getD (stridesOf d) k (by omega)
        have hs1 := stridesOf_pos d HX.out k (by omega)
        obtain ⟨s, hs⟩ : ∃ s, (stridesOf d).getD k 0 = s := ⟨_, rfl⟩
        rw [hs] at hdr hs1
        have hpk : P.drop k = I / s :: atFrom (I % s) ((stridesOf d).drop (k + 1)) := by have := HA.out; rw [hdr, atFrom] at this; exact this.symm
        have hpd := drop_getD P k (by omega)
        have hpe : P.getD k 0 = I / s ∧ atFrom (I % s) ((stridesOf d).drop (k + 1)) = P.drop (k + 1) := by
          rw [hpk] at hpd; injection hpd with a b; exact ⟨a.symm, b⟩
        have HN := Lib.hid hpe.2
        have hget : (P.take k ++ (stridesOf d).drop k).getD k 0 = s := by
          rw [hdr, List.getD_eq_getElem?_getD, List.getElem?_append_right (by omega), htk]; simp
        have hset : (P.take k ++ (stridesOf d).drop k).set k (I / s) = P.take (k + 1) ++ (stridesOf d).drop (k + 1) := by
          rw [hdr, take_getD P k (by omega), hpe.1]
          have := splice_set (P.take k) ((stridesOf d).drop (k + 1)) s (I / s)
          rwa [htk] at this
        have hc := (howr.cellAt k (by omega)).trans (kv_getD .i64 _ k (by rw [List.length_append, htk, List.length_drop]; omega))
        rw [hget] at hc
        have hf := howr.frozenAt k
        have hst := howr.stored k (.int .i64 (I / s))
        rw [kv_set, hset] at hst
        obtain ⟨ho2, hg4⟩ := hst
        have hb2 := hbr.grown hg4 (by have := hbr.size; omega) (by intro k hk; cases hk; exact hg1)
        have hq1 := Int.ediv_nonneg hI (show 0 ≤ s by omega)
        have hq2 := Int.ediv_le_self s hI
        have hr1 := Int.emod_nonneg I (show s ≠ 0 by omega)
        have hr2 : I % s ≤ I := emod_le' I s hI (by omega)
        clear htk hdr hs hpk hpd hpe hget hset
        go_wp2
        go_roundw
        case rel => exact ⟨k + 1, I % s, by go_num, rfl, by omega, hr1, by omega, HN.out, ho2, hb2⟩
        case measure => simp [intOf]; omega
      · have hkn : k = n := by omega
        subst hkn
        go_wp2
        go_ret
        exact ⟨_, rfl, by
          rw [kv_len, hPl]
          rw [List.drop_of_length_le (by omega), List.append_nil, List.take_of_length_le (by omega)] at howr
          exact howr, hbr⟩
theorem rat_any2 (v : Value) (d : List Int) (i : Int) (w : World) (hr : Reads .i64 w v d) :
    Calls Try.prog 21 #[v, .int .i64 i] w (Fresh w 3 (kv .i64 (atD d i))) := by
  have HRE := Lib.hid hr
  obtain ⟨wo, rfl⟩ : ∃ wo : World, wo = w := ⟨_, rfl⟩
  by_cases hi : i < 0 ∨ szD d ≤ i
  · have hid : atD d i = [] := by unfold atD; rw [if_pos hi]
    rw [hid]
    clear hid hr
    rcases hi with hi | hi
    · go_enter Try.func21, Try.ntmps21
      go_wp2
      go_ret
      exact ⟨_, rfl, World.ownsRow_nil _ _ _ _, Below.refl _ _⟩
    · by_cases h0 : i < 0
      · go_enter Try.func21, Try.ntmps21
        go_wp2
        go_ret
        exact ⟨_, rfl, World.ownsRow_nil _ _ _ _, Below.refl _ _⟩
      · go_enter Try.func21, Try.ntmps21
        go_wp2_with (go_at_call 13; refine (rsize_any _ _ _ HRE.out).mono ?_; rintro e w' ⟨rfl, rfl⟩)
        go_ret
        exact ⟨_, rfl, World.ownsRow_nil _ _ _ _, Below.refl _ _⟩
  · have hid : atD d i = atFrom i (stridesOf d) := by unfold atD; rw [if_neg hi]
    rw [hid]
    have hmay : mayD d = true := by
      unfold szD at hi
      by_cases h : mayD d = true
      · exact h
      · rw [if_neg h] at hi; omega
    obtain ⟨h4, hx4, hp⟩ := (mayD_iff d).1 hmay
    have hsd : strD d = stridesOf d := by unfold strD; rw [if_pos hmay]
    have hsz := szD_le d
    have h0 : 0 ≤ i := by omega
    have h1 : i < szD d := by omega
    have HX := Lib.hid hx4
    obtain ⟨n, hn⟩ : ∃ n, d.length = n := ⟨_, rfl⟩
    rw [hn] at h4
    obtain ⟨P, hP⟩ : ∃ P, atFrom i (stridesOf d) = P := ⟨_, rfl⟩
    have hPl : P.length = n := by rw [← hP, atFrom_len, stridesOf_len, hn]
    have HP := Lib.hid hP
    rw [hP]
    clear hi hid hr hmay hx4 hp hP
    have hss : (stridesOf d).length = n := by rw [stridesOf_len, hn]
    obtain ⟨i0, hi, hz0, hz1, hz2⟩ := info_parts iInt
    go_enter Try.func21, Try.ntmps21
    go_wp2_with (go_at_call 13; refine (rsize_any _ _ _ HRE.out).mono ?_; rintro e w' ⟨rfl, rfl⟩)
    refine (rstrides_any _ _ _ HRE.out).mono ?_
    rintro e w1 ⟨vs, rfl, ho1, hb1⟩
    rw [kv_len, hsd, hss] at ho1
    obtain ⟨g, cg, rfl, hg1, hg2, hg3⟩ := owned_shape ho1 (by omega)
    clear hsd
    obtain ⟨w2, rfl⟩ : ∃ w2 : World, w2 = w1 := ⟨_, rfl⟩
    go_wp2
    go_loopw [1, 5, 19] (fun iv lv c wr => ∃ (k : Nat) (I : Int), c = .int .i64 k ∧ iv = .int .i64 I ∧ k ≤ n ∧ 0 ≤ I ∧ I ≤ 8192 ∧ atFrom I ((stridesOf d).drop k) = P.drop k ∧ wr.ownsRow w2.heap.size 3 1 lv k (kv .i64 (P.take k)) ∧ Below w2.heap.size w2 wr) (fun _ _ c _ => n - (intOf c).toNat)
    case atStart => exact ⟨0, i, rfl, rfl, by omega, h0, by omega, HP.out, World.ownsRow_nil _ _ _ _, Below.refl _ _⟩
    case round =>
      obtain ⟨k, I, rfl, rfl, hk, hI, hI2, hA, howr, hbr⟩ := hrel
      have HA := Lib.hid hA
      clear hA
      obtain ⟨w3, rfl⟩ : ∃ w3 : World, w3 = wr := ⟨_, rfl⟩
      have hsz3 := hbr.size
      by_cases hlt : k < n
      · have hdr := drop_getD (stridesOf d) k (by omega)
        have hs1 := stridesOf_pos d HX.out k (by omega)
        have hc0 := (ho1.cellAt k (by omega)).trans (kv_getD .i64 _ k (by omega))
        have hc := (hbr.cell (p := ⟨g, k, none⟩) hg2).trans hc0
        obtain ⟨s, hs⟩ : ∃ s, (stridesOf d).getD k 0 = s := ⟨_, rfl⟩
        rw [hs] at hdr hs1 hc
        have hpk : P.drop k = I / s :: atFrom (I % s) ((stridesOf d).drop (k + 1)) := by have := HA.out; rw [hdr, atFrom] at this; exact this.symm
        have hpd := drop_getD P k (by omega)
        have hpe : P.getD k 0 = I / s ∧ atFrom (I % s) ((stridesOf d).drop (k + 1)) = P.drop (k + 1) := by
          rw [hpk] at hpd; injection hpd with a b; exact ⟨a.symm, b⟩
        have HN := Lib.hid hpe.2
        have HSG : Hid (P.take (k + 1) = P.take k ++ [I / s]) := Lib.hid (by rw [take_getD P k (by omega), hpe.1])
        have hq1 := Int.ediv_nonneg hI (show 0 ≤ s by omega)
        have hq2 := Int.ediv_le_self s hI
        have hr1 := Int.emod_nonneg I (show s ≠ 0 by omega)
        have hr2 : I % s ≤ I := emod_le' I s hI (by omega)
        clear hdr hs hpk hpd hpe hc0
        go_wp2_with (at_builtin; refine wpList_append_own _ rfl _ _ 22 rfl w2.heap.size 3 i0 (.int .i64 0) 1 8 Try.underlying22 hi hz0 hz1 hz2 rfl (by decide) _ _ _ rfl (howr.alloc _) ⟨w3.heap.size, 0, none⟩ 1 1 [.int .i64 (I / s)] rfl rfl ?d1 ?d2 ?d3 ?d4 ?d5 ?_)
        case d1 => exact cell_one_new _ _ _
        case d2 => intro u hu; simp at hu; subst hu; rfl
        case d3 => unfold maxLen; omega
        case d4 => omega
        case d5 => simp; omega
        intro v' w4 hown2 hgrow2 _
        have hb2 := ((hbr.alloc hsz3 _).grown hgrow2 (by simp; omega) (fun k hk => (howr.lt k hk).1))
        go_wp2
        go_roundw
        case rel => exact ⟨k + 1, I % s, by go_num, rfl, by omega, hr1, by omega, HN.out, by rw [HSG.out]; simpa [kv] using hown2, hb2⟩
        case measure => simp [intOf]; omega
      · have hkn : k = n := by omega
        subst hkn
        go_wp2
        go_ret
        exact ⟨_, rfl, by
          rw [kv_len, hPl]
          rw [List.take_of_length_le (by omega)] at howr
          exact owned_mono howr hb1.size, hb1.trans (hbr.mono hb1.size)⟩
end Go.Proofs.Ytbdokpfjggilhaa
