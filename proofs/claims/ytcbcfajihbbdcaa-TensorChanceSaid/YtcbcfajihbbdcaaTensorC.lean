/- Tensors alike; noughts. -/
import Derived.Test.YtcbcfajihbbdcaaTensorB
namespace Go.Proofs.Ytcbcfajihbbdcaa
open Go.RowKit
set_option maxHeartbeats 1000000
def sameB (t u : Tn) : Bool := decide (t.exp = u.exp) && (t.dims == u.dims) && (t.data == u.data)
theorem below_two (w : World) (o1 o2 : Obj) : Below w.heap.size w ((w.alloc o1).alloc o2) := ((Below.refl _ _).alloc (Nat.le_refl _) _).alloc (by simp) _
theorem sameT_any (v1 v2 : Value) (t u : Tn) (w : World) (h1 : RT .i8 w v1 t) (h2 : RT .i8 w v2 u) :
    Calls Try.prog 20 #[v1, v2] w fun r w' => r = .returned (.bool (sameB t u)) ∧ Below w.heap.size w w' := by
  obtain ⟨d, a, rfl, hd, ha, hw⟩ := h1
  obtain ⟨d2, a2, rfl, hd2, ha2, hw2⟩ := h2
  obtain ⟨D, e, A⟩ := t
  obtain ⟨D2, e2, A2⟩ := u
  simp only at hd ha hw hd2 ha2 hw2 ⊢
  have hb := below_two w (.cells #[d, .int .i64 e, a] 31) (.cells #[d2, .int .i64 e2, a2] 31)
  have HD := Lib.hid (hd.below hb)
  have HA := Lib.hid (ha.below hb)
  have HD2 := Lib.hid (hd2.below hb)
  have HA2 := Lib.hid (ha2.below hb)
  have HB := Lib.hid hb
  clear hd ha hd2 ha2 hb
  unfold sameB
  simp only
  by_cases he : e = e2
  · have he' : (e == e2) = true := beq_iff_eq.2 he
    rw [decide_eq_true he]
    clear he
    obtain ⟨β, hβ⟩ : ∃ β, (D == D2) = β := ⟨_, rfl⟩
    have HD3 := Lib.hid hβ
    rw [hβ]
    clear hβ
    cases β
    all_goals
      go_enter Try.func20, Try.ntmps20
      go_wp2_with fail
      refine (same_any _ _ _ _ _ HD.out HD2.out).mono ?_
      rintro r1 w1 ⟨rfl, q1, rfl⟩
      rw [HD3.out]
      go_wp2_with (go_at_call 47; refine (equal8_any _ _ _ _ _ (by exact HA.out) (by exact HA2.out)).mono ?_; rintro r2 w2 ⟨rfl, q2, rfl⟩)
      go_ret
      first | exact ⟨ret_bool (by simp), below_drewN' (below_drewN' HB.out _) _⟩ | exact ⟨ret_bool (by simp), below_drewN' HB.out _⟩
  · have he' : (e == e2) = false := beq_eq_false_iff_ne.2 he
    rw [decide_eq_false he]
    clear he
    go_enter Try.func20, Try.ntmps20
    go_wp2
    go_ret
    exact ⟨ret_bool (by simp), HB.out⟩
/-- A struct of two rows of a call's own, in memory from block B on. -/
def FT (k : IntKind) (E : TypeId) (B : Nat) (w : World) (v : Value) (t : Tn) : Prop :=
  ∃ d a, v = .agg #[d, .int .i64 t.exp, a] ∧ w.ownsRow B 3 1 d t.dims.length (kv .i64 t.dims) ∧ w.ownsRow B E 1 a t.data.length (kv k t.data) ∧
    (∀ g, d.ownBlock = some g → a.ownBlock ≠ some g) ∧ Fits .i64 t.dims ∧ Fits k t.data ∧ (Lit.int .i64 t.exp).wf = true ∧ t.dims.length ≤ maxLen ∧ t.data.length ≤ maxLen
theorem FT.rt {k : IntKind} {E : TypeId} {B : Nat} {w : World} {v : Value} {t : Tn} (h : FT k E B w v t) : RT k w v t := by
  obtain ⟨d, a, rfl, hd, ha, _, f1, f2, hw, m1, m2⟩ := h
  exact ⟨d, a, rfl, ⟨holds_own hd, f1, m1⟩, ⟨holds_own ha, f2, m2⟩, hw⟩
theorem FT.parts {k : IntKind} {E : TypeId} {B : Nat} {w : World} {v : Value} {t : Tn} (h : FT k E B w v t) :
    ∃ da dc aa ac, v = .agg #[.slice da t.dims.length dc, .int .i64 t.exp, .slice aa t.data.length ac] ∧ Reads .i64 w (.slice da t.dims.length dc) t.dims ∧ Reads k w (.slice aa t.data.length ac) t.data ∧ (Lit.int .i64 t.exp).wf = true ∧
      w.ownsRow B 3 1 (.slice da t.dims.length dc) t.dims.length (kv .i64 t.dims) ∧ w.ownsRow B E 1 (.slice aa t.data.length ac) t.data.length (kv k t.data) ∧
      (∀ g, (Value.slice da t.dims.length dc).ownBlock = some g → (Value.slice aa t.data.length ac).ownBlock ≠ some g) := by
  obtain ⟨d, a, rfl, hd, ha, hn, f1, f2, hw, m1, m2⟩ := h
  obtain ⟨da, dc, ed, _⟩ := holds_own hd
  obtain ⟨aa, ac, ea, _⟩ := holds_own ha
  rw [kv_len] at ed ea
  subst ed ea
  exact ⟨da, dc, aa, ac, rfl, ⟨holds_own hd, f1, m1⟩, ⟨holds_own ha, f2, m2⟩, hw, hd, ha, hn⟩
/-- Nothing. -/
def noT : Tn := ⟨[], 0, []⟩
theorem ft_none (k : IntKind) (E : TypeId) (B : Nat) (w : World) : FT k E B w (.agg #[.slice none 0 0, .int .i64 0, .slice none 0 0]) noT :=
  ⟨_, _, rfl, World.ownsRow_nil _ _ _ _, World.ownsRow_nil _ _ _ _, by intro g e; simp [Value.ownBlock] at e, by intro x hx; simp [noT] at hx, by intro x hx; simp [noT] at hx, rfl, by decide, by decide⟩
/-- A call that hands back such a struct and an error. -/
def TE (k : IntKind) (E : TypeId) (w : World) (t : Tn) (er : Int) (r : Ending) (w' : World) : Prop :=
  ∃ v, r = .returned (.tuple #[v, .int .i64 er]) ∧ FT k E w.heap.size w' v t ∧ Below w.heap.size w w'
def zeroE (l : List Int) (e : Int) : Tn × Int := if mayD l && expB e 64 then (⟨l, e, List.replicate (szD l).toNat 0⟩, 0) else (noT, 1)
theorem zero_no1 (v : Value) (l : List Int) (e : Int) (w : World) (h : Reads .i64 w v l) (h1 : mayD l = false) :
    Calls Try.prog 21 #[v, .int .i64 e] w (TE .i8 38 w noT 1) := by
  have hb : Below w.heap.size w (w.alloc (.cells #[.slice none 0 0, .int .i64 0, .slice none 0 0] 31)) := (Below.refl _ _).alloc (Nat.le_refl _) _
  have HD := Lib.hid (h.below hb)
  have HB := Lib.hid hb
  have H1 := Lib.hid h1
  clear h1 h hb
  go_enter Try.func21, Try.ntmps21
  go_wp2_with (go_at_call 42; refine (may_is _ _ _ HD.out _ H1.out).mono ?_; rintro r1 w1 ⟨rfl, rfl⟩)
  refine bodyPost_ret (v := .tuple #[.agg #[.slice none 0 0, .int .i64 0, .slice none 0 0], .int .i64 1]) (by simp [results, Try.results21, go_sem]) rfl ?_
  exact ⟨_, rfl, ft_none _ _ _ _, HB.out⟩
theorem zero_no2 (v : Value) (l : List Int) (e : Int) (w : World) (h : Reads .i64 w v l) (h1 : mayD l = true) (h2 : expB e 64 = false) :
    Calls Try.prog 21 #[v, .int .i64 e] w (TE .i8 38 w noT 1) := by
  have hb : Below w.heap.size w (w.alloc (.cells #[.slice none 0 0, .int .i64 0, .slice none 0 0] 31)) := (Below.refl _ _).alloc (Nat.le_refl _) _
  have HD := Lib.hid (h.below hb)
  have HB := Lib.hid hb
  have H1 := Lib.hid h1
  have H2 := Lib.hid h2
  clear h1 h hb h2
  go_enter Try.func21, Try.ntmps21
  go_wp2_with (first | (go_at_call 42; refine (may_is _ _ _ HD.out _ H1.out).mono ?_; rintro r1 w1 ⟨rfl, rfl⟩) | (go_at_call 37; refine (mayExp_is _ _ _ (by decide) (by decide) _ H2.out).mono ?_; rintro r1 w1 ⟨rfl, rfl⟩))
  refine bodyPost_ret (v := .tuple #[.agg #[.slice none 0 0, .int .i64 0, .slice none 0 0], .int .i64 1]) (by simp [results, Try.results21, go_sem]) rfl ?_
  exact ⟨_, rfl, ft_none _ _ _ _, HB.out⟩
theorem szD_pos {l : List Int} (h : mayD l = true) : 1 ≤ szD l ∧ szD l ≤ 8192 := by
  unfold szD
  rw [if_pos h]
  obtain ⟨_, h2, h3⟩ := (mayD_iff l).1 h
  have := prodFrom_pos 1 l (by omega) h2
  omega
theorem mayD_short {l : List Int} (h : mayD l = true) : 1 ≤ l.length ∧ l.length ≤ 4 := ((mayD_iff l).1 h).1
theorem cell_of_blk {w : World} {b : Nat} {cs : Array Value} {T : TypeId} (h : w.heap[b]? = some (.cells cs T (0, 0))) (i : Nat) (hi : i < cs.size) : w.cell? ⟨b, i, none⟩ = some cs[i] := by
  simp [World.cell?, h, hi]
theorem free_of_blk {w : World} {b : Nat} {cs : Array Value} {T : TypeId} (h : w.heap[b]? = some (.cells cs T (0, 0))) (i : Nat) : w.frozen? ⟨b, i, none⟩ = false := by
  simp [World.frozen?, h]
theorem zero_yes (v : Value) (l : List Int) (e : Int) (w : World) (h : Reads .i64 w v l) (h1 : mayD l = true) (h2 : expB e 64 = true) :
    Calls Try.prog 21 #[v, .int .i64 e] w (TE .i8 38 w ⟨l, e, List.replicate (szD l).toNat 0⟩ 0) := by
  obtain ⟨i0, hi, hz0, hz1, hz2⟩ := info_parts info8
  obtain ⟨wb, hwb⟩ : ∃ wb, wb = w.alloc (.cells #[.slice none 0 0, .int .i64 0, .slice none 0 0] 31) := ⟨_, rfl⟩
  have hb : Below w.heap.size w wb := by rw [hwb]; exact (Below.refl _ _).alloc (Nat.le_refl _) _
  have hbs : wb.heap.size = w.heap.size + 1 := by rw [hwb]; simp
  have HD := Lib.hid (h.below hb)
  have HB := Lib.hid hb
  have HBS := Lib.hid hbs
  have H1 := Lib.hid h1
  have H2 := Lib.hid h2
  have hs := szD_pos h1
  have hl4 := mayD_short h1
  have HWB := Lib.hid hwb
  obtain ⟨z, hz, hzz⟩ : ∃ z : Nat, szD l = z ∧ (szD l).toNat = z := ⟨(szD l).toNat, by omega, rfl⟩
  rw [hzz]
  have HZ := Lib.hid hz
  rw [hz] at hs
  clear h1 h hb h2 hz hzz hwb hbs
  go_enter Try.func21, Try.ntmps21
  go_wp2_with (first | (go_at_call 42; refine (may_is _ _ _ (by rw [← HWB.out]; exact HD.out) _ H1.out).mono ?_; rintro r1 w1 ⟨rfl, rfl⟩) | (go_at_call 37; refine (mayExp_is _ _ _ (by decide) (by decide) _ H2.out).mono ?_; rintro r1 w1 ⟨rfl, rfl⟩))
  rw [← HWB.out]
  refine (cloneI_any _ _ _ HD.out.1 (by omega)).mono ?_
  rintro r1 w1 hf1
  obtain ⟨da, dc, rfl, ho1, hb1⟩ := hf1.ints
  rw [HBS.out] at ho1
  clear hf1
  have HO1 := Lib.hid ho1
  have HBB1 := Lib.hid hb1
  have hsz1 := hb1.size
  rw [HBS.out] at hsz1
  have hc0 : w1.heap[w.heap.size]? = some (.cells #[.slice none 0 0, .int .i64 0, .slice none 0 0] 31 (0, 0)) := by
    rw [hb1.block _ (by rw [HBS.out]; omega), HWB.out]
    exact Deep.blk_alloc_new _ _
  have HC0 := Lib.hid hc0
  clear hc0 hb1 ho1
  go_wp2_with (first | (go_at_call 43; refine (size_is _ _ _ (HD.out.below HBB1.out) _ HZ.out).mono ?_; rintro r1 w1 ⟨rfl, rfl⟩) | (at_make; refine wpList_make_full _ rfl _ _ 29 rfl w1.heap.size 38 i0 (.int .i8 0) 1 Try.underlying29 hi hz0 hz1 _ _ _ _ z rfl rfl rfl rfl ?b1 ?b2 ?b3 ?_))
  case b1 => rw [hz2]; omega
  case b2 => unfold maxLen; omega
  case b3 => omega
  intro w2 hown hgrow
  rw [kv_zero] at hown
  have hblk : w2.heap[w.heap.size]? = some (.cells #[.slice none 0 0, .int .i64 0, .slice none 0 0] 31 (0, 0)) := by
    rw [hgrow.block _ (by omega) (by simp), HC0.out]
  have c0 : w2.cell? ⟨w.heap.size, 0, none⟩ = some (.slice none 0 0) := cell_of_blk hblk 0 (by decide)
  have c1 : w2.cell? ⟨w.heap.size, 1, none⟩ = some (.int .i64 0) := cell_of_blk hblk 1 (by decide)
  have c2 : w2.cell? ⟨w.heap.size, 2, none⟩ = some (.slice none 0 0) := cell_of_blk hblk 2 (by decide)
  have f0 := free_of_blk hblk
  have HBL := Lib.hid hblk
  clear hblk
  go_wp2
  refine bodyPost_ret (v := .tuple #[.agg #[.slice da l.length dc, .int .i64 e, .slice (some ⟨w1.heap.size, 0, none⟩) z z], .int .i64 0]) (by simp [results, Try.results21, go_sem, c0, c1, c2]) rfl ?_
  have hg3 := grown_set3 w2 w.heap.size (.slice da l.length dc) (.int .i64 e) (.slice (some ⟨w1.heap.size, 0, none⟩) z z)
  have hdlt := HO1.out.lt
  have hbw : Below w.heap.size w w2 := (HB.out.trans (HBB1.out.mono (by rw [HBS.out]; omega))).grown hgrow (by omega) (by simp)
  refine ⟨_, rfl, ⟨_, _, rfl, ?_, ?_, ?_, ?_, ?_, ?_, ?_, ?_⟩, ?_⟩
  · exact (owned_new (owned_down HO1.out (by omega)) hgrow).kept hg3 (.inr (fun e => by have := hdlt _ e; omega))
  · simp only [List.length_replicate]
    exact (owned_down hown (by omega)).kept hg3 (.inr (fun e => by simp [Value.ownBlock] at e; omega))
  · intro g hg e
    have := hdlt g hg
    simp [Value.ownBlock] at e
    omega
  · exact HD.out.2.1
  · exact fits_i8_iff.2 (by intro x hx; have := (List.mem_replicate.1 hx).2; omega)
  · exact (by
      have := H2.out
      simp [expB] at this
      simp [Lit.wf, IntKind.min, IntKind.max, IntKind.signed, IntKind.bits]
      omega)
  · exact HD.out.2.2
  · simp only [List.length_replicate]
    unfold maxLen
    omega
  · exact hbw.grown hg3 hbw.size (by intro k hk; cases hk; omega)
theorem zero_any (v : Value) (l : List Int) (e : Int) (w : World) (h : Reads .i64 w v l) :
    Calls Try.prog 21 #[v, .int .i64 e] w (TE .i8 38 w (zeroE l e).1 (zeroE l e).2) := by
  unfold zeroE
  cases h1 : mayD l
  · exact zero_no1 v l e w h h1
  · cases h2 : expB e 64
    · exact zero_no2 v l e w h h1 h2
    · exact zero_yes v l e w h h1 h2
end Go.Proofs.Ytcbcfajihbbdcaa
