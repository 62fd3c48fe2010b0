/- Tensors alike; noughts. -/
import Derived.Test.YtekokhlldcmjfaaTensorB
namespace Go.Proofs.Ytekokhlldcmjfaa
open Go.RowKit
set_option maxHeartbeats 1000000
def sameB (t u : Tn) : Bool := decide (t.exp = u.exp) && (t.dims == u.dims) && (t.data == u.data)
theorem below_two (w : World) (o1 o2 : Obj) : Below w.heap.size w ((w.alloc o1).alloc o2) := ((Below.refl _ _).alloc (Nat.le_refl _) _).alloc (by simp) _
theorem sameT_any (v1 v2 : Value) (t u : Tn) (w : World) (h1 : RT .i8 w v1 t) (h2 : RT .i8 w v2 u) :
    Calls Try.prog 137 #[v1, v2] w fun r w' => r = .returned (.bool (sameB t u)) ∧ Below w.heap.size w w' := by
  obtain ⟨d, a, rfl, hd, ha, hw⟩ := h1
  obtain ⟨d2, a2, rfl, hd2, ha2, hw2⟩ := h2
  obtain ⟨D, e, A⟩ := t
  obtain ⟨D2, e2, A2⟩ := u
  simp only at hd ha hw hd2 ha2 hw2 ⊢
  have hb := below_two w (.cells #[d, .int .i64 e, a] 25) (.cells #[d2, .int .i64 e2, a2] 25)
  have HD := Lib.hid (hd.below hb)
  have HA := Lib.hid (ha.below hb)
  have HD2 := Lib.hid (hd2.below hb)
  have HA2 := Lib.hid (ha2.below hb)
  have HB := Lib.hid hb
  clear hd ha hd2 ha2 hb
  unfold sameB
  simp only
  by_cases he : e = e2
  · have he' : (e == e2) = true := beq_iff_eq.2 he
    rw [decide_eq_true he]
    clear he
    obtain ⟨β, hβ⟩ : ∃ β, (D == D2) = β := ⟨_, rfl⟩
    have HD3 := Lib.hid hβ
    rw [hβ]
    clear hβ
    cases β
    all_goals
      go_enter Try.func137, Try.ntmps137
      go_wp2_with fail
      refine (same_any _ _ _ _ _ HD.out HD2.out).mono ?_
      rintro r1 w1 ⟨rfl, q1, rfl⟩
      rw [HD3.out]
      go_wp2_with (go_at_call 142; refine (equal8_any _ _ _ _ _ (by exact HA.out) (by exact HA2.out)).mono ?_; rintro r2 w2 ⟨rfl, q2, rfl⟩)
      go_ret
      first | exact ⟨ret_bool (by simp), below_drewN' (below_drewN' HB.out _) _⟩ | exact ⟨ret_bool (by simp), below_drewN' HB.out _⟩
  · have he' : (e == e2) = false := beq_eq_false_iff_ne.2 he
    rw [decide_eq_false he]
    clear he
    go_enter Try.func137, Try.ntmps137
    go_wp2
    go_ret
    exact ⟨ret_bool (by simp), HB.out⟩
/-- A struct of two rows of a call's own, in memory from block B on. -/
def FT (k : IntKind) (E : TypeId) (B : Nat) (w : World) (v : Value) (t : Tn) : Prop :=
  ∃ d a, v = .agg #[d, .int .i64 t.exp, a] ∧ w.ownsRow B 3 1 d t.dims.length (kv .i64 t.dims) ∧ w.ownsRow B E 1 a t.data.length (kv k t.data) ∧
    (∀ g, d.ownBlock = some g → a.ownBlock ≠ some g) ∧ Fits .i64 t.dims ∧ Fits k t.data ∧ (Lit.int .i64 t.exp).wf = true ∧ t.dims.length ≤ maxLen ∧ t.data.length ≤ maxLen
theorem FT.rt {k : IntKind} {E : TypeId} {B : Nat} {w : World} {v : Value} {t : Tn} (h : FT k E B w v t) : RT k w v t := by
  obtain ⟨d, a, rfl, hd, ha, _, f1, f2, hw, m1, m2⟩ := h
  exact ⟨d, a, rfl, ⟨holds_own hd, f1, m1⟩, ⟨holds_own ha, f2, m2⟩, hw⟩
theorem FT.parts {k : IntKind} {E : TypeId} {B : Nat} {w : World} {v : Value} {t : Tn} (h : FT k E B w v t) :
    ∃ da dc aa ac, v = .agg #[.slice da t.dims.length dc, .int .i64 t.exp, .slice aa t.data.length ac] ∧ Reads .i64 w (.slice da t.dims.length dc) t.dims ∧ Reads k w (.slice aa t.data.length ac) t.data ∧ (Lit.int .i64 t.exp).wf = true ∧
      w.ownsRow B 3 1 (.slice da t.dims.length dc) t.dims.length (kv .i64 t.dims) ∧ w.ownsRow B E 1 (.slice aa t.data.length ac) t.data.length (kv k t.data) ∧
      (∀ g, (Value.slice da t.dims.length dc).ownBlock = some g → (Value.slice aa t.data.length ac).ownBlock ≠ some g) := by
  obtain ⟨d, a, rfl, hd, ha, hn, f1, f2, hw, m1, m2⟩ := h
  obtain ⟨da, dc, ed, _⟩ := holds_own hd
  obtain ⟨aa, ac, ea, _⟩ := holds_own ha
  rw [kv_len] at ed ea
  subst ed ea
  exact ⟨da, dc, aa, ac, rfl, ⟨holds_own hd, f1, m1⟩, ⟨holds_own ha, f2, m2⟩, hw, hd, ha, hn⟩
/-- Nothing. -/
def noT : Tn := ⟨[], 0, []⟩
theorem ft_none (k : IntKind) (E : TypeId) (B : Nat) (w : World) : FT k E B w (.agg #[.slice none 0 0, .int .i64 0, .slice none 0 0]) noT :=
  ⟨_, _, rfl, World.ownsRow_nil _ _ _ _, World.ownsRow_nil _ _ _ _, by intro g e; simp [Value.ownBlock] at e, by intro x hx; simp [noT] at hx, by intro x hx; simp [noT] at hx, rfl, by decide, by decide⟩
/-- A call that hands back such a struct and an error. -/
def TE (k : IntKind) (E : TypeId) (w : World) (t : Tn) (er : Int) (r : Ending) (w' : World) : Prop :=
  ∃ v, r = .returned (.tuple #[v, .int .i64 er]) ∧ FT k E w.heap.size w' v t ∧ Below w.heap.size w w'
def zeroE (l : List Int) (e : Int) : Tn × Int := if mayD l && expB e 64 then (⟨l, e, List.replicate (szD l).toNat 0⟩, 0) else (noT, 1)
theorem szD_pos {l : List Int} (h : mayD l = true) : 1 ≤ szD l ∧ szD l ≤ 8192 := by
  unfold szD
  rw [if_pos h]
  obtain ⟨_, h2, h3⟩ := (mayD_iff l).1 h
  have := prodFrom_pos 1 l (by omega) h2
  omega
theorem mayD_short {l : List Int} (h : mayD l = true) : 1 ≤ l.length ∧ l.length ≤ 4 := ((mayD_iff l).1 h).1
theorem cell_of_blk {w : World} {b : Nat} {cs : Array Value} {T : TypeId} (h : w.heap[b]? = some (.cells cs T (0, 0))) (i : Nat) (hi : i < cs.size) : w.cell? ⟨b, i, none⟩ = some cs[i] := by
  simp [World.cell?, h, hi]
theorem free_of_blk {w : World} {b : Nat} {cs : Array Value} {T : TypeId} (h : w.heap[b]? = some (.cells cs T (0, 0))) (i : Nat) : w.frozen? ⟨b, i, none⟩ = false := by
  simp [World.frozen?, h]
end Go.Proofs.Ytekokhlldcmjfaa
