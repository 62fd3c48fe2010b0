/- The operations that make memory at most, further ones. No program in sight. -/
import Derived.Test.YtekokhlldcmjfaaSnd1
namespace Go.Proofs.Ytekokhlldcmjfaa
open Go.RowKit Go.ChangeShapes Go.WideShapes Go.Deep
set_option linter.unusedVariables false
section
variable {P : Program} {ρ : Operand → Value} {g : World} {r : Nat → Option Value} {n base : Nat} {w : World} {o : Oper} {C : Cx} {ob : Nat → SO}
theorem un_ne {u v : Un} (h : u = v) (hv : v ≠ .other) : u ≠ .other := by rw [h]; exact hv
theorem under_struct {t : TypeId} {fs : List (Nat × TypeId)} (hT : ttOk P C.tt) (hu : (C.td t).un = .struct fs) : ∃ fa, P.underlying t = some (.struct fa) ∧ fa.toList.map (fun f => (f.offset, f.type)) = fs := by
  obtain ⟨e, h1, h2⟩ := (td_un hT (un_ne hu (by simp))).under
  rw [hu] at h2
  cases e <;> first | cases h2 | skip
  exact ⟨_, h1, rfl⟩
theorem under_slice {t e : TypeId} (hT : ttOk P C.tt) (hu : (C.td t).un = .slice e) : P.underlying t = some (.slice e) := by
  obtain ⟨d, h1, h2⟩ := (td_un hT (un_ne hu (by simp))).under
  rw [hu] at h2
  cases d <;> first | cases h2 | skip
  exact h1
theorem under_array {t e : TypeId} {m : Nat} (hT : ttOk P C.tt) (hu : (C.td t).un = .array m e) : P.underlying t = some (.array m e) := by
  obtain ⟨d, h1, h2⟩ := (td_un hT (un_ne hu (by simp))).under
  rw [hu] at h2
  cases d <;> first | cases h2 | skip
  exact h1
theorem under_ptr {t e : TypeId} (hT : ttOk P C.tt) (hu : (C.td t).un = .ptr e) : P.underlying t = some (.pointer e) := by
  obtain ⟨d, h1, h2⟩ := (td_un hT (un_ne hu (by simp))).under
  rw [hu] at h2
  cases d <;> first | cases h2 | skip
  exact h1
theorem under_int {t : TypeId} {k : IntKind} (hT : ttOk P C.tt) (hu : (C.td t).un = .int k) : P.underlying t = some (.int k) := by
  obtain ⟨d, h1, h2⟩ := (td_un hT (un_ne hu (by simp))).under
  rw [hu] at h2
  cases d <;> first | cases h2 | skip
  exact h1
theorem under_str {t : TypeId} (hT : ttOk P C.tt) (hu : (C.td t).un = .str) : P.underlying t = some .string := by
  obtain ⟨d, h1, h2⟩ := (td_un hT (un_ne hu (by simp))).under
  rw [hu] at h2
  cases d <;> first | exact h1 | cases h2
theorem run_part {t : TypeId} {d : TD} (h : TDok P t d) (cs : Array Value) (off : Nat) (hs : off + d.size ≤ cs.size) (h1 : 1 ≤ d.size) :
    (part t cs off).run P w = .ok (if d.agg then .agg (cs.extract off (off + d.size)) else cs.getD off undef) w := by
  have hlt : off < cs.size := by omega
  simp only [part, Sem.run_bind, h.isAgg, Result.andThen_ok, Sem.run_ite, h.sizeOf, Sem.run_pure]
  cases hd : d.agg with
  | true => simp
  | false => simp [hlt]
theorem ex_field (E : Env P C g r n base w ob) {t : TypeId} {f : Nat} {x : Operand} {a : SV} (hag : ∀ l, a = .agg l → o.op = .field t x f) (hna : (∀ l, a ≠ .agg l) → o.op = .fieldAddr t x f) (ha : a.Is g r (ρ x)) : Okk P ρ g r n w o (exField C t f a) := by
  unfold exField
  split
  · rename_i fs hu
    split
    · rename_i off ft hf
      obtain ⟨fa, hP, hfs⟩ := under_struct E.tt hu
      obtain ⟨fld, hfa, hfe⟩ : ∃ fld, fa[f]? = some fld ∧ (fld.offset, fld.type) = (off, ft) := by
        rw [← hfs, List.getElem?_map] at hf
        obtain ⟨fld, h1, h2⟩ := Option.map_eq_some_iff.1 hf
        exact ⟨fld, by simpa using h1, h2⟩
      simp only [Prod.mk.injEq] at hfe
      obtain ⟨rfl, rfl⟩ := hfe
      cases hs : Nat.ble 1 (C.td fld.type).size with
      | false => exact okk_none
      | true =>
      have hs := nble hs
      have hT := td_ok E.tt hs
      have hz : ¬ (C.td fld.type).size = 0 := by omega
      simp only [cond_true]
      split
      · rename_i id o'
        have ho := hna (by simp)
        simp only [SV.Is] at ha
        obtain ⟨h, b, h1, h2, hx⟩ := ha
        refine okk_one E.rn (v := .pointer (some ⟨b, o' + fld.offset, none⟩)) ?_ (by simp only [SV.Is]; exact ⟨h, b, h1, h2, rfl⟩)
        simp [execOp, ho, hx, Instr.fieldAt, run_underlying hP, hfa, Instr.sureAddr, fieldPlace, hT.sizeOf, hz, Addr.add_lit]
      · rename_i id i' sz o'
        have ho := hna (by simp)
        simp only [SV.Is] at ha
        obtain ⟨b, n', c', h1, h2, h3, hx⟩ := ha
        refine okk_one E.rn (v := .pointer (some ⟨b, i'.toNat * sz + (o' + fld.offset), none⟩)) ?_ (by simp only [SV.Is]; exact ⟨b, n', c', h1, h2, h3, rfl⟩)
        simp [execOp, ho, hx, Instr.fieldAt, run_underlying hP, hfa, Instr.sureAddr, fieldPlace, hT.sizeOf, hz, Addr.add_lit, Nat.add_assoc]
      · rename_i l
        have ho := hna (by simp)
        simp only [SV.Is] at ha
        obtain ⟨b, o', hx, hat⟩ := ha
        refine okk_one E.rn (v := .pointer (some ⟨b, o' + fld.offset, none⟩)) ?_ (by simp only [SV.Is]; exact ⟨b, _, rfl, isAt_drop hat _⟩)
        simp [execOp, ho, hx, Instr.fieldAt, run_underlying hP, hfa, Instr.sureAddr, fieldPlace, hT.sizeOf, hz, Addr.add_lit]
      · rename_i l
        have ho := hag _ rfl
        cases hb : Nat.ble (fld.offset + (C.td fld.type).size) l.length with
        | false => exact okk_none
        | true =>
        have hb := nble hb
        simp only [SV.Is] at ha
        obtain ⟨cs, hx, hl⟩ := ha
        have hlen := lsIs_len hl
        have hrun := run_part (P := P) (w := w) hT cs fld.offset (by simpa [← hlen] using hb) hs
        have hrun2 : (Instr.field t (.agg cs) f).run P w = .ok (if (C.td fld.type).agg then .agg (cs.extract fld.offset (fld.offset + (C.td fld.type).size)) else cs.getD fld.offset undef) w := by
          simp [Instr.field, run_underlying hP, hfa, asAgg, hrun]
        simp only [cond_true]
        cases hg : (C.td fld.type).agg with
        | true =>
          simp only [cond_true]
          rw [hg, if_pos rfl] at hrun2
          refine okk_one E.rn (v := .agg (cs.extract fld.offset (fld.offset + (C.td fld.type).size))) (by simp [execOp, ho, hx, hrun2]) ?_
          simp only [SV.Is]
          refine ⟨_, rfl, ?_⟩
          have := lsIs_take (lsIs_drop hl fld.offset) (C.td fld.type).size
          simpa [Array.toList_extract, List.extract, Nat.add_sub_cancel_left] using this
        | false =>
          simp only [cond_false]
          rw [hg, if_neg (by simp)] at hrun2
          split
          · rename_i y hy
            obtain ⟨u, hu', hyu⟩ := lsIs_get hl hy
            have : cs.getD fld.offset undef = u := by
              rw [Array.getD_eq_getD_getElem?, ← Array.getElem?_toList, hu']; rfl
            rw [this] at hrun2
            exact okk_one E.rn (by simp [execOp, ho, hx, hrun2]) hyu
          · exact okk_none
      · exact okk_none
    · exact okk_none
  · exact okk_none
theorem reads_ip {k : IntKind} {v : Value} {l : List Int} (h : Reads k g v l) {i : Int} (h0 : 0 ≤ i) (hi : i < l.length) : ∃ b off cap, v = .slice (some ⟨b, off, none⟩) l.length cap ∧ IsAt g r [.v (.int k (l.getD i.toNat 0))] b (off + i.toNat) := by
  obtain ⟨ao, cap, rfl, h1, h2, hh⟩ := h.1
  rw [kv_len] at *
  have hj : i.toNat < l.length := by omega
  have e := kv_getD k l i.toNat hj
  rcases hh with hh | ⟨b, off, rfl, hh⟩
  · rw [hh] at e; simp at e
  · refine ⟨b, off, cap, rfl, ?_⟩
    simp only [IsAt, SV.Is, and_true]
    exact ⟨_, hh _ _ e, rfl, fits_getD h.2.1 _⟩
/-- A place of a slice that is data. -/
theorem imm_ip {e : Ty} {v : Value} {d : Dat} (h : Rd maxLen g (.sl e) [v] d) {i : Int} (h0 : 0 ≤ i) (hi : i < d.ls.length) :
    ∃ b off cap, v = .slice (some ⟨b, off, none⟩) d.ls.length cap ∧ IsAt g r (svOf std e (d.at i.toNat)) b (off + i.toNat * e.size) := by
  rw [Rd] at h
  obtain ⟨ao, cap, ds, he, rfl, hl, hc, hh⟩ := h
  cases he
  have hi : i < ds.length := hi
  show ∃ b off cap', Value.slice ao ds.length cap = .slice (some ⟨b, off, none⟩) ds.length cap' ∧ _
  have hj : i.toNat < ds.length := by omega
  have hat : (Dat.list ds).at i.toNat = ds[i.toNat] := by
    show ds.getD i.toNat (.int 0) = _
    simp [List.getD, hj]
  rcases hh with rfl | ⟨b, o, rfl, hh⟩
  · simp at hj
  · obtain ⟨es, h1, h2, h3⟩ := hh i.toNat _ (List.getElem?_eq_getElem hj)
    refine ⟨b, o, cap, rfl, ?_⟩
    rw [hat]
    refine isAt_of (svOf_is e es _ h3) fun j v hv => ?_
    have := h2 j v hv
    rwa [show o + i.toNat * e.size + j = o + (i.toNat * e.size + j) from by omega]
theorem run_indexAt {t e : TypeId} {d : TD} (hP : P.underlying t = some (.slice e)) (hT : TDok P e d) {b off len cap : Nat} {k : IntKind} {i : Int} (h0 : 0 ≤ i) (hi : i < len) :
    (Instr.indexAt t (.slice (some ⟨b, off, none⟩) len cap) (.int k i)).run P w = .ok (.pointer (some ⟨b, off + i.toNat * d.size, none⟩)) w := by
  simp [Instr.indexAt, asIntOf, run_underlying hP, h0, hi, hT.sizeOf, Addr.add_lit]
theorem same_int {k k' : IntKind} (h : IntKind.same k k' = true) : k = k' := same_eq h
theorem row_len {E : TypeId} {v : Value} {k : IntKind} {l : List Int} {b : Nat} (h : OwnM w b E 1 v l.length (kv k l)) : ∃ ao cap, v = .slice ao l.length cap ∧ l.length ≤ cap ∧ cap ≤ maxLen ∧ (l = [] ∨ ∃ b', ao = some ⟨b', 0, none⟩) := by
  rcases h.2 with ⟨rfl, h0⟩ | ⟨g', cap, cur, rfl, h1, h2, h3, h4, _⟩
  · exact ⟨none, 0, by rw [h0], by omega, by decide, .inl (List.eq_nil_of_length_eq_zero h0)⟩
  · exact ⟨_, cap, rfl, h3, h4, .inr ⟨g', rfl⟩⟩
theorem ex_indexAddr (E : Env P C g r n base w ob) {t : TypeId} {x i : Operand} {a j : SV} (ho : o.op = .indexAddr t x i) (ha : a.Is g r (ρ x)) (hj : j.Is g r (ρ i)) : Okk P ρ g r n w o (exIndexAddr C ob t a j) := by
  unfold exIndexAddr
  split
  · rename_i ki z
    simp only [SV.Is] at hj
    obtain ⟨hi, hwz⟩ := hj
    split
    · rename_i e hu
      have hP := under_slice E.tt hu
      split
      · rename_i id
        split
        · rename_i E' k l hob
          cases hs : Nat.beq (C.td e).size 1 with
          | false => exact okk_none
          | true =>
          have hs := Nat.eq_of_beq_eq_true hs
          have hT := td_ok E.tt (t := e) (by omega)
          simp only [cond_true]
          rw [E.A]
          refine okk_one' E.rn fun hp => ?_
          obtain ⟨h0, h1⟩ : 0 ≤ z ∧ z < (l.length : Int) := hp
          obtain ⟨h, hr1, hoi⟩ := E.obs id (by rw [hob]; simp)
          rw [hob] at hoi
          simp only [SV.Is] at ha
          rw [hr1] at ha
          cases ha
          obtain ⟨ao, cap, hx, _, _, hl⟩ := row_len hoi.1
          rcases hl with rfl | ⟨b, rfl⟩
          · simp at h1; omega
          · have hrun := run_indexAt (P := P) (w := w) hP hT (b := b) (off := 0) (len := l.length) (cap := cap) (k := ki) h0 h1
            rw [← hx] at hrun
            refine ⟨.pointer (some ⟨b, z.toNat, none⟩), ?_, ?_⟩
            · simp [execOp, ho, hi, hrun, hs]
            · simp only [SV.Is]
              exact ⟨b, l.length, cap, by rw [hr1, hx], h0, by omega, rfl⟩
        · rename_i E' T d hob
          cases hs : Nat.ble 1 (C.td e).size with
          | false => exact okk_none
          | true =>
          cases hz : Nat.beq T.size (C.td e).size with
          | false => exact okk_none
          | true =>
          have hs := nble hs
          have hz := Nat.eq_of_beq_eq_true hz
          have hT := td_ok E.tt (t := e) (by omega)
          simp only [Bool.and_self, cond_true]
          rw [E.A]
          refine okk_one' E.rn fun hp => ?_
          obtain ⟨h, hr1, hoi⟩ := E.obs id (by rw [hob]; simp)
          rw [hob] at hoi
          obtain ⟨hsz, ds, cl, rfl, hown, hrd⟩ := hoi
          obtain ⟨h0, h1⟩ : 0 ≤ z ∧ z < (ds.length : Int) := hp
          simp only [SV.Is] at ha
          rw [hr1] at ha
          cases ha
          rcases hown.2 with ⟨_, e0⟩ | ⟨b, cap, cur, hx, _⟩
          · omega
          · have hrun := run_indexAt (P := P) (w := w) hP hT (b := b) (off := 0) (len := ds.length) (cap := cap) (k := ki) h0 h1
            rw [← hx] at hrun
            refine ⟨.pointer (some ⟨b, z.toNat * T.size + 0, none⟩), ?_, ?_⟩
            · simp [execOp, ho, hi, hrun, hz]
            · simp only [SV.Is]
              exact ⟨b, ds.length, cap, by rw [hr1, hx], h0, h1, rfl⟩
        · exact okk_none
      · rename_i id lo len
        cases hs : Nat.beq (C.td e).size 1 with
        | false => exact okk_none
        | true =>
        have hs := Nat.eq_of_beq_eq_true hs
        have hT := td_ok E.tt (t := e) (by omega)
        simp only [cond_true]
        rw [E.A]
        refine okk_one' E.rn fun hp => ?_
        obtain ⟨h0, h1⟩ : 0 ≤ z ∧ z < len := hp
        simp only [SV.Is] at ha
        obtain ⟨ao, m, c, hr1, hlo, hln, hle, a', c', hx, _, _, hh⟩ := ha
        rcases hh with hh | ⟨b, rfl, rfl⟩
        · omega
        · have hrun := run_indexAt (P := P) (w := w) hP hT (b := b) (off := lo.toNat) (len := len.toNat) (cap := c') (k := ki) h0 (by omega)
          refine ⟨.pointer (some ⟨b, (lo + z).toNat, none⟩), ?_, ?_⟩
          · rw [hs, Nat.mul_one, show lo.toNat + z.toNat = (lo + z).toNat from by omega] at hrun
            simp [execOp, ho, hi, hx, hrun]
          · simp only [SV.Is]
            exact ⟨b, m, c, hr1, by show 0 ≤ lo + z; omega, by show lo + z < m; omega, rfl⟩
      · rename_i k l
        cases hs : Nat.beq (C.td e).size 1 with
        | false => exact okk_none
        | true =>
        have hs := Nat.eq_of_beq_eq_true hs
        have hT := td_ok E.tt (t := e) (by omega)
        simp only [cond_true]
        rw [E.A]
        refine okk_one' E.rn fun hp => ?_
        obtain ⟨h0, h1⟩ : 0 ≤ z ∧ z < (l.length : Int) := hp
        simp only [SV.Is] at ha
        obtain ⟨b, off, cap, hx, hat⟩ := reads_ip (r := r) ha h0 h1
        have hrun := run_indexAt (P := P) (w := w) hP hT (b := b) (off := off) (len := l.length) (cap := cap) (k := ki) h0 h1
        rw [hs, Nat.mul_one] at hrun
        exact ⟨.pointer (some ⟨b, off + z.toNat, none⟩), by simp [execOp, ho, hi, hx, hrun], by simp only [SV.Is]; exact ⟨b, _, rfl, hat⟩⟩
      · rename_i T d
        cases hs : Nat.ble 1 (C.td e).size with
        | false => exact okk_none
        | true =>
        cases hs2 : Nat.beq T.size (C.td e).size with
        | false => exact okk_none
        | true =>
        have hs2 := Nat.eq_of_beq_eq_true hs2
        have hT := td_ok E.tt (t := e) (nble hs)
        simp only [cond_true, Bool.and_self]
        rw [E.A]
        refine okk_one' E.rn fun hp => ?_
        obtain ⟨h0, h1⟩ : 0 ≤ z ∧ z < (d.ls.length : Int) := hp
        simp only [SV.Is] at ha
        obtain ⟨b, off, cap, hx, hat⟩ := imm_ip (r := r) ha h0 h1
        have hrun := run_indexAt (P := P) (w := w) hP hT (b := b) (off := off) (len := d.ls.length) (cap := cap) (k := ki) h0 h1
        rw [← hs2] at hrun
        exact ⟨.pointer (some ⟨b, off + z.toNat * T.size, none⟩), by simp [execOp, ho, hi, hx, hrun], by simp only [SV.Is]; exact ⟨b, _, rfl, hat⟩⟩
      · rename_i id m
        split
        · rename_i q
          cases hs : Nat.ble 1 (C.td e).size with
          | false => exact okk_none
          | true =>
          cases hq : Nat.blt q m with
          | false => exact okk_none
          | true =>
          have hq : q < m := nble hq
          have hT := td_ok E.tt (t := e) (nble hs)
          simp only [cond_true, Bool.and_self]
          simp only [SV.Is] at ha
          obtain ⟨hr1, b, hx⟩ := ha
          have hrun := run_indexAt (P := P) (w := w) hP hT (b := b) (off := 0) (len := m) (cap := m) (k := ki) (i := (q : Int)) (by omega) (by omega)
          refine okk_one E.rn (v := .pointer (some ⟨b, q * (C.td e).size, none⟩)) ?_ ?_
          · have hi : ρ i = .int ki (q : Int) := hi
            simp at hrun
            simp [execOp, ho, hi, hx, hrun]
          · simp only [SV.Is]
            exact ⟨ρ x, b, hr1, by rw [hx]; rfl, rfl⟩
        · exact okk_none
      · exact okk_none
    · rename_i m e hu
      have hP := under_array E.tt hu
      split
      · rename_i id o' q
        cases hs : Nat.ble 1 (C.td e).size with
        | false => exact okk_none
        | true =>
        cases hq : Nat.blt q m with
        | false => exact okk_none
        | true =>
        have hq : q < m := nble hq
        have hT := td_ok E.tt (t := e) (nble hs)
        simp only [cond_true, Bool.and_self]
        simp only [SV.Is] at ha
        obtain ⟨h, b, hr1, hb, hx⟩ := ha
        refine okk_one E.rn (v := .pointer (some ⟨b, o' + q * (C.td e).size, none⟩)) ?_ (by simp only [SV.Is]; exact ⟨h, b, hr1, hb, rfl⟩)
        have hi : ρ i = .int ki (q : Int) := hi
        simp [execOp, ho, hi, hx, Instr.indexAt, asIntOf, run_underlying hP, Instr.sureAddr, hT.sizeOf, Addr.add_lit, hq]
      · rename_i l q
        cases hs : Nat.ble 1 (C.td e).size with
        | false => exact okk_none
        | true =>
        cases hq : Nat.blt q m with
        | false => exact okk_none
        | true =>
        have hq : q < m := nble hq
        have hT := td_ok E.tt (t := e) (nble hs)
        simp only [cond_true, Bool.and_self]
        simp only [SV.Is] at ha
        obtain ⟨b, o', hx, hat⟩ := ha
        refine okk_one E.rn (v := .pointer (some ⟨b, o' + q * (C.td e).size, none⟩)) ?_ (by simp only [SV.Is]; exact ⟨b, _, rfl, isAt_drop hat _⟩)
        have hi : ρ i = .int ki (q : Int) := hi
        simp [execOp, ho, hi, hx, Instr.indexAt, asIntOf, run_underlying hP, Instr.sureAddr, hT.sizeOf, Addr.add_lit, hq]
      · exact okk_none
    · exact okk_none
  · exact okk_none
end
end Go.Proofs.Ytekokhlldcmjfaa
