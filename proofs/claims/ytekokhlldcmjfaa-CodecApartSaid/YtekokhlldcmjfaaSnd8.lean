/- Operations that write; a region's operations in the text's order. No program in sight. -/
import Derived.Test.YtekokhlldcmjfaaFrzC
import Derived.Laws.CopyRow
import Derived.Laws.IdiomCopy
namespace Go.Proofs.Ytekokhlldcmjfaa
open Go.RowKit Go.ChangeShapes Go.WideShapes Go.Deep
set_option linter.unusedVariables false
set_option linter.unusedSimpArgs false
section
variable {P : Program} {C : Cx} {w0 : Fr} {r : Nat → Option Value} {s : AS} {a : Act} {w : World} {o : Oper}
theorem oneSV_is {g : World} {x : SV} {u : Value} (hr : ∀ i h, r i = some h → one1 h) (h : x.Is g r u) (ho : oneSV x = true) : one1 u :=
  is_one hr h (fun l e => by subst e; cases ho) (fun l e => by subst e; cases ho) (fun e => by subst e; cases ho)
theorem all_one {g : World} (hr : ∀ i h, r i = some h → one1 h) : ∀ {l : List SV} {us : List Value}, LsIs g r l us → l.all oneSV = true → ∀ u ∈ us, u.oneCell' = true
  | [], us, h, _, u, hu => by simp only [LsIs] at h; subst h; cases hu
  | x :: l, us, h, ha, u, hu => by
    simp only [LsIs] at h
    obtain ⟨v, us', rfl, h1, h2⟩ := h
    simp only [List.all_cons, Bool.and_eq_true] at ha
    rcases List.mem_cons.1 hu with rfl | hu
    · have := (oneSV_is hr h1 ha.1).2
      cases u <;> first | rfl | cases this
    · exact all_one hr h2 ha.2 u hu
theorem ob_lt (id : Nat) (h : s.ob id ≠ .gone) : id < s.objs.length := by
  rcases Nat.lt_or_ge id s.objs.length with h1 | h1
  · exact h1
  · unfold AS.ob at h
    rw [List.getD_eq_getElem?_getD, List.getElem?_eq_none h1] at h
    exact absurd rfl h
theorem undef_is (g : World) : (SV.tup []).Is g r undef := by
  simp only [SV.Is]
  exact ⟨#[], rfl, by simp only [LsIs]⟩
/-- A store into a box. -/
theorem store_ptr (h : Sat w0 r s a w) (ht : ttOk P C.tt) (hA : C.A = std) {t : TypeId} {ad x : Operand} {id off : Nat} {t' : TypeId} {l : List SV} (ho : o.op = .store t ad x) (had : s.ev ad = .ptr id off) (hob : s.ob id = .cells t' l)
    (h1 : 1 ≤ (C.td t).size) (h2 : (s.ev x).flat.length = (C.td t).size) (h3 : off + (C.td t).size ≤ l.length) (h4 : (s.ev x).flat.all oneSV = true) {K : Act → World → Prop} {Q : Exit → Act → World → Prop}
    (hK : ∀ w', Sat w0 r ((s.setObj id (.cells t' (laid l off (s.ev x).flat))).put o.dst (.tup [])) (a.put o.dst undef) w' → K (a.put o.dst undef) w') : o.wp P a w K Q := by
  have hT := td_ok ht h1
  have hx := h.ev x
  have hfl := flat_is h.r1 hx (by intro e; rw [e] at h2; simp at h2; omega)
  have hone := all_one h.r1 hfl h4
  have hlen := lsIs_len hfl
  have ha := h.ev ad
  rw [had] at ha
  simp only [SV.Is] at ha
  obtain ⟨q, b, hq, hb, hav⟩ := ha
  have hne : s.ob id ≠ .gone := by rw [hob]; simp
  obtain ⟨q', hq', hoi⟩ := h.objs id hne
  rw [hq] at hq'
  cases hq'
  rw [hob] at hoi
  obtain ⟨b', cs, hb', hbase, hhp, hl⟩ := hoi
  rw [hb] at hb'
  cases hb'
  have hlc := lsIs_len hl
  have hsz : (a.eval x).cells.size = (C.td t).size := by rw [← h2, ← hlen]; simp
  have hst := run_storeCells_at P b off t' (a.eval x).cells.toList 0 cs w hhp (by rw [hlen, h2, ← Array.length_toList, hlc]; omega) hone
  have hrun : (execOp a.eval o).run P w = .ok .skip (w.setRow b (cs.toList.take off ++ (a.eval x).cells.toList ++ cs.toList.drop (off + (a.eval x).cells.toList.length)).toArray) := by
    simp only [Nat.add_zero] at hst
    simp [execOp, ho, Instr.storeAt, Instr.sureAddr, hav, storeVar, hT.sizeOf, hsz, hst]
  unfold Oper.wp
  rw [hrun, Oper.upon_skip]
  refine hK _ (Sat.put (Sat.change h hq hb (setRow_grown w b _) hne ?_ (ob_lt id hne)) (undef_is w0.g) o.dst)
  refine ⟨b, _, hb, hbase, setRow_heap w b cs _ t' (0, 0) hhp, ?_⟩
  have := laid_is l off (s.ev x).flat cs.toList (a.eval x).cells.toList hl hfl (by omega)
  simpa using this
/-- A store into a row. -/
theorem store_elt (h : Sat w0 r s a w) (ht : ttOk P C.tt) (hA : C.A = std) {t : TypeId} {ad x : Operand} {id : Nat} {i : Int} {E : TypeId} {k : IntKind} {l : List Int} {z : Int} (ho : o.op = .store t ad x) (had : s.ev ad = .elt id i) (hob : s.ob id = .irow E k l) (hx : s.ev x = .v (.int k z))
    (h1 : (C.td t).size = 1) {K : Act → World → Prop} {Q : Exit → Act → World → Prop}
    (hK : ∀ w', Sat w0 r ((s.setObj id (.irow E k (l.set i.toNat z))).put o.dst (.tup [])) (a.put o.dst undef) w' → K (a.put o.dst undef) w') : o.wp P a w K Q := by
  have hT := td_ok ht (t := t) (by omega)
  have hxv := h.ev x
  rw [hx] at hxv
  simp only [SV.Is] at hxv
  obtain ⟨hxv, hz⟩ := hxv
  have ha := h.ev ad
  rw [had] at ha
  simp only [SV.Is] at ha
  obtain ⟨b, m, c, hq, h0, hm, hav⟩ := ha
  have hne : s.ob id ≠ .gone := by rw [hob]; simp
  obtain ⟨q', hq', hoi⟩ := h.objs id hne
  rw [hq] at hq'
  cases hq'
  rw [hob] at hoi
  obtain ⟨hown, hfit⟩ := hoi
  have hlen : l.length = m := by
    obtain ⟨_, _, he, _⟩ := holds_ownM hown
    rw [kv_len] at he
    injection he with _ e2 _
    exact e2.symm
  subst hlen
  have hi : i.toNat < l.length := by omega
  have hcell := hown.cellAt i.toNat (by rw [Nat.mul_one]; exact hi)
  rw [kv_getD k l i.toNat hi] at hcell
  obtain ⟨hs1, hs2⟩ := hown.stored i.toNat (.int k z)
  rw [kv_set] at hs1
  have hrun : (execOp a.eval o).run P w = .ok .skip (w.setCell ⟨b, i.toNat, none⟩ (.int k z)) := by
    have hst := run_store P w ⟨b, i.toNat, none⟩ (.int k z) .plain rfl
    rw [hcell, hown.thawed (by rw [Nat.mul_one]; exact hi)] at hst
    simp only [Bool.false_eq_true, if_false] at hst
    simp [execOp, ho, Instr.storeAt, Instr.sureAddr, hav, storeVar, hT.sizeOf, h1, hxv, Value.cells, storeCells, Addr.add_lit, hst]
  unfold Oper.wp
  rw [hrun, Oper.upon_skip]
  have hnew : (SO.irow E k (l.set i.toNat z)).Is w0.g r (w.setCell ⟨b, i.toNat, none⟩ (.int k z)) 0 (.slice (some ⟨b, 0, none⟩) l.length c) := by
    refine ⟨by rw [List.length_set]; exact hs1, ?_⟩
    intro y hy
    rcases List.mem_or_eq_of_mem_set hy with hy | rfl
    · exact hfit y hy
    · exact hz
  exact hK _ (Sat.put (Sat.change h hq rfl hs2 hne hnew (ob_lt id hne)) (undef_is w0.g) o.dst)
mutual
theorem kill_is {g : World} {r r' : Nat → Option Value} {id : Nat} (hr : ∀ i, i ≠ id → r' i = r i) : ∀ (x : SV) (u : Value), x.Is g r u → (x.kill id).Is g r' u
  | .v _, _, h => by simp only [SV.kill, SV.Is] at h ⊢; exact h
  | .lit _, _, h => by simp only [SV.kill, SV.Is] at h ⊢; exact h
  | .iimm _ _, _, h => by simp only [SV.kill, SV.Is] at h ⊢; exact h
  | .imm _ _, _, h => by simp only [SV.kill, SV.Is] at h ⊢; exact h
  | .ip l, u, h => by
    simp only [SV.kill, SV.Is] at h ⊢
    obtain ⟨b, o, h1, h2⟩ := h
    exact ⟨b, o, h1, killAt_is hr l b o h2⟩
  | .ptr i _, _, h => by
    simp only [SV.kill]
    cases hi : Nat.beq i id with
    | true => simp only [cond_true, SV.Is]
    | false =>
      have : i ≠ id := Nat.ne_of_beq_eq_false hi
      simp only [cond_false, SV.Is] at h ⊢
      rw [hr i this]
      exact h
  | .elt i _, _, h => by
    simp only [SV.kill]
    cases hi : Nat.beq i id with
    | true => simp only [cond_true, SV.Is]
    | false =>
      have : i ≠ id := Nat.ne_of_beq_eq_false hi
      simp only [cond_false, SV.Is] at h ⊢
      rw [hr i this]
      exact h
  | .hdl i, _, h => by
    simp only [SV.kill]
    cases hi : Nat.beq i id with
    | true => simp only [cond_true, SV.Is]
    | false =>
      have : i ≠ id := Nat.ne_of_beq_eq_false hi
      simp only [cond_false, SV.Is] at h ⊢
      rw [hr i this]
      exact h
  | .sub i _ _, _, h => by
    simp only [SV.kill]
    cases hi : Nat.beq i id with
    | true => simp only [cond_true, SV.Is]
    | false =>
      have : i ≠ id := Nat.ne_of_beq_eq_false hi
      simp only [cond_false, SV.Is] at h ⊢
      rw [hr i this]
      exact h
  | .csl i _, _, h => by
    simp only [SV.kill]
    cases hi : Nat.beq i id with
    | true => simp only [cond_true, SV.Is]
    | false =>
      have : i ≠ id := Nat.ne_of_beq_eq_false hi
      simp only [cond_false, SV.Is] at h ⊢
      rw [hr i this]
      exact h
  | .sel i _ _ _, _, h => by
    simp only [SV.kill]
    cases hi : Nat.beq i id with
    | true => simp only [cond_true, SV.Is]
    | false =>
      have : i ≠ id := Nat.ne_of_beq_eq_false hi
      simp only [cond_false, SV.Is] at h ⊢
      rw [hr i this]
      exact h
  | .psl i _ _, _, h => by
    simp only [SV.kill]
    cases hi : Nat.beq i id with
    | true => simp only [cond_true, SV.Is]
    | false =>
      have : i ≠ id := Nat.ne_of_beq_eq_false hi
      simp only [cond_false, SV.Is] at h ⊢
      rw [hr i this]
      exact h
  | .clo _ l, u, h => by
    simp only [SV.kill, SV.Is] at h ⊢
    obtain ⟨cs, h1, h2⟩ := h
    exact ⟨cs, h1, kills_is hr l _ h2⟩
  | .agg l, u, h => by
    simp only [SV.kill, SV.Is] at h ⊢
    obtain ⟨cs, h1, h2⟩ := h
    exact ⟨cs, h1, kills_is hr l _ h2⟩
  | .tup l, u, h => by
    simp only [SV.kill, SV.Is] at h ⊢
    obtain ⟨cs, h1, h2⟩ := h
    exact ⟨cs, h1, kills_is hr l _ h2⟩
  | .any, _, _ => by simp only [SV.kill, SV.Is]
theorem killAt_is {g : World} {r r' : Nat → Option Value} {id : Nat} (hr : ∀ i, i ≠ id → r' i = r i) : ∀ (l : List SV) (b o : Nat), IsAt g r l b o → IsAt g r' (kills id l) b o
  | [], _, _, _ => by simp only [kills, IsAt]
  | x :: l, b, o, h => by
    simp only [kills, IsAt] at h ⊢
    obtain ⟨⟨u, h1, h2⟩, h3⟩ := h
    exact ⟨⟨u, h1, kill_is hr x u h2⟩, killAt_is hr l b (o + 1) h3⟩
theorem kills_is {g : World} {r r' : Nat → Option Value} {id : Nat} (hr : ∀ i, i ≠ id → r' i = r i) : ∀ (l : List SV) (us : List Value), LsIs g r l us → LsIs g r' (kills id l) us
  | [], _, h => by simp only [kills, LsIs] at h ⊢; exact h
  | x :: l, us, h => by
    simp only [kills, LsIs] at h ⊢
    obtain ⟨u, us', h1, h2, h3⟩ := h
    exact ⟨u, us', h1, kill_is hr x u h2, kills_is hr l us' h3⟩
end
theorem kill_obj {g : World} {r r' : Nat → Option Value} {id : Nat} (hr : ∀ i, i ≠ id → r' i = r i) {w : World} {base : Nat} {h : Value} : ∀ {o : SO}, o.Is g r w base h → (o.kill id).Is g r' w base h
  | .cells t l, ⟨b, cs, h1, h2, h3, h4⟩ => ⟨b, cs, h1, h2, h3, kills_is hr l _ h4⟩
  | .irow E k l, ho => ho
  | .srow E T d, ho => ho
  | .gone, _ => trivial
theorem so_same {g : World} {w w' : World} {base : Nat} {h : Value} (hb : ∀ b, blk h = some b → w'.heap[b]? = w.heap[b]?) : ∀ {o : SO}, o.Is g r w base h → o.Is g r w' base h
  | .cells t l, ⟨b', cs, h1, h2, h3, h4⟩ => ⟨b', cs, h1, h2, by rw [hb b' h1]; exact h3, h4⟩
  | .irow E k l, ⟨ho, hf⟩ => by
    refine ⟨⟨ho.1, ?_⟩, hf⟩
    rcases ho.2 with h | ⟨g', cap, cur, rfl, h1, h2, h3⟩
    · exact .inl h
    · exact .inr ⟨g', cap, cur, rfl, h1, h2.same (hb g' rfl), h3⟩
  | .srow E T d, ⟨q1, ds, cl, q2, ho, q4⟩ => by
    refine ⟨q1, ds, cl, q2, ⟨ho.1, ?_⟩, q4⟩
    rcases ho.2 with h | ⟨g', cap, cur, rfl, h1, h2, h3⟩
    · exact .inl h
    · exact .inr ⟨g', cap, cur, rfl, h1, h2.same (hb g' rfl), h3⟩
  | .gone, _ => trivial
/-- A row that has grown, maybe in another block. -/
theorem Sat.growG (h : Sat w0 r s a w) {id : Nat} {o' : SO} {w' : World} {q q' : Value} (hne : s.ob id ≠ .gone) (hq : r id = some q) (hown : o'.Is w0.g (fun i => if i = id then some q' else r i) w' 0 q') (hne' : o' ≠ .gone) (hg : w.grownBy w' q.ownBlock) (hq1 : one1 q')
    (hfresh : ∀ b, blk q' = some b → some b = q.ownBlock ∨ w.heap.size ≤ b) (dst : Option Tmp) : Sat w0 (fun i => if i = id then some q' else r i) (((s.kill id).setObj id o').put dst (.hdl id)) (a.put dst q') w' := by
  have hid := ob_lt id hne
  have hr : ∀ i, i ≠ id → (fun i => if i = id then some q' else r i) i = r i := fun i hi => by simp [hi]
  have hobk : ∀ i, ((s.kill id).setObj id o').ob i = if i = id then o' else (s.ob i).kill id := by
    intro i
    unfold AS.ob AS.setObj AS.kill
    simp only [List.getD_eq_getElem?_getD, List.getElem?_set, List.getElem?_map, List.length_map]
    by_cases e : id = i
    · subst e; rw [if_pos rfl, if_pos hid, if_pos rfl]; rfl
    · rw [if_neg e, if_neg (fun e' => e e'.symm)]
      cases s.objs[i]? <;> rfl
  have hkne : ∀ i, (s.ob i).kill id ≠ .gone → s.ob i ≠ .gone := by
    intro i hi e
    rw [e] at hi
    exact hi rfl
  obtain ⟨q0, hq0, hoi⟩ := h.objs id hne
  rw [hq] at hq0
  cases hq0
  -- another one's block is not the row's
  have hoth : ∀ i qi b, i ≠ id → s.ob i ≠ .gone → r i = some qi → blk qi = some b → some b ≠ q.ownBlock ∧ b < w.heap.size := by
    intro i qi b hi hgi hri hb
    obtain ⟨qi', h1, h2⟩ := h.objs i hgi
    rw [hri] at h1
    cases h1
    refine ⟨fun e => ?_, (h2.lt hgi b hb).2⟩
    have hqb : blk q = some b := by
      cases q <;> first | (cases e; done) | skip
      rename_i ao n c
      cases ao with
      | none => cases e
      | some ad => exact e.symm
    exact h.apart id i q qi b (Ne.symm hi) hne hgi hq hri hqb hb
  have hqb : ∀ b, q.ownBlock = some b → blk q = some b := by
    intro b hb
    cases q <;> first | (cases hb; done) | skip
    rename_i ao n c
    cases ao with
    | none => cases hb
    | some ad => exact hb
  refine Sat.put (s := (s.kill id).setObj id o') ⟨⟨fun i => by simp only [AS.setObj, AS.kill]; rw [Fm.get_map _ rfl]; exact kill_is hr _ _ (h.slots.get i), fun i hi => h.slots.lt i (by simpa only [AS.setObj, AS.kill, Fm.has_map] using hi)⟩, h.defs, h.below.grown hg (fun b hb => (h.mine id q b hne hq (hqb b hb)).1), fun b o v hc => hg.cell (h.gw _ _ _ hc) (fun e => by have := (h.mine id q b hne hq (hqb b e.symm)).2 o; rw [this] at hc; cases hc), ?_, ?_, ?_, ?_, ?_, h.sav.imp fun x u hx => ⟨fun i => by rw [Fm.get_map _ rfl]; exact kill_is hr _ _ (hx.get i), fun i hi => hx.lt i (by simpa only [Fm.has_map] using hi)⟩⟩ (by simp only [SV.Is, if_true]) dst
  · intro i hi
    have hi' : s.objs.length ≤ i := by simpa [AS.setObj, AS.kill] using hi
    have : i ≠ id := by omega
    simp only [this, if_false]
    exact h.rn i hi'
  · intro i hh hi
    by_cases e : i = id
    · simp only [e, if_true, Option.some.injEq] at hi
      subst hi
      exact hq1
    · simp only [e, if_false] at hi
      exact h.r1 i hh hi
  · intro i hi
    rw [hobk] at hi ⊢
    by_cases e : i = id
    · simp only [e, if_true]
      exact ⟨q', rfl, hown⟩
    · simp only [e, if_false] at hi ⊢
      obtain ⟨qi, h1, h2⟩ := h.objs i (hkne i hi)
      refine ⟨qi, h1, so_same (fun b hb => ?_) (kill_obj hr h2)⟩
      obtain ⟨h3, h4⟩ := hoth i qi b e (hkne i hi) h1 hb
      exact hg.block b h4 h3
  · intro i qi b hi hri hbi
    rw [hobk] at hi
    by_cases e : i = id
    · simp only [e, if_true, Option.some.injEq] at hri
      subst hri
      rcases hfresh b hbi with h5 | h5
      · exact h.mine id q b hne hq (hqb b h5.symm)
      · exact ⟨.inl (by have := h.below.size; omega), g_new h.gw h5⟩
    · simp only [e, if_false] at hi hri
      exact h.mine i qi b (hkne i hi) hri hbi
  · intro i j hi hj b hij hgi hgj hri hrj hbi hbj
    rw [hobk] at hgi hgj
    by_cases e1 : i = id
    · by_cases e2 : j = id
      · exact hij (e1.trans e2.symm)
      · simp only [e1, if_true, Option.some.injEq] at hri
        simp only [e2, if_false] at hrj hgj
        subst hri
        obtain ⟨h3, h4⟩ := hoth j hj b e2 (hkne j hgj) hrj hbj
        rcases hfresh b hbi with h5 | h5
        · exact h3 h5
        · omega
    · by_cases e2 : j = id
      · simp only [e2, if_true, Option.some.injEq] at hrj
        simp only [e1, if_false] at hri hgi
        subst hrj
        obtain ⟨h3, h4⟩ := hoth i hi b e1 (hkne i hgi) hri hbi
        rcases hfresh b hbj with h5 | h5
        · exact h3 h5
        · omega
      · simp only [e1, if_false] at hri hgi
        simp only [e2, if_false] at hrj hgj
        exact h.apart i j hi hj b hij (hkne i hgi) (hkne j hgj) hri hrj hbi hbj
theorem Sat.grow (h : Sat w0 r s a w) {id : Nat} {E : TypeId} {k : IntKind} {l l' : List Int} {w' : World} {q q' : Value} (hob : s.ob id = .irow E k l) (hq : r id = some q) (hown : OwnM w' 0 E 1 q' l'.length (kv k l')) (hf : Fits k l') (hg : w.grownBy w' q.ownBlock) (hq1 : one1 q')
    (hfresh : ∀ b, blk q' = some b → some b = q.ownBlock ∨ w.heap.size ≤ b) (dst : Option Tmp) : Sat w0 (fun i => if i = id then some q' else r i) (((s.kill id).setObj id (.irow E k l')).put dst (.hdl id)) (a.put dst q') w' :=
  h.growG (o' := .irow E k l') (by rw [hob]; simp) hq ⟨hown, hf⟩ (by simp) hg hq1 hfresh dst
/-- A function that is reckoned where it is called does as it is reckoned. -/
structure RunOk (P : Program) (z : Bool) (f : FuncId) (run : List SV → AS → (SV → AS → Prop) → Prop) : Prop where
  fn : FnOk P f
  ok : ∀ (w0 : Fr) (r : Nat → Option Value) (s : AS) (a : Act) (w : World) (args : List SV) (us : List Value) (K : SV → AS → Prop) (Q : Ending → World → Prop), Sat w0 r s a w → LsIs w0.g r args us → run args s K →
    (∀ w1 r' s' x v w', Fr.le z w0 w1 → Sat w1 r' s' a w' → x.Is w1.g r' v → K x s' → Q (.returned v) w') → Calls P f us.toArray w Q
def IOk (P : Program) (z : Bool) (I : List (FuncId × (List SV → AS → (SV → AS → Prop) → Prop))) : Prop := ∀ f run, (f, run) ∈ I → RunOk P z f run
theorem RunOk.call {z : Bool} {f : FuncId} {run : List SV → AS → (SV → AS → Prop) → Prop} (hr : RunOk P z f run) {c0 : Call} (ho : o.op = .call c0) {fo : Operand} (hc0 : c0.callee = .value fo) {caps : Array Value} (hfo : a.eval fo = .func (.func f) #[] caps) (h : Sat w0 r s a w) {args : List SV} (hargs : LsIs w0.g r args (c0.args.toList.map a.eval ++ caps.toList)) {K : SV → AS → Prop} (hv : run args s K)
    {next : Act → World → Prop} {Q : Exit → Act → World → Prop} (hK : ∀ w1 r' s' x v w', Fr.le z w0 w1 → Sat w1 r' s' a w' → x.Is w1.g r' v → K x s' → next (a.put o.dst v) w') : o.wp P a w next Q := by
  obtain ⟨fn, h1, h2⟩ := Option.map_eq_some_iff.1 hr.fn
  simp only [Bool.and_eq_true, bne_iff_ne] at h2
  obtain ⟨h2, h3⟩ := h2
  have hrun : (execOp a.eval o).run P w = .ok (.enter f (c0.args.map a.eval ++ caps)) w := by
    have hb : ¬ fn.body = none := by intro hh; rw [hh] at h2; cases h2
    simp [execOp, ho, resolve, hc0, hfo, Deferred.ofValue, invoke, callFunc, h1, hb, h3]
  unfold Oper.wp
  rw [hrun, Oper.upon_enter]
  have he : (c0.args.toList.map a.eval ++ caps.toList).toArray = c0.args.map a.eval ++ caps := by apply Array.toList_inj.1; simp
  rw [← he]
  exact hr.ok w0 r s a w args _ K _ h hargs hv fun w1 r' s' x v w' hl h' hx hk => hK w1 r' s' x v w' hl h' hx hk
theorem lcpy_len (l m : List Int) {a n : Int} (h0 : 0 ≤ a) (h : a.toNat + n.toNat ≤ l.length) : (std.lcpy l a n m).length = l.length := by
  show (l.take a.toNat ++ (m.take n.toNat ++ l.drop (a.toNat + (m.take n.toNat).length))).length = l.length
  simp only [List.length_append, List.length_take, List.length_drop]
  omega
/-- Numbers copied into a part of a row of the call's own. -/
theorem copy_row (h : Sat w0 r s a w) (ht : ttOk P C.tt) (hA : C.A = std) {t t' e : TypeId} {x y : Operand} {id : Nat} {E : TypeId} {k : IntKind} {l m : List Int} {lo len : Int} {c0 : Call} (ho : o.op = .call ⟨.builtin .copy, #[x, y], #[t, t']⟩)
    (hu : (C.td t).un = .slice e) (h1 : (C.td e).size = 1) (hob : s.ob id = .irow E k l) (hm : Reads k w (a.eval y) m) {ao : Option Addr} {n c : Nat} (hr : r id = some (.slice ao n c))
    (hlo : 0 ≤ lo) (hlen : 0 ≤ len) (hfit : lo + len ≤ n) {a' : Option Addr} {c' : Nat} (hx : a.eval x = .slice a' len.toNat c') (hpl : len = 0 ∨ ∃ b, ao = some ⟨b, 0, none⟩ ∧ a' = some ⟨b, lo.toNat, none⟩)
    {K : Act → World → Prop} {Q : Exit → Act → World → Prop}
    (hK : ∀ v w', Sat w0 r ((s.setObj id (.irow E k (std.lcpy l lo len m))).put o.dst .any) (a.put o.dst v) w' → K (a.put o.dst v) w') : o.wp P a w K Q := by
  have hT := td_ok ht (t := e) (by omega)
  have hP := under_slice ht hu
  have hne : s.ob id ≠ .gone := by rw [hob]; simp
  obtain ⟨q', hq', hoi⟩ := h.objs id hne
  rw [hr] at hq'
  cases hq'
  rw [hob] at hoi
  obtain ⟨hown, hf⟩ := hoi
  obtain ⟨i, hi, hi1, hi2, hi3⟩ := hT.info
  have hsz : (P.info? e).map (·.size) = some 1 := by rw [hi, Option.map_some, hi1, h1]
  obtain ⟨so, sc, hy, hl1, hl2, hh⟩ := hm.1
  rw [kv_len] at hy
  have hlen' : l.length = n := by
    obtain ⟨_, _, he, _⟩ := holds_ownM hown
    rw [kv_len] at he
    injection he with _ e2 _
    exact e2.symm
  subst hlen'
  have same : (m.take len.toNat) = [] → std.lcpy l lo len m = l := by
    intro he
    show l.take lo.toNat ++ (m.take len.toNat ++ l.drop (lo.toNat + (m.take len.toNat).length)) = l
    rw [he]; simp
  have fin : ∀ w', w.grownBy w' (blk (.slice ao l.length c)) → OwnM w' 0 E 1 (.slice ao l.length c) (std.lcpy l lo len m).length (kv k (std.lcpy l lo len m)) → (blk (.slice ao l.length c) = none → w' = w ∧ std.lcpy l lo len m = l) → ∀ v, Sat w0 r ((s.setObj id (.irow E k (std.lcpy l lo len m))).put o.dst .any) (a.put o.dst v) w' := by
    intro w' hg ho' hnone v
    refine Sat.put ?_ (by simp only [SV.Is]) o.dst
    have hfit' : Fits k (std.lcpy l lo len m) := by
      intro z hz
      rcases List.mem_append.1 hz with hz | hz
      · exact hf z (List.mem_of_mem_take hz)
      · rcases List.mem_append.1 hz with hz | hz
        · exact hm.2.1 z (List.mem_of_mem_take hz)
        · exact hf z (List.mem_of_mem_drop hz)
    cases hb : blk (.slice ao l.length c) with
    | some b => rw [hb] at hg; exact Sat.change h hr hb hg hne ⟨ho', hfit'⟩ (ob_lt id hne)
    | none =>
      obtain ⟨rfl, e2⟩ := hnone hb
      have : s.setObj id (.irow E k (std.lcpy l lo len m)) = s := by
        rw [e2, ← hob]
        unfold AS.setObj AS.ob
        congr 1
        apply List.ext_getElem?
        intro j
        rw [List.getElem?_set]
        split
        · rename_i hj
          subst hj
          have := ob_lt id hne
          rw [if_pos this, List.getD_eq_getElem?_getD, List.getElem?_eq_getElem this]; rfl
        · rfl
      rw [this]; exact h
  by_cases h0 : Nat.min m.length len.toNat = 0
  · have hrun := run_copy_none (P := P) w t t' o.type e a' so len.toNat c' m.length sc hP hsz h0
    have hnil : m.take len.toNat = [] := List.eq_nil_of_length_eq_zero (by rw [List.length_take]; have : Nat.min m.length len.toNat = min m.length len.toNat := rfl; omega)
    have hrun' : (execOp a.eval o).run P w = .ok (.value (goInt 0)) w := by
      simp [execOp, ho, resolve, invoke, builtin, hx, hy, hrun, Result.andThen]
    unfold Oper.wp
    rw [hrun', Oper.upon_value]
    refine hK _ _ (fin w ⟨rfl, rfl, rfl, Nat.le_refl _, fun _ _ _ => rfl⟩ ?_ (fun _ => ⟨rfl, same hnil⟩) _)
    rw [same hnil]; exact hown
  · have hpos : 0 < len.toNat ∧ 0 < m.length := by
      have : Nat.min m.length len.toNat = min m.length len.toNat := rfl
      omega
    rcases hpl with hpl | ⟨b, rfl, rfl⟩
    · omega
    · have hsrc : ∃ ad, so = some ad ∧ ∀ j v, ((kv k m).take len.toNat)[j]? = some v → w.cell? (ad.add j) = some v := by
        rcases hh with hh | ⟨b2, off, rfl, hh⟩
        · exfalso
          have h3 : (kv k m).length = 0 := by rw [hh]; rfl
          rw [kv_len] at h3; omega
        · refine ⟨_, rfl, fun j v hj => ?_⟩
          rw [List.getElem?_take] at hj
          split at hj
          · rw [Addr.add_lit]; exact hh j v hj
          · cases hj
      obtain ⟨ad, rfl, hsrc⟩ := hsrc
      rcases hown.2 with ⟨e1, _⟩ | ⟨g, cap, cur, e1, hbg, hg', hnc, hcm, hcs, htake⟩
      · cases e1
      · injection e1 with e1 e2 e3
        cases e1
        subst e3
        rw [Nat.mul_one] at hcs htake
        have hln : ((kv k m).take len.toNat).length = Nat.min m.length len.toNat := by rw [List.length_take, kv_len, Nat.min_comm]
        have hmin : Nat.min m.length len.toNat ≤ len.toNat := Nat.min_le_right _ _
        have hfit2 : lo.toNat + ((kv k m).take len.toNat).length ≤ cur.size := by rw [hln]; omega
        have hrun := run_copyM (P := P) w t t' o.type e b lo.toNat len.toNat c' ad m.length sc cur E ((kv k m).take len.toNat) hP hsz hg' hln hsrc hfit2 (by
          intro v hv
          have hv := List.mem_of_mem_take hv
          obtain ⟨z, _, rfl⟩ := List.mem_map.1 hv
          rfl)
        have hrun' : (execOp a.eval o).run P w = .ok (.value (goInt ((kv k m).take len.toNat).length)) (w.setRow b (cur.toList.take lo.toNat ++ (kv k m).take len.toNat ++ cur.toList.drop (lo.toNat + ((kv k m).take len.toNat).length)).toArray) := by
          simp [execOp, ho, resolve, invoke, builtin, hx, hy, hrun, Result.andThen]
        unfold Oper.wp
        rw [hrun', Oper.upon_value]
        refine hK _ _ (fin _ (setRow_grown w b _) ?_ (fun hb => by cases hb) _)
        have hL := lcpy_len l m hlo (n := len) (by omega)
        refine ⟨by rw [kv_len, Nat.mul_one], .inr ⟨b, c, _, by rw [hL], Nat.zero_le _, hg'.set ?_, by rw [hL]; exact hnc, hcm, ?_, ?_⟩⟩
        · simp only [List.size_toArray, List.length_append, List.length_take, List.length_drop, Array.length_toList, hcs] at *
          omega
        · simp only [List.size_toArray, List.length_append, List.length_take, List.length_drop, Array.length_toList, hcs] at *
          omega
        · have e4 : kv k (std.lcpy l lo len m) = (kv k l).take lo.toNat ++ ((kv k m).take len.toNat ++ (kv k l).drop (lo.toNat + ((kv k m).take len.toNat).length)) := by
            show (l.take lo.toNat ++ (m.take len.toNat ++ l.drop (lo.toNat + (m.take len.toNat).length))).map _ = _
            simp only [List.map_append, List.map_take, List.map_drop, kv, List.length_take, List.length_map]
          have hkl : (kv k l).length = l.length := kv_len k l
          rw [e4, hL, ← htake, Nat.mul_one]
          generalize (kv k m).take len.toNat = z at *
          have hz : lo.toNat + z.length ≤ l.length := by omega
          have hcl : cur.toList.length = c := by rw [Array.length_toList, hcs]
          apply List.ext_getElem?
          intro j
          simp only [List.getElem?_take, List.getElem?_append, List.getElem?_drop, List.length_take, List.length_append, hcl]
          by_cases j1 : j < l.length
          · rw [if_pos j1]
            by_cases j2 : j < lo.toNat
            · rw [if_pos (show j < min lo.toNat c + z.length by omega), if_pos (show j < min lo.toNat c by omega), if_pos j2, if_pos (show j < min lo.toNat (min l.length c) by omega), if_pos j2, if_pos j1]
            · rw [if_neg (show ¬ j < min lo.toNat (min l.length c) by omega), show min lo.toNat (min l.length c) = min lo.toNat c by omega]
              by_cases j3 : j < min lo.toNat c + z.length
              · rw [if_pos j3, if_neg (show ¬ j < min lo.toNat c by omega), if_pos (show j - min lo.toNat c < z.length by omega)]
              · rw [if_neg j3, if_neg (show ¬ j - min lo.toNat c < z.length by omega), if_pos (show lo.toNat + z.length + (j - min lo.toNat c - z.length) < l.length by omega)]
                congr 1; omega
          · rw [if_neg j1, if_neg (show ¬ j < min lo.toNat (min l.length c) by omega), if_neg (show ¬ j - min lo.toNat (min l.length c) < z.length by omega), if_neg (by omega)]
/-- A store into a row of structs. -/
theorem store_sel (h : Sat w0 r s a w) (ht : ttOk P C.tt) (hA : C.A = std) {t : TypeId} {ad x : Operand} {id off : Nat} {i : Int} {E : TypeId} {T : Ty} {d u : Dat} {v : SV} (ho : o.op = .store t ad x) (had : ∃ b n c, r id = some (.slice (some ⟨b, 0, none⟩) n c) ∧ 0 ≤ i ∧ i < (n : Int) ∧ a.eval ad = .pointer (some ⟨b, i.toNat * T.size + off, none⟩)) (hob : s.ob id = .srow E T d) (hx : v.Is w0.g r (a.eval x))
    (h1 : 1 ≤ (C.td t).size) (h2 : v.flat.length = (C.td t).size) (h3 : off + (C.td t).size ≤ T.size) (hd : datOf std (fun _ => .gone) T (laid (svOf std T (std.dat d i)) off v.flat) = some u) {K : Act → World → Prop} {Q : Exit → Act → World → Prop}
    (hK : ∀ w', Sat w0 r ((s.setObj id (.srow E T (std.dset d i u))).put o.dst (.tup [])) (a.put o.dst undef) w' → K (a.put o.dst undef) w') : o.wp P a w K Q := by
  have hT := td_ok ht h1
  have hfl := flat_is h.r1 hx (by intro e; rw [e] at h2; simp at h2; omega)
  have hlen := lsIs_len hfl
  obtain ⟨b, n, c, hq, hi0, hin, hav⟩ := had
  have hne : s.ob id ≠ .gone := by rw [hob]; simp
  obtain ⟨q', hq', hoi⟩ := h.objs id hne
  rw [hq] at hq'
  cases hq'
  rw [hob] at hoi
  obtain ⟨hsz, ds, cl, rfl, hown, hrd⟩ := hoi
  have hcl : cl.length = ds.length * T.size := hown.1
  rcases hown.2 with ⟨e1, _⟩ | ⟨g, cap, cur, e1, hbg, hg', hnc, hcm, hcs, htake⟩
  · cases e1
  · injection e1 with e1 e2 e3
    cases e1
    subst e3
    have hi : i.toNat < ds.length := by omega
    have h5 := Nat.mul_le_mul_right T.size (show i.toNat + 1 ≤ ds.length from hi)
    have h6 := Nat.mul_le_mul_right T.size hnc
    rw [Nat.succ_mul] at h5
    have hat : std.dat (Dat.list ds) i = ds[i.toNat] := by
      show ds.getD i.toNat (.int 0) = _
      simp [List.getD, hi]
    rw [hat] at hd
    have hseg := hrd i.toNat _ (List.getElem?_eq_getElem hi)
    have hsv : LsIs w0.g r (svOf std T ds[i.toNat]) ((cl.drop (i.toNat * T.size)).take T.size) := svOf_is T _ _ hseg
    have hsl := lsIs_len hsv
    have hsl2 : ((cl.drop (i.toNat * T.size)).take T.size).length = T.size := by rw [List.length_take, List.length_drop]; omega
    have hld := laid_is _ off _ _ _ hsv hfl (by omega)
    have E2 : Env P C w0.g r s.objs.length 0 w0.g (fun _ => .gone) := ⟨ht, hA, h.r1, h.rn, SubW.refl _, fun id hh => absurd rfl hh⟩
    obtain ⟨hu, _⟩ := datOf_is E2 T _ _ u hd hld
    have hu1 := rd_one T _ _ hu
    have hsz' : (a.eval x).cells.size = (C.td t).size := by rw [← h2, ← hlen]; simp
    have hone : ∀ y ∈ (a.eval x).cells.toList, y.oneCell' = true := fun y hy => hu1.1 y (by simp [hy])
    have hst := run_cellsM P b (i.toNat * T.size + off) E (a.eval x).cells.toList 0 cur w hg' (by rw [hlen, h2, hcs]; omega) hone
    have hrun : (execOp a.eval o).run P w = .ok .skip (w.setRow b (cur.toList.take (i.toNat * T.size + off) ++ (a.eval x).cells.toList ++ cur.toList.drop (i.toNat * T.size + off + (a.eval x).cells.toList.length)).toArray) := by
      simp only [Nat.add_zero] at hst
      simp [execOp, ho, Instr.storeAt, Instr.sureAddr, hav, storeVar, hT.sizeOf, hsz', hst]
    unfold Oper.wp
    rw [hrun, Oper.upon_skip]
    generalize hz : (a.eval x).cells.toList = z at *
    have hzl : off + z.length ≤ T.size := by omega
    refine hK _ (Sat.put (Sat.change h hq rfl (setRow_grown w b _) hne ?_ (ob_lt id hne)) (undef_is w0.g) o.dst)
    have hcut : ((cur.toList.take (i.toNat * T.size + off) ++ z ++ cur.toList.drop (i.toNat * T.size + off + z.length)).toArray).toList.take (ds.length * T.size) = cl.take (i.toNat * T.size + off) ++ z ++ cl.drop (i.toNat * T.size + off + z.length) := by
      rw [← htake]
      have hcc : cur.toList.length = c * T.size := by rw [Array.length_toList, hcs]
      apply List.ext_getElem?
      intro j
      simp only [List.getElem?_take, List.getElem?_append, List.getElem?_drop, List.length_take, List.length_append, hcc]
      by_cases j1 : j < ds.length * T.size
      · rw [if_pos j1]
        by_cases j2 : j < i.toNat * T.size + off
        · rw [if_pos (show j < min (i.toNat * T.size + off) (c * T.size) + z.length by omega), if_pos (show j < min (i.toNat * T.size + off) (c * T.size) by omega), if_pos j2, if_pos (show j < min (i.toNat * T.size + off) (min (ds.length * T.size) (c * T.size)) + z.length by omega), if_pos (show j < min (i.toNat * T.size + off) (min (ds.length * T.size) (c * T.size)) by omega), if_pos j2, if_pos j1]
        · rw [show min (i.toNat * T.size + off) (min (ds.length * T.size) (c * T.size)) = min (i.toNat * T.size + off) (c * T.size) by omega]
          by_cases j3 : j < min (i.toNat * T.size + off) (c * T.size) + z.length
          · rw [if_pos j3, if_pos j3, if_neg (show ¬ j < min (i.toNat * T.size + off) (c * T.size) by omega), if_neg (show ¬ j < min (i.toNat * T.size + off) (c * T.size) by omega)]
          · rw [if_neg j3, if_neg j3, if_pos (show i.toNat * T.size + off + z.length + (j - (min (i.toNat * T.size + off) (c * T.size) + z.length)) < ds.length * T.size by omega)]
      · rw [if_neg j1, if_neg (show ¬ j < min (i.toNat * T.size + off) (min (ds.length * T.size) (c * T.size)) + z.length by omega), if_neg (by omega)]
    have hnl : (std.dset (Dat.list ds) i u) = .list (ds.set i.toNat u) := rfl
    rw [hnl]
    refine ⟨hsz, ds.set i.toNat u, cl.take (i.toNat * T.size + off) ++ z ++ cl.drop (i.toNat * T.size + off + z.length), rfl, ⟨?_, .inr ⟨b, c, _, by rw [List.length_set, e2], Nat.zero_le _, hg'.set (by simp only [List.size_toArray, List.length_append, List.length_take, List.length_drop, Array.length_toList, hcs]; omega), by rw [List.length_set]; exact hnc, hcm, ?_, by rw [List.length_set]; exact hcut⟩⟩, ?_⟩
    · rw [List.length_set]
      simp only [List.length_append, List.length_take, List.length_drop, hcl]
      omega
    · simp only [List.size_toArray, List.length_append, List.length_take, List.length_drop, Array.length_toList, hcs]
      omega
    · intro k y hy
      rw [List.getElem?_set] at hy
      by_cases e : i.toNat = k
      · subst e
        rw [if_pos rfl, if_pos hi] at hy
        cases hy
        rw [seg_set (by omega) hzl]
        exact hu
      · rw [if_neg e] at hy
        rw [seg_other (by omega) hzl (fun h => e h.symm)]
        exact hrd k y hy
/-- Append to a row of structs. -/
theorem appRow_wp (h : Sat w0 r s a w) (ht : ttOk P C.tt) (hA : C.A = std) {t e : TypeId} (hP : P.underlying t = some (.slice e)) {x y : Operand} (ho : o.op = .call ⟨.builtin .append, #[x, y], #[t, t]⟩) {T : Ty} {K : AS → Prop} (hv : appRow C s o.dst e T (s.ev x) (s.ev y) K) {next : Act → World → Prop} {Q : Exit → Act → World → Prop}
    (hK : ∀ r' s' a' w', C.fz = true → Sat w0 r' s' a' w' → K s' → next a' w') : o.wp P a w next Q := by
  unfold appRow at hv
  cases q1 : C.fz with
  | false => rw [q1] at hv; exact hv.elim
  | true =>
  cases q2 : Nat.ble 1 T.size with
  | false => rw [q1, q2] at hv; exact hv.elim
  | true =>
  cases q3 : Nat.beq T.size (C.td e).size with
  | false => rw [q1, q2, q3] at hv; exact hv.elim
  | true =>
    rw [q1, q2, q3] at hv
    simp only [Bool.and_self, cond_true] at hv
    have q2 := nble q2
    have q3 := Nat.eq_of_beq_eq_true q3
    have hT := td_ok ht (t := e) (by omega)
    split at hv
    · rename_i d' hd'
      obtain ⟨⟨ao, cap, ys, hy, hyl, hyc, hyr⟩, hdl⟩ := rowDat_is h hd' (h.ev y)
      have hone := rowRd_one q2 hyl hyr
      rw [hA] at hv
      split at hv
      · rename_i id hid
        split at hv
        · rename_i E T' d hob
          cases q4 : Nat.beq E e with
          | false => rw [q4] at hv; exact hv.elim
          | true =>
          cases q5 : T.same T' with
          | false => rw [q4, q5] at hv; exact hv.elim
          | true =>
            rw [q4, q5] at hv
            obtain rfl := Nat.eq_of_beq_eq_true q4
            obtain rfl := Ty.same_eq _ _ q5
            simp only [Bool.and_self, cond_true] at hv
            obtain ⟨⟨hr1, hr2⟩, hv⟩ := hv
            have hx := h.ev x
            rw [hid] at hx
            simp only [SV.Is] at hx
            have hne : s.ob id ≠ .gone := by rw [hob]; simp
            obtain ⟨q, hq, hoi⟩ := h.objs id hne
            rw [hob] at hoi
            rw [hx] at hq
            cases hq
            obtain ⟨hsz, ds, cl, rfl, hown, hrd⟩ := hoi
            have hr1 : ((ds.length : Int) + (d'.ls.length : Int)) * ((C.td E).bytes : Int) ≤ 140737488355328 := hr1
            have hr2 : (ds.length : Int) + (d'.ls.length : Int) ≤ 281474976710656 := hr2
            have hrb : (ds.length + d'.ls.length) * (C.td E).bytes ≤ 140737488355328 := by
              have : (((ds.length + d'.ls.length) * (C.td E).bytes : Nat) : Int) ≤ 140737488355328 := by
                rw [Int.natCast_mul, Int.natCast_add]; exact hr1
              omega
            rw [q3] at hown hyl
            obtain ⟨v', w', h6, h7, h8, h9, h10⟩ := run_appendN (ty := o.type) w 0 hP hT (by omega) _ _ _ hown ⟨ao, cap, hy, hyl, hyc⟩ hone hrb (by omega) (Nat.zero_le _)
            have hrun : (execOp a.eval o).run P w = .ok (.value v') w' := by
              simp [execOp, ho, resolve, invoke, builtin, h6]
            unfold Oper.wp
            rw [hrun, Oper.upon_value]
            have hdd : std.dapp (Dat.list ds) d' = .list (ds ++ d'.ls) := rfl
            rw [hdd] at hv
            refine hK _ _ _ _ q1 (Sat.growG h (o' := .srow E T (.list (ds ++ d'.ls))) hne hx ⟨q2, ds ++ d'.ls, cl ++ ys, rfl, ?_, ?_⟩ (by simp) h8 h10 h9 o.dst) hv
            · rw [List.length_append, q3]; exact h7
            · exact rowRd_append (by rw [q3]; exact hown.1) hrd hyr
        · exact hv.elim
      · rename_i hid
        have hx := h.ev x
        rw [hid] at hx
        simp only [SV.Is] at hx
        obtain ⟨⟨hr1, hr2⟩, hv⟩ := hv
        have hr1 : (d'.ls.length : Int) * ((C.td e).bytes : Int) ≤ 140737488355328 := hr1
        have hr2 : (d'.ls.length : Int) ≤ 281474976710656 := hr2
        have hrb : (0 + d'.ls.length) * (C.td e).bytes ≤ 140737488355328 := by
          have : ((d'.ls.length * (C.td e).bytes : Nat) : Int) ≤ 140737488355328 := by
            rw [Int.natCast_mul]; exact hr1
          rw [Nat.zero_add]; omega
        rw [q3] at hyl
        obtain ⟨v', w', h6, h7, h8, h9, h10⟩ := run_appendN (ty := o.type) w w.heap.size hP hT (by omega) (.slice none 0 0) 0 [] (OwnM.nil w w.heap.size e _) ⟨ao, cap, hy, hyl, hyc⟩ hone hrb (by omega) (Nat.le_refl _)
        have hrun : (execOp a.eval o).run P w = .ok (.value v') w' := by
          simp [execOp, ho, resolve, invoke, builtin, hx.1, h6]
        unfold Oper.wp
        rw [hrun, Oper.upon_value]
        have hb : Below w.heap.size w w' := (Below.refl _ _).grown h8 (Nat.le_refl _) (fun k hk => by cases hk)
        have hvd : vdeep v' = [v'] := by
          rcases h7.2 with ⟨rfl, _⟩ | ⟨g, c, cur, rfl, _⟩ <;> rfl
        have hE := h.env ht hA (P := P)
        have hdd : std.dapp (.list []) d' = .list d'.ls := rfl
        rw [hdd] at hv
        have hgv : Gv w0.g r s.objs.length w (.hdl s.objs.length, [(0, .srow e T (.list d'.ls))]) v' w' := by
          refine Gv.new1 hE hb ⟨hvd, h10⟩ ?_ ⟨q2, d'.ls, ys, rfl, ?_, hyr⟩
          · simp only [SV.Is]
            exact ext_new _ hvd
          · rw [q3]
            simpa using h7
        exact hK _ _ _ _ q1 (h.gv hgv o.dst) hv
      · exact hv.elim
    · exact hv.elim
/-- AN OPERATION THAT MAY WRITE. -/
theorem eff_wp (h : Sat w0 r s a w) (ht : ttOk P C.tt) (hA : C.A = std) (hG : GOk P C.G) (hI : IOk P C.fz C.I) {K : AS → Prop} (hv : eff C s o.dst o.op K) {next : Act → World → Prop} {Q : Exit → Act → World → Prop}
    (hK' : ∀ w1 r' s' a' w', Fr.le C.fz w0 w1 → Sat w1 r' s' a' w' → K s' → next a' w') : o.wp P a w next Q := by
  have hK : ∀ r' s' a' w', Sat w0 r' s' a' w' → K s' → next a' w' := fun r' s' a' w' => hK' w0 r' s' a' w' (Fr.le.refl _ _)
  have hexec : ∀ op, o.op = op → (exec C s.ev s.ob s.objs.length op).vc (fun sv os => K ((s.new os).put o.dst sv)) → o.wp P a w next Q := by
    intro op hop hvc
    cases he : exec C s.ev s.ob s.objs.length op with
    | none => rw [he] at hvc; exact hvc.elim
    | some q =>
      obtain ⟨c, rt⟩ := q
      rw [he] at hvc
      have hE := h.env ht hA (P := P)
      have hc : (∀ p, c = some p → p) ∧ rt.vc (fun sv os => K ((s.new os).put o.dst sv)) := by
        cases c with
        | none => exact ⟨fun p hp => (by cases hp), hvc⟩
        | some p => exact ⟨fun p' hp => (by cases hp; exact hvc.1), hvc.2⟩
      subst hop
      refine exec_wp hE hG (fun x _ => h.ev x) he hc.1 fun v w' hgv => ?_
      exact hK _ _ _ _ (h.gv hgv o.dst) (Out.vc_pick hc.2)
  generalize hop : o.op = op at hv
  cases op
  case convert src d x =>
    cases hsd : Nat.beq src d with
    | false =>
      simp only [eff, hsd] at hv
      exact hexec _ hop hv
    | true =>
      simp only [eff, hsd] at hv
      obtain rfl := Nat.eq_of_beq_eq_true hsd
      split at hv
      · rename_i e hu
        split at hv
        · rename_i hk
          split at hv
          · rename_i id hid
            split at hv
            · rename_i E k z l hob
              have hx := h.ev x
              rw [hid] at hx
              simp only [SV.Is] at hx
              have hne : s.ob id ≠ .gone := by rw [hob]; simp
              obtain ⟨q, hq, hoi⟩ := h.objs id hne
              rw [hob] at hoi
              rw [hx] at hq
              cases hq
              obtain ⟨hown, hfit⟩ := hoi
              rcases hown.2 with ⟨_, e0⟩ | ⟨g, cap, cur, e1, h2, h3, h4⟩
              · simp at e0
              · obtain ⟨hr1, hr2, hr3⟩ := run_markM (P := P) w src e (under_slice ht hu) (under_int ht hk) (n := (z :: l).length) (cap := cap) h3
                have hrun : (execOp a.eval o).run P w = .ok (.value (a.eval x)) (w.freeze ⟨g, cur.size, none⟩ 1) := by
                  simp only [execOp, hop, e1, Sem.run_bind, hr1, Result.andThen_ok, Sem.run_pure]
                unfold Oper.wp
                rw [hrun, Oper.upon_value]
                have hsat := Sat.change h hx (by rw [e1]; rfl) hr3 hne (o' := .irow E k (z :: l)) ⟨⟨hown.1, .inr ⟨g, cap, cur, e1, h2, hr2, h4⟩⟩, hfit⟩ (ob_lt id hne)
                have hset : s.setObj id (.irow E k (z :: l)) = s := by
                  rw [← hob]
                  unfold AS.setObj AS.ob
                  congr 1
                  apply List.ext_getElem?
                  intro j
                  rw [List.getElem?_set]
                  split
                  · rename_i hj
                    subst hj
                    have := ob_lt id hne
                    rw [if_pos this, List.getD_eq_getElem?_getD, List.getElem?_eq_getElem this]; rfl
                  · rfl
                rw [hset] at hsat
                exact hK _ _ _ _ (Sat.put hsat (by simp only [SV.Is]; exact hx) o.dst) hv
            · exact hv.elim
          · exact hv.elim
        · exact hv.elim
      · exact hexec _ hop hv
  case store t ad x =>
    simp only [eff] at hv
    split at hv
    · rename_i id off had
      split at hv
      · rename_i t' l hob
        cases h1 : Nat.ble 1 (C.td t).size with
        | false => rw [h1] at hv; exact hv.elim
        | true =>
        cases h2 : Nat.beq (s.ev x).flat.length (C.td t).size with
        | false => rw [h1, h2] at hv; exact hv.elim
        | true =>
        cases h3 : Nat.ble (off + (C.td t).size) l.length with
        | false => rw [h1, h2, h3] at hv; exact hv.elim
        | true =>
        cases h4 : (s.ev x).flat.all oneSV with
        | false => rw [h1, h2, h3, h4] at hv; exact hv.elim
        | true =>
          rw [h1, h2, h3, h4] at hv
          exact store_ptr h ht hA hop had hob (nble h1) (Nat.eq_of_beq_eq_true h2) (nble h3) h4 fun w' hs' => hK _ _ _ _ hs' hv
      · exact hv.elim
    · rename_i id i had
      split at hv
      · rename_i E k l k' z hob hx
        cases h1 : IntKind.same k k' with
        | false => rw [h1] at hv; exact hv.elim
        | true =>
        cases h2 : Nat.beq (C.td t).size 1 with
        | false => rw [h1, h2] at hv; exact hv.elim
        | true =>
          rw [h1, h2, hA] at hv
          obtain rfl := Go.Proofs.Ytekokhlldcmjfaa.same_eq h1
          exact store_elt h ht hA hop had hob hx (Nat.eq_of_beq_eq_true h2) fun w' hs' => hK _ _ _ _ hs' hv
      · exact hv.elim
    · rename_i id i sz off had
      rw [hA] at hv
      obtain ⟨w1, hle, h1, hx1⟩ := Sat.frz2 (hdlIds (s.ev x).flat) h (xs := [s.ev x]) (us := [a.eval x]) (by simp only [LsIs]; exact ⟨_, _, rfl, h.ev x, rfl⟩)
      split at hv
      · rename_i s1 v he
        rw [he] at h1 hx1
        simp only at h1 hx1
        obtain ⟨u, hu, hxv⟩ := ls1 hx1
        cases hu
        split at hv
        · rename_i E T d hob
          cases q1 : C.fz with
          | false => rw [q1] at hv; exact hv.elim
          | true =>
          cases q2 : Nat.beq sz T.size with
          | false => rw [q1, q2] at hv; exact hv.elim
          | true =>
          cases q3 : Nat.ble 1 (C.td t).size with
          | false => rw [q1, q2, q3] at hv; exact hv.elim
          | true =>
          cases q4 : Nat.beq v.flat.length (C.td t).size with
          | false => rw [q1, q2, q3, q4] at hv; exact hv.elim
          | true =>
          cases q5 : Nat.ble (off + (C.td t).size) T.size with
          | false => rw [q1, q2, q3, q4, q5] at hv; exact hv.elim
          | true =>
            rw [q1, q2, q3, q4, q5] at hv
            simp only [Bool.and_self, cond_true] at hv
            split at hv
            · rename_i ud hud
              obtain rfl := Nat.eq_of_beq_eq_true q2
              have had' : ∃ b n c, r id = some (.slice (some ⟨b, 0, none⟩) n c) ∧ 0 ≤ i ∧ i < (n : Int) ∧ a.eval ad = .pointer (some ⟨b, i.toNat * T.size + off, none⟩) := by
                have := h.ev ad
                rw [had] at this
                simpa only [SV.Is] using this
              exact store_sel h1 ht hA hop had' hob hxv (nble q3) (Nat.eq_of_beq_eq_true q4) (nble q5) hud fun w' hs' => hK' _ _ _ _ _ (by rw [q1]; exact hle) hs' hv
            · exact hv.elim
        · exact hv.elim
      · exact hv.elim
    · exact hv.elim
  case call c0 =>
    obtain ⟨callee, args, ats⟩ := c0
    cases callee with
    | value fo =>
      simp only [eff] at hv
      split at hv
      · rename_i f l hclo
        have hfo := h.ev fo
        rw [hclo] at hfo
        simp only [SV.Is] at hfo
        obtain ⟨caps, hfo, hcaps⟩ := hfo
        split at hv
        · rename_i run hrun
          exact (hI f run (assoc_mem hrun)).call hop rfl hfo h (lsIs_append (lsIs_map _ fun x _ => h.ev x) hcaps) hv fun w1 r' s' x v w' hl h' hx hk => hK' _ _ _ _ _ hl (h'.put hx o.dst) hk
        · exact hv.elim
      · split at hv
        · rename_i f hfn
          have hfo : a.eval fo = .func (.func f) #[] #[] := fnOf_is hfn (h.ev fo)
          split at hv
          · rename_i run hrun
            exact (hI f run (assoc_mem hrun)).call hop rfl hfo h (by simpa using lsIs_map _ fun x _ => h.ev x) hv fun w1 r' s' x v w' hl h' hx hk => hK' _ _ _ _ _ hl (h'.put hx o.dst) hk
          · exact hexec _ hop hv
        · exact hv.elim
    | invoke x m => exact hexec _ hop hv
    | builtin bi =>
      cases bi
      case append =>
        simp only [eff] at hv
        split at hv
        · rename_i x y t t' hxy htt
          have e1 : args = #[x, y] := Array.toList_inj.1 hxy
          have e2 : ats = #[t, t'] := Array.toList_inj.1 htt
          subst e1; subst e2
          cases h1 : Nat.beq t t' with
          | false => rw [h1] at hv; exact hv.elim
          | true =>
            rw [h1] at hv
            obtain rfl := Nat.eq_of_beq_eq_true h1
            simp only [cond_true] at hv
            split at hv
            · rename_i e hu
              have hP := under_slice ht hu
              split at hv
              · rename_i k hk
                have hx := h.ev x
                have hy := h.ev y
                have hE := h.env ht hA (P := P)
                split at hv
                · rename_i id hid
                  rw [hid] at hx
                  simp only [SV.Is] at hx
                  split at hv
                  · rename_i E k' l hob
                    cases h2 : Nat.beq E e with
                    | false => rw [h2] at hv; exact hv.elim
                    | true =>
                    cases h3 : IntKind.same k k' with
                    | false => rw [h2, h3] at hv; exact hv.elim
                    | true =>
                      rw [h2, h3] at hv
                      obtain rfl := Nat.eq_of_beq_eq_true h2
                      obtain rfl := Go.Proofs.Ytekokhlldcmjfaa.same_eq h3
                      simp only [Bool.and_self, cond_true] at hv
                      rw [hA] at hv
                      split at hv
                      · rename_i m hm
                        cases h4 : Nat.beq (C.td E).size 1 with
                        | false => rw [h4] at hv; exact hv.elim
                        | true =>
                        cases h5 : isZero k (C.td E).zero with
                        | false => rw [h4, h5] at hv; exact hv.elim
                        | true =>
                          rw [h4, h5] at hv
                          have h4 := Nat.eq_of_beq_eq_true h4
                          have hT := td_ok ht (t := E) (by omega)
                          obtain ⟨⟨hr1, hr2⟩, hv⟩ := hv
                          have hr1 : ((l.length : Int) + (m.length : Int)) * ((C.td E).bytes : Int) ≤ 140737488355328 := hr1
                          have hr2 : (l.length : Int) + (m.length : Int) ≤ 281474976710656 := hr2
                          have hne : s.ob id ≠ .gone := by rw [hob]; simp
                          obtain ⟨q, hq, hoi⟩ := h.objs id hne
                          rw [hob] at hoi
                          rw [hx] at hq
                          cases hq
                          have hrd := ints_is hE hm hy
                          have hrb : (l.length + m.length) * (C.td E).bytes ≤ 140737488355328 := by
                            have : (((l.length + m.length) * (C.td E).bytes : Nat) : Int) ≤ 140737488355328 := by
                              rw [Int.natCast_mul, Int.natCast_add]; exact hr1
                            omega
                          obtain ⟨v', w', h6, h7, h8, h9, h10⟩ := run_append (ty := o.type) w 0 hP hT h4 _ l m hoi.1 hrd hrb (by omega) (Nat.zero_le _)
                          have hrun : (execOp a.eval o).run P w = .ok (.value v') w' := by
                            simp [execOp, hop, resolve, invoke, builtin, h6]
                          unfold Oper.wp
                          rw [hrun, Oper.upon_value]
                          exact hK _ _ _ _ (Sat.grow h hob hx h7 (fits_append hoi.2 hrd.2.1) h8 h10 h9 o.dst) hv
                      · exact hv.elim
                  · exact hv.elim
                · rename_i hid
                  rw [hid] at hx
                  simp only [SV.Is] at hx
                  rw [hA] at hv
                  split at hv
                  · rename_i m hm
                    cases h4 : Nat.beq (C.td e).size 1 with
                    | false => rw [h4] at hv; exact hv.elim
                    | true =>
                    cases h5 : isZero k (C.td e).zero with
                    | false => rw [h4, h5] at hv; exact hv.elim
                    | true =>
                      rw [h4, h5] at hv
                      have h4 := Nat.eq_of_beq_eq_true h4
                      have hT := td_ok ht (t := e) (by omega)
                      obtain ⟨⟨hr1, hr2⟩, hv⟩ := hv
                      have hr1 : (m.length : Int) * ((C.td e).bytes : Int) ≤ 140737488355328 := hr1
                      have hr2 : (m.length : Int) ≤ 281474976710656 := hr2
                      have hrd := ints_is hE hm hy
                      have hrb : (([] : List Int).length + m.length) * (C.td e).bytes ≤ 140737488355328 := by
                        have : (((m.length) * (C.td e).bytes : Nat) : Int) ≤ 140737488355328 := by
                          rw [Int.natCast_mul]; exact hr1
                        simpa using (by omega : m.length * (C.td e).bytes ≤ 140737488355328)
                      obtain ⟨v', w', h6, h7, h8, h9, h10⟩ := run_append (ty := o.type) w w.heap.size hP hT h4 (.slice none 0 0) [] m (OwnM.nil w w.heap.size e 1) hrd hrb (by simp; omega) (Nat.le_refl _)
                      have hrun : (execOp a.eval o).run P w = .ok (.value v') w' := by
                        simp [execOp, hop, resolve, invoke, builtin, hx.1, h6]
                      unfold Oper.wp
                      rw [hrun, Oper.upon_value]
                      have hb : Below w.heap.size w w' := (Below.refl _ _).grown h8 (Nat.le_refl _) (fun k hk => by cases hk)
                      have hvd : vdeep v' = [v'] := by
                        rcases h7.2 with ⟨rfl, _⟩ | ⟨g, c, cur, rfl, _⟩ <;> rfl
                      have hgv : Gv w0.g r s.objs.length w (.hdl s.objs.length, [(0, .irow e k m)]) v' w' := by
                        refine Gv.new1 hE hb ⟨hvd, h10⟩ ?_ ⟨by simpa using h7, hrd.2.1⟩
                        simp only [SV.Is]
                        exact ext_new _ hvd
                      exact hK _ _ _ _ (h.gv hgv o.dst) hv
                  · exact hv.elim
                · exact hv.elim
              · split at hv
                · rename_i T hT
                  rw [hA] at hv
                  obtain ⟨w1, l1, h1⟩ := h.asRow ht hA (T := T) (h.ev y)
                  obtain ⟨w2, l2, h2⟩ := h1.asRow ht hA (T := T) (h1.ev x)
                  simp only [frz2] at hv
                  exact appRow_wp h2 ht hA hP hop hv fun r' s' a' w' q1 hs' hk => hK' w2 _ _ _ _ (by rw [q1]; exact l1.trans l2) hs' hk
                · exact hv.elim
            · exact hv.elim
        · exact hv.elim
      case copy =>
        simp only [eff] at hv
        split at hv
        · rename_i x y t t' hxy htt
          have e1 : args = #[x, y] := Array.toList_inj.1 hxy
          have e2 : ats = #[t, t'] := Array.toList_inj.1 htt
          subst e1; subst e2
          split at hv
          · rename_i e hu
            split at hv
            · rename_i k hk
              cases h4 : Nat.beq (C.td e).size 1 with
              | false => rw [h4] at hv; exact hv.elim
              | true =>
              rw [h4] at hv
              simp only [cond_true, hA] at hv
              have h4 := Nat.eq_of_beq_eq_true h4
              have hE := h.env ht hA (P := P)
              have hx := h.ev x
              split at hv
              · rename_i m hm
                have hrd := ints_is hE hm (h.ev y)
                split at hv
                · rename_i id hid
                  rw [hid] at hx
                  simp only [SV.Is] at hx
                  split at hv
                  · rename_i E k' l hob
                    cases h3 : IntKind.same k k' with
                    | false => rw [h3] at hv; exact hv.elim
                    | true =>
                      rw [h3] at hv
                      obtain rfl := Go.Proofs.Ytekokhlldcmjfaa.same_eq h3
                      have hne : s.ob id ≠ .gone := by rw [hob]; simp
                      obtain ⟨q, hq, hoi⟩ := h.objs id hne
                      rw [hob] at hoi
                      have hown : OwnM w 0 E 1 q l.length (kv k l) := hoi.1
                      rw [hx] at hq
                      cases hq
                      have hform : ∃ ao c, a.eval x = .slice ao l.length c ∧ (ao = none → l.length = 0) ∧ ∀ ad, ao = some ad → ∃ b, ad = ⟨b, 0, none⟩ := by
                        rcases hown.2 with ⟨e1, e2⟩ | ⟨g, cap, cur, e1, _⟩
                        · exact ⟨none, 0, by rw [e1, e2], fun _ => e2, fun ad h => by cases h⟩
                        · exact ⟨_, cap, e1, (fun h => by cases h), (fun ad h => by cases h; exact ⟨g, rfl⟩)⟩
                      obtain ⟨ao, c, e1, e2, e3⟩ := hform
                      rw [e1] at hx
                      refine copy_row (c0 := ⟨.builtin .copy, #[x, y], #[t, t']⟩) (lo := 0) (len := (l.length : Int)) h ht hA hop hu h4 hob hrd hx (Int.le_refl _) (by omega) (by omega) (by rw [e1]; rfl) ?_ fun v w' hs' => hK _ _ _ _ hs' hv
                      cases ao with
                      | none => exact .inl (by have := e2 rfl; omega)
                      | some ad => obtain ⟨b, rfl⟩ := e3 ad rfl; exact .inr ⟨b, rfl, rfl⟩
                  · exact hv.elim
                · rename_i id lo len hid
                  rw [hid] at hx
                  simp only [SV.Is] at hx
                  obtain ⟨ao, n, c, q1, q2, q3, q4, a', c', q5, q6, q7, q8⟩ := hx
                  split at hv
                  · rename_i E k' l hob
                    cases h3 : IntKind.same k k' with
                    | false => rw [h3] at hv; exact hv.elim
                    | true =>
                      rw [h3] at hv
                      obtain rfl := Go.Proofs.Ytekokhlldcmjfaa.same_eq h3
                      exact copy_row (c0 := ⟨.builtin .copy, #[x, y], #[t, t']⟩) h ht hA hop hu h4 hob hrd q1 q2 q3 q4 q5 q8 fun v w' hs' => hK _ _ _ _ hs' hv
                  · exact hv.elim
                · exact hv.elim
              · exact hv.elim
            · exact hv.elim
          · exact hv.elim
        · exact hv.elim
      all_goals exact hexec _ hop hv
  all_goals exact hexec _ hop hv
theorem yield_of {ops : Array Oper} {j t : Nat} {u : Value} (hj : (ops[j]?).bind (·.dst) = some t) (ht : a.tmps[t]? = some u) : yielded ops a.tmps j = match u with | .bool b => some b | _ => none := by
  unfold yielded
  rw [hj]
  simp only [Option.bind_some, ht]
  cases u <;> rfl
theorem slot_at (h : Sat w0 r s a w) {t : Nat} {x : SV} (hx : s.slots.get t = x) (hne : x ≠ .any) : ∃ u, a.tmps[t]? = some u ∧ x.Is w0.g r u := by
  have h1 := h.slots.get t
  have h2 := h.slots.at (by rw [hx]; exact hne)
  rw [hx, Array.getD_eq_getD_getElem?, Array.getElem?_eq_getElem h2] at h1
  exact ⟨_, Array.getElem?_eq_getElem h2, h1⟩
/-- What a guard is asked. -/
theorem ask_sound (h : Sat w0 r s a w) {ops : Array Oper} {yes no : AS → Prop} (hv : ask s ops.toList o.guard yes no) {p : Prop}
    (hy : ∀ s', Sat w0 r s' a w → yes s' → Region.wanted o (yielded ops a.tmps) = true → p) (hn : ∀ s', Sat w0 r s' a w → no s' → Region.wanted o (yielded ops a.tmps) = false → p) : p := by
  unfold ask at hv
  cases hg : o.guard with
  | none =>
    rw [hg] at hv
    exact hy s h hv (by simp [Region.wanted, hg])
  | some q =>
    obtain ⟨j, want⟩ := q
    rw [hg] at hv
    simp only at hv
    split at hv
    · rename_i t ht
      have ht : (ops[j]?).bind (·.dst) = some t := by simpa using ht
      split at hv
      · rename_i b hb
        obtain ⟨u, hu, hx⟩ := slot_at h hb (by simp)
        simp only [SV.Is] at hx
        subst hx
        have hyl := yield_of (a := a) ht hu
        simp only at hyl
        cases hbw : (b == want) with
        | true =>
          rw [hbw] at hv
          have : b = want := by simpa using hbw
          exact hy s h hv (by simp [Region.wanted, hg, hyl, this])
        | false =>
          rw [hbw] at hv
          have : b ≠ want := by simpa using hbw
          exact hn s h hv (by simp [Region.wanted, hg, hyl, this])
      · rename_i b hb
        obtain ⟨u, hu, hx⟩ := slot_at h hb (by simp)
        simp only [SV.Is] at hx
        obtain ⟨rfl, _⟩ := hx
        have hyl := yield_of (a := a) ht hu
        simp only at hyl
        by_cases hbw : b = want
        · subst hbw
          exact hy _ (h.refine hu (by simp only [SV.Is])) (hv.1 rfl) (by simp [Region.wanted, hg, hyl])
        · have hbn : b = !want := by cases b <;> cases want <;> simp_all
          subst hbn
          exact hn _ (h.refine hu (by simp only [SV.Is])) (hv.2 rfl) (by simp [Region.wanted, hg, hyl])
      · rename_i hb
        obtain ⟨u, hu, hx⟩ := slot_at h hb (by simp)
        simp only [SV.Is] at hx
        obtain ⟨cs, rfl, _⟩ := hx
        have hyl := yield_of (a := a) ht hu
        simp only at hyl
        exact hn s h hv (by simp [Region.wanted, hg, hyl])
      · exact hv.elim
    · exact hv.elim
/-- A REGION'S OPERATIONS, IN THE TEXT'S ORDER. -/
theorem vcOps_wp (ht : ttOk P C.tt) (hA : C.A = std) (hG : GOk P C.G) (hI : IOk P C.fz C.I) {ops : Array Oper} {Q : Exit → Act → World → Prop} {K : AS → Prop} : ∀ (l : List Oper) (w0 : Fr) (r : Nat → Option Value) (s : AS) (a : Act) (w : World), Sat w0 r s a w → vcOps C ops.toList l K s →
    (∀ w1 r' s' a' w', Fr.le C.fz w0 w1 → Sat w1 r' s' a' w' → K s' → Q .normal a' w') → wpList P ops Q l a w
  | [], w0, r, s, a, w, h, hv, hQ => hQ w0 r s a w (Fr.le.refl _ _) h hv
  | o :: l, w0, r, s, a, w, h, hv, hQ => by
    unfold vcOps at hv
    refine ask_sound (o := o) h hv ?_ ?_
    · intro s' h' hv' hw
      unfold wpList
      rw [if_pos hw]
      exact .inl (eff_wp h' ht hA hG hI hv' fun w1 r' s'' a' w' hl h'' hv'' => vcOps_wp ht hA hG hI l w1 r' s'' a' w' h'' hv'' fun w2 r3 s3 a3 w3 hl2 => hQ w2 r3 s3 a3 w3 (hl.trans hl2))
    · intro s' h' hv' hw
      unfold wpList
      rw [if_neg (by rw [hw]; simp)]
      exact vcOps_wp ht hA hG hI l _ _ _ _ _ (h'.put (undef_is w0.g) o.dst) hv' hQ
end
end Go.Proofs.Ytekokhlldcmjfaa
