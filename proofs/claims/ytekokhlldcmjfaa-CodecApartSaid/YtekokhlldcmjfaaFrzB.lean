/- Slices that are written out, as rows; rows that grow; what a call leaves that nobody writes. No program in sight. -/
import Derived.Test.YtekokhlldcmjfaaFrz
namespace Go.Proofs.Ytekokhlldcmjfaa
open Go.RowKit Go.ChangeShapes Go.WideShapes Go.Deep
set_option linter.unusedVariables false
set_option linter.unusedSimpArgs false
mutual
theorem row_is {g : World} {r : Nat → Option Value} {id : Nat} : ∀ (x : SV) (u : Value), x.Is g r u → (x.row id).Is g r u
  | .v _, _, h => by simp only [SV.row, SV.Is] at h ⊢; exact h
  | .lit _, _, h => by simp only [SV.row, SV.Is] at h ⊢; exact h
  | .iimm _ _, _, h => by simp only [SV.row, SV.Is] at h ⊢; exact h
  | .imm _ _, _, h => by simp only [SV.row, SV.Is] at h ⊢; exact h
  | .ip l, u, h => by
    simp only [SV.row, SV.Is] at h ⊢
    obtain ⟨b, o', h1, h2⟩ := h
    exact ⟨b, o', h1, rowAt_is l b o' h2⟩
  | .ptr i _, _, h => by
    simp only [SV.row]
    cases hi : Nat.beq i id with
    | true => simp only [cond_true, SV.Is]
    | false => simp only [cond_false, SV.Is] at h ⊢; exact h
  | .elt i _, _, h => by
    simp only [SV.row]
    cases hi : Nat.beq i id with
    | true => simp only [cond_true, SV.Is]
    | false => simp only [cond_false, SV.Is] at h ⊢; exact h
  | .hdl i, u, h => by simp only [SV.row, SV.Is] at h ⊢; exact h
  | .sub i a b, u, h => by
    simp only [SV.row]
    cases hi : Nat.beq i id with
    | true => simp only [cond_true, SV.Is]
    | false => simp only [cond_false, SV.Is] at h ⊢; exact h
  | .csl i _, _, h => by
    simp only [SV.row]
    cases hi : Nat.beq i id with
    | true => simp only [cond_true, SV.Is] at h ⊢; exact h.1
    | false => simp only [cond_false, SV.Is] at h ⊢; exact h
  | .sel i _ _ _, _, h => by
    simp only [SV.row]
    cases hi : Nat.beq i id with
    | true => simp only [cond_true, SV.Is]
    | false => simp only [cond_false, SV.Is] at h ⊢; exact h
  | .psl i _ _, _, h => by
    simp only [SV.row]
    cases hi : Nat.beq i id with
    | true => simp only [cond_true, SV.Is]
    | false => simp only [cond_false, SV.Is] at h ⊢; exact h
  | .clo _ l, u, h => by
    simp only [SV.row, SV.Is] at h ⊢
    obtain ⟨cs, h1, h2⟩ := h
    exact ⟨cs, h1, rowL_is l _ h2⟩
  | .agg l, u, h => by
    simp only [SV.row, SV.Is] at h ⊢
    obtain ⟨cs, h1, h2⟩ := h
    exact ⟨cs, h1, rowL_is l _ h2⟩
  | .tup l, u, h => by
    simp only [SV.row, SV.Is] at h ⊢
    obtain ⟨cs, h1, h2⟩ := h
    exact ⟨cs, h1, rowL_is l _ h2⟩
  | .any, _, _ => by simp only [SV.row, SV.Is]
theorem rowAt_is {g : World} {r : Nat → Option Value} {id : Nat} : ∀ (l : List SV) (b o' : Nat), IsAt g r l b o' → IsAt g r (rowL id l) b o'
  | [], _, _, _ => by simp only [rowL, IsAt]
  | x :: l, b, o', h => by
    simp only [rowL, IsAt] at h ⊢
    obtain ⟨⟨u, h1, h2⟩, h3⟩ := h
    exact ⟨⟨u, h1, row_is x u h2⟩, rowAt_is l b (o' + 1) h3⟩
theorem rowL_is {g : World} {r : Nat → Option Value} {id : Nat} : ∀ (l : List SV) (us : List Value), LsIs g r l us → LsIs g r (rowL id l) us
  | [], _, h => by simp only [rowL, LsIs] at h ⊢; exact h
  | x :: l, us, h => by
    simp only [rowL, LsIs] at h ⊢
    obtain ⟨u, us', h1, h2, h3⟩ := h
    exact ⟨u, us', h1, row_is x u h2, rowL_is l us' h3⟩
end
theorem row_obj {g : World} {r : Nat → Option Value} {id : Nat} {w : World} {base : Nat} {h : Value} : ∀ {p : SO}, p.Is g r w base h → (SO.row id p).Is g r w base h
  | .cells t l, ⟨b, cs, h1, h2, h3, h4⟩ => ⟨b, cs, h1, h2, h3, rowL_is l _ h4⟩
  | .irow E k l, ho => ho
  | .srow E T d, ho => ho
  | .gone, _ => trivial
section
variable {P : Program} {C : Cx} {w0 : Fr} {r : Nat → Option Value} {s : AS} {a : Act} {w : World}
/-- A slice that was written out, all of whose cells are data, is a row. -/
theorem Sat.row (ht : ttOk P C.tt) (hA : C.A = std) (h : Sat w0 r s a w) {id n : Nat} {E : TypeId} {l : List SV} {T : Ty} {ds : List Dat} {b : Nat} (hob : s.ob id = .cells E l) (hq : r id = some (.slice (some ⟨b, 0, none⟩) n n)) (hds : datRows std (fun _ => .gone) T n l = some ds) (hT : 1 ≤ T.size) (hl : l.length = n * T.size) (hn : n ≤ 16777216) :
    Sat w0 r ⟨s.slots.map (SV.row id), (s.objs.map (SO.row id)).set id (.srow E T (.list ds)), s.sav.map (Fm.map (SV.row id))⟩ a w := by
  have hne : s.ob id ≠ .gone := by rw [hob]; simp
  have hid := ob_lt0 id hne
  obtain ⟨q, hq', hoi⟩ := h.objs id hne
  rw [hq] at hq'
  cases hq'
  rw [hob] at hoi
  obtain ⟨b', cs, hb, _, hhp, hcl⟩ := hoi
  cases hb
  have hobk : ∀ i, (⟨s.slots.map (SV.row id), (s.objs.map (SO.row id)).set id (.srow E T (.list ds)), s.sav.map (Fm.map (SV.row id))⟩ : AS).ob i = if i = id then .srow E T (.list ds) else SO.row id (s.ob i) := by
    intro i
    unfold AS.ob
    simp only [List.getD_eq_getElem?_getD, List.getElem?_set, List.getElem?_map, List.length_map]
    by_cases e : id = i
    · subst e; rw [if_pos rfl, if_pos hid, if_pos rfl]; rfl
    · rw [if_neg e, if_neg (fun e' => e e'.symm)]
      cases s.objs[i]? <;> rfl
  have hkne : ∀ i, (if i = id then SO.srow E T (.list ds) else SO.row id (s.ob i)) ≠ .gone → s.ob i ≠ .gone := by
    intro i hi
    by_cases e : i = id
    · subst e; exact hne
    · rw [if_neg e] at hi
      intro e2
      rw [e2] at hi
      exact hi rfl
  have hfm : ∀ (t : Fm) (vs : Array Value), FmIs w0.g r t vs → FmIs w0.g r (t.map (SV.row id)) vs := fun t vs hh => ⟨fun i => by rw [Fm.get_map _ rfl]; exact row_is _ _ (hh.get i), fun i hi => hh.lt i (by simpa only [Fm.has_map] using hi)⟩
  have E2 : Env P C w0.g r s.objs.length 0 w0.g (fun _ => .gone) := ⟨ht, hA, h.r1, h.rn, SubW.refl _, fun id hh => absurd rfl hh⟩
  obtain ⟨h5, h6⟩ := datRows_is E2 T n l _ ds hds hcl
  have hcs : cs.size = n * T.size := by rw [← Array.length_toList, lsIs_len hcl, hl]
  refine ⟨hfm _ _ h.slots, h.defs, h.below, h.gw, ?_, h.r1, ?_, ?_, ?_, h.sav.imp fun x u hx => hfm _ _ hx⟩
  · intro i hi
    refine h.rn i ?_
    simpa using hi
  · intro i hi
    rw [hobk] at hi ⊢
    have hi2 := hkne i hi
    by_cases e : i = id
    · subst e
      rw [if_pos rfl]
      refine ⟨_, hq, hT, ds, cs.toList, rfl, ⟨by rw [Array.length_toList, hcs, h5], .inr ⟨b, n, cs, by rw [h5], Nat.zero_le _, .of hhp, by omega, by unfold maxLen; omega, hcs, ?_⟩⟩, fun i u hu => (h6 i u hu).1⟩
      rw [h5, ← hcs, ← Array.length_toList, List.take_length]
    · rw [if_neg e]
      obtain ⟨qi, h3, h4⟩ := h.objs i hi2
      exact ⟨qi, h3, row_obj h4⟩
  · intro i qi b hi hri hbi
    rw [hobk] at hi
    exact h.mine i qi b (hkne i hi) hri hbi
  · intro i j hi hj b hij hgi hgj hri hrj hbi hbj
    rw [hobk] at hgi hgj
    exact h.apart i j hi hj b hij (hkne i hgi) (hkne j hgj) hri hrj hbi hbj
theorem Sat.toRow (ht : ttOk P C.tt) (hA : C.A = std) (h : Sat w0 r s a w) {id n : Nat} {T : Ty} {u : Value} (hc : (SV.csl id n).Is w0.g r u) : ∃ w1, Fr.le true w0 w1 ∧ Sat w1 r (s.toRow std id n T) a w := by
  unfold AS.toRow
  split
  · rename_i E l hob
    obtain ⟨w1, hle, h1⟩ := h.frzs (hdlIds l)
    split
    · rename_i E' l' hob'
      split
      · rename_i ds hds
        cases h2 : Nat.ble 1 T.size with
        | false => exact ⟨w1, hle, h1⟩
        | true =>
        cases h3 : Nat.beq l'.length (n * T.size) with
        | false => exact ⟨w1, hle, h1⟩
        | true =>
        cases h4 : Nat.ble n 16777216 with
        | false => exact ⟨w1, hle, h1⟩
        | true =>
          simp only [Bool.and_self, cond_true]
          simp only [SV.Is] at hc
          obtain ⟨hq, b, rfl⟩ := hc
          exact ⟨w1, hle, h1.row ht hA hob' hq hds (nble h2) (Nat.eq_of_beq_eq_true h3) (nble h4)⟩
      · exact ⟨w1, hle, h1⟩
    · exact ⟨w1, hle, h1⟩
  · exact ⟨w0, Fr.le.refl _ _, h⟩
theorem Sat.asRow (ht : ttOk P C.tt) (hA : C.A = std) (h : Sat w0 r s a w) {T : Ty} {x : SV} {u : Value} (hx : x.Is w0.g r u) : ∃ w1, Fr.le true w0 w1 ∧ Sat w1 r (s.asRow std T x) a w := by
  unfold AS.asRow
  split
  · exact h.toRow ht hA hx
  · exact ⟨w0, Fr.le.refl _ _, h⟩
/-- What a call leaves that nobody writes. -/
structure GvF (g g' : World) (w : World) (x : SV × List (Nat × SO)) (v : Value) (w' : World) : Prop where
  sub : SubW g g'
  gw : SubW g' w'
  new : ∀ b o u, g'.cell? ⟨b, o, none⟩ = some u → g.cell? ⟨b, o, none⟩ = some u ∨ w.heap.size ≤ b
  gv : Gv g' noR 0 w x v w'
  sep : ∀ (k : Nat) (o : Nat × SO) (u : Value) (b : Nat), x.2[k]? = some o → o.2 ≠ .gone → (vdeep v)[o.1]? = some u → blk u = some b → ∀ o', g'.cell? ⟨b, o', none⟩ = none
theorem Sat.gvF (h : Sat w0 r s a w) {g' : World} {x : SV × List (Nat × SO)} {v : Value} {w' : World} (hv : GvF w0.g g' w x v w') :
    Fr.le true w0 ⟨w0.w0, w0.F, g', w0.sv⟩ ∧ Sat ⟨w0.w0, w0.F, g', w0.sv⟩ (ext r s.objs.length (shOs s.objs.length x.2) v) (s.new (shOs s.objs.length x.2)) a w' ∧ (x.1.shift s.objs.length).Is g' (ext r s.objs.length (shOs s.objs.length x.2) v) v := by
  have hs := hv.gv.shift (SubW.refl g') (r := r) (n := s.objs.length)
  have hsub := ext_sub h.rn (shOs s.objs.length x.2) v
  have hle := h.below.size
  have hcell : ∀ b, b < w.heap.size → ∀ o, w0.g.cell? ⟨b, o, none⟩ = none → g'.cell? ⟨b, o, none⟩ = none := by
    intro b hb o hn
    cases hc : g'.cell? ⟨b, o, none⟩ with
    | none => rfl
    | some u =>
      rcases hv.new b o u hc with h1 | h1
      · rw [h1] at hn; cases hn
      · omega
  refine ⟨⟨rfl, rfl, rfl, hv.sub, fun b o u hu => ?_, fun e => by cases e⟩, ⟨h.slots.sub hv.sub hsub, h.defs, ?_, hv.gw, ?_, ?_, ?_, ?_, ?_, h.sav.sub hv.sub hsub⟩, hs.sv⟩
  · rcases hv.new b o u hu with h1 | h1
    · exact .inl h1
    · exact .inr (.inl (by omega))
  · have := h.below.below hs.below
    exact ⟨this.os, this.tape, this.output, this.size, this.block⟩
  · intro id hid
    have hid : s.objs.length + (shOs s.objs.length x.2).length ≤ id := by simpa [AS.new] using hid
    unfold ext
    rw [if_neg (by omega), List.getElem?_eq_none (by omega)]
  · intro i q hq
    unfold ext at hq
    by_cases hi : i < s.objs.length
    · rw [if_pos hi] at hq; exact h.r1 i q hq
    · rw [if_neg hi] at hq
      cases ho : (shOs s.objs.length x.2)[i - s.objs.length]? with
      | none => rw [ho] at hq; cases hq
      | some o =>
        rw [ho] at hq
        obtain ⟨hh, h1, h2, h3⟩ := hs.objs _ o ho
        simp only at hq
        rw [h1] at hq
        cases hq
        exact h2
  · intro id hne
    rw [ob_new] at hne ⊢
    by_cases hi : id < s.objs.length
    · rw [if_pos hi] at hne ⊢
      obtain ⟨q, h1, h2⟩ := h.objs id hne
      exact ⟨q, hsub _ _ h1, h2.sub hv.sub hsub hs.below⟩
    · rw [if_neg hi] at hne ⊢
      cases ho : (shOs s.objs.length x.2)[id - s.objs.length]? with
      | none => rw [ho] at hne; exact absurd rfl hne
      | some o =>
        simp only
        obtain ⟨hh, h1, h2, h3⟩ := hs.objs _ o ho
        refine ⟨hh, ?_, h3.down (Nat.zero_le _)⟩
        unfold ext
        rw [if_neg hi, ho]
        exact h1
  · intro id q b hne hq hb
    rw [ob_new] at hne
    unfold ext at hq
    by_cases hi : id < s.objs.length
    · rw [if_pos hi] at hne hq
      have h1 := h.mine id q b hne hq hb
      obtain ⟨q', h2, h3⟩ := h.objs id hne
      rw [hq] at h2
      cases h2
      exact ⟨h1.1, fun o => hcell b (h3.lt hne b hb).2 o (h1.2 o)⟩
    · rw [if_neg hi] at hne hq
      cases ho : (shOs s.objs.length x.2)[id - s.objs.length]? with
      | none => rw [ho] at hq; cases hq
      | some o =>
        rw [ho] at hne hq
        obtain ⟨hh, h1, h2, h3⟩ := hs.objs _ o ho
        simp only at hq
        rw [h1] at hq
        cases hq
        have := (h3.lt hne b hb).1
        refine ⟨.inl (show w0.w0.heap.size ≤ b by omega), fun o' => ?_⟩
        simp only [shOs, List.getElem?_map] at ho
        obtain ⟨o2, h4, rfl⟩ := Option.map_eq_some_iff.1 ho
        refine hv.sep _ o2 _ b h4 ?_ h1 hb o'
        intro e
        apply hne
        simp only [e, SO.shift]
  · intro i j hi hj b hne hgi hgj hri hrj hbi hbj
    rw [ob_new] at hgi hgj
    unfold ext at hri hrj
    have old : ∀ k q, k < s.objs.length → s.ob k ≠ .gone → r k = some q → ∀ b, blk q = some b → b < w.heap.size := by
      intro k q hk hg hr b hb
      obtain ⟨q', h1, h2⟩ := h.objs k hg
      rw [hr] at h1
      cases h1
      exact (h2.lt hg b hb).2
    have new : ∀ k q o, (shOs s.objs.length x.2)[k - s.objs.length]? = some o → o.2 ≠ .gone → (vdeep v)[o.1]? = some q → ∀ b, blk q = some b → w.heap.size ≤ b := by
      intro k q o ho hg hq b hb
      obtain ⟨hh, h1, h2, h3⟩ := hs.objs _ o ho
      rw [hq] at h1
      cases h1
      exact (h3.lt hg b hb).1
    by_cases hi' : i < s.objs.length
    · rw [if_pos hi'] at hgi hri
      by_cases hj' : j < s.objs.length
      · rw [if_pos hj'] at hgj hrj
        exact h.apart i j hi hj b hne hgi hgj hri hrj hbi hbj
      · rw [if_neg hj'] at hgj hrj
        cases ho : (shOs s.objs.length x.2)[j - s.objs.length]? with
        | none => rw [ho] at hrj; cases hrj
        | some o =>
          rw [ho] at hrj hgj
          have h1 := old i hi hi' hgi hri b hbi
          have h2 := new j hj o ho hgj hrj b hbj
          omega
    · rw [if_neg hi'] at hgi hri
      cases hoi : (shOs s.objs.length x.2)[i - s.objs.length]? with
      | none => rw [hoi] at hri; cases hri
      | some oi =>
        rw [hoi] at hri hgi
        have h2 := new i hi oi hoi hgi hri b hbi
        by_cases hj' : j < s.objs.length
        · rw [if_pos hj'] at hgj hrj
          have h1 := old j hj hj' hgj hrj b hbj
          omega
        · rw [if_neg hj'] at hgj hrj
          cases ho : (shOs s.objs.length x.2)[j - s.objs.length]? with
          | none => rw [ho] at hrj; cases hrj
          | some o =>
            rw [ho] at hrj hgj
            exact hs.apart _ _ oi o hi hj b hoi ho (by omega) hri hrj hbi hbj
/-! ### Rows that grow -/
theorem run_appendN (w : World) (base : Nat) {t e ty : TypeId} {d : TD} (hP : P.underlying t = some (.slice e)) (hT : TDok P e d) (hs : 1 ≤ d.size) (v : Value) (n : Nat) (xs : List Value) (hown : OwnM w base e d.size v n xs) {y : Value} {m : Nat} {ys : List Value}
    (hy : ∃ ao cap, y = .slice ao m cap ∧ ys.length = m * d.size ∧ (m = 0 ∨ ∃ b off, ao = some ⟨b, off, none⟩ ∧ ∀ j u, ys[j]? = some u → w.cell? ⟨b, off + j, none⟩ = some u)) (h1' : ∀ u ∈ ys, u.oneCell' = true)
    (hroom : (n + m) * d.bytes ≤ 140737488355328) (hmax : n + m ≤ 281474976710656) (hbase : base ≤ w.heap.size) :
    ∃ v' w', (Builtin.append_ #[t, t] ty #[v, y]).run P w = .ok v' w' ∧ OwnM w' base e d.size v' (n + m) (xs ++ ys) ∧ w.grownBy w' v.ownBlock ∧ (∀ b, blk v' = some b → some b = v.ownBlock ∨ w.heap.size ≤ b) ∧ one1 v' := by
  obtain ⟨i, hi, h1, h2, h3⟩ := hT.info
  have hzc : d.zv.cells.size = d.size := by rw [← Array.length_toList, hT.2.2.2.1, hT.2.2.1]
  obtain ⟨ao, cap, rfl, hyl, hh⟩ := hy
  have fin : ∀ (v' : Value) (w' : World), OwnM w' base e d.size v' (n + m) (xs ++ ys) → one1 v' := by
    intro v' w' ho
    rcases ho.2 with ⟨rfl, _⟩ | ⟨g, c, cur, rfl, _⟩ <;> exact ⟨rfl, rfl⟩
  by_cases hm0 : m = 0
  · subst hm0
    have hys : ys = [] := List.eq_nil_of_length_eq_zero (by omega)
    subst hys
    have hl : ∀ (x : Addr), (loadCells x 0).run P w = .ok #[] w := fun x => by simpa using run_loadCells_list (P := P) w x [] (by simp)
    have hrun : (Builtin.append_ #[t, t] ty #[v, .slice ao 0 cap]).run P w = .ok v w := by
      rcases hown.2 with ⟨rfl, h0⟩ | ⟨g, c, cur, rfl, hb, hg, hc, _⟩
      · cases ao with
        | none => simp [Builtin.append_, run_underlying hP, sizeOf, typeInfo, hi, Builtin.lenOf, Builtin.firstCells]
        | some ad => simp [Builtin.append_, run_underlying hP, sizeOf, typeInfo, hi, Builtin.lenOf, Builtin.firstCells, hl]
      · cases ao with
        | none => simp [Builtin.append_, run_underlying hP, sizeOf, typeInfo, hi, Builtin.lenOf, Builtin.firstCells, hc, storeCells]
        | some ad => simp [Builtin.append_, run_underlying hP, sizeOf, typeInfo, hi, Builtin.lenOf, Builtin.firstCells, hc, storeCells, hl]
    refine ⟨v, w, hrun, by simpa using hown, ⟨rfl, rfl, rfl, Nat.le_refl _, fun _ _ _ => rfl⟩, fun b hb => .inl ?_, fin v w (by simpa using hown)⟩
    cases v <;> first | (cases hb; done) | skip
    · rcases hown.2 with ⟨he, _⟩ | ⟨g, c, cur, he, _⟩ <;> cases he
    · rename_i ao n c
      cases ao with
      | none => cases hb
      | some ad => exact hb.symm
  · rcases hh with hh | ⟨b, off, rfl, hh⟩
    · exact absurd hh hm0
    · have hnews : ∀ j u, ys[j]? = some u → w.cell? ((⟨b, off, none⟩ : Addr).add j) = some u := by
        intro j u hu
        rw [Addr.add_lit]
        exact hh j u hu
      obtain ⟨v', w', hr, ho, hg, hv⟩ := run_appendM (P := P) w base t ty e i d.zv d.size d.bytes hP hi h3 h1 h2 hzc (by omega) v n xs hown ⟨b, off, none⟩ m cap ys hyl hnews h1' (by unfold maxLen; omega) hroom hbase
      refine ⟨v', w', hr, ho, hg, ?_, fin v' w' ho⟩
      intro b' hb'
      rcases ho.2 with ⟨rfl, _⟩ | ⟨g, c, cur, rfl, _⟩
      · cases hb'
      · exact hv b' hb'
end
end Go.Proofs.Ytekokhlldcmjfaa
