/- Memory of the call's own that nobody writes any more is as memory that nobody ever writes. No program in sight. -/
import Derived.Test.YtekokhlldcmjfaaSnd7
namespace Go.Proofs.Ytekokhlldcmjfaa
open Go.RowKit Go.ChangeShapes Go.WideShapes Go.Deep
set_option linter.unusedVariables false
set_option linter.unusedSimpArgs false
/-- More is known of what nobody writes. -/
structure Fr.le (z : Bool) (w0 w1 : Fr) : Prop where
  w : w1.w0 = w0.w0
  F : w1.F = w0.F
  sv : w1.sv = w0.sv
  sub : SubW w0.g w1.g
  new : ∀ b o v, w1.g.cell? ⟨b, o, none⟩ = some v → w0.g.cell? ⟨b, o, none⟩ = some v ∨ w0.mine b
  no : z = false → w1.g = w0.g
theorem Fr.le.refl (z : Bool) (f : Fr) : Fr.le z f f := ⟨rfl, rfl, rfl, SubW.refl _, fun _ _ _ h => .inl h, fun _ => rfl⟩
theorem Fr.le.trans {z : Bool} {a b c : Fr} (h : Fr.le z a b) (k : Fr.le z b c) : Fr.le z a c := by
  refine ⟨k.w.trans h.w, k.F.trans h.F, k.sv.trans h.sv, h.sub.trans k.sub, fun b' o v hv => ?_, fun e => (k.no e).trans (h.no e)⟩
  rcases k.new b' o v hv with h1 | h1
  · exact h.new b' o v h1
  · right
    unfold Fr.mine at h1 ⊢
    rw [h.w, h.F] at h1
    exact h1
theorem Fr.le.eq {a b : Fr} (h : Fr.le false a b) : b = a := by
  obtain ⟨h1, h2, h3, _, _, h4⟩ := h
  cases a; cases b
  simp only at h1 h2 h3 h4
  rw [h1, h2, h3, h4 trivial]
theorem Fr.le.up {z : Bool} {a b : Fr} (h : Fr.le z a b) (z' : Bool) (hz : z' = false → z = false) : Fr.le z' a b := ⟨h.w, h.F, h.sv, h.sub, h.new, fun e => h.no (hz e)⟩
section
open Classical in
/-- What nobody writes: all but what is live, of the call's own; what was known of the rest. -/
noncomputable def ghost (w0 : Fr) (w : World) (live : Nat → Prop) : World :=
  { w with heap := Array.ofFn (n := w.heap.size) fun i => if live i.1 then .cells #[] 0 else if w0.mine i.1 then w.heap[i] else (w0.g.heap[i.1]?).getD (.cells #[] 0) }
end
theorem ghost_cell {w0 : Fr} {w : World} {live : Nat → Prop} {b o : Nat} {v : Value} (h : (ghost w0 w live).cell? ⟨b, o, none⟩ = some v) : ¬ live b ∧ ((w0.mine b ∧ w.cell? ⟨b, o, none⟩ = some v) ∨ (¬ w0.mine b ∧ w0.g.cell? ⟨b, o, none⟩ = some v)) := by
  unfold World.cell? ghost at h
  simp only [Array.getElem?_ofFn] at h
  by_cases hb : b < w.heap.size
  · simp only [hb, dite_true] at h
    by_cases hl : live b
    · simp [hl] at h
    · refine ⟨hl, ?_⟩
      by_cases hm : w0.mine b
      · left
        refine ⟨hm, ?_⟩
        simp only [hl, hm, if_true, if_false] at h
        unfold World.cell?
        rw [Array.getElem?_eq_getElem hb]
        exact h
      · right
        refine ⟨hm, ?_⟩
        simp only [hl, hm, if_false] at h
        unfold World.cell?
        cases hg : w0.g.heap[b]? with
        | none => rw [hg] at h; simp at h
        | some ob => rw [hg] at h; exact h
  · simp [hb] at h
theorem ghost_of {w0 : Fr} {w : World} {live : Nat → Prop} {b o : Nat} {v : Value} (hl : ¬ live b) (h : (w0.mine b ∧ w.cell? ⟨b, o, none⟩ = some v) ∨ (¬ w0.mine b ∧ w0.g.cell? ⟨b, o, none⟩ = some v ∧ w.cell? ⟨b, o, none⟩ = some v)) : (ghost w0 w live).cell? ⟨b, o, none⟩ = some v := by
  have hb : b < w.heap.size := by
    rcases h with h | h
    · exact World.block_lt_of_cell? w _ h.2
    · exact World.block_lt_of_cell? w _ h.2.2
  unfold World.cell? ghost
  simp only [Array.getElem?_ofFn, hb, dite_true, hl, if_false]
  rcases h with ⟨hm, h⟩ | ⟨hm, h, _⟩
  · simp only [hm, if_true]
    unfold World.cell? at h
    rw [Array.getElem?_eq_getElem hb] at h
    exact h
  · simp only [hm, if_false]
    unfold World.cell? at h
    cases hg : w0.g.heap[b]? with
    | none => rw [hg] at h; cases h
    | some ob => rw [hg] at h; exact h
/-- A row that is read is read where its block is the same. -/
theorem holds_blk {w g : World} {v : Value} {xs : List Value} (h : Holds w v xs) (hc : ∀ b, blk v = some b → ∀ o u, w.cell? ⟨b, o, none⟩ = some u → g.cell? ⟨b, o, none⟩ = some u) : Holds g v xs := by
  obtain ⟨ao, cap, rfl, h1, h2, h⟩ := h
  refine ⟨ao, cap, rfl, h1, h2, ?_⟩
  rcases h with h | ⟨b, off, rfl, h⟩
  · exact .inl h
  · exact .inr ⟨b, off, rfl, fun i u hu => hc b rfl _ _ (h i u hu)⟩
theorem srow_rdG {g w w' : World} {r : Nat → Option Value} {base : Nat} {E' : TypeId} {T : Ty} {d : Dat} {u : Value} (hg : SubW g w') (hc : ∀ b, blk u = some b → ∀ o v, w.cell? ⟨b, o, none⟩ = some v → w'.cell? ⟨b, o, none⟩ = some v) (h : (SO.srow E' T d).Is g r w base u) : Rd maxLen w' (.sl T) [u] d := by
  obtain ⟨hsz, ds, cl, rfl, hown, hrd⟩ := h
  rw [Rd]
  rcases hown.2 with ⟨hx, e0⟩ | ⟨b, cap, cur, hx, _, hb, h1, h2, h3, h4⟩
  · obtain rfl := List.eq_nil_of_length_eq_zero e0
    exact ⟨none, 0, [], by rw [hx]; rfl, rfl, Nat.le_refl _, Nat.zero_le _, .inl rfl⟩
  · refine ⟨_, cap, ds, by rw [hx], rfl, h1, h2, .inr ⟨b, 0, rfl, fun i q hq => ?_⟩⟩
    have hi := (List.getElem?_eq_some_iff.1 hq).1
    have hlen : ((cl.drop (i * T.size)).take T.size).length = T.size := by
      have := hown.1
      have h5 := Nat.mul_le_mul_right T.size (show i + 1 ≤ ds.length from hi)
      rw [Nat.succ_mul] at h5
      rw [List.length_take, List.length_drop]
      omega
    refine ⟨_, hlen, fun j v hj => ?_, rd_sub hg _ _ _ (hrd i q hq)⟩
    rw [List.getElem?_take] at hj
    split at hj
    · rw [List.getElem?_drop] at hj
      have := hown.cells (g := b) (by rw [hx]; rfl) _ _ hj
      rw [Addr.add_lit] at this
      exact hc b (by rw [hx]; rfl) _ _ this
    · cases hj
mutual
theorem frz_is {g g' : World} {r : Nat → Option Value} {id : Nat} {o : SO} (hg : SubW g g') (hh : ∀ q, r id = some q → (frzHdl o).Is g' r q) (hs : ∀ a b u, (SV.sub id a b).Is g r u → (frzSub std o a b).Is g' r u) : ∀ (x : SV) (u : Value), x.Is g r u → (x.frz std id o).Is g' r u
  | .v _, _, h => by simp only [SV.frz, SV.Is] at h ⊢; exact h
  | .lit _, _, h => by simp only [SV.frz, SV.Is] at h ⊢; exact h
  | .iimm _ _, _, h => by simp only [SV.frz, SV.Is] at h ⊢; exact reads_sub hg h
  | .imm _ _, _, h => by simp only [SV.frz, SV.Is] at h ⊢; exact rd_sub hg _ _ _ h
  | .ip l, u, h => by
    simp only [SV.frz, SV.Is] at h ⊢
    obtain ⟨b, o', h1, h2⟩ := h
    exact ⟨b, o', h1, frzAt_is hg hh hs l b o' h2⟩
  | .ptr i _, _, h => by
    simp only [SV.frz]
    cases hi : Nat.beq i id with
    | true => simp only [cond_true, SV.Is]
    | false => simp only [cond_false, SV.Is] at h ⊢; exact h
  | .elt i _, _, h => by
    simp only [SV.frz]
    cases hi : Nat.beq i id with
    | true => simp only [cond_true, SV.Is]
    | false => simp only [cond_false, SV.Is] at h ⊢; exact h
  | .hdl i, u, h => by
    simp only [SV.frz]
    cases hi : Nat.beq i id with
    | true =>
      obtain rfl := Nat.eq_of_beq_eq_true hi
      simp only [SV.Is] at h
      exact hh u h
    | false => simp only [SV.Is] at h ⊢; exact h
  | .sub i a b, u, h => by
    simp only [SV.frz]
    cases hi : Nat.beq i id with
    | true =>
      obtain rfl := Nat.eq_of_beq_eq_true hi
      exact hs a b u h
    | false => simp only [SV.Is] at h ⊢; exact h
  | .csl i _, _, h => by
    simp only [SV.frz]
    cases hi : Nat.beq i id with
    | true => simp only [cond_true, SV.Is]
    | false => simp only [cond_false, SV.Is] at h ⊢; exact h
  | .sel i _ _ _, _, h => by
    simp only [SV.frz]
    cases hi : Nat.beq i id with
    | true => simp only [cond_true, SV.Is]
    | false => simp only [cond_false, SV.Is] at h ⊢; exact h
  | .psl i _ _, _, h => by
    simp only [SV.frz]
    cases hi : Nat.beq i id with
    | true => simp only [cond_true, SV.Is]
    | false => simp only [cond_false, SV.Is] at h ⊢; exact h
  | .clo _ l, u, h => by
    simp only [SV.frz, SV.Is] at h ⊢
    obtain ⟨cs, h1, h2⟩ := h
    exact ⟨cs, h1, frzL_is hg hh hs l _ h2⟩
  | .agg l, u, h => by
    simp only [SV.frz, SV.Is] at h ⊢
    obtain ⟨cs, h1, h2⟩ := h
    exact ⟨cs, h1, frzL_is hg hh hs l _ h2⟩
  | .tup l, u, h => by
    simp only [SV.frz, SV.Is] at h ⊢
    obtain ⟨cs, h1, h2⟩ := h
    exact ⟨cs, h1, frzL_is hg hh hs l _ h2⟩
  | .any, _, _ => by simp only [SV.frz, SV.Is]
theorem frzAt_is {g g' : World} {r : Nat → Option Value} {id : Nat} {o : SO} (hg : SubW g g') (hh : ∀ q, r id = some q → (frzHdl o).Is g' r q) (hs : ∀ a b u, (SV.sub id a b).Is g r u → (frzSub std o a b).Is g' r u) : ∀ (l : List SV) (b o' : Nat), IsAt g r l b o' → IsAt g' r (frzL std id o l) b o'
  | [], _, _, _ => by simp only [frzL, IsAt]
  | x :: l, b, o', h => by
    simp only [frzL, IsAt] at h ⊢
    obtain ⟨⟨u, h1, h2⟩, h3⟩ := h
    exact ⟨⟨u, hg _ _ _ h1, frz_is hg hh hs x u h2⟩, frzAt_is hg hh hs l b (o' + 1) h3⟩
theorem frzL_is {g g' : World} {r : Nat → Option Value} {id : Nat} {o : SO} (hg : SubW g g') (hh : ∀ q, r id = some q → (frzHdl o).Is g' r q) (hs : ∀ a b u, (SV.sub id a b).Is g r u → (frzSub std o a b).Is g' r u) : ∀ (l : List SV) (us : List Value), LsIs g r l us → LsIs g' r (frzL std id o l) us
  | [], _, h => by simp only [frzL, LsIs] at h ⊢; exact h
  | x :: l, us, h => by
    simp only [frzL, LsIs] at h ⊢
    obtain ⟨u, us', h1, h2, h3⟩ := h
    exact ⟨u, us', h1, frz_is hg hh hs x u h2, frzL_is hg hh hs l us' h3⟩
end
theorem frz_obj {g g' : World} {r : Nat → Option Value} {id : Nat} {o : SO} (hg : SubW g g') (hh : ∀ q, r id = some q → (frzHdl o).Is g' r q) (hs : ∀ a b u, (SV.sub id a b).Is g r u → (frzSub std o a b).Is g' r u) {w : World} {base : Nat} {h : Value} : ∀ {p : SO}, p.Is g r w base h → (SO.frz std id o p).Is g' r w base h
  | .cells t l, ⟨b, cs, h1, h2, h3, h4⟩ => ⟨b, cs, h1, h2, h3, frzL_is hg hh hs l _ h4⟩
  | .irow E k l, ho => ho
  | .srow E T d, ⟨h1, ds, cl, h2, h3, h4⟩ => ⟨h1, ds, cl, h2, h3, fun i u hu => rd_sub hg _ _ _ (h4 i u hu)⟩
  | .gone, _ => trivial
section
variable {P : Program} {C : Cx} {w0 : Fr} {r : Nat → Option Value} {s : AS} {a : Act} {w : World}
theorem ob_lt0 (id : Nat) (h : s.ob id ≠ .gone) : id < s.objs.length := by
  rcases Nat.lt_or_ge id s.objs.length with h1 | h1
  · exact h1
  · unfold AS.ob at h
    rw [List.getD_eq_getElem?_getD, List.getElem?_eq_none h1] at h
    exact absurd rfl h
/-- All that is live, but one, is set aside: the rest is what nobody writes. -/
theorem Sat.frzO (h : Sat w0 r s a w) {id : Nat} {o : SO} (hob : s.ob id = o) (hrow : (∃ E k l, o = .irow E k l) ∨ ∃ E T d, o = .srow E T d) {xs : List SV} {us : List Value} (hx : LsIs w0.g r xs us) :
    ∃ w1, Fr.le true w0 w1 ∧ Sat w1 r (s.frzO std id o) a w ∧ LsIs w1.g r (frzL std id o xs) us := by
  have hne : s.ob id ≠ .gone := by
    rw [hob]
    rcases hrow with ⟨E, k, l, rfl⟩ | ⟨E, T, d, rfl⟩ <;> simp
  have hid := ob_lt0 id hne
  obtain ⟨q, hq, hoi⟩ := h.objs id hne
  let live : Nat → Prop := fun b => ∃ j hj, j ≠ id ∧ s.ob j ≠ .gone ∧ r j = some hj ∧ blk hj = some b
  let g' : World := ghost w0 w live
  have hsub : SubW w0.g g' := by
    intro b o' v hv
    have hw := h.gw b o' v hv
    refine ghost_of ?_ ?_
    · rintro ⟨j, hj, h1, h2, h3, h4⟩
      have := (h.mine j hj b h2 h3 h4).2 o'
      rw [this] at hv
      cases hv
    · by_cases hm : w0.mine b
      · exact .inl ⟨hm, hw⟩
      · exact .inr ⟨hm, hv, hw⟩
  have hgw : SubW g' w := by
    intro b o' v hv
    obtain ⟨_, ⟨_, h1⟩ | ⟨_, h1⟩⟩ := ghost_cell hv
    · exact h1
    · exact h.gw _ _ _ h1
  have hblk : ∀ b, blk q = some b → ∀ o' u, w.cell? ⟨b, o', none⟩ = some u → g'.cell? ⟨b, o', none⟩ = some u := by
    intro b hb o' u hu
    refine ghost_of ?_ (.inl ⟨(h.mine id q b hne hq hb).1, hu⟩)
    rintro ⟨j, hj, h1, h2, h3, h4⟩
    exact h.apart id j q hj b (Ne.symm h1) hne h2 hq h3 hb h4
  have hh : ∀ q', r id = some q' → (frzHdl o).Is g' r q' := by
    intro q' hq'
    rw [hq] at hq'
    cases hq'
    rw [hob] at hoi
    rcases hrow with ⟨E, k, l, rfl⟩ | ⟨E, T, d, rfl⟩
    · simp only [frzHdl, SV.Is]
      have hrd := row_reads hoi.1 hoi.2
      exact ⟨holds_blk hrd.1 hblk, hrd.2⟩
    · simp only [frzHdl, SV.Is]
      exact srow_rdG hsub hblk hoi
  have hs : ∀ x y u, (SV.sub id x y).Is w0.g r u → (frzSub std o x y).Is g' r u := by
    intro x y u hu
    rw [hob] at hoi
    rcases hrow with ⟨E, k, l, rfl⟩ | ⟨E, T, d, rfl⟩
    · simp only [frzSub, SV.Is] at hu ⊢
      obtain ⟨ao, m, c, hr2, hlo, hln, hle, a', c', hx, h3, h4, hh'⟩ := hu
      rw [hq] at hr2
      cases hr2
      subst hx
      have hrd := row_reads hoi.1 hoi.2
      have hrd' : Reads k g' (.slice ao m c) l := ⟨holds_blk hrd.1 hblk, hrd.2⟩
      have hlen : l.length = m := (reads_len hrd').1
      refine sub_holds (v := .nilFunc) hrd' (by omega) h3 h4 ?_
      rcases hh' with rfl | ⟨b, rfl, rfl⟩
      · left; rfl
      · right; exact ⟨b, 0, rfl, by rw [Nat.zero_add]⟩
    · simp only [frzSub, SV.Is]
  have hobk : ∀ i, (s.frzO std id o).ob i = if i = id then .gone else SO.frz std id o (s.ob i) := by
    intro i
    unfold AS.ob AS.frzO
    simp only [List.getD_eq_getElem?_getD, List.getElem?_set, List.getElem?_map, List.length_map]
    by_cases e : id = i
    · subst e; rw [if_pos rfl, if_pos hid, if_pos rfl]; rfl
    · rw [if_neg e, if_neg (fun e' => e e'.symm)]
      cases s.objs[i]? <;> rfl
  have hkne : ∀ i, (s.frzO std id o).ob i ≠ .gone → i ≠ id ∧ s.ob i ≠ .gone := by
    intro i hi
    rw [hobk] at hi
    by_cases e : i = id
    · rw [if_pos e] at hi; exact absurd rfl hi
    · rw [if_neg e] at hi
      refine ⟨e, fun e2 => ?_⟩
      rw [e2] at hi
      exact hi rfl
  have hfm : ∀ (t : Fm) (vs : Array Value), FmIs w0.g r t vs → FmIs g' r (t.map (SV.frz std id o)) vs := fun t vs ht => ⟨fun i => by rw [Fm.get_map _ rfl]; exact frz_is hsub hh hs _ _ (ht.get i), fun i hi => ht.lt i (by simpa only [Fm.has_map] using hi)⟩
  refine ⟨⟨w0.w0, w0.F, g', w0.sv⟩, ⟨rfl, rfl, rfl, hsub, fun b o' v hv => ?_, fun e => by cases e⟩, ⟨hfm _ _ h.slots, h.defs, ⟨h.below.os, h.below.tape, h.below.output, h.below.size, h.below.block⟩, hgw, ?_, h.r1, ?_, ?_, ?_, ?_⟩, frzL_is hsub hh hs _ _ hx⟩
  · obtain ⟨_, ⟨h1, _⟩ | ⟨_, h1⟩⟩ := ghost_cell hv
    · exact .inr h1
    · exact .inl h1
  · intro i hi
    refine h.rn i ?_
    simpa [AS.frzO] using hi
  · intro i hi
    obtain ⟨h1, h2⟩ := hkne i hi
    rw [hobk, if_neg h1]
    obtain ⟨qi, h3, h4⟩ := h.objs i h2
    exact ⟨qi, h3, frz_obj hsub hh hs h4⟩
  · intro i qi b hi hri hbi
    obtain ⟨h1, h2⟩ := hkne i hi
    refine ⟨(h.mine i qi b h2 hri hbi).1, fun o' => ?_⟩
    cases hc : g'.cell? ⟨b, o', none⟩ with
    | none => rfl
    | some v => exact absurd ⟨i, qi, h1, h2, hri, hbi⟩ (ghost_cell hc).1
  · intro i j hi hj b hij hgi hgj hri hrj hbi hbj
    exact h.apart i j hi hj b hij (hkne i hgi).2 (hkne j hgj).2 hri hrj hbi hbj
  · exact h.sav.imp fun x u hx => hfm _ _ hx
/-- Rows are given up. -/
theorem Sat.frz2 : ∀ (ids : List Nat) {w0 : Fr} {s : AS} {xs : List SV} {us : List Value}, Sat w0 r s a w → LsIs w0.g r xs us → ∃ w1, Fr.le true w0 w1 ∧ Sat w1 r (Go.Proofs.Ytekokhlldcmjfaa.frz2 std ids (s, xs)).1 a w ∧ LsIs w1.g r (Go.Proofs.Ytekokhlldcmjfaa.frz2 std ids (s, xs)).2 us
  | [], w0, s, xs, us, h, hx => ⟨w0, Fr.le.refl _ _, h, hx⟩
  | id :: ids, w0, s, xs, us, h, hx => by
    unfold Go.Proofs.Ytekokhlldcmjfaa.frz2
    split
    · rename_i E k l hob
      obtain ⟨w1, h1, h2, h3⟩ := h.frzO hob (.inl ⟨E, k, l, rfl⟩) hx
      obtain ⟨w2, h4, h5, h6⟩ := Sat.frz2 ids h2 h3
      exact ⟨w2, h1.trans h4, h5, h6⟩
    · rename_i E T d hob
      obtain ⟨w1, h1, h2, h3⟩ := h.frzO hob (.inr ⟨E, T, d, rfl⟩) hx
      obtain ⟨w2, h4, h5, h6⟩ := Sat.frz2 ids h2 h3
      exact ⟨w2, h1.trans h4, h5, h6⟩
    · exact Sat.frz2 ids h hx
theorem Sat.frzs (ids : List Nat) (h : Sat w0 r s a w) : ∃ w1, Fr.le true w0 w1 ∧ Sat w1 r (Go.Proofs.Ytekokhlldcmjfaa.frz2 std ids (s, [])).1 a w := by
  obtain ⟨w1, h1, h2, _⟩ := Sat.frz2 ids h (xs := []) (us := []) (by simp only [LsIs])
  exact ⟨w1, h1, h2⟩
end
end Go.Proofs.Ytekokhlldcmjfaa
