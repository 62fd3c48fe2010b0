/- An operation that makes memory at most, whatever it is. No program in sight. -/
import Derived.Test.YtekokhlldcmjfaaSnd5
namespace Go.Proofs.Ytekokhlldcmjfaa
open Go.RowKit Go.ChangeShapes Go.WideShapes Go.Deep
set_option linter.unusedVariables false
set_option linter.unusedSimpArgs false
mutual
theorem shift_is {g : World} {r r' : Nat → Option Value} {n : Nat} (hr : ∀ i h, r i = some h → r' (n + i) = some h) : ∀ (x : SV) (u : Value), x.Is g r u → (x.shift n).Is g r' u
  | .v _, _, h => by simp only [SV.shift, SV.Is] at h ⊢; exact h
  | .lit _, _, h => by simp only [SV.shift, SV.Is] at h ⊢; exact h
  | .iimm _ _, _, h => by simp only [SV.shift, SV.Is] at h ⊢; exact h
  | .imm _ _, _, h => by simp only [SV.shift, SV.Is] at h ⊢; exact h
  | .ip l, u, h => by
    simp only [SV.shift, SV.Is] at h ⊢
    obtain ⟨b, o, h1, h2⟩ := h
    exact ⟨b, o, h1, shiftAt_is hr l b o h2⟩
  | .ptr _ _, _, h => by
    simp only [SV.shift, SV.Is] at h ⊢
    obtain ⟨x, b, h1, h2⟩ := h
    exact ⟨x, b, hr _ _ h1, h2⟩
  | .elt _ _, _, h => by
    simp only [SV.shift, SV.Is] at h ⊢
    obtain ⟨b, m, c, h1, h2⟩ := h
    exact ⟨b, m, c, hr _ _ h1, h2⟩
  | .hdl _, _, h => by simp only [SV.shift, SV.Is] at h ⊢; exact hr _ _ h
  | .sub _ _ _, _, h => by
    simp only [SV.shift, SV.Is] at h ⊢
    obtain ⟨b, m, c, h1, h2⟩ := h
    exact ⟨b, m, c, hr _ _ h1, h2⟩
  | .csl _ _, _, h => by simp only [SV.shift, SV.Is] at h ⊢; exact ⟨hr _ _ h.1, h.2⟩
  | .sel _ _ _ _, _, h => by
    simp only [SV.shift, SV.Is] at h ⊢
    obtain ⟨b, m, c, h1, h2⟩ := h
    exact ⟨b, m, c, hr _ _ h1, h2⟩
  | .psl _ _ _, _, h => by
    simp only [SV.shift, SV.Is] at h ⊢
    obtain ⟨x, b, h1, h2⟩ := h
    exact ⟨x, b, hr _ _ h1, h2⟩
  | .clo _ l, u, h => by
    simp only [SV.shift, SV.Is] at h ⊢
    obtain ⟨cs, h1, h2⟩ := h
    exact ⟨cs, h1, shifts_is hr l _ h2⟩
  | .agg l, u, h => by
    simp only [SV.shift, SV.Is] at h ⊢
    obtain ⟨cs, h1, h2⟩ := h
    exact ⟨cs, h1, shifts_is hr l _ h2⟩
  | .tup l, u, h => by
    simp only [SV.shift, SV.Is] at h ⊢
    obtain ⟨cs, h1, h2⟩ := h
    exact ⟨cs, h1, shifts_is hr l _ h2⟩
  | .any, _, _ => by simp only [SV.shift, SV.Is]
theorem shiftAt_is {g : World} {r r' : Nat → Option Value} {n : Nat} (hr : ∀ i h, r i = some h → r' (n + i) = some h) : ∀ (l : List SV) (b o : Nat), IsAt g r l b o → IsAt g r' (shifts n l) b o
  | [], _, _, _ => by simp only [shifts, IsAt]
  | x :: l, b, o, h => by
    simp only [shifts, IsAt] at h ⊢
    obtain ⟨⟨u, h1, h2⟩, h3⟩ := h
    exact ⟨⟨u, h1, shift_is hr x u h2⟩, shiftAt_is hr l b (o + 1) h3⟩
theorem shifts_is {g : World} {r r' : Nat → Option Value} {n : Nat} (hr : ∀ i h, r i = some h → r' (n + i) = some h) : ∀ (l : List SV) (us : List Value), LsIs g r l us → LsIs g r' (shifts n l) us
  | [], _, h => by simp only [shifts, LsIs] at h ⊢; exact h
  | x :: l, us, h => by
    simp only [shifts, LsIs] at h ⊢
    obtain ⟨u, us', h1, h2, h3⟩ := h
    exact ⟨u, us', h1, shift_is hr x u h2, shifts_is hr l us' h3⟩
end
theorem shift_obj {g : World} {r r' : Nat → Option Value} {n : Nat} (hr : ∀ i h, r i = some h → r' (n + i) = some h) {w : World} {base : Nat} {h : Value} : ∀ {o : SO}, o.Is g r w base h → (o.shift n).Is g r' w base h
  | .cells t l, ⟨b, cs, h1, h2, h3, h4⟩ => ⟨b, cs, h1, h2, h3, shifts_is hr l _ h4⟩
  | .irow E k l, ho => ho
  | .srow E T d, ho => ho
  | .gone, _ => trivial
def shOs (n : Nat) (os : List (Nat × SO)) : List (Nat × SO) := os.map fun o => (o.1, o.2.shift n)
theorem shift_pick (n : Nat) : ∀ (t : Out), (t.shift n).pick = (t.pick.1.shift n, shOs n t.pick.2)
  | .ret sv os => rfl
  | .ite c a b => by
    simp only [Out.shift, Out.pick]
    by_cases hc : c
    · rw [if_pos hc, if_pos hc]; exact shift_pick n a
    · rw [if_neg hc, if_neg hc]; exact shift_pick n b
theorem ext_shift {r : Nat → Option Value} {n : Nat} (os : List (Nat × SO)) (v : Value) : ∀ i h, ext noR 0 os v i = some h → ext r n (shOs n os) v (n + i) = some h := by
  intro i h hi
  unfold ext at hi ⊢
  rw [if_neg (by omega)] at hi ⊢
  rw [Nat.sub_zero] at hi
  rw [show n + i - n = i from by omega, shOs, List.getElem?_map]
  cases hos : os[i]? with
  | none => rw [hos] at hi; cases hi
  | some o => rw [hos] at hi; exact hi
/-- What a call leaves, seen by who called. -/
theorem Gv.shift {g0 g : World} (hg : SubW g0 g) {r : Nat → Option Value} {n : Nat} {w : World} {x : SV × List (Nat × SO)} {v : Value} {w' : World} (h : Gv g0 noR 0 w x v w') : Gv g r n w (x.1.shift n, shOs n x.2) v w' where
  below := h.below
  sv := SV.Is.sub hg (SubR.refl _) _ _ (shift_is (ext_shift x.2 v) x.1 v h.sv)
  objs := by
    intro k o hk
    simp only [shOs, List.getElem?_map] at hk
    obtain ⟨o', h1, rfl⟩ := Option.map_eq_some_iff.1 hk
    obtain ⟨hh, h2, h1', h3⟩ := h.objs k o' h1
    exact ⟨hh, h2, h1', SO.Is.sub hg (SubR.refl _) (shift_obj (ext_shift x.2 v) h3) (Below.refl _ _)⟩
  apart := by
    intro j k o p a b c hj hk hne
    simp only [shOs, List.getElem?_map] at hj hk
    obtain ⟨o', h1, rfl⟩ := Option.map_eq_some_iff.1 hj
    obtain ⟨p', h2, rfl⟩ := Option.map_eq_some_iff.1 hk
    exact h.apart j k o' p' a b c h1 h2 hne
section
variable {P : Program} {a : Act} {o : Oper}
theorem setRow_grown (w : World) (g : Nat) (cs : Array Value) : w.grownBy (w.setRow g cs) (some g) :=
  ⟨rfl, rfl, rfl, by simp, fun k hk hn => setRow_other w g k _ (fun e => hn (by rw [e]))⟩
theorem fits_append {k : IntKind} {l m : List Int} (h1 : Fits k l) (h2 : Fits k m) : Fits k (l ++ m) := fun x hx => by
  rcases List.mem_append.1 hx with h | h
  · exact h1 x h
  · exact h2 x h
/-- Append to a row of the call's own (v: the row, base: where it begins). -/
theorem run_append (w : World) (base : Nat) {t e ty : TypeId} {d : TD} {k : IntKind} (hP : P.underlying t = some (.slice e)) (hT : TDok P e d) (hs : d.size = 1) (v : Value) (l m : List Int) (hown : OwnM w base e 1 v l.length (kv k l)) {y : Value} (hy : Reads k w y m)
    (hroom : (l.length + m.length) * d.bytes ≤ 140737488355328) (hmax : l.length + m.length ≤ 281474976710656) (hbase : base ≤ w.heap.size) :
    ∃ v' w', (Builtin.append_ #[t, t] ty #[v, y]).run P w = .ok v' w' ∧ OwnM w' base e 1 v' (l ++ m).length (kv k (l ++ m)) ∧ w.grownBy w' v.ownBlock ∧ (∀ b, blk v' = some b → some b = v.ownBlock ∨ w.heap.size ≤ b) ∧ one1 v' := by
  obtain ⟨i, hi, h1, h2, h3⟩ := hT.info
  have hzc : d.zv.cells.size = 1 := by rw [← Array.length_toList, hT.2.2.2.1, hT.2.2.1, hs]
  obtain ⟨ao, cap, rfl, hl1, hl2, hh⟩ := hy.1
  rw [kv_len] at *
  have hkv : kv k (l ++ m) = kv k l ++ kv k m := by simp [kv]
  -- who has been written to, and how it looks
  have fin : ∀ v' w', OwnM w' base e 1 v' (l ++ m).length (kv k (l ++ m)) → w.grownBy w' v.ownBlock → (∀ b, blk v' = some b → some b = v.ownBlock ∨ w.heap.size ≤ b) ∨ True → one1 v' := by
    intro v' w' ho _ _
    rcases ho.2 with ⟨rfl, _⟩ | ⟨g, c, cur, rfl, _⟩ <;> exact ⟨rfl, rfl⟩
  cases ao with
  | none =>
    have hm : m = [] := by
      rcases hh with hh | ⟨b, off, hb, _⟩
      · simpa [kv] using hh
      · cases hb
    subst hm
    have hrun : (Builtin.append_ #[t, t] ty #[v, .slice none ([] : List Int).length cap]).run P w = .ok v w := by
      rcases hown.2 with ⟨rfl, h0⟩ | ⟨g, c, cur, rfl, hb, hg, hc, _⟩
      · simp [Builtin.append_, run_underlying hP, sizeOf, typeInfo, hi, Builtin.lenOf, Builtin.firstCells]
      · simp [Builtin.append_, run_underlying hP, sizeOf, typeInfo, hi, Builtin.lenOf, Builtin.firstCells, hc, storeCells]
    refine ⟨v, w, hrun, by simpa using hown, ⟨rfl, rfl, rfl, Nat.le_refl _, fun _ _ _ => rfl⟩, fun b hb => .inl ?_, fin v w (by simpa using hown) ⟨rfl, rfl, rfl, Nat.le_refl _, fun _ _ _ => rfl⟩ (.inr trivial)⟩
    cases v <;> first | (cases hb; done) | skip
    · rcases hown.2 with ⟨he, _⟩ | ⟨g, c, cur, he, _⟩ <;> cases he
    · rename_i ao n c
      cases ao with
      | none => cases hb
      | some ad => exact hb.symm
  | some ad =>
    have hnews : ∀ j u, (kv k m)[j]? = some u → w.cell? (ad.add j) = some u := by
      intro j u hu
      rcases hh with hh | ⟨b, off, hb, hh⟩
      · rw [hh] at hu; simp at hu
      · cases hb
        rw [Addr.add_lit]
        exact hh j u hu
    obtain ⟨v', w', hr, ho, hg, hv⟩ := run_appendM (P := P) w base t ty e i d.zv 1 d.bytes hP hi h3 (by rw [h1, hs]) h2 hzc (by decide) v l.length (kv k l) hown ad m.length cap (kv k m) (by rw [kv_len, Nat.mul_one]) hnews
      (by
        intro u hu
        obtain ⟨x, _, rfl⟩ := List.mem_map.1 hu
        rfl) (by unfold maxLen; omega) hroom hbase
    rw [← hkv] at ho
    have ho' : OwnM w' base e 1 v' (l ++ m).length (kv k (l ++ m)) := by rw [List.length_append]; exact ho
    refine ⟨v', w', hr, ho', hg, ?_, fin v' w' ho' hg (.inr trivial)⟩
    intro b hb
    rcases ho'.2 with ⟨rfl, _⟩ | ⟨g, c, cur, rfl, _⟩
    · cases hb
    · exact hv b hb
end
section
variable {P : Program} {g : World} {r : Nat → Option Value} {n base : Nat} {w : World} {C : Cx} {ob : Nat → SO} {o : Oper} {a : Act}
theorem okk_wp {e : Er} (h : Okk P a.eval g r n w o e) {c : Option Prop} {rt : Out} (he : e = some (c, rt)) (hc : ∀ p, c = some p → p) {K : Act → World → Prop} {Q : Exit → Act → World → Prop}
    (hK : ∀ v w', Gv g r n w rt.pick v w' → K (a.put o.dst v) w') : o.wp P a w K Q := by
  obtain ⟨v, w', h1, h2, _⟩ := h c rt he hc
  unfold Oper.wp
  rw [h1]
  exact hK v w' h2
theorem lsIs_map {ev : Operand → SV} {ρ : Operand → Value} : ∀ (l : List Operand), (∀ x ∈ l, (ev x).Is g r (ρ x)) → LsIs g r (l.map ev) (l.map ρ)
  | [], _ => by simp only [List.map_nil, LsIs]
  | x :: l, h => by
    simp only [List.map_cons, LsIs]
    exact ⟨_, _, rfl, h x (by simp), lsIs_map l fun y hy => h y (by simp [hy])⟩
theorem call_wp (E : Env P C g r n base w ob) (hG : GOk P C.G) {ev : Operand → SV} {c0 : Call} {f : FuncId} (ho : o.op = .call c0) {fo : Operand} (hc0 : c0.callee = .value fo) (hfo : a.eval fo = .func (.func f) #[] #[]) (hev : ∀ x ∈ c0.args.toList, (ev x).Is g r (a.eval x))
    {c' : Ctr} (hf : (f, c') ∈ C.G) {as : List AV} (has : avArgs C.A (bif c'.al then (fun _ => .gone) else ob) c'.tys (c0.args.toList.map ev) = some as) (hp : ∀ p, c'.pre as = some p → p) {K : Act → World → Prop} {Q : Exit → Act → World → Prop}
    (hK : ∀ v w', Gv g r n w ((c'.res as).shift n).pick v w' → K (a.put o.dst v) w') : o.wp P a w K Q := by
  obtain ⟨hct, hfn⟩ := gOk_mem hG hf
  obtain ⟨fn, h1, h2⟩ := Option.map_eq_some_iff.1 hfn
  simp only [Bool.and_eq_true, bne_iff_ne] at h2
  obtain ⟨h2, h3⟩ := h2
  rw [E.A] at has
  have hargs : ArgsIs w c'.tys as (c0.args.toList.map a.eval) ∧ (c'.al = true → SubW g w ∧ ArgsIs g c'.tys as (c0.args.toList.map a.eval)) := by
    cases hal : c'.al with
    | false => rw [hal] at has; exact ⟨avArgs_is E _ _ _ as has (lsIs_map _ hev), fun h => by cases h⟩
    | true =>
      rw [hal] at has
      have E1 : Env P C g r n base w (fun _ => .gone) := ⟨E.tt, E.A, E.r1, E.rn, E.gw, fun id h => absurd rfl h⟩
      have E2 : Env P C g r n base g (fun _ => .gone) := ⟨E.tt, E.A, E.r1, E.rn, SubW.refl g, fun id h => absurd rfl h⟩
      exact ⟨avArgs_is E1 _ _ _ as has (lsIs_map _ hev), fun _ => ⟨E.gw, avArgs_is E2 _ _ _ as has (lsIs_map _ hev)⟩⟩
  have hcall := hct as w g _ hargs.1 hargs.2 hp
  have hrun : (execOp a.eval o).run P w = .ok (.enter f (c0.args.map a.eval)) w := by
    have hb : ¬ fn.body = none := by intro hh; rw [hh] at h2; cases h2
    simp [execOp, ho, resolve, hc0, hfo, Deferred.ofValue, invoke, callFunc, h1, hb, h3]
  unfold Oper.wp
  rw [hrun, Oper.upon_enter]
  have he : (c0.args.toList.map a.eval).toArray = c0.args.map a.eval := by rw [← Array.toList_map, Array.toArray_toList]
  rw [← he]
  refine hcall.mono ?_
  rintro e w' ⟨v, rfl, hv⟩
  refine hK v w' ?_
  rw [shift_pick]
  refine hv.shift ?_
  cases c'.al with
  | false => exact gE_sub g
  | true => exact SubW.refl g
theorem assoc_ev {α : Type} {l : List (Nat × α)} {i : Nat} {x : α} (h : assoc l i = some x) : (i, x) ∈ l := assoc_mem h
theorem fnOf_is {g : World} {r : Nat → Option Value} {a : Act} {ev : Operand → SV} {fo : Operand} {f : FuncId} (h : fnOf ev fo = some f) (hev : (ev fo).Is g r (a.eval fo)) : a.eval fo = .func (.func f) #[] #[] := by
  unfold fnOf at h
  split at h
  · cases h; rfl
  · unfold SV.fn at h
    split at h
    · rename_i f' b c hx
      rw [hx] at hev
      simp only [SV.Is] at hev
      cases h1 : Nat.beq b.size 0 with
      | false => rw [h1] at h; cases h
      | true =>
      cases h2 : Nat.beq c.size 0 with
      | false => rw [h1, h2] at h; cases h
      | true =>
        rw [h1, h2] at h
        cases h
        have e1 : b = #[] := Array.eq_empty_of_size_eq_zero (Nat.eq_of_beq_eq_true h1)
        have e2 : c = #[] := Array.eq_empty_of_size_eq_zero (Nat.eq_of_beq_eq_true h2)
        rw [hev.1, e1, e2]
    · cases h
/-- AN OPERATION THAT MAKES MEMORY AT MOST. -/
theorem exec_wp (E : Env P C g r n base w ob) (hG : GOk P C.G) {ev : Operand → SV} (hev : ∀ x ∈ o.op.operands.toList, (ev x).Is g r (a.eval x)) {c : Option Prop} {rt : Out} (he : exec C ev ob n o.op = some (c, rt)) (hc : ∀ p, c = some p → p) {K : Act → World → Prop} {Q : Exit → Act → World → Prop}
    (hK : ∀ v w', Gv g r n w rt.pick v w' → K (a.put o.dst v) w') : o.wp P a w K Q := by
  generalize hop : o.op = op at hev he
  cases op
  case move x =>
    refine okk_wp (e := Er.one (ev x)) (okk_one E.rn (v := a.eval x) (by simp [execOp, hop]) (hev x (by simp [Op.operands]))) he hc hK
  case assign x =>
    refine okk_wp (e := Er.one (ev x)) (okk_one E.rn (v := a.eval x) (by simp [execOp, hop]) (hev x (by simp [Op.operands]))) he hc hK
  case pick p x y =>
    have hp := hev p (by simp [Op.operands])
    have hx := hev x (by simp [Op.operands])
    have hy := hev y (by simp [Op.operands])
    simp only [exec] at he
    split at he
    · rename_i b hb
      rw [hb] at hp
      simp only [SV.Is] at hp
      cases b with
      | true => exact okk_wp (e := Er.one (ev x)) (okk_one E.rn (v := a.eval x) (by simp [execOp, hop, hp, asBool]) hx) he hc hK
      | false => exact okk_wp (e := Er.one (ev y)) (okk_one E.rn (v := a.eval y) (by simp [execOp, hop, hp, asBool]) hy) he hc hK
    · rename_i b hb
      rw [hb] at hp
      simp only [SV.Is] at hp
      cases he
      cases b with
      | true =>
        refine okk_wp (e := Er.one (ev x)) (rt := .ret (ev x) []) (c := none) (okk_one E.rn (v := a.eval x) (by simp [execOp, hop, hp, asBool]) hx) rfl hc ?_
        intro v w' h
        refine hK v w' ?_
        simpa [Out.pick] using h
      | false =>
        refine okk_wp (e := Er.one (ev y)) (rt := .ret (ev y) []) (c := none) (okk_one E.rn (v := a.eval y) (by simp [execOp, hop, hp, asBool]) hy) rfl hc ?_
        intro v w' h
        refine hK v w' ?_
        simpa [Out.pick] using h
    · cases he
  case alloc t =>
    simp only [exec] at he
    cases hs : Nat.ble 1 (C.td t).size with
    | false => rw [hs] at he; cases he
    | true =>
      rw [hs] at he
      exact okk_wp (ex_alloc E hop (nble hs)) he hc hK
  case box t x =>
    simp only [exec] at he
    cases h1 : Nat.ble 1 (C.td t).size with
    | false => rw [h1] at he; cases he
    | true =>
    cases h2 : Nat.beq (ev x).flat.length (C.td t).size with
    | false => rw [h1, h2] at he; cases he
    | true =>
      rw [h1, h2] at he
      have h2 := Nat.eq_of_beq_eq_true h2
      have h1 := nble h1
      refine okk_wp (ex_box E hop (hev x (by simp [Op.operands])) ?_) he hc hK
      intro e; rw [e] at h2; simp at h2; omega
  case build t ps =>
    simp only [exec] at he
    cases hb : buildable C (C.td t).un with
    | false => rw [hb] at he; cases he
    | true =>
      rw [hb] at he
      simp only [cond_true] at he
      cases hf : fillS (placeOf C t) (zeros C t) (ps.toList.map fun p => (p.1, ev p.2)) with
      | none => rw [hf] at he; cases he
      | some m =>
        rw [hf] at he
        refine okk_wp (ex_build E hb hop (fun p hp => hev p.2 ?_) hf) he hc hK
        simp only [Op.operands]
        exact List.mem_map.2 ⟨p, hp, rfl⟩
  case buildSlice t len ps =>
    simp only [exec] at he
    split at he
    · rename_i e hu
      cases h1 : Nat.ble 1 (C.td e).size with
      | false => rw [h1] at he; cases he
      | true =>
      cases h2 : Nat.ble (len * (C.td e).size) 16777216 with
      | false => rw [h1, h2] at he; cases he
      | true =>
        rw [h1, h2] at he
        simp only [Bool.and_self, cond_true] at he
        cases hf : fillS (fun i => some (i * (C.td e).size, (C.td e).size)) (zerosN C e len) (ps.toList.map fun p => (p.1, ev p.2)) with
        | none => rw [hf] at he; cases he
        | some m =>
          rw [hf] at he
          refine okk_wp (ex_buildSlice E hu (nble h1) (nble h2) hop (fun p hp => hev p.2 ?_) hf) he hc hK
          simp only [Op.operands]
          exact List.mem_map.2 ⟨p, hp, rfl⟩
    · cases he
  case load t x => exact okk_wp (ex_load E hop (hev x (by simp [Op.operands]))) he hc hK
  case nilCheck x =>
    have hx := hev x (by simp [Op.operands])
    simp only [exec] at he
    split at he
    · rename_i i off hb
      rw [hb] at hx
      obtain ⟨h, b, _, _, hv⟩ := (by simpa only [SV.Is] using hx : ∃ h b, r i = some h ∧ blk h = some b ∧ a.eval x = .pointer (some ⟨b, off, none⟩))
      exact okk_wp (okk_one E.rn (v := a.eval x) (by simp [execOp, hop, hv]) hx) he hc hK
    · rename_i i off hb
      rw [hb] at hx
      obtain ⟨b, m, c', _, _, _, hv⟩ := (by simpa only [SV.Is] using hx : ∃ b n c, r i = some (.slice (some ⟨b, 0, none⟩) n c) ∧ 0 ≤ off ∧ off < (n : Int) ∧ a.eval x = .pointer (some ⟨b, off.toNat, none⟩))
      exact okk_wp (okk_one E.rn (v := a.eval x) (by simp [execOp, hop, hv]) hx) he hc hK
    · rename_i i z sz off hb
      rw [hb] at hx
      obtain ⟨b, m, c', _, _, _, hv⟩ := (by simpa only [SV.Is] using hx : ∃ b n c, r i = some (.slice (some ⟨b, 0, none⟩) n c) ∧ 0 ≤ z ∧ z < (n : Int) ∧ a.eval x = .pointer (some ⟨b, z.toNat * sz + off, none⟩))
      exact okk_wp (okk_one E.rn (v := a.eval x) (by simp [execOp, hop, hv]) hx) he hc hK
    · rename_i l hb
      rw [hb] at hx
      obtain ⟨b, off, hv, _⟩ := (by simpa only [SV.Is] using hx : ∃ b o, a.eval x = .pointer (some ⟨b, o, none⟩) ∧ IsAt g r l b o)
      exact okk_wp (okk_one E.rn (v := a.eval x) (by simp [execOp, hop, hv]) hx) he hc hK
    · cases he
  case binOp op t x y t' =>
    simp only [exec] at he
    refine okk_wp (ex_bin2 E.tt E.A E.rn (fun hne => (td_un E.tt hne).under) hop (hev x (by simp [Op.operands])) (hev y (by simp [Op.operands]))) he hc hK
  case unOp op t x =>
    simp only [exec] at he
    rw [E.A] at he
    exact okk_wp (ex_un E.rn hop (hev x (by simp [Op.operands]))) he hc hK
  case convert src dst x => exact okk_wp (ex_convert E hop (hev x (by simp [Op.operands]))) he hc hK
  case makeSlice t l cc =>
    have hl := hev l (by simp [Op.operands])
    have hcc := hev cc (by simp [Op.operands])
    simp only [exec] at he
    split at he
    · rename_i e ka za kb zb hu h1 h2
      rw [h1] at hl
      rw [h2] at hcc
      simp only [SV.Is] at hl hcc
      split at he
      · rename_i k hk
        cases h3 : Nat.beq (C.td e).size 1 with
        | false => rw [h3] at he; cases he
        | true =>
        cases h4 : isZero k (C.td e).zero with
        | false => rw [h3, h4] at he; cases he
        | true =>
          rw [h3, h4, E.A] at he
          exact okk_wp (ex_makeSlice E hu hk (Nat.eq_of_beq_eq_true h3) h4 hop hl.1 hcc.1) he hc hK
      · split at he
        · rename_i T hT
          cases h3 : Nat.ble 1 (C.td e).size with
          | false => rw [h3] at he; cases he
          | true =>
          cases h4 : Nat.beq T.size (C.td e).size with
          | false => rw [h3, h4] at he; cases he
          | true =>
          cases h5 : zeroIs T (C.td e).zero with
          | false => rw [h3, h4, h5] at he; cases he
          | true =>
            rw [h3, h4, h5, E.A] at he
            exact okk_wp (ex_makeRows E hu (nble h3) (Nat.eq_of_beq_eq_true h4) h5 hop hl.1 hcc.1) he hc hK
        · cases he
    · cases he
  case index t x i =>
    have hx := hev x (by simp [Op.operands])
    have hi := hev i (by simp [Op.operands])
    simp only [exec] at he
    split at he
    · rename_i m e l ki j hu h1 h2
      rw [h1] at hx
      rw [h2] at hi
      simp only [SV.Is] at hx hi
      obtain ⟨cs, hx, hl⟩ := hx
      cases h3 : Nat.ble 1 (C.td e).size with
      | false => rw [h3] at he; cases he
      | true =>
      cases h4 : Nat.blt j m with
      | false => rw [h3, h4] at he; cases he
      | true =>
      cases h5 : Nat.ble (j * (C.td e).size + (C.td e).size) l.length with
      | false => rw [h3, h4, h5] at he; cases he
      | true =>
        rw [h3, h4, h5] at he
        simp only [Bool.and_self, cond_true] at he
        have h3 := nble h3
        have h4 : j < m := nble h4
        have h5 := nble h5
        have hP := under_array E.tt hu
        have hT := td_ok E.tt h3
        have hcl := lsIs_len hl
        rw [Array.length_toList] at hcl
        have hpart := run_part (P := P) (w := w) hT cs (j * (C.td e).size) (by omega) h3
        have hrun : (execOp a.eval o).run P w = .ok (.value (if (C.td e).agg then .agg (cs.extract (j * (C.td e).size) (j * (C.td e).size + (C.td e).size)) else cs.getD (j * (C.td e).size) undef)) w := by
          have h0 : (0 : Int) ≤ (j : Int) ∧ (j : Int) < (m : Int) := ⟨Int.natCast_nonneg j, Int.ofNat_lt.2 h4⟩
          simp only [execOp, hop, hx, hi.1, Instr.index, asIntOf, run_underlying hP, Sem.run_bind, Sem.run_pure, Result.andThen_ok, Int.ofNat_eq_natCast, if_pos h0, hT.sizeOf, Int.toNat_natCast, hpart]
        cases hag : (C.td e).agg with
        | true =>
          rw [hag] at he hrun
          simp only [cond_true, if_true] at he hrun
          refine okk_wp (okk_one E.rn hrun ?_) he hc hK
          have hseg := lsIs_take (lsIs_drop hl (j * (C.td e).size)) (C.td e).size
          have e1 : cs.extract (j * (C.td e).size) (j * (C.td e).size + (C.td e).size) = ((cs.toList.drop (j * (C.td e).size)).take (C.td e).size).toArray := by
            apply Array.toList_inj.1
            rw [Array.toList_extract]
            simp [List.extract, List.drop_take]
          rw [e1]
          exact agg_arr hseg
        | false =>
          rw [hag] at he hrun
          simp only [cond_false, Bool.false_eq_true, if_false] at he hrun
          split at he
          · rename_i y hy
            obtain ⟨u, hu', hyu⟩ := lsIs_get hl hy
            refine okk_wp (okk_one E.rn hrun ?_) he hc hK
            rw [Array.getD_eq_getD_getElem?, ← Array.getElem?_toList, hu']
            exact hyu
          · cases he
    · cases he
  case makeFunc fn first caps =>
    simp only [exec] at he
    split at he
    · rename_i f
      cases h1 : Nat.beq first.size 0 with
      | false => rw [h1] at he; cases he
      | true =>
        rw [h1] at he
        simp only [cond_true] at he
        have h1 := Nat.eq_of_beq_eq_true h1
        obtain rfl := Array.eq_empty_of_size_eq_zero h1
        refine okk_wp (okk_one E.rn (v := .func (.func f) #[] (caps.map a.eval)) (by simp [execOp, hop, Instr.makeFunc]) ?_) he hc hK
        simp only [SV.Is]
        refine ⟨_, rfl, ?_⟩
        rw [Array.toList_map]
        exact lsIs_map _ fun x hx => hev x (by simp [Op.operands]; exact by simpa using hx)
    · cases he
  case slice t x lo hi mx =>
    simp only [exec] at he
    split at he
    · cases he
    · split at he
      · rename_i e hu
        refine okk_wp (ex_slice E (ev := ev) hu hop (hev x (by simp [Op.operands])) (fun l hl => hev l (by subst hl; simp [Op.operands])) (fun l hl => hev l (by subst hl; simp [Op.operands]))) he hc hK
      · rename_i ar hu
        split at he
        · rename_i m e hu2
          split at he
          · rename_i id off hx
            have hxx := hev x (by simp [Op.operands])
            rw [hx] at hxx
            simp only [SV.Is] at hxx
            obtain ⟨h, b, h1, h2, h3⟩ := hxx
            cases h4 : Nat.beq (C.td e).size 1 with
            | false => rw [h4] at he; cases he
            | true =>
            cases h5 : Nat.ble 1 m with
            | false => rw [h4, h5] at he; cases he
            | true =>
            cases h6 : Nat.ble m 16777216 with
            | false => rw [h4, h5, h6] at he; cases he
            | true =>
              rw [h4, h5, h6] at he
              simp only [Bool.and_self, cond_true] at he
              have h5 := nble h5
              have hP := under_ptr E.tt hu
              have hP2 := under_array E.tt hu2
              have hT := td_ok E.tt (t := e) (by have := Nat.eq_of_beq_eq_true h4; omega)
              refine okk_wp (okk_one E.rn (v := .slice (some ⟨b, off, none⟩) m m) ?_ (by simp only [SV.Is]; exact ⟨h, b, h1, h2, rfl⟩)) he hc hK
              have hm : ¬ m = 0 := by omega
              simp [execOp, hop, h3, Instr.sliceAt, Instr.slice, run_underlying hP, run_underlying hP2, asAddr, Instr.sliceBounds, hT.sizeOf, hm, Addr.add_lit]
          · cases he
        · cases he
      · rename_i m e hu2
        split at he
        · rename_i id off hx
          have hxx := hev x (by simp [Op.operands])
          rw [hx] at hxx
          simp only [SV.Is] at hxx
          obtain ⟨h, b, h1, h2, h3⟩ := hxx
          cases h4 : Nat.beq (C.td e).size 1 with
          | false => rw [h4] at he; cases he
          | true =>
          cases h5 : Nat.ble 1 m with
          | false => rw [h4, h5] at he; cases he
          | true =>
          cases h6 : Nat.ble m 16777216 with
          | false => rw [h4, h5, h6] at he; cases he
          | true =>
            rw [h4, h5, h6] at he
            simp only [Bool.and_self, cond_true] at he
            have h5 := nble h5
            have hP2 := under_array E.tt hu2
            have hT := td_ok E.tt (t := e) (by have := Nat.eq_of_beq_eq_true h4; omega)
            refine okk_wp (okk_one E.rn (v := .slice (some ⟨b, off, none⟩) m m) ?_ (by simp only [SV.Is]; exact ⟨h, b, h1, h2, rfl⟩)) he hc hK
            have hm : ¬ m = 0 := by omega
            simp [execOp, hop, h3, Instr.sliceAt, Instr.sureAddr, run_underlying hP2, Instr.sliceBounds, hT.sizeOf, hm, Addr.add_lit]
        · cases he
      · cases he
  case fieldAddr t x f =>
    have hx := hev x (by simp [Op.operands])
    simp only [exec] at he
    split at he
    · cases he
    · rename_i hna
      exact okk_wp (ex_field E (fun l hl => absurd hl (hna l)) (fun _ => hop) hx) he hc hK
  case field t x f =>
    have hx := hev x (by simp [Op.operands])
    simp only [exec] at he
    split at he
    · rename_i l hl
      rw [hl] at hx
      exact okk_wp (ex_field E (fun _ _ => hop) (fun h => absurd rfl (h l)) hx) he hc hK
    · cases he
  case indexAddr t x i => exact okk_wp (ex_indexAddr E hop (hev x (by simp [Op.operands])) (hev i (by simp [Op.operands]))) he hc hK
  case extract x i =>
    have hx := hev x (by simp [Op.operands])
    simp only [exec] at he
    split at he
    · rename_i l hl
      rw [hl] at hx
      split at he
      · rename_i y hy
        exact okk_wp (ex_extract E hop hx hy) he hc hK
      · cases he
    · cases he
  case call c0 =>
    have hargs : ∀ x ∈ c0.args.toList, (ev x).Is g r (a.eval x) := fun x hx => hev x (by simp only [Op.operands, Call.operands, Array.toList_append]; exact List.mem_append_right _ hx)
    obtain ⟨callee, args, ats⟩ := c0
    simp only at hargs
    cases callee with
    | builtin bi =>
      cases bi
      case len =>
        simp only [exec] at he
        split at he
        · rename_i x t hx ht
          have h1 : args = #[x] := Array.toList_inj.1 hx
          have h2 : ats = #[t] := Array.toList_inj.1 ht
          subst h1; subst h2
          exact okk_wp (ex_len E hop (hargs x (by simp))) he hc hK
        · cases he
      case max =>
        simp only [exec] at he
        split at he
        · rename_i x xs hx
          split at he
          · rename_i k z hz
            have h1 : args = (x :: xs).toArray := Array.toList_inj.1 hx
            subst h1
            rw [E.A] at he
            have h2 := hargs x (by simp)
            rw [hz] at h2
            exact okk_wp (ex_max E hop h2 (lsIs_map xs fun y hy => hargs y (by simp [hy]))) he hc hK
          · cases he
        · cases he
      case min =>
        simp only [exec] at he
        split at he
        · rename_i x xs hx
          split at he
          · rename_i k z hz
            have h1 : args = (x :: xs).toArray := Array.toList_inj.1 hx
            subst h1
            rw [E.A] at he
            have h2 := hargs x (by simp)
            rw [hz] at h2
            exact okk_wp (ex_min E hop h2 (lsIs_map xs fun y hy => hargs y (by simp [hy]))) he hc hK
          · cases he
        · cases he
      case append =>
        simp only [exec] at he
        split at he
        · rename_i x y t t' hxy htt
          have e1 : args = #[x, y] := Array.toList_inj.1 hxy
          have e2 : ats = #[t, t'] := Array.toList_inj.1 htt
          subst e1; subst e2
          split at he
          · rename_i hnil
            have hx0 : a.eval x = .slice none 0 0 := by
              unfold nilSl at hnil
              split at hnil
              · rfl
              · cases hnil
            cases h1 : Nat.beq t t' with
            | false => rw [h1] at he; cases he
            | true =>
              rw [h1] at he
              obtain rfl := Nat.eq_of_beq_eq_true h1
              simp only [cond_true] at he
              split at he
              · rename_i e hu
                have hP := under_slice E.tt hu
                split at he
                · rename_i k hk
                  split at he
                  · rename_i m hm
                    cases h4 : Nat.beq (C.td e).size 1 with
                    | false => rw [h4] at he; cases he
                    | true =>
                    cases h5 : isZero k (C.td e).zero with
                    | false => rw [h4, h5] at he; cases he
                    | true =>
                      rw [h4, h5] at he
                      have h4 := Nat.eq_of_beq_eq_true h4
                      have hT := td_ok E.tt (t := e) (by omega)
                      rw [E.A] at he hm
                      cases he
                      obtain ⟨hr1, hr2⟩ := hc _ rfl
                      have hr1 : (m.length : Int) * ((C.td e).bytes : Int) ≤ 140737488355328 := hr1
                      have hr2 : (m.length : Int) ≤ 281474976710656 := hr2
                      have hrd := ints_is E hm (hargs y (by simp))
                      have hrb : (([] : List Int).length + m.length) * (C.td e).bytes ≤ 140737488355328 := by
                        have : (((m.length) * (C.td e).bytes : Nat) : Int) ≤ 140737488355328 := by
                          rw [Int.natCast_mul]; exact hr1
                        simpa using (by omega : m.length * (C.td e).bytes ≤ 140737488355328)
                      obtain ⟨v', w', h6, h7, h8, h9, h10⟩ := run_append (ty := o.type) w w.heap.size hP hT h4 (.slice none 0 0) [] m (OwnM.nil w w.heap.size e 1) hrd hrb (by simp; omega) (Nat.le_refl _)
                      have hrun : (execOp a.eval o).run P w = .ok (.value v') w' := by
                        simp [execOp, hop, resolve, invoke, builtin, hx0, h6]
                      unfold Oper.wp
                      rw [hrun, Oper.upon_value]
                      have hb : Below w.heap.size w w' := (Below.refl _ _).grown h8 (Nat.le_refl _) (fun k hk => by cases hk)
                      have hvd : vdeep v' = [v'] := by
                        rcases h7.2 with ⟨rfl, _⟩ | ⟨g, c, cur, rfl, _⟩ <;> rfl
                      refine hK v' w' ?_
                      refine Gv.new1 E hb ⟨hvd, h10⟩ ?_ ⟨by simpa using h7, hrd.2.1⟩
                      simp only [SV.Is]
                      exact ext_new _ hvd
                  · cases he
                · cases he
              · cases he
          · cases he
        · cases he
      all_goals (simp [exec] at he)
    | value fo =>
      simp only [exec] at he
      obtain ⟨f, hfn, he⟩ := Option.bind_eq_some_iff.1 he
      have hfo : a.eval fo = .func (.func f) #[] #[] := fnOf_is hfn (hev fo (by simp [Op.operands, Call.operands]))
      split at he
      · rename_i c' hf
        obtain ⟨as, h1, h2⟩ := Option.bind_eq_some_iff.1 he
        cases h2
        exact call_wp E hG hop rfl hfo hargs (assoc_mem hf) h1 hc hK
      · cases he
    | invoke r m => simp [exec] at he
  all_goals (simp [exec] at he)
end
end Go.Proofs.Ytekokhlldcmjfaa
