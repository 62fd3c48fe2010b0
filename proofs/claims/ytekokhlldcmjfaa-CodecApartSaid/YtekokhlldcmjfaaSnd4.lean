/- The operations that make memory. No program in sight. -/
import Derived.Test.YtekokhlldcmjfaaSnd3
namespace Go.Proofs.Ytekokhlldcmjfaa
open Go.RowKit Go.ChangeShapes Go.WideShapes Go.Deep
set_option linter.unusedVariables false
set_option linter.unusedSimpArgs false
section
variable {P : Program} {ρ : Operand → Value} {g : World} {r : Nat → Option Value} {n base : Nat} {w : World} {o : Oper} {C : Cx} {ob : Nat → SO}
theorem below_alloc (w : World) (o : Obj) : Below w.heap.size w (w.alloc o) := (Below.refl _ _).alloc (Nat.le_refl _) _
/-- One new piece of memory, whose handle is the value. -/
theorem Gv.new1 (E : Env P C g r n base w ob) {sv : SV} {so : SO} {v : Value} {w' : World} (hb : Below w.heap.size w w') (hd : vdeep v = [v] ∧ one1 v)
    (hs : sv.Is g (ext r n [(0, so)] v) v) (ho : so.Is g (ext r n [(0, so)] v) w' w.heap.size v) : Gv g r n w (sv, [(0, so)]) v w' where
  below := hb
  sv := hs
  objs := by
    intro k p hk
    cases k with
    | zero => simp at hk; subst hk; exact ⟨v, by rw [hd.1]; rfl, hd.2, ho⟩
    | succ k => simp at hk
  apart := by
    intro j k o p a b c hj hk hne
    cases j with
    | succ j => simp at hj
    | zero => cases k with
      | succ k => simp at hk
      | zero => exact absurd rfl hne
theorem laid_len : ∀ (l : List SV) (o : Nat) (xs : List SV), (laid l o xs).length = l.length
  | l, 0, [] => by cases l <;> rfl
  | _ :: l, 0, x :: xs => by simp [laid, laid_len l 0 xs]
  | y :: l, o + 1, xs => by simp [laid, laid_len l o xs]
  | [], 0, _ :: _ => rfl
  | [], _ + 1, _ => rfl
/-- Cells laid over cells, as the model lays them. -/
theorem laid_is : ∀ (l : List SV) (o : Nat) (xs : List SV) (us vs : List Value), LsIs g r l us → LsIs g r xs vs → o + xs.length ≤ l.length → LsIs g r (laid l o xs) (us.take o ++ vs ++ us.drop (o + vs.length))
  | l, 0, [], us, vs, h, k, _ => by
    simp only [LsIs] at k
    subst k
    cases l <;> simpa [laid] using h
  | x :: l, 0, y :: xs, us, vs, h, k, hl => by
    simp only [LsIs] at h k
    obtain ⟨u, us', rfl, h1, h2⟩ := h
    obtain ⟨v, vs', rfl, k1, k2⟩ := k
    have := laid_is l 0 xs us' vs' h2 k2 (by simp at hl ⊢; omega)
    simp only [laid, LsIs]
    refine ⟨v, _, ?_, k1, this⟩
    simp
  | x :: l, o + 1, xs, us, vs, h, k, hl => by
    simp only [LsIs] at h
    obtain ⟨u, us', rfl, h1, h2⟩ := h
    have := laid_is l o xs us' vs h2 k (by simp at hl; omega)
    simp only [laid, LsIs]
    refine ⟨u, _, ?_, h1, this⟩
    simp [Nat.add_right_comm]
  | [], 0, _ :: _, _, _, _, _, hl => by simp at hl
  | [], o + 1, _, _, _, _, _, hl => by simp at hl
theorem fold_laid (cs : Array Value) (off : Nat) : ∀ (vs : List Value) (j : Nat) (hl : off + j + vs.length ≤ cs.size), (vs.zipIdx j).foldl (fun (cs : Array Value) (p : Value × Nat) => cs.setIfInBounds (off + p.2) p.1) cs = (cs.toList.take (off + j) ++ vs ++ cs.toList.drop (off + j + vs.length)).toArray
  | [], j, _ => by simp
  | v :: vs, j, hl => by
    simp only [List.zipIdx_cons, List.foldl_cons]
    rw [fold_laid (cs.setIfInBounds (off + j) v) off vs (j + 1) (by simp at hl ⊢; omega)]
    congr 1
    have e := list_seg_step cs.toList (off + j) v vs (by simp at hl ⊢; omega)
    simpa [Array.toList_setIfInBounds, Nat.add_assoc] using e
/-- A struct's, an array's parts, laid. -/
theorem fill_is (hr1 : ∀ i h, r i = some h → one1 h) {place : Nat → Option (Nat × Nat)} : ∀ (ps : List (Nat × Operand)) (ev : Operand → SV) (l : List SV) (cs : Array Value) (m : List SV), (∀ p ∈ ps, (ev p.2).Is g r (ρ p.2)) → LsIs g r l cs.toList → (∀ i a b, place i = some (a, b) → 1 ≤ b) →
    fillS place l (ps.map fun p => (p.1, ev p.2)) = some m → ∃ cs', Instr.fill place cs (ps.map fun p => (p.1, ρ p.2)) = some cs' ∧ LsIs g r m cs'.toList
  | [], ev, l, cs, m, _, hl, _, h => by
    simp only [List.map_nil, fillS, Option.some.injEq] at h
    subst h
    exact ⟨cs, rfl, hl⟩
  | p :: ps, ev, l, cs, m, hev, hl, hpl, h => by
    simp only [List.map_cons, fillS] at h
    simp only [List.map_cons, Instr.fill]
    cases hp : place p.1 with
    | none => rw [hp] at h; cases h
    | some q =>
      obtain ⟨off, size⟩ := q
      rw [hp] at h
      simp only at h
      cases h1 : Nat.beq (ev p.2).flat.length size with
      | false => rw [h1] at h; cases h
      | true =>
      cases h2 : Nat.ble (off + size) l.length with
      | false => rw [h1, h2] at h; cases h
      | true =>
        rw [h1, h2] at h
        simp only [Bool.and_self, cond_true] at h
        have h1 := Nat.eq_of_beq_eq_true h1
        have h2 := nble h2
        have hs := hpl _ _ _ hp
        have hne : (ev p.2).flat ≠ [] := by intro e; rw [e] at h1; simp at h1; omega
        have hfl := flat_is hr1 (hev p (by simp)) hne
        have hlen := lsIs_len hfl
        have hlc := lsIs_len hl
        have hsz : (ρ p.2).cells.size = size := by rw [← h1, ← hlen]; simp
        have hcs : off + (ρ p.2).cells.size ≤ cs.size := by rw [hsz, ← Array.length_toList, hlc]; exact h2
        have hfold := fold_laid cs off (ρ p.2).cells.toList 0 (by simpa using hcs)
        have hlaid := laid_is l off (ev p.2).flat cs.toList (ρ p.2).cells.toList hl hfl (by omega)
        have e1 : (ρ p.2).cells.zipIdx.foldl (fun (cs : Array Value) (x : Value × Nat) => cs.setIfInBounds (off + x.2) x.1) cs = (cs.toList.take off ++ (ρ p.2).cells.toList ++ cs.toList.drop (off + (ρ p.2).cells.toList.length)).toArray := by
          rw [← Array.foldl_toList, Array.toList_zipIdx]
          simpa using hfold
        have hX : LsIs g r (laid l off (ev p.2).flat) ((ρ p.2).cells.zipIdx.foldl (fun (cs : Array Value) (x : Value × Nat) => cs.setIfInBounds (off + x.2) x.1) cs).toList := by
          rw [e1]
          simpa using hlaid
        obtain ⟨cs', h3, h4⟩ := fill_is hr1 ps ev _ _ m (fun q hq => hev q (by simp [hq])) hX hpl h
        refine ⟨cs', ?_, h4⟩
        simp only
        rw [if_neg (by
          simp only [Bool.or_eq_true, decide_eq_true_eq, not_or]
          exact ⟨fun e => e hsz, by omega⟩)]
        exact h3
theorem zeros_is {t : TypeId} (hT : TDok P t (C.td t)) : LsIs g r (zeros C t) (C.td t).zero ∧ (zeros C t).length = (C.td t).size := by
  unfold zeros
  refine ⟨lsIs_of (by simp) fun i x u hx hu => ?_, by rw [List.length_map, hT.2.2.1]⟩
  rw [List.getElem?_map, hu] at hx
  cases hx
  exact ofLit_is u
theorem sub_ext (E : Env P C g r n base w ob) (os : List (Nat × SO)) (v : Value) : SubR r (ext r n os v) := ext_sub E.rn os v
theorem ex_box (E : Env P C g r n base w ob) {t : TypeId} {x : Operand} {a : SV} (ho : o.op = .box t x) (ha : a.Is g r (ρ x)) (h1 : a.flat ≠ []) : Okk P ρ g r n w o (some (none, .ret (.ptr n 0) [(0, .cells t a.flat)])) := by
  intro c rt he _
  cases he
  have hf := flat_is E.r1 ha h1
  refine ⟨.pointer (some ⟨w.heap.size, 0, none⟩), w.alloc (.cells (ρ x).cells t), ?_, ?_, fun hh => (by cases hh)⟩
  · simp [execOp, ho, Instr.box, newVar, newRow]
  · refine Gv.new1 E (below_alloc _ _) ⟨rfl, rfl, rfl⟩ ?_ ?_
    · simp only [SV.Is]
      exact ⟨_, w.heap.size, ext_new _ rfl, rfl, rfl⟩
    · exact ⟨w.heap.size, _, rfl, Nat.le_refl _, heap_alloc_new w _, lsIs_sub (SubW.refl g) (sub_ext E _ _) _ _ hf⟩
theorem ex_alloc (E : Env P C g r n base w ob) {t : TypeId} (ho : o.op = .alloc t) (hs : 1 ≤ (C.td t).size) : Okk P ρ g r n w o (some (none, .ret (.ptr n 0) [(0, .cells t (zeros C t))])) := by
  intro c rt he _
  cases he
  have hT := td_ok E.tt hs
  have hz := (zeros_is (g := g) (r := r) hT).1
  refine ⟨.pointer (some ⟨w.heap.size, 0, none⟩), w.alloc (.cells (C.td t).zv.cells t), ?_, ?_, fun hh => (by cases hh)⟩
  · simp [execOp, ho, Instr.alloc, hT.zeroValue, newVar, newRow]
  · refine Gv.new1 E (below_alloc _ _) ⟨rfl, rfl, rfl⟩ ?_ ?_
    · simp only [SV.Is]
      exact ⟨_, w.heap.size, ext_new _ rfl, rfl, rfl⟩
    · refine ⟨w.heap.size, _, rfl, Nat.le_refl _, heap_alloc_new w _, lsIs_sub (SubW.refl g) (sub_ext E _ _) _ _ ?_⟩
      rw [hT.2.2.2.1]
      exact hz
theorem place_struct {t : TypeId} {fs : Array Field} (hT : ttOk P C.tt) (hP : P.underlying t = some (.struct fs)) (hu : (C.td t).un = .struct (fs.toList.map fun f => (f.offset, f.type))) {i a b : Nat} (h : placeOf C t i = some (a, b)) :
    ∃ f, fs[i]? = some f ∧ a = f.offset ∧ b = (C.td f.type).size ∧ 1 ≤ b := by
  unfold placeOf at h
  rw [hu] at h
  simp only [List.getElem?_map] at h
  cases hf : fs.toList[i]? with
  | none => rw [hf] at h; simp at h
  | some f =>
    rw [hf] at h
    simp only [Option.map_some, Option.bind_some] at h
    cases hs : Nat.ble 1 (C.td f.type).size with
    | false => rw [hs] at h; cases h
    | true =>
      rw [hs] at h
      cases h
      exact ⟨f, by simpa using hf, rfl, rfl, nble hs⟩
/-- The same fill by a place function that tells where this one does. -/
theorem fill_mono {place place' : Nat → Option (Nat × Nat)} (h : ∀ i q, place i = some q → place' i = some q) : ∀ (ps : List (Nat × Value)) (cs cs' : Array Value), Instr.fill place cs ps = some cs' → Instr.fill place' cs ps = some cs'
  | [], cs, cs', hf => hf
  | (i, v) :: ps, cs, cs', hf => by
    simp only [Instr.fill] at hf ⊢
    cases hp : place i with
    | none => rw [hp] at hf; cases hf
    | some q =>
      rw [hp] at hf
      rw [h _ _ hp]
      simp only at hf ⊢
      split at hf
      · cases hf
      · rename_i hc
        rw [if_neg hc]
        exact fill_mono h ps _ _ hf
theorem mapM_places (hT : ttOk P C.tt) : ∀ (fs : List Field) , (∀ f ∈ fs, ∃ z, ((P.info? f.type).map (·.size)) = some z) → ((fs.mapM (fun (f : Field) => (do pure (f.offset, ← sizeOf f.type) : Sem (Nat × Nat)))).run P w) = .ok (fs.map fun f => (f.offset, P.cellsOf f.type)) w
  | [], _ => rfl
  | f :: fs, h => by
    obtain ⟨z, hz⟩ := h f (by simp)
    obtain ⟨i, hi, hiz⟩ := Option.map_eq_some_iff.1 hz
    have h1 := mapM_places hT fs (fun q hq => h q (by simp [hq]))
    have h2 : (sizeOf f.type).run P w = .ok (P.cellsOf f.type) w := by simp [sizeOf, typeInfo, hi, Program.cellsOf]
    simp only [List.mapM_cons, Sem.run_bind, h2, Result.andThen_ok, Sem.run_pure, h1, List.map_cons]
theorem run_places (hT : ttOk P C.tt) {fs : Array Field} (h : ∀ f ∈ fs, 1 ≤ (C.td f.type).size) : ((fs.mapM (fun (f : Field) => (do pure (f.offset, ← sizeOf f.type) : Sem (Nat × Nat)))).run P w) = .ok (fs.map fun f => (f.offset, (C.td f.type).size)) w := by
  have h1 := mapM_places (P := P) (w := w) hT fs.toList (fun f hf => by
    obtain ⟨i, hi, h2, _⟩ := (td_ok hT (h f (by simpa using hf))).info
    exact ⟨_, by rw [hi]; rfl⟩)
  have h2 : ∀ f ∈ fs.toList, (f.offset, P.cellsOf f.type) = (f.offset, (C.td f.type).size) := by
    intro f hf
    obtain ⟨i, hi, h2, _⟩ := (td_ok hT (h f (by simpa using hf))).info
    simp [Program.cellsOf, hi, h2]
  rw [List.map_congr_left h2] at h1
  rw [Array.mapM_eq_mapM_toList]
  simp only [Sem.run_map, h1, Result.andThen_ok]
  rw [← Array.toList_map, Array.toArray_toList]
theorem ex_build (E : Env P C g r n base w ob) {t : TypeId} {ps : Array (Nat × Operand)} {ev : Operand → SV} {m : List SV} (hb : buildable C (C.td t).un = true) (ho : o.op = .build t ps) (hev : ∀ p ∈ ps.toList, (ev p.2).Is g r (ρ p.2))
    (hf : fillS (placeOf C t) (zeros C t) (ps.toList.map fun p => (p.1, ev p.2)) = some m) : Okk P ρ g r n w o (Er.one (.agg m)) := by
  have hne : (C.td t).un ≠ .other := by intro e; rw [e] at hb; cases hb
  have hT := td_un E.tt hne
  obtain ⟨e, hP, hu⟩ := hT.under
  have hz := (zeros_is (g := g) (r := r) hT).1
  rw [← hT.2.2.2.1] at hz
  have hpl : ∀ i a b, placeOf C t i = some (a, b) → 1 ≤ b := by
    intro i a b h
    unfold placeOf at h
    rw [← hu] at h hb
    cases e <;> simp only [unOf] at h <;> first | cases h | skip
    · rename_i k q
      cases hs : Nat.ble 1 (C.td q).size with
      | false => rw [hs] at h; cases h
      | true => rw [hs] at h; cases h; exact nble hs
    · rename_i fs
      simp only [List.getElem?_map] at h
      cases hfi : fs.toList[i]? with
      | none => rw [hfi] at h; simp at h
      | some f =>
        rw [hfi] at h
        simp only [Option.map_some, Option.bind_some] at h
        cases hs : Nat.ble 1 (C.td f.type).size with
        | false => rw [hs] at h; cases h
        | true => rw [hs] at h; cases h; exact nble hs
  obtain ⟨cs', h1, h2⟩ := fill_is E.r1 ps.toList ev (zeros C t) (C.td t).zv.cells m hev hz hpl hf
  refine okk_one E.rn (v := .agg cs') ?_ (by simp only [SV.Is]; exact ⟨_, rfl, h2⟩)
  have hparts : (ps.map fun x => (x.1, ρ x.2)).toList = ps.toList.map fun p => (p.1, ρ p.2) := by simp
  have hrun : (Instr.build t (ps.map fun x => (x.1, ρ x.2))).run P w = .ok (.agg cs') w := by
    rw [← hu] at hb
    cases e <;> simp only [unOf] at hb hu <;> first | cases hb | skip
    · rename_i k q
      have hq := nble hb
      have hTq := td_ok E.tt hq
      have h3 := fill_mono (place' := fun i => some (i * (C.td q).size, (C.td q).size)) (fun i p hp => by
        unfold placeOf at hp
        rw [← hu] at hp
        have hb' : Nat.ble 1 (C.td q).size = true := hb
        simp only [hb', cond_true] at hp
        exact hp) _ _ _ h1
      simp [Instr.build, hT.zeroValue, run_underlying hP, hTq.sizeOf, h3]
    · rename_i fs
      have hall : ∀ f ∈ fs, 1 ≤ (C.td f.type).size := by
        intro f hf'
        have := List.all_eq_true.1 hb (f.offset, f.type) (List.mem_map.2 ⟨f, by simpa using hf', rfl⟩)
        exact nble this
      have hpl2 := run_places (P := P) (w := w) E.tt hall
      have h3 := fill_mono (place' := fun i => (fs.map fun f => (f.offset, (C.td f.type).size))[i]?) (fun i p hp => by
        obtain ⟨p1, p2⟩ := p
        obtain ⟨f, hf1, rfl, rfl, _⟩ := place_struct (P := P) E.tt hP hu.symm hp
        simp [hf1]) _ _ _ h1
      simp only [bind_pure_comp] at hpl2
      simp only [Array.getElem?_map] at h3
      simp [Instr.build, hT.zeroValue, run_underlying hP, hpl2, h3]
  have : (ps.map fun (x : Nat × Operand) => match x with | (i, x) => (i, ρ x)) = ps.map fun x => (x.1, ρ x.2) := rfl
  simp [execOp, ho, this, hrun]
theorem allInts_is {k : IntKind} : ∀ {l : List SV} {zs : List Int} {us : List Value}, allInts k l = some zs → LsIs g r l us → us = kv k zs ∧ Fits k zs
  | [], zs, us, h, hl => by
    simp only [allInts, Option.some.injEq] at h
    subst h
    simp only [LsIs] at hl
    subst hl
    exact ⟨rfl, fun x hx => by cases hx⟩
  | x :: l, zs, us, h, hl => by
    simp only [LsIs] at hl
    obtain ⟨u, us', rfl, hx, hl⟩ := hl
    cases x with
    | v q =>
      cases q with
      | int k' z =>
        simp only [allInts] at h
        cases hk : IntKind.same k k' with
        | false => rw [hk] at h; cases h
        | true =>
          rw [hk] at h
          obtain rfl := same_eq hk
          simp only [cond_true] at h
          obtain ⟨zs', h1, h2⟩ := Option.bind_eq_some_iff.1 h
          simp only [Option.some.injEq] at h2
          subst h2
          obtain ⟨h3, h4⟩ := allInts_is h1 hl
          simp only [SV.Is] at hx
          obtain ⟨rfl, hz⟩ := hx
          exact ⟨by rw [h3]; rfl, fun y hy => by
            rcases List.mem_cons.1 hy with rfl | hy
            · exact hz
            · exact h4 y hy⟩
      | _ => simp [allInts] at h
    | _ => simp [allInts] at h
mutual
theorem zeroV_len : ∀ (T : Ty), (zeroV T).length = T.size
  | .int k => by simp [zeroV, Ty.size]
  | .bool => by simp [zeroV, Ty.size]
  | .str => by simp [zeroV, Ty.size]
  | .sl e => by simp [zeroV, Ty.size]
  | .st fs => by simp only [zeroV, Ty.size]; exact zeroVs_len fs
theorem zeroVs_len : ∀ (Ts : List Ty), (zeroVs Ts).length = sizes Ts
  | [] => by simp [zeroVs, sizes]
  | t :: ts => by simp only [zeroVs, sizes, List.length_append, zeroV_len t, zeroVs_len ts]
end
/-- A row in a new block. -/
theorem irow_new (E : Env P C g r n base w ob) {e : TypeId} {k : IntKind} {l : List Int} {cs : Array Value} {len cap : Nat} (hl : l.length = len) (hc : len ≤ cap) (hm : cap ≤ maxLen) (hcs : cs.size = cap) (ht : cs.toList.take len = kv k l) (hf : Fits k l) :
    Gv g r n w (.hdl n, [(0, .irow e k l)]) (.slice (some ⟨w.heap.size, 0, none⟩) len cap) (w.alloc (.cells cs e)) := by
  refine Gv.new1 E (below_alloc _ _) ⟨rfl, rfl, rfl⟩ ?_ ?_
  · simp only [SV.Is]
    exact ext_new _ rfl
  · refine ⟨?_, hf⟩
    subst hl
    exact ⟨by simp, .inr ⟨w.heap.size, cap, cs, rfl, Nat.le_refl _, .of (heap_alloc_new w _), hc, hm, by omega, by simpa using ht⟩⟩
theorem zerosN_len (t : TypeId) : ∀ m, (zerosN C t m).length = m * (zeros C t).length
  | 0 => by simp [zerosN]
  | m + 1 => by simp [zerosN, zerosN_len t m, Nat.add_mul, Nat.add_comm]
theorem zerosN_get (t : TypeId) (s : Nat) (hs : (zeros C t).length = s) (h0 : 0 < s) : ∀ m i, i < m * s → (zerosN C t m)[i]? = (zeros C t)[i % s]?
  | 0, i, h => by simp at h
  | m + 1, i, h => by
    simp only [zerosN]
    by_cases hi : i < s
    · rw [List.getElem?_append_left (by omega), Nat.mod_eq_of_lt hi]
    · rw [List.getElem?_append_right (by omega), hs, zerosN_get t s hs h0 m (i - s) (by rw [Nat.add_mul] at h; omega), ← Nat.mod_eq_sub_mod (by omega)]
theorem made_is {t : TypeId} (hT : TDok P t (C.td t)) (hs : 1 ≤ (C.td t).size) (m : Nat) : LsIs g r (zerosN C t m) ((Array.range (m * (C.td t).size)).map ((C.td t).zv.cells[· % (C.td t).zv.cells.size]!)).toList := by
  have hz := zeros_is (g := g) (r := r) hT
  have hzc : (C.td t).zv.cells.size = (C.td t).size := by rw [← Array.length_toList, hT.2.2.2.1, hT.2.2.1]
  refine lsIs_of (by simp [zerosN_len, hz.2]) fun i x u hx hu => ?_
  have hi : i < m * (C.td t).size := by
    have := (List.getElem?_eq_some_iff.1 hx).1
    rwa [zerosN_len, hz.2] at this
  rw [zerosN_get t _ hz.2 (by omega) m i hi] at hx
  obtain ⟨v, h1, h2⟩ := lsIs_get hz.1 hx
  have hmod : i % (C.td t).size < (C.td t).zv.cells.size := by rw [hzc]; exact Nat.mod_lt _ (by omega)
  have : u = v := by
    simp only [Array.toList_map, List.getElem?_map] at hu
    rw [Array.getElem?_toList, Array.getElem?_range] at hu
    simp only [hi, if_true, Option.map_some, Option.some.injEq] at hu
    rw [← hu, hzc]
    have h3 : (C.td t).zv.cells[i % (C.td t).size]? = some v := by rw [← Array.getElem?_toList, hT.2.2.2.1]; exact h1
    rw [getElem!_pos (C.td t).zv.cells _ hmod]
    rw [Array.getElem?_eq_getElem hmod] at h3
    exact Option.some.inj h3
  rw [this]
  exact h2
def exBuildSlice (C : Cx) (n len : Nat) (e : TypeId) (l : List SV) : Er := match (C.td e).un with
  | .int k => bif Nat.beq (C.td e).size 1 then (allInts k l).bind fun zs => some (none, .ret (.hdl n) [(0, .irow e k zs)]) else none
  | _ => some (none, .ret (.csl n len) [(0, .cells e l)])
theorem ex_buildSlice (E : Env P C g r n base w ob) {t e : TypeId} {len : Nat} {ps : Array (Nat × Operand)} {ev : Operand → SV} {m : List SV} (hu : (C.td t).un = .slice e) (hs : 1 ≤ (C.td e).size) (hsz : len * (C.td e).size ≤ 16777216) (ho : o.op = .buildSlice t len ps) (hev : ∀ p ∈ ps.toList, (ev p.2).Is g r (ρ p.2))
    (hf : fillS (fun i => some (i * (C.td e).size, (C.td e).size)) (zerosN C e len) (ps.toList.map fun p => (p.1, ev p.2)) = some m) : Okk P ρ g r n w o (exBuildSlice C n len e m) := by
  have hP := under_slice E.tt hu
  have hT := td_ok E.tt hs
  have hz := made_is (g := g) (r := r) hT hs len
  obtain ⟨cs', h1, h2⟩ := fill_is E.r1 ps.toList ev _ _ m hev hz (fun i a b h => by cases h; exact hs) hf
  have hzc : (C.td e).zv.cells.size = (C.td e).size := by rw [← Array.length_toList, hT.2.2.2.1, hT.2.2.1]
  have hlen : cs'.size = len * (C.td e).size := by
    have h3 : m.length = (zerosN C e len).length := by
      clear h2 h1
      revert hf
      generalize zerosN C e len = z0
      generalize ps.toList.map (fun p => (p.1, ev p.2)) = q0
      intro hf
      induction q0 generalizing z0 with
      | nil => simp only [fillS, Option.some.injEq] at hf; rw [hf]
      | cons q qs ih =>
        simp only [fillS] at hf
        cases hb : (Nat.beq q.2.flat.length (C.td e).size && Nat.ble (q.1 * (C.td e).size + (C.td e).size) z0.length) with
        | false => rw [hb] at hf; cases hf
        | true => rw [hb] at hf; simp only [cond_true] at hf; rw [ih _ hf, laid_len]
    have := lsIs_len h2
    rw [h3, zerosN_len, (zeros_is (g := g) (r := r) hT).2] at this
    simpa using this
  have hrun : (execOp ρ o).run P w = .ok (.value (.slice (some ⟨w.heap.size, 0, none⟩) len len)) (w.alloc (.cells cs' e)) := by
    have hb : ¬ (16777216 < len * (C.td e).size) := by omega
    have hps : (ps.map fun (x : Nat × Operand) => match x with | (i, x) => (i, ρ x)) = ps.map fun x => (x.1, ρ x.2) := rfl
    by_cases h0 : len = 0
    · have e0 : len * (C.td e).size = 0 := by rw [h0, Nat.zero_mul]
      have e1 : (Array.range (len * (C.td e).size)).map ((C.td e).zv.cells[· % (C.td e).zv.cells.size]!) = #[] := by rw [e0]; simp
      rw [e1] at h1
      subst h0
      have e2 : (Array.range 0).map (fun _ : Nat => (default : Value)) = #[] := by simp
      simp [execOp, ho, Instr.buildSlice, run_underlying hP, hT.sizeOf, hps, newRow, e2, h1]
    · have h0' : ¬ (len * (C.td e).size = 0) := by
        intro e'
        rcases Nat.mul_eq_zero.1 e' with h | h <;> omega
      simp [execOp, ho, Instr.buildSlice, run_underlying hP, hT.sizeOf, hps, newRow, hb, h0', hT.zeroValue, h1]
  have hmx : len ≤ maxLen := by
    have : len * 1 ≤ len * (C.td e).size := Nat.mul_le_mul_left _ hs
    unfold maxLen
    omega
  have hany : Okk P ρ g r n w o (some (none, .ret (.csl n len) [(0, .cells e m)])) := by
    intro c rt he _
    cases he
    refine ⟨_, _, hrun, Gv.new1 E (below_alloc _ _) ⟨rfl, rfl, rfl⟩ ?_ ?_, fun hh => (by cases hh)⟩
    · simp only [SV.Is]
      exact ⟨ext_new _ rfl, w.heap.size, rfl⟩
    · exact ⟨w.heap.size, _, rfl, Nat.le_refl _, heap_alloc_new w _, lsIs_sub (SubW.refl g) (sub_ext E _ _) _ _ h2⟩
  unfold exBuildSlice
  split
  · rename_i k hk
    cases hb : Nat.beq (C.td e).size 1 with
    | false => exact okk_none
    | true =>
      have hb := Nat.eq_of_beq_eq_true hb
      cases ha : allInts k m with
      | none => exact okk_none
      | some zs =>
        simp only [cond_true, Option.bind_some]
        obtain ⟨h3, h4⟩ := allInts_is ha h2
        intro c rt he _
        cases he
        have hzl : zs.length = len := by
          have := congrArg List.length h3
          simp at this
          rw [hb, Nat.mul_one] at hlen
          omega
        exact ⟨_, _, hrun, irow_new E hzl (Nat.le_refl _) hmx (by rw [hlen, hb, Nat.mul_one]) (by rw [List.take_of_length_le (by simp [hlen, hb])]; exact h3) h4, fun hh => (by cases hh)⟩
  · exact hany
theorem ex_makeSlice (E : Env P C g r n base w ob) {t e : TypeId} {l c : Operand} {ka kb k : IntKind} {a b : Int} (hu : (C.td t).un = .slice e) (hk : (C.td e).un = .int k) (hs : (C.td e).size = 1) (hz : isZero k (C.td e).zero = true) (ho : o.op = .makeSlice t l c) (ha : ρ l = .int ka a) (hb : ρ c = .int kb b) :
    Okk P ρ g r n w o (some (some (std.le3 0 a b ∧ std.room (C.td e).bytes b), .ret (.hdl n) [(0, .irow e k (std.lrep a))])) := by
  intro cc rt he hcc
  cases he
  obtain ⟨⟨h0, hab⟩, hr, hm⟩ : ((0 : Int) ≤ a ∧ a ≤ b) ∧ (b * (C.td e).bytes ≤ 140737488355328 ∧ b ≤ 281474976710656) := hcc _ rfl
  have hP := under_slice E.tt hu
  have hT := td_ok E.tt (t := e) (by omega)
  obtain ⟨i, hi, h1, h2, h3⟩ := hT.info
  have hzero : (C.td e).zv.cells = #[.int k 0] := by
    have h4 := hT.2.2.2.1
    cases hzz : (C.td e).zero with
    | nil => rw [hzz] at hz; cases hz
    | cons q qs =>
      rw [hzz] at hz h4
      cases q <;> first | cases hz | skip
      rename_i k' z
      cases z with
      | negSucc m => cases hz
      | ofNat m =>
        cases m with
        | succ m => cases hz
        | zero =>
          cases qs with
          | cons => cases hz
          | nil =>
            obtain rfl := same_eq hz
            apply Array.toList_inj.1
            rw [h4]
            rfl
  have hrun := run_make (P := P) w t e i (C.td e).zv hP hi h3 ka kb a b h0 hab (by rw [h2]; rw [Int.mul_comm]; omega) (by omega)
  rw [hzero, h1, hs, Nat.mul_one] at hrun
  refine ⟨.slice (some ⟨w.heap.size, 0, none⟩) a.toNat b.toNat, w.alloc (.cells (madeCells #[.int k 0] b.toNat) e), by simp only [execOp, ho, Sem.run_bind, ha, hb, hrun, Result.andThen_ok, Sem.run_pure], irow_new E (by simp [std]) (by omega) (by unfold maxLen; omega) (size_madeCells _ _) ?_ ?_, fun hh => (by cases hh)⟩
  · rw [kv_zero]
    simp only [std, ← List.map_take, List.take_replicate]
    rw [Nat.min_eq_left (by omega)]
  · intro x hx
    simp only [std, List.mem_replicate] at hx
    rw [hx.2]
    cases k <;> decide
theorem made_seg {z : Array Value} {a b i : Nat} (hz : 0 < z.size) (hi : i < a) (hab : a ≤ b) : (((madeCells z (b * z.size)).toList.take (a * z.size)).drop (i * z.size)).take z.size = z.toList := by
  have h1 := Nat.mul_le_mul_right z.size (show i + 1 ≤ a from hi)
  have h2 := Nat.mul_le_mul_right z.size hab
  rw [Nat.succ_mul] at h1
  apply List.ext_getElem?
  intro j
  rw [List.getElem?_take]
  by_cases hj : j < z.size
  · rw [if_pos hj, List.getElem?_drop, List.getElem?_take, if_pos (by omega), Array.getElem?_toList, Array.getElem?_toList]
    have : i * z.size + j < b * z.size := by omega
    have e : (i * z.size + j) % z.size = j := by rw [Nat.mul_comm, Nat.mul_add_mod, Nat.mod_eq_of_lt hj]
    simp [madeCells, this, e, hj]
  · rw [if_neg hj, Array.getElem?_toList, Array.getElem?_eq_none (by omega)]
mutual
theorem zero_rd {g : World} : ∀ (T : Ty), Rd maxLen g T (zeroV T) (zeroD T)
  | .int k => by simp only [Rd, zeroV, zeroD]; exact ⟨0, rfl, rfl, by cases k <;> decide⟩
  | .bool => by simp only [Rd, zeroV, zeroD]; exact ⟨false, rfl, rfl⟩
  | .str => by simp only [Rd, zeroV, zeroD]; exact ⟨_, rfl, rfl, by decide⟩
  | .sl e => by simp only [Rd, zeroV, zeroD]; exact ⟨none, 0, [], rfl, rfl, Nat.le_refl _, Nat.zero_le _, .inl rfl⟩
  | .st fs => by simp only [Rd, zeroV, zeroD]; exact ⟨_, rfl, zeros_rd fs⟩
theorem zeros_rd {g : World} : ∀ (Ts : List Ty), RdL maxLen g Ts (zeroVs Ts) (zeroDs Ts)
  | [] => by simp only [RdL, zeroVs, zeroDs]; exact ⟨trivial, trivial⟩
  | t :: ts => by
    simp only [RdL, zeroVs, zeroDs]
    exact ⟨_, _, _, _, rfl, zeroV_len t, rfl, zero_rd t, zeros_rd ts⟩
end
theorem bytes_nil {s t : ByteArray} (h : s.size = 0) (h' : t.size = 0) : s = t := by
  obtain ⟨a⟩ := s
  obtain ⟨b⟩ := t
  have h : a.size = 0 := h
  have h' : b.size = 0 := h'
  rw [Array.eq_empty_of_size_eq_zero h, Array.eq_empty_of_size_eq_zero h']
theorem sameZ_eq : ∀ {l m : List Value}, sameZ l m = true → l = m
  | [], [], _ => rfl
  | [], _ :: _, h => by cases h
  | _ :: _, [], h => by cases h
  | x :: l, y :: m, h => by
    simp only [sameZ, Bool.and_eq_true] at h
    rw [sameZ_eq h.2]
    congr 1
    have h1 := h.1
    split at h1
    · rw [same_eq h1]
    · rfl
    · simp only [Bool.and_eq_true] at h1
      rw [bytes_nil (Nat.eq_of_beq_eq_true h1.1) (Nat.eq_of_beq_eq_true h1.2)]
    · rfl
    · cases h1
theorem ex_makeRows (E : Env P C g r n base w ob) {t e : TypeId} {l c : Operand} {ka kb : IntKind} {a b : Int} {T : Ty} (hu : (C.td t).un = .slice e) (hs : 1 ≤ (C.td e).size) (hTs : T.size = (C.td e).size) (hz : zeroIs T (C.td e).zero = true) (ho : o.op = .makeSlice t l c) (ha : ρ l = .int ka a) (hb : ρ c = .int kb b) :
    Okk P ρ g r n w o (some (some (std.le3 0 a b ∧ std.room (C.td e).bytes b), .ret (.hdl n) [(0, .srow e T (std.drep (zeroD T) a))])) := by
  intro cc rt he hcc
  cases he
  obtain ⟨⟨h0, hab⟩, hr, hm⟩ : ((0 : Int) ≤ a ∧ a ≤ b) ∧ (b * (C.td e).bytes ≤ 140737488355328 ∧ b ≤ 281474976710656) := hcc _ rfl
  have hP := under_slice E.tt hu
  have hT := td_ok E.tt (t := e) (by omega)
  obtain ⟨i, hi, h1, h2, h3⟩ := hT.info
  have hzero : (C.td e).zv.cells.toList = zeroV T := by rw [hT.2.2.2.1]; exact (sameZ_eq hz).symm
  have hzs : (C.td e).zv.cells.size = T.size := by rw [← Array.length_toList, hzero, zeroV_len]
  have hrun := run_make (P := P) w t e i (C.td e).zv hP hi h3 ka kb a b h0 hab (by rw [h2]; rw [Int.mul_comm]; omega) (by omega)
  rw [h1, ← hTs, ← hzs] at hrun
  refine ⟨.slice (some ⟨w.heap.size, 0, none⟩) a.toNat b.toNat, w.alloc (.cells (madeCells (C.td e).zv.cells (b.toNat * (C.td e).zv.cells.size)) e), by simp only [execOp, ho, Sem.run_bind, ha, hb, hrun, Result.andThen_ok, Sem.run_pure], ?_, fun hh => (by cases hh)⟩
  have hab' : a.toNat ≤ b.toNat := by omega
  refine Gv.new1 E (below_alloc _ _) ⟨rfl, rfl, rfl⟩ (by simp only [SV.Is]; exact ext_new _ rfl) ⟨by omega, List.replicate a.toNat (zeroD T), (madeCells (C.td e).zv.cells (b.toNat * (C.td e).zv.cells.size)).toList.take (a.toNat * T.size), rfl, ⟨?_, .inr ⟨w.heap.size, b.toNat, _, by rw [List.length_replicate], Nat.le_refl _, .of (heap_alloc_new w _), by rw [List.length_replicate]; exact hab', by unfold maxLen; omega, ?_, by rw [List.length_replicate]⟩⟩, ?_⟩
  · have := Nat.mul_le_mul_right T.size hab'
    rw [List.length_take, List.length_replicate, Array.length_toList, size_madeCells, hzs]
    omega
  · rw [size_madeCells, hzs]
  · intro j u hj
    rw [List.getElem?_replicate] at hj
    split at hj
    · cases hj
      rw [← hzs, made_seg (by omega) (by assumption) hab', hzero]
      exact zero_rd T
    · cases hj
theorem run_slice {t e : TypeId} {d : TD} (hP : P.underlying t = some (.slice e)) (hT : TDok P e d) {ao : Option Addr} {len cap : Nat} {ka kb : IntKind} {a b : Int} (h0 : 0 ≤ a) (hab : a ≤ b) (hb : b ≤ cap) :
    (Instr.sliceAt t (.slice ao len cap) (some (.int ka a)) (some (.int kb b)) none).run P w = .ok (.slice (if cap = a.toNat then ao else ao.map (·.add (a.toNat * d.size))) (b.toNat - a.toNat) (cap - a.toNat)) w := by
  have h1 : 0 ≤ b := by omega
  have h2 : (b.toNat : Int) = b := by omega
  simp [Instr.sliceAt, Instr.slice, run_underlying hP, Instr.sliceBounds, Instr.sliceBound, asIntOf, h0, hab, hb, h1, h2, hT.sizeOf]
theorem run_slice_hi {t e : TypeId} {d : TD} (hP : P.underlying t = some (.slice e)) (hT : TDok P e d) {ao : Option Addr} {len cap : Nat} {ka : IntKind} {a : Int} (h0 : 0 ≤ a) (hab : a ≤ len) :
    (Instr.sliceAt t (.slice ao len cap) (some (.int ka a)) none none).run P w = .ok (.slice (if cap = a.toNat then ao else ao.map (·.add (a.toNat * d.size))) (len - a.toNat) (cap - a.toNat)) w := by
  simp [Instr.sliceAt, Instr.slice, run_underlying hP, Instr.sliceBounds, Instr.sliceBound, asIntOf, h0, hab, hT.sizeOf]
theorem run_slice_lo {t e : TypeId} {d : TD} (hP : P.underlying t = some (.slice e)) (hT : TDok P e d) {ao : Option Addr} {len cap : Nat} {kb : IntKind} {b : Int} (h0 : 0 ≤ b) (hb : b ≤ cap) :
    (Instr.sliceAt t (.slice ao len cap) none (some (.int kb b)) none).run P w = .ok (.slice (if cap = 0 then ao else ao.map (·.add (0 * d.size))) b.toNat cap) w := by
  have h2 : (b.toNat : Int) = b := by omega
  simp [Instr.sliceAt, Instr.slice, run_underlying hP, Instr.sliceBounds, Instr.sliceBound, asIntOf, h0, hb, h2, hT.sizeOf]
theorem run_slice_no {t e : TypeId} {d : TD} (hP : P.underlying t = some (.slice e)) (hT : TDok P e d) {ao : Option Addr} {len cap : Nat} :
    (Instr.sliceAt t (.slice ao len cap) none none none).run P w = .ok (.slice (if cap = 0 then ao else ao.map (·.add (0 * d.size))) len cap) w := by
  simp [Instr.sliceAt, Instr.slice, run_underlying hP, Instr.sliceBounds, Instr.sliceBound, hT.sizeOf]
def loIs (ρ : Operand → Value) (ka : IntKind) (a : Int) : Option Operand → Prop
  | some l => ρ l = .int ka a
  | none => a = 0
def hiIs (ρ : Operand → Value) (b : Int) (m : Nat) : Option Operand → Prop
  | some h => ∃ kb, ρ h = .int kb b
  | none => b = (m : Int)
/-- What a part of a slice is asked: its ends. -/
theorem run_part_slice {t e : TypeId} {d : TD} (hP : P.underlying t = some (.slice e)) (hT : TDok P e d) {x : Operand} {lo hi : Option Operand} {ao : Option Addr} {len cap : Nat} {ka : IntKind} {a b : Int} (ho : o.op = .slice t x lo hi none) (hx : ρ x = .slice ao len cap)
    (hlo : loIs ρ ka a lo) (hhi : hiIs ρ b len hi) (h0 : 0 ≤ a) (hab : a ≤ b) (hb : b ≤ len) (hlc : len ≤ cap) :
    (execOp ρ o).run P w = .ok (.value (.slice (if cap = a.toNat then ao else ao.map (·.add (a.toNat * d.size))) (b.toNat - a.toNat) (cap - a.toNat))) w := by
  cases lo with
  | some l =>
    cases hi with
    | some h =>
      obtain ⟨kb, hh⟩ := hhi
      have := run_slice (P := P) (w := w) hP hT (ao := ao) (len := len) (cap := cap) (ka := ka) (kb := kb) h0 hab (by omega)
      simp only [loIs] at hlo
      simp [execOp, ho, hx, hlo, hh, this]
    | none =>
      simp only [loIs, hiIs] at hlo hhi
      subst hhi
      have := run_slice_hi (P := P) (w := w) hP hT (ao := ao) (len := len) (cap := cap) (ka := ka) h0 hab
      simp [execOp, ho, hx, hlo, this]
  | none =>
    simp only [loIs] at hlo
    subst hlo
    cases hi with
    | some h =>
      obtain ⟨kb, hh⟩ := hhi
      have := run_slice_lo (P := P) (w := w) hP hT (ao := ao) (len := len) (cap := cap) (kb := kb) hab (by omega)
      simp [execOp, ho, hx, hh, this]
    | none =>
      simp only [hiIs] at hhi
      subst hhi
      have := run_slice_no (P := P) (w := w) hP hT (ao := ao) (len := len) (cap := cap)
      simp [execOp, ho, hx, this]
theorem part_addr {w : World} {xs : List Value} {ao : Option Addr} {m c a b : Nat} (h : Holds w (.slice ao m c) xs) (hm : xs.length = m) (hab : a ≤ b) (hb : b ≤ m) (hc : m ≤ c) (s : Nat) :
    b - a = 0 ∨ ∃ bl off, ao = some ⟨bl, off, none⟩ ∧ (if c = a then ao else ao.map (·.add (a * s))) = some ⟨bl, off + a * s, none⟩ := by
  by_cases h0 : b - a = 0
  · exact .inl h0
  · right
    obtain ⟨ao', cap, he, _, _, hh⟩ := h
    injection he with e1 e2 e3
    subst e1
    rcases hh with hh | ⟨bl, off, rfl, _⟩
    · rw [hh] at hm; simp at hm; omega
    · refine ⟨bl, off, rfl, ?_⟩
      rw [if_neg (by omega)]
      simp [Addr.add_lit]
/-- A part of what reads as data. -/
theorem rd_part {M : Nat} {w : World} {e : Ty} {v : Value} {d : Dat} (h : Rd M w (.sl e) [v] d) {ao : Option Addr} {m c : Nat} (hv : v = .slice ao m c) {a b : Nat} (hab : a ≤ b) (hb : b ≤ m) {a' : Option Addr}
    (ha : b - a = 0 ∨ ∃ bl off, ao = some ⟨bl, off, none⟩ ∧ a' = some ⟨bl, off + a * e.size, none⟩) : Rd M w (.sl e) [.slice a' (b - a) (c - a)] (.list ((d.ls.drop a).take (b - a))) := by
  rw [Rd] at h ⊢
  obtain ⟨ao', cap, ds, he, rfl, hl, hc, hh⟩ := h
  subst hv
  simp only [List.cons.injEq, Value.slice.injEq, and_true] at he
  obtain ⟨rfl, rfl, rfl⟩ := he
  have hls : (Dat.list ds).ls = ds := rfl
  rw [hls]
  have hlen : ((ds.drop a).take (b - a)).length = b - a := by rw [List.length_take, List.length_drop]; omega
  refine ⟨a', c - a, _, by rw [hlen], rfl, by omega, by omega, ?_⟩
  rcases ha with h0 | ⟨bl, off, rfl, rfl⟩
  · left; rw [h0]; simp
  · by_cases h0 : b - a = 0
    · left; rw [h0]; simp
    right
    refine ⟨bl, _, rfl, fun i u hu => ?_⟩
    rcases hh with rfl | ⟨bl', off', hbl, hh⟩
    · simp at hu
    · cases hbl
      have hi : i < b - a := by
        have := (List.getElem?_eq_some_iff.1 hu).1
        rwa [hlen] at this
      rw [List.getElem?_take, if_pos hi, List.getElem?_drop] at hu
      obtain ⟨es, h1, h2, h3⟩ := hh (a + i) u hu
      refine ⟨es, h1, fun j v hj => ?_, h3⟩
      have := h2 j v hj
      rwa [show off + a * e.size + (i * e.size + j) = off + ((a + i) * e.size + j) from by rw [Nat.add_mul]; omega]
theorem ex_slice (E : Env P C g r n base w ob) {t e : TypeId} {x : Operand} {lo hi : Option Operand} {ev : Operand → SV} (hu : (C.td t).un = .slice e) (ho : o.op = .slice t x lo hi none) (hx : (ev x).Is g r (ρ x)) (hlo : ∀ l, lo = some l → (ev l).Is g r (ρ l)) (hhi : ∀ l, hi = some l → (ev l).Is g r (ρ l)) :
    Okk P ρ g r n w o (exSlice C ob e (ev x) (loOf ev lo) (hiOf ev hi)) := by
  have hP := under_slice E.tt hu
  generalize hsl : loOf ev lo = sl
  generalize hsh : hiOf ev hi = sh
  generalize hsx : ev x = sx at hx
  -- the ends
  have hlo' : ∀ ka a, sl = .v (.int ka a) → loIs ρ ka a lo := by
    intro ka a h
    cases lo with
    | none => simp only [loOf] at hsl; rw [← hsl] at h; cases h; rfl
    | some l =>
      simp only [loOf] at hsl
      have := hlo l rfl
      rw [hsl, h] at this
      simp only [SV.Is] at this
      exact this.1
  have hhi' : ∀ (m : Nat), (sh = none → hiIs ρ (m : Int) m hi) ∧ ∀ kb b, sh = some (.v (.int kb b)) → hiIs ρ b m hi := by
    intro m
    constructor
    · intro h
      cases hi with
      | none => rfl
      | some l => simp only [hiOf] at hsh; rw [← hsh] at h; cases h
    · intro kb b h
      cases hi with
      | none => simp only [hiOf] at hsh; rw [← hsh] at h; cases h
      | some l =>
        simp only [hiOf] at hsh
        rw [← hsh] at h
        have h2 := hhi l rfl
        rw [Option.some.inj h] at h2
        simp only [SV.Is] at h2
        exact ⟨kb, h2.1⟩
  clear hsl hsh hsx
  unfold exSlice
  split
  · rename_i ka a
    have hloa := hlo' ka a rfl
    split
    · -- numbers that are data
      rename_i k l
      cases hs : Nat.beq (C.td e).size 1 with
      | false => exact okk_none
      | true =>
      have hs := Nat.eq_of_beq_eq_true hs
      have hT := td_ok E.tt (t := e) (by omega)
      simp only [SV.Is] at hx
      obtain ⟨ao, cap, hv, hl1, hl2, _⟩ := id hx.1
      rw [kv_len] at hv hl1
      have key : ∀ b : Int, hiIs ρ b l.length hi → 0 ≤ a → a ≤ b → b ≤ l.length → ∃ v, (execOp ρ o).run P w = .ok (.value v) w ∧ (SV.iimm k (std.lsub l a (std.dif b a))).Is g r v := by
        intro b hb h0 hab hbl
        refine ⟨_, run_part_slice (P := P) (w := w) hP hT ho hv hloa hb h0 hab hbl hl1, ?_⟩
        simp only [SV.Is]
        rw [hv] at hx
        have h3 := part_addr hx.1 (by rw [kv_len]) (a := a.toNat) (b := b.toNat) (by omega) (by omega) hl1 (C.td e).size
        have := sub_holds (v := .nilFunc) hx (lo := a.toNat) (len := b.toNat - a.toNat) (by omega) (a' := if cap = a.toNat then ao else ao.map (·.add (a.toNat * (C.td e).size))) (c' := cap - a.toNat) (by omega) (by omega) (by
          rw [hs, Nat.mul_one] at *
          exact h3)
        have e1 : std.lsub l a (std.dif b a) = (l.drop a.toNat).take (b.toNat - a.toNat) := by
          show (l.drop a.toNat).take (b - a).toNat = _
          rw [show (b - a).toNat = b.toNat - a.toNat from by omega]
        rw [e1]
        exact this
      simp only [cond_true]
      rw [E.A]
      split
      · refine okk_one' E.rn fun hp => ?_
        obtain ⟨h0, h1⟩ : 0 ≤ a ∧ a ≤ (l.length : Int) := hp
        exact key _ ((hhi' l.length).1 rfl) h0 h1 (Int.le_refl _)
      · rename_i kb b
        refine okk_one' E.rn fun hp => ?_
        obtain ⟨⟨h0, h1⟩, h2, h3⟩ : (0 ≤ a ∧ a ≤ b) ∧ (0 ≤ b ∧ b ≤ (l.length : Int)) := hp
        exact key _ ((hhi' l.length).2 kb b rfl) h0 h1 h3
      · exact okk_none
    · -- data
      rename_i T d
      cases hs : Nat.ble 1 (C.td e).size with
      | false => exact okk_none
      | true =>
      cases hs2 : Nat.beq T.size (C.td e).size with
      | false => exact okk_none
      | true =>
      have hs2 := Nat.eq_of_beq_eq_true hs2
      have hT := td_ok E.tt (t := e) (nble hs)
      simp only [SV.Is] at hx
      obtain ⟨ao, cap, ds, hv, hd, hl1, hl2, hhh⟩ := (by rw [Rd] at hx; exact hx : ∃ ao cap ds, [ρ x] = [Value.slice ao ds.length cap] ∧ d = .list ds ∧ ds.length ≤ cap ∧ cap ≤ maxLen ∧ _)
      simp only [List.cons.injEq, and_true] at hv
      subst hd
      have key : ∀ b : Int, hiIs ρ b ds.length hi → 0 ≤ a → a ≤ b → b ≤ ds.length → ∃ v, (execOp ρ o).run P w = .ok (.value v) w ∧ (SV.imm T (std.dsub (.list ds) a (std.dif b a))).Is g r v := by
        intro b hb h0 hab hbl
        refine ⟨_, run_part_slice (P := P) (w := w) hP hT ho hv hloa hb h0 hab hbl hl1, ?_⟩
        simp only [SV.Is]
        have h3 : b.toNat - a.toNat = 0 ∨ ∃ bl off, ao = some ⟨bl, off, none⟩ ∧ (if cap = a.toNat then ao else ao.map (·.add (a.toNat * (C.td e).size))) = some ⟨bl, off + a.toNat * T.size, none⟩ := by
          by_cases h4 : b.toNat - a.toNat = 0
          · exact .inl h4
          · right
            rcases hhh with rfl | ⟨bl, off, rfl, _⟩
            · simp at hbl; omega
            · refine ⟨bl, off, rfl, ?_⟩
              rw [if_neg (by omega), ← hs2]
              simp [Addr.add_lit]
        have := rd_part hx hv (a := a.toNat) (b := b.toNat) (by omega) (by omega) h3
        have e1 : std.dsub (.list ds) a (std.dif b a) = .list ((ds.drop a.toNat).take (b.toNat - a.toNat)) := by
          show Dat.list ((ds.drop a.toNat).take (b - a).toNat) = _
          rw [show (b - a).toNat = b.toNat - a.toNat from by omega]
        rw [e1]
        exact this
      simp only [cond_true, Bool.and_self]
      rw [E.A]
      split
      · refine okk_one' E.rn fun hp => ?_
        obtain ⟨h0, h1⟩ : 0 ≤ a ∧ a ≤ (ds.length : Int) := hp
        exact key _ ((hhi' ds.length).1 rfl) h0 h1 (Int.le_refl _)
      · rename_i kb b
        refine okk_one' E.rn fun hp => ?_
        obtain ⟨⟨h0, h1⟩, h2, h3⟩ : (0 ≤ a ∧ a ≤ b) ∧ (0 ≤ b ∧ b ≤ (ds.length : Int)) := hp
        exact key _ ((hhi' ds.length).2 kb b rfl) h0 h1 h3
      · exact okk_none
    · -- a row of the call's own
      rename_i id
      split
      · rename_i E' k l hob
        cases hs : Nat.beq (C.td e).size 1 with
        | false => exact okk_none
        | true =>
        have hs := Nat.eq_of_beq_eq_true hs
        have hT := td_ok E.tt (t := e) (by omega)
        obtain ⟨h, hr1, hoi⟩ := E.obs id (by rw [hob]; simp)
        rw [hob] at hoi
        simp only [SV.Is] at hx
        rw [hr1] at hx
        cases hx
        have hrd := row_reads hoi.1 hoi.2
        obtain ⟨ao, cap, hv, hl1, hl2, hl3⟩ := row_len hoi.1
        have key : ∀ b : Int, hiIs ρ b l.length hi → 0 ≤ a → a ≤ b → b ≤ l.length → ∃ v, (execOp ρ o).run P w = .ok (.value v) w ∧ (SV.sub id a (std.dif b a)).Is g r v := by
          intro b hb h0 hab hbl
          refine ⟨_, run_part_slice (P := P) (w := w) hP hT ho hv hloa hb h0 hab hbl hl1, ?_⟩
          simp only [SV.Is]
          have e1 : std.dif b a = b - a := rfl
          rw [e1]
          refine ⟨ao, l.length, cap, by rw [hr1, hv], h0, by omega, by omega, _, _, by rw [show (b - a).toNat = b.toNat - a.toNat from by omega], by omega, by omega, ?_⟩
          by_cases h4 : b - a = 0
          · exact .inl h4
          · right
            rcases hl3 with rfl | ⟨bl, rfl⟩
            · simp at hbl; omega
            · refine ⟨bl, rfl, ?_⟩
              rw [if_neg (by omega), hs]
              simp [Addr.add_lit]
        simp only [cond_true]
        rw [E.A]
        split
        · refine okk_one' E.rn fun hp => ?_
          obtain ⟨h0, h1⟩ : 0 ≤ a ∧ a ≤ (l.length : Int) := hp
          exact key _ ((hhi' l.length).1 rfl) h0 h1 (Int.le_refl _)
        · rename_i kb b
          refine okk_one' E.rn fun hp => ?_
          obtain ⟨⟨h0, h1⟩, h2, h3⟩ : (0 ≤ a ∧ a ≤ b) ∧ (0 ≤ b ∧ b ≤ (l.length : Int)) := hp
          exact key _ ((hhi' l.length).2 kb b rfl) h0 h1 h3
        · exact okk_none
      · exact okk_none
    · -- a part of one
      rename_i id lo' ln
      cases hs : Nat.beq (C.td e).size 1 with
      | false => exact okk_none
      | true =>
      have hs := Nat.eq_of_beq_eq_true hs
      have hT := td_ok E.tt (t := e) (by omega)
      simp only [SV.Is] at hx
      obtain ⟨ao, m, c, hr1, hlo1, hln1, hle1, a', c', hv, hc1, hc2, hh⟩ := hx
      have hln2 : ((ln.toNat : Nat) : Int) = ln := by omega
      have key : ∀ b : Int, hiIs ρ b ln.toNat hi → 0 ≤ a → a ≤ b → b ≤ ln → ∃ v, (execOp ρ o).run P w = .ok (.value v) w ∧ (SV.sub id (std.add lo' a) (std.dif b a)).Is g r v := by
        intro b hb h0 hab hbl
        refine ⟨_, run_part_slice (P := P) (w := w) hP hT ho hv hloa hb h0 hab (by omega) hc1, ?_⟩
        simp only [SV.Is]
        have e1 : std.dif b a = b - a := rfl
        have e2 : std.add lo' a = lo' + a := rfl
        rw [e1, e2]
        refine ⟨ao, m, c, hr1, by omega, by omega, by omega, _, _, by rw [show (b - a).toNat = b.toNat - a.toNat from by omega], by omega, by omega, ?_⟩
        by_cases h4 : b - a = 0
        · exact .inl h4
        · right
          rcases hh with hh | ⟨bl, rfl, rfl⟩
          · omega
          · refine ⟨bl, rfl, ?_⟩
            rw [if_neg (by omega), hs]
            simp [Addr.add_lit, show (lo' + a).toNat = lo'.toNat + a.toNat from by omega]
      simp only [cond_true]
      rw [E.A]
      split
      · refine okk_one' E.rn fun hp => ?_
        obtain ⟨h0, h1⟩ : 0 ≤ a ∧ a ≤ ln := hp
        have := key _ ((hhi' ln.toNat).1 rfl) h0 (by omega) (by omega)
        rwa [hln2] at this
      · rename_i kb b
        refine okk_one' E.rn fun hp => ?_
        obtain ⟨⟨h0, h1⟩, h2, h3⟩ : (0 ≤ a ∧ a ≤ b) ∧ (0 ≤ b ∧ b ≤ ln) := hp
        exact key _ ((hhi' ln.toNat).2 kb b rfl) h0 h1 h3
      · exact okk_none
    · exact okk_none
  · exact okk_none
theorem ex_extract (E : Env P C g r n base w ob) {x : Operand} {i : Nat} {l : List SV} {y : SV} (ho : o.op = .extract x i) (hx : (SV.tup l).Is g r (ρ x)) (hy : l[i]? = some y) : Okk P ρ g r n w o (Er.one y) := by
  simp only [SV.Is] at hx
  obtain ⟨cs, hv, hl⟩ := hx
  obtain ⟨u, h1, h2⟩ := lsIs_get hl hy
  refine okk_one E.rn ?_ h2
  simp [execOp, ho, hv, Instr.extract, ← Array.getElem?_toList, h1]
theorem ex_convert (E : Env P C g r n base w ob) {src dst : TypeId} {x : Operand} {a : SV} (ho : o.op = .convert src dst x) (ha : a.Is g r (ρ x)) : Okk P ρ g r n w o (exConvert C ob n src dst a) := by
  unfold exConvert
  split
  · rename_i ks kd hs hd
    have h1 := under_int E.tt hs
    have h2 := under_int E.tt hd
    split
    · rename_i k' z
      simp only [SV.Is] at ha
      rw [E.A]
      have hrun : (execOp ρ o).run P w = .ok (.value (.int kd (kd.wrap z))) w := by simp [execOp, ho, convert, run_underlying h1, run_underlying h2, ha.1, Conv.intToInt]
      cases hs : IntKind.sub k' kd with
      | false => exact okk_one E.rn hrun (by simp only [SV.Is]; exact ⟨rfl, wf_wrap _ _⟩)
      | true =>
        have hw := sub_wf hs ha.2
        rw [wrap_wf hw] at hrun
        exact okk_one E.rn hrun (by simp only [SV.Is]; exact ⟨trivial, hw⟩)
    · exact okk_none
  · rename_i e hs hd
    have h1 := under_slice E.tt hs
    have h2 := under_str E.tt hd
    split
    · rename_i he
      have h3 := under_int E.tt he
      cases hl : intsOf C.A ob .u8 a with
      | none => exact okk_none
      | some l =>
        rw [E.A] at hl ⊢
        have hrd := ints_is E hl ha
        refine okk_one E.rn (v := .string (strOfNums l)) ?_ (by simp only [SV.Is]; exact ⟨rfl, by show (strOfNums l).size ≤ maxLen; rw [size_strOf]; exact hrd.2.2⟩)
        have : (convert src dst (ρ x)).run P w = .ok (.string (strOfNums l)) w := by
          obtain ⟨ao, cap, hx, _, _, hh⟩ := hrd.1
          rw [hx, kv_len]
          cases ao with
          | none =>
            have hl0 : l = [] := by
              rcases hh with e | ⟨b, off, e, _⟩
              · simpa [kv] using e
              · simp at e
            subst hl0
            exact run_convert_bytes_nil (P := P) w src e h1 h3 _ _ dst h2
          | some ad =>
            rcases hh with e' | ⟨b, off, e', hc⟩
            · have hl0 : l = [] := by simpa [kv] using e'
              subst hl0
              exact run_convert_bytes_back (P := P) w src dst e ad cap [] h1 h3 h2 (fun j hj => absurd hj (by simp))
            · injection e' with e'
              subst e'
              exact run_convert_bytes_arg (P := P) w src e h1 h3 b off _ cap l rfl (fun i hi => hc i _ (kv_getD .u8 l i hi)) dst h2
        simp [execOp, ho, this]
    · exact okk_none
  · rename_i hs hd
    have h1 := under_str E.tt hs
    have h2 := under_str E.tt hd
    split
    · rename_i s
      simp only [SV.Is] at ha
      refine okk_one E.rn (v := .string s) ?_ (by simp only [SV.Is]; exact ⟨trivial, ha.2⟩)
      simp [execOp, ho, convert, run_underlying h1, run_underlying h2, ha.1]
    · exact okk_none
  · rename_i e hs hd
    have h1 := under_str E.tt hs
    have h2 := under_slice E.tt hd
    split
    · rename_i he
      have h3 := under_int E.tt he
      split
      · rename_i s
        simp only [SV.Is] at ha
        cases hz : Nat.beq (C.td e).size 1 with
        | false => exact okk_none
        | true =>
        rw [E.A]
        have hm : s.size ≤ maxLen := ha.2
        intro c rt he' hc
        cases he'
        obtain ⟨cap, w', hrun, hown, hg⟩ := run_bytesM (P := P) w w.heap.size src dst e s h1 h2 h3 hm (Nat.le_refl _)
        have hb : Below w.heap.size w w' := (Below.refl _ _).grown hg (Nat.le_refl _) (fun k hk => by cases hk)
        refine ⟨.slice (some ⟨w.heap.size, 0, none⟩) s.size cap, w', by simp [execOp, ho, ha.1, hrun], ?_, fun hh => by cases hh⟩
        refine Gv.new1 E hb ⟨rfl, rfl, rfl⟩ ?_ ⟨?_, ?_⟩
        · simp only [SV.Is]
          exact ext_new _ rfl
        · have e1 : (std.bytes s).length = s.size := by simp only [std, List.length_map]; exact byteL_len s
          rw [e1]
          exact hown
        · intro x hx
          obtain ⟨b, _, rfl⟩ := List.mem_map.1 hx
          have := b.toNat_lt
          simp [Lit.wf, IntKind.min, IntKind.max, IntKind.signed, IntKind.bits]
          omega
      · exact okk_none
    · exact okk_none
  · exact okk_none
end
end Go.Proofs.Ytekokhlldcmjfaa
