/- A frame and memory, as they are known to be; operations that write. No program in sight. -/
import Derived.Test.YtekokhlldcmjfaaSnd6
namespace Go.Proofs.Ytekokhlldcmjfaa
open Go.RowKit Go.ChangeShapes Go.WideShapes Go.Deep
set_option linter.unusedVariables false
set_option linter.unusedSimpArgs false
/-- Where a call stands: the world at its beginning; what of it was lent to it; memory that nobody writes. -/
structure Fr where
  w0 : World
  F : Nat → Prop
  g : World
  sv : List (Array Value)
def Fr.mine (f : Fr) (b : Nat) : Prop := f.w0.heap.size ≤ b ∨ f.F b
/-- All else is as it was. -/
structure Keeps (f : Fr) (w : World) : Prop where
  os : w.os = f.w0.os
  tape : w.tape = f.w0.tape
  output : w.output = f.w0.output
  size : f.w0.heap.size ≤ w.heap.size
  block : ∀ k, k < f.w0.heap.size → ¬ f.F k → w.heap[k]? = f.w0.heap[k]?
theorem Keeps.below {f : Fr} {w w' : World} (h : Keeps f w) (hb : Below w.heap.size w w') : Keeps f w' :=
  ⟨hb.os.trans h.os, hb.tape.trans h.tape, hb.output.trans h.output, Nat.le_trans h.size hb.size, fun k hk hf => (hb.block k (Nat.lt_of_lt_of_le hk h.size)).trans (h.block k hk hf)⟩
theorem Keeps.grown {f : Fr} {w w' : World} {row : Option Nat} (h : Keeps f w) (hg : w.grownBy w' row) (hr : ∀ k, row = some k → f.mine k) : Keeps f w' :=
  ⟨hg.os.trans h.os, hg.tape.trans h.tape, hg.output.trans h.output, Nat.le_trans h.size hg.size, fun k hk hf => (hg.block k (Nat.lt_of_lt_of_le hk h.size) (fun e => by
    rcases hr k e.symm with h1 | h1
    · omega
    · exact hf h1)).trans (h.block k hk hf)⟩
theorem Keeps.all {f : Fr} {w : World} (h : Keeps f w) (hF : ∀ k, ¬ f.F k) : Below f.w0.heap.size f.w0 w := ⟨h.os, h.tape, h.output, h.size, fun k hk => h.block k hk (hF k)⟩
theorem Keeps.refl (f : Fr) : Keeps f f.w0 := ⟨rfl, rfl, rfl, Nat.le_refl _, fun _ _ _ => rfl⟩
theorem g_new {g w : World} (h : SubW g w) {b : Nat} (hb : w.heap.size ≤ b) (o : Nat) : g.cell? ⟨b, o, none⟩ = none := by
  cases hc : g.cell? ⟨b, o, none⟩ with
  | none => rfl
  | some v =>
    have := World.block_lt_of_cell? w _ (h _ _ _ hc)
    simp only at this
    omega
/-- The frames that wait are as they are known to be. -/
def SavIs (g : World) (r : Nat → Option Value) : List Fm → List (Array Value) → Prop
  | [], [] => True
  | x :: l, u :: us => FmIs g r x u ∧ SavIs g r l us
  | _, _ => False
theorem SavIs.imp {g g' : World} {r r' : Nat → Option Value} {p : Fm → Fm} (h : ∀ x u, FmIs g r x u → FmIs g' r' (p x) u) : ∀ {l : List Fm} {us : List (Array Value)}, SavIs g r l us → SavIs g' r' (l.map p) us
  | [], [], _ => trivial
  | x :: l, u :: us, hs => ⟨h x u hs.1, SavIs.imp h hs.2⟩
  | [], _ :: _, hs => hs.elim
  | _ :: _, [], hs => hs.elim
theorem SavIs.sub {g g' : World} {r r' : Nat → Option Value} (hg : SubW g g') (hr : SubR r r') {l : List Fm} {us : List (Array Value)} (hs : SavIs g r l us) : SavIs g' r' l us := by
  have := hs.imp (p := id) fun x u hx => hx.sub hg hr
  rwa [List.map_id] at this
/-- The state is as it is known to be. r: what is of the call's own. -/
structure Sat (w0 : Fr) (r : Nat → Option Value) (s : AS) (a : Act) (w : World) : Prop where
  slots : FmIs w0.g r s.slots a.tmps
  defs : a.defers = []
  below : Keeps w0 w
  gw : SubW w0.g w
  rn : ∀ id, s.objs.length ≤ id → r id = none
  r1 : ∀ i h, r i = some h → one1 h
  objs : ∀ id, s.ob id ≠ .gone → ∃ h, r id = some h ∧ (s.ob id).Is w0.g r w 0 h
  mine : ∀ id h b, s.ob id ≠ .gone → r id = some h → blk h = some b → w0.mine b ∧ ∀ o, w0.g.cell? ⟨b, o, none⟩ = none
  apart : ∀ i j hi hj b, i ≠ j → s.ob i ≠ .gone → s.ob j ≠ .gone → r i = some hi → r j = some hj → blk hi = some b → blk hj ≠ some b
  sav : SavIs w0.g r s.sav w0.sv
section
variable {P : Program} {C : Cx} {w0 : Fr} {r : Nat → Option Value} {s : AS} {a : Act} {w : World}
theorem Sat.env (h : Sat w0 r s a w) (ht : ttOk P C.tt) (hA : C.A = std) : Env P C w0.g r s.objs.length 0 w s.ob where
  tt := ht
  A := hA
  r1 := h.r1
  rn := h.rn
  gw := h.gw
  obs := h.objs
theorem Sat.ev (h : Sat w0 r s a w) (x : Operand) : (s.ev x).Is w0.g r (a.eval x) := by
  cases x with
  | tmp t =>
    simp only [AS.ev, Act.eval]
    exact h.slots.get t
  | const v => exact ofLit_is v
  | global g => simp only [AS.ev, SV.Is]; exact ⟨rfl, trivial⟩
  | func f => simp only [AS.ev, SV.Is]; exact ⟨rfl, trivial⟩
theorem lsIs_set {g : World} {r : Nat → Option Value} : ∀ {l : List SV} {us : List Value} {x : SV} {u : Value} (i : Nat), LsIs g r l us → x.Is g r u → LsIs g r (l.set i x) (us.set i u)
  | [], us, x, u, i, h, _ => by
    simp only [LsIs] at h
    subst h
    simp [LsIs]
  | y :: l, us, x, u, i, h, hx => by
    simp only [LsIs] at h
    obtain ⟨v, us', rfl, h1, h2⟩ := h
    cases i with
    | zero => simp only [List.set_cons_zero, LsIs]; exact ⟨u, us', rfl, hx, h2⟩
    | succ i => simp only [List.set_cons_succ, LsIs]; exact ⟨v, _, rfl, h1, lsIs_set i h2 hx⟩
theorem put_tmps (a : Act) (d : Nat) (v : Value) : (a.put (some d) v).tmps.toList = a.tmps.toList.set d v := by simp [Act.put]
theorem fm_refine {g : World} {r : Nat → Option Value} {t : Fm} {us : Array Value} (h : FmIs g r t us) {d : Nat} {x : SV} {u : Value} (hd : us[d]? = some u) (hx : x.Is g r u) : FmIs g r (t.set d x) us := by
  refine ⟨fun i => ?_, fun i hi => h.lt i (by rwa [Fm.has_set] at hi)⟩
  rw [Fm.get_set]
  split
  · rename_i hc
    obtain ⟨rfl, _⟩ := hc
    rw [Array.getD_eq_getD_getElem?, hd]
    exact hx
  · exact h.get i
theorem fm_put {g : World} {r : Nat → Option Value} {t : Fm} {a : Act} (d : Nat) {x : SV} {v : Value} (h : FmIs g r t a.tmps) (hx : x.Is g r v) : FmIs g r (t.set d x) (a.put (some d) v).tmps := by
  refine ⟨fun i => ?_, fun i hi => ?_⟩
  · rw [Fm.get_set, Array.getD_eq_getD_getElem?, ← Array.getElem?_toList, put_tmps, List.getElem?_set]
    by_cases e : d = i
    · subst e
      cases hh : t.has d with
      | true =>
        have := h.lt d hh
        rw [if_pos ⟨rfl, rfl⟩, if_pos rfl, if_pos (by simpa using this)]
        exact hx
      | false =>
        rw [if_neg (by simp)]
        rw [Fm.get_none hh]
        simp only [SV.Is]
    · rw [if_neg (fun hc => e hc.1), if_neg e, Array.getElem?_toList, ← Array.getD_eq_getD_getElem?]
      exact h.get i
  · rw [Fm.has_set] at hi
    have := h.lt i hi
    simpa [Act.put] using this
theorem Sat.put (h : Sat w0 r s a w) {x : SV} {v : Value} (hx : x.Is w0.g r v) (dst : Option Tmp) : Sat w0 r (s.put dst x) (a.put dst v) w := by
  cases dst with
  | none => exact h
  | some d =>
    exact ⟨fm_put d h.slots hx, h.defs, h.below, h.gw, h.rn, h.r1, h.objs, h.mine, h.apart, h.sav⟩
/-- A slot known better. -/
theorem Sat.refine (h : Sat w0 r s a w) {t : Nat} {x : SV} {u : Value} (ht : a.tmps[t]? = some u) (hx : x.Is w0.g r u) : Sat w0 r (s.put (some t) x) a w := by
  exact ⟨fm_refine h.slots ht hx, h.defs, h.below, h.gw, h.rn, h.r1, h.objs, h.mine, h.apart, h.sav⟩
theorem ob_new (s : AS) (os : List (Nat × SO)) (id : Nat) : (s.new os).ob id = if id < s.objs.length then s.ob id else (match os[id - s.objs.length]? with | some o => o.2 | none => .gone) := by
  unfold AS.ob AS.new
  simp only [List.getD_eq_getElem?_getD]
  by_cases h : id < s.objs.length
  · rw [if_pos h, List.getElem?_append_left h]
  · rw [if_neg h, List.getElem?_append_right (by omega), List.getElem?_map]
    cases os[id - s.objs.length]? <;> rfl
/-- What has come is laid down. -/
theorem Sat.gv (h : Sat w0 r s a w) {x : SV × List (Nat × SO)} {v : Value} {w' : World} (hv : Gv w0.g r s.objs.length w x v w') (dst : Option Tmp) : Sat w0 (ext r s.objs.length x.2 v) ((s.new x.2).put dst x.1) (a.put dst v) w' := by
  have hsub := ext_sub h.rn x.2 v
  have hle := h.below.size
  refine Sat.put (s := s.new x.2) ⟨h.slots.sub (SubW.refl _) hsub, h.defs, h.below.below hv.below, h.gw.trans (SubW.below hv.below), ?_, ?_, ?_, ?_, ?_, h.sav.sub (SubW.refl _) hsub⟩ hv.sv dst
  · intro id hid
    have hid : s.objs.length + x.2.length ≤ id := by simpa [AS.new] using hid
    unfold ext
    rw [if_neg (by omega), List.getElem?_eq_none (by omega)]
  · intro i q hq
    unfold ext at hq
    by_cases hi : i < s.objs.length
    · rw [if_pos hi] at hq; exact h.r1 i q hq
    · rw [if_neg hi] at hq
      cases ho : x.2[i - s.objs.length]? with
      | none => rw [ho] at hq; cases hq
      | some o =>
        rw [ho] at hq
        obtain ⟨hh, h1, h2, h3⟩ := hv.objs _ o ho
        simp only at hq
        rw [h1] at hq
        cases hq
        exact h2
  · intro id hne
    rw [ob_new] at hne ⊢
    by_cases hi : id < s.objs.length
    · rw [if_pos hi] at hne ⊢
      obtain ⟨q, h1, h2⟩ := h.objs id hne
      exact ⟨q, hsub _ _ h1, h2.sub (SubW.refl _) hsub hv.below⟩
    · rw [if_neg hi] at hne ⊢
      cases ho : x.2[id - s.objs.length]? with
      | none => rw [ho] at hne; exact absurd rfl hne
      | some o =>
        simp only
        obtain ⟨hh, h1, h2, h3⟩ := hv.objs _ o ho
        refine ⟨hh, ?_, h3.down (Nat.zero_le _)⟩
        unfold ext
        rw [if_neg hi, ho]
        exact h1
  · intro id q b hne hq hb
    rw [ob_new] at hne
    unfold ext at hq
    by_cases hi : id < s.objs.length
    · rw [if_pos hi] at hne hq
      exact h.mine id q b hne hq hb
    · rw [if_neg hi] at hne hq
      cases ho : x.2[id - s.objs.length]? with
      | none => rw [ho] at hq; cases hq
      | some o =>
        rw [ho] at hne hq
        obtain ⟨hh, h1, h2, h3⟩ := hv.objs _ o ho
        simp only at hq
        rw [h1] at hq
        cases hq
        have := (h3.lt hne b hb).1
        exact ⟨.inl (by omega), g_new h.gw this⟩
  · intro i j hi hj b hne hgi hgj hri hrj hbi hbj
    rw [ob_new] at hgi hgj
    unfold ext at hri hrj
    have old : ∀ k q, k < s.objs.length → s.ob k ≠ .gone → r k = some q → ∀ b, blk q = some b → b < w.heap.size := by
      intro k q hk hg hr b hb
      obtain ⟨q', h1, h2⟩ := h.objs k hg
      rw [hr] at h1
      cases h1
      exact (h2.lt hg b hb).2
    have new : ∀ k q o, x.2[k - s.objs.length]? = some o → o.2 ≠ .gone → (vdeep v)[o.1]? = some q → ∀ b, blk q = some b → w.heap.size ≤ b := by
      intro k q o ho hg hq b hb
      obtain ⟨hh, h1, h2, h3⟩ := hv.objs _ o ho
      rw [hq] at h1
      cases h1
      exact (h3.lt hg b hb).1
    by_cases hi' : i < s.objs.length
    · rw [if_pos hi'] at hgi hri
      by_cases hj' : j < s.objs.length
      · rw [if_pos hj'] at hgj hrj
        exact h.apart i j hi hj b hne hgi hgj hri hrj hbi hbj
      · rw [if_neg hj'] at hgj hrj
        cases ho : x.2[j - s.objs.length]? with
        | none => rw [ho] at hrj; cases hrj
        | some o =>
          rw [ho] at hrj hgj
          have h1 := old i hi hi' hgi hri b hbi
          have h2 := new j hj o ho hgj hrj b hbj
          omega
    · rw [if_neg hi'] at hgi hri
      cases hoi : x.2[i - s.objs.length]? with
      | none => rw [hoi] at hri; cases hri
      | some oi =>
        rw [hoi] at hri hgi
        have h2 := new i hi oi hoi hgi hri b hbi
        by_cases hj' : j < s.objs.length
        · rw [if_pos hj'] at hgj hrj
          have h1 := old j hj hj' hgj hrj b hbj
          omega
        · rw [if_neg hj'] at hgj hrj
          cases ho : x.2[j - s.objs.length]? with
          | none => rw [ho] at hrj; cases hrj
          | some o =>
            rw [ho] at hrj hgj
            exact hv.apart _ _ oi o hi hj b hoi ho (by omega) hri hrj hbi hbj
/-- A world that has turned in one block alone. -/
theorem so_other {g : World} {w w' : World} {base : Nat} {h : Value} {b : Nat} (hg : w.grownBy w' (some b)) : ∀ {o : SO}, o.Is g r w base h → blk h ≠ some b → o.Is g r w' base h
  | .cells t l, ⟨b', cs, h1, h2, h3, h4⟩, hne => by
    refine ⟨b', cs, h1, h2, ?_, h4⟩
    rw [hg.block b' (Array.getElem?_eq_some_iff.1 h3).1 (fun e => hne (by rw [h1, e]))]
    exact h3
  | .irow E k l, ⟨ho, hf⟩, hne => by
    refine ⟨ho.kept hg ?_, hf⟩
    cases h with
    | slice ao n c =>
      cases ao with
      | none => exact .inl rfl
      | some ad => exact .inr hne
    | _ => exact .inl rfl
  | .srow E T d, ⟨h1, ds, cl, h2, ho, h4⟩, hne => by
    refine ⟨h1, ds, cl, h2, ho.kept hg ?_, h4⟩
    cases h with
    | slice ao n c =>
      cases ao with
      | none => exact .inl rfl
      | some ad => exact .inr hne
    | _ => exact .inl rfl
  | .gone, _, _ => trivial
/-- One object is another one now, in its block. -/
theorem Sat.change (h : Sat w0 r s a w) {id : Nat} {o' : SO} {w' : World} {q : Value} {b : Nat} (hq : r id = some q) (hb : blk q = some b) (hg : w.grownBy w' (some b)) (hne : s.ob id ≠ .gone) (ho : o'.Is w0.g r w' 0 q) (hid : id < s.objs.length) : Sat w0 r (s.setObj id o') a w' := by
  have hbb := h.mine id q b hne hq hb
  have hob : ∀ i, (s.setObj id o').ob i = if i = id then o' else s.ob i := by
    intro i
    unfold AS.ob AS.setObj
    simp only [List.getD_eq_getElem?_getD, List.getElem?_set]
    by_cases e : id = i
    · subst e; rw [if_pos rfl, if_pos hid, if_pos rfl]; rfl
    · rw [if_neg e, if_neg (fun e' => e e'.symm)]
  refine ⟨h.slots, h.defs, h.below.grown hg (fun k hk => by cases hk; exact hbb.1), fun b' o v hc => hg.cell (h.gw _ _ _ hc) (fun e => by cases e; rw [hbb.2] at hc; cases hc), ?_, h.r1, ?_, ?_, ?_, h.sav⟩
  · intro i hi
    refine h.rn i ?_
    simpa [AS.setObj] using hi
  · intro i hi
    rw [hob] at hi ⊢
    by_cases e : i = id
    · rw [if_pos e]; subst e; exact ⟨q, hq, ho⟩
    · rw [if_neg e] at hi ⊢
      obtain ⟨q', h1, h2⟩ := h.objs i hi
      exact ⟨q', h1, so_other hg h2 (h.apart id i q q' b (Ne.symm e) hne hi hq h1 hb)⟩
  · intro i q' c hi hri hci
    rw [hob] at hi
    have hi : s.ob i ≠ .gone := by
      by_cases e : i = id
      · subst e; exact hne
      · rw [if_neg e] at hi; exact hi
    exact h.mine i q' c hi hri hci
  · intro i j hi hj c hij hgi hgj hri hrj hbi
    rw [hob] at hgi hgj
    have lift : ∀ k, (if k = id then o' else s.ob k) ≠ .gone → s.ob k ≠ .gone := by
      intro k hk
      by_cases e : k = id
      · subst e; exact hne
      · rw [if_neg e] at hk; exact hk
    exact h.apart i j hi hj c hij (lift i hgi) (lift j hgj) hri hrj hbi
end
end Go.Proofs.Ytekokhlldcmjfaa
