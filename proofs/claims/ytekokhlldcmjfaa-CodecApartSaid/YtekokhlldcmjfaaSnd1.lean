/- The operations that make memory at most: what is reckoned of them is so. No program in sight. -/
import Derived.Test.YtekokhlldcmjfaaRel
namespace Go.Proofs.Ytekokhlldcmjfaa
open Go.RowKit Go.ChangeShapes Go.WideShapes Go.Deep
set_option linter.unusedVariables false
def unOf : TypeDesc → Un
  | .int k => .int k
  | .bool => .bool
  | .string => .str
  | .slice e => .slice e
  | .struct fs => .struct (fs.toList.map fun f => (f.offset, f.type))
  | .array n e => .array n e
  | .pointer e => .ptr e
  | _ => .other
def TD.zv (d : TD) : Value := if d.agg then .agg d.zero.toArray else d.zero.headD (.bool false)
def TDok (P : Program) (t : TypeId) (d : TD) : Prop :=
  (P.info? t).map (fun i => (i.size, i.bytes, i.zero)) = some (d.size, d.bytes, some d.zv) ∧ (P.underlying t).map unOf = some d.un ∧ d.zero.length = d.size ∧ d.zv.cells.toList = d.zero ∧ (d.eq.isEmpty || (eqB P t d.eq && isAgg2 P t)) = true
def ttOk (P : Program) : List (TypeId × TD) → Prop
  | [] => True
  | x :: l => TDok P x.1 x.2 ∧ ttOk P l
theorem assoc_mem {α : Type} : ∀ {l : List (Nat × α)} {i : Nat} {x : α}, assoc l i = some x → (i, x) ∈ l
  | [], _, _, h => by simp [assoc] at h
  | (k, y) :: l, i, x, h => by
    unfold assoc at h
    split at h
    · rename_i hb
      cases h
      have : k = i := Nat.eq_of_beq_eq_true hb
      subst this
      exact List.mem_cons_self
    · exact List.mem_cons_of_mem _ (assoc_mem h)
theorem ttOk_mem {P : Program} : ∀ {l : List (TypeId × TD)} {t : TypeId} {d : TD}, ttOk P l → (t, d) ∈ l → TDok P t d
  | [], _, _, _, h => by cases h
  | x :: l, t, d, h, hm => by
    rcases List.mem_cons.1 hm with rfl | hm
    · exact h.1
    · exact ttOk_mem h.2 hm
theorem td_ok {P : Program} {C : Cx} (h : ttOk P C.tt) {t : TypeId} (hs : 1 ≤ (C.td t).size) : TDok P t (C.td t) := by
  unfold Cx.td at *
  cases ha : assoc C.tt t with
  | none => rw [ha] at hs; simp at hs
  | some d => exact ttOk_mem h (assoc_mem ha)
theorem td_un {P : Program} {C : Cx} (h : ttOk P C.tt) {t : TypeId} (hs : (C.td t).un ≠ .other) : TDok P t (C.td t) := by
  unfold Cx.td at *
  cases ha : assoc C.tt t with
  | none => rw [ha] at hs; simp at hs
  | some d => exact ttOk_mem h (assoc_mem ha)
theorem TDok.info {P : Program} {t : TypeId} {d : TD} (h : TDok P t d) : ∃ i, P.info? t = some i ∧ i.size = d.size ∧ i.bytes = d.bytes ∧ i.zero = some d.zv := by
  obtain ⟨i, hi, he⟩ := Option.map_eq_some_iff.1 h.1
  simp only [Prod.mk.injEq] at he
  exact ⟨i, hi, he.1, he.2.1, he.2.2⟩
theorem TDok.under {P : Program} {t : TypeId} {d : TD} (h : TDok P t d) : ∃ e, P.underlying t = some e ∧ unOf e = d.un := by
  obtain ⟨e, he, hu⟩ := Option.map_eq_some_iff.1 h.2.1
  exact ⟨e, he, hu⟩
theorem agg_of {e : TypeDesc} {d : TD} (hu : unOf e = d.un) : (match e with | .struct _ | .array _ _ => true | _ => false) = d.agg := by
  obtain ⟨un, _, _, _, _⟩ := d
  simp only at hu
  subst hu
  cases e <;> rfl
theorem TDok.isAgg {P : Program} {t : TypeId} {d : TD} (h : TDok P t d) (w : World) : (Go.isAgg t).run P w = .ok d.agg w := by
  obtain ⟨e, he, hu⟩ := h.under
  have := agg_of hu
  simp only [Go.isAgg, Sem.run_bind, run_underlying he, Result.andThen_ok]
  rw [← this]
  cases e <;> rfl
theorem TDok.sizeOf {P : Program} {t : TypeId} {d : TD} (h : TDok P t d) (w : World) : (Go.sizeOf t).run P w = .ok d.size w := by
  obtain ⟨i, hi, h1, _⟩ := h.info
  simp [Go.sizeOf, typeInfo, hi, h1]
theorem TDok.zeroValue {P : Program} {t : TypeId} {d : TD} (h : TDok P t d) (w : World) : (Go.zeroValue t).run P w = .ok d.zv w := by
  obtain ⟨i, hi, _, _, h1⟩ := h.info
  simp [Go.zeroValue, typeInfo, hi, h1]
/-- The cells of a value. -/
def vflat1 : Value → List Value
  | .agg cs => cs.toList
  | x => [x]
def vdeep : Value → List Value
  | .agg cs => cs.toList
  | .tuple vs => vs.toList.flatMap vflat1
  | x => [x]
/-- What is of the call's own, with what came. -/
def ext (r : Nat → Option Value) (n : Nat) (os : List (Nat × SO)) (v : Value) : Nat → Option Value := fun id =>
  if id < n then r id else match os[id - n]? with
    | some o => (vdeep v)[o.1]?
    | none => none
/-- A value of one cell. -/
def one1 (u : Value) : Prop := u.cells.toList = [u] ∧ u.oneCell' = true
/-- What has come is as it was reckoned. -/
structure Gv (g : World) (r : Nat → Option Value) (n : Nat) (w : World) (x : SV × List (Nat × SO)) (v : Value) (w' : World) : Prop where
  below : Below w.heap.size w w'
  sv : x.1.Is g (ext r n x.2 v) v
  objs : ∀ (k : Nat) (o : Nat × SO), x.2[k]? = some o → ∃ h, (vdeep v)[o.1]? = some h ∧ one1 h ∧ o.2.Is g (ext r n x.2 v) w' w.heap.size h
  apart : ∀ (j k : Nat) (o p : Nat × SO) (a b : Value) (c : Nat), x.2[j]? = some o → x.2[k]? = some p → j ≠ k → (vdeep v)[o.1]? = some a → (vdeep v)[p.1]? = some b → blk a = some c → blk b ≠ some c
theorem ext_sub {r : Nat → Option Value} {n : Nat} (hr : ∀ id, n ≤ id → r id = none) (os : List (Nat × SO)) (v : Value) : SubR r (ext r n os v) := by
  intro id h hi
  unfold ext
  by_cases hn : id < n
  · rw [if_pos hn]; exact hi
  · rw [hr id (by omega)] at hi; cases hi
theorem ext_nil {r : Nat → Option Value} {n : Nat} (hr : ∀ id, n ≤ id → r id = none) (v : Value) : ext r n [] v = r := by
  funext id
  unfold ext
  by_cases hn : id < n
  · rw [if_pos hn]
  · rw [if_neg hn, hr id (by omega)]; simp
theorem ext_new {r : Nat → Option Value} {n : Nat} (o : SO) {v : Value} (hv : vdeep v = [v]) : ext r n [(0, o)] v n = some v := by
  unfold ext
  rw [if_neg (Nat.lt_irrefl _), Nat.sub_self, hv]
  rfl
/-- Nothing but a value. -/
theorem Gv.pure {g : World} {r : Nat → Option Value} {n : Nat} {w : World} {sv : SV} {v : Value} (hr : ∀ id, n ≤ id → r id = none) (h : sv.Is g r v) : Gv g r n w (sv, []) v w where
  below := Below.refl _ _
  sv := by rw [ext_nil hr]; exact h
  objs := by intro k o h; simp at h
  apart := by intro j k o p a b c h; simp at h
theorem ofLit_is {g : World} {r : Nat → Option Value} (x : Value) : (SV.ofLit x).Is g r x := by
  cases x with
  | int k n =>
    simp only [SV.ofLit]
    cases h : (Lit.int k n).wf with
    | true => simp only [cond_true, SV.Is]; exact ⟨trivial, h⟩
    | false => simp only [cond_false, SV.Is]
  | string s =>
    simp only [SV.ofLit]
    cases h : Nat.ble s.size 1000000 with
    | true =>
      simp only [cond_true, SV.Is]
      exact ⟨trivial, by have := Nat.le_of_ble_eq_true h; show s.size ≤ maxLen; unfold maxLen; omega⟩
    | false => simp only [cond_false, SV.Is]
  | _ => simp [SV.ofLit, SV.Is, VOk]
/-- What is known, and is neither a struct nor more than one value, is one cell. -/
theorem is_one {g : World} {r : Nat → Option Value} {x : SV} {u : Value} (hr : ∀ i h, r i = some h → one1 h) (h : x.Is g r u) (h1 : ∀ l, x ≠ .agg l) (h2 : ∀ l, x ≠ .tup l) (h3 : x ≠ .any) : one1 u := by
  cases x with
  | agg l => exact absurd rfl (h1 l)
  | tup l => exact absurd rfl (h2 l)
  | any => exact absurd rfl h3
  | v y =>
    simp only [SV.Is] at h
    obtain ⟨rfl, h⟩ := h
    cases u <;> first | exact ⟨rfl, rfl⟩ | exact h.elim
  | lit b => simp only [SV.Is] at h; subst h; exact ⟨rfl, rfl⟩
  | iimm k l =>
    simp only [SV.Is] at h
    obtain ⟨a, c, rfl, _⟩ := h.1
    exact ⟨rfl, rfl⟩
  | imm e d =>
    simp only [SV.Is, Rd] at h
    obtain ⟨a, c, ds, h, _⟩ := h
    cases h
    exact ⟨rfl, rfl⟩
  | ip l => simp only [SV.Is] at h; obtain ⟨b, o, rfl, _⟩ := h; exact ⟨rfl, rfl⟩
  | ptr i o => simp only [SV.Is] at h; obtain ⟨_, _, _, _, rfl⟩ := h; exact ⟨rfl, rfl⟩
  | elt i o => simp only [SV.Is] at h; obtain ⟨_, _, _, _, _, _, rfl⟩ := h; exact ⟨rfl, rfl⟩
  | hdl i => simp only [SV.Is] at h; exact hr _ _ h
  | sub i a b => simp only [SV.Is] at h; obtain ⟨_, _, _, _, _, _, _, a', c', rfl, _⟩ := h; exact ⟨rfl, rfl⟩
  | csl i n => simp only [SV.Is] at h; exact hr _ _ h.1
  | sel i z s o => simp only [SV.Is] at h; obtain ⟨_, _, _, _, _, _, rfl⟩ := h; exact ⟨rfl, rfl⟩
  | psl i o n => simp only [SV.Is] at h; obtain ⟨_, _, _, _, rfl⟩ := h; exact ⟨rfl, rfl⟩
  | clo f l => simp only [SV.Is] at h; obtain ⟨_, rfl, _⟩ := h; exact ⟨rfl, rfl⟩
/-- A value's cells: what is known of them. -/
theorem flat_is {g : World} {r : Nat → Option Value} {x : SV} {u : Value} (hr : ∀ i h, r i = some h → one1 h) (h : x.Is g r u) (hne : x.flat ≠ []) : LsIs g r x.flat u.cells.toList := by
  by_cases h1 : ∃ l, x = .agg l
  · obtain ⟨l, rfl⟩ := h1
    simp only [SV.Is] at h
    obtain ⟨cs, rfl, h⟩ := h
    exact h
  · by_cases h2 : ∃ l, x = .tup l
    · obtain ⟨l, rfl⟩ := h2; exact absurd rfl hne
    · by_cases h3 : x = .any
      · subst h3; exact absurd rfl hne
      · have ho := is_one hr h (fun l e => h1 ⟨l, e⟩) (fun l e => h2 ⟨l, e⟩) h3
        rw [ho.1]
        have : x.flat = [x] := by cases x <;> first | rfl | exact absurd ⟨_, rfl⟩ h1 | exact absurd ⟨_, rfl⟩ h2 | exact absurd rfl h3
        rw [this]
        simp only [LsIs]
        exact ⟨u, [], rfl, h, rfl⟩
theorem isAt_list {g : World} {r : Nat → Option Value} : ∀ {l : List SV} {b o : Nat}, IsAt g r l b o → ∃ us, LsIs g r l us ∧ ∀ (j : Nat) (v : Value), us[j]? = some v → g.cell? ⟨b, o + j, none⟩ = some v
  | [], b, o, _ => ⟨[], by simp only [LsIs], by intro j v h; simp at h⟩
  | x :: l, b, o, h => by
    simp only [IsAt] at h
    obtain ⟨⟨u, h1, h2⟩, h3⟩ := h
    obtain ⟨us, h4, h5⟩ := isAt_list h3
    refine ⟨u :: us, by simp only [LsIs]; exact ⟨u, us, rfl, h2, h4⟩, fun j v hj => ?_⟩
    cases j with
    | zero => simp at hj; subst hj; exact h1
    | succ j =>
      have := h5 j v (by simpa using hj)
      rwa [show o + 1 + j = o + (j + 1) from by omega] at this
theorem fits_getD {k : IntKind} {l : List Int} (h : Fits k l) (i : Nat) : (Lit.int k (l.getD i 0)).wf = true := by
  rw [List.getD_eq_getElem?_getD]
  cases hi : l[i]? with
  | none => cases k <;> decide
  | some x => exact h x (List.mem_of_getElem? hi)
open Classical in
noncomputable def Out.pick : Out → SV × List (Nat × SO)
  | .ret sv os => (sv, os)
  | .ite c a b => if c then a.pick else b.pick
theorem Out.vc_pick {K : SV → List (Nat × SO) → Prop} : ∀ {t : Out}, t.vc K → K t.pick.1 t.pick.2
  | .ret sv os, h => h
  | .ite c a b, h => by
    unfold Out.pick
    by_cases hc : c
    · rw [if_pos hc]; exact Out.vc_pick (h.1 hc)
    · rw [if_neg hc]; exact Out.vc_pick (h.2 hc)
theorem same_eq {k k' : IntKind} (h : IntKind.same k k' = true) : k = k' := by
  cases k <;> cases k' <;> first | rfl | cases h
/-- What an operation is asked. -/
def Okk (P : Program) (ρ : Operand → Value) (g : World) (r : Nat → Option Value) (n : Nat) (w : World) (o : Oper) (e : Er) : Prop :=
  ∀ c rt, e = some (c, rt) → (∀ p, c = some p → p) → ∃ v w', (execOp ρ o).run P w = .ok (.value v) w' ∧ Gv g r n w rt.pick v w' ∧ (rt.pick.2 = [] → w' = w)
section
variable {P : Program} {ρ : Operand → Value} {g : World} {r : Nat → Option Value} {n : Nat} {w : World} {o : Oper}
theorem okk_none : Okk P ρ g r n w o none := fun _ _ h => by cases h
theorem okk_one (hr : ∀ id, n ≤ id → r id = none) {sv : SV} {v : Value} (h : (execOp ρ o).run P w = .ok (.value v) w) (hs : sv.Is g r v) : Okk P ρ g r n w o (Er.one sv) := by
  intro c rt he _
  cases he
  exact ⟨v, w, h, Gv.pure hr hs, fun _ => rfl⟩
theorem okk_one' (hr : ∀ id, n ≤ id → r id = none) {p : Prop} {sv : SV} (h : p → ∃ v, (execOp ρ o).run P w = .ok (.value v) w ∧ sv.Is g r v) : Okk P ρ g r n w o (Er.one' p sv) := by
  intro c rt he hc
  cases he
  obtain ⟨v, h1, h2⟩ := h (hc _ rfl)
  exact ⟨v, w, h1, Gv.pure hr h2, fun _ => rfl⟩
theorem wf_wrap (k : IntKind) (z : Int) : (Lit.int k (k.wrap z)).wf = true := by
  cases k <;> simp only [Lit.wf, IntKind.wrap, IntKind.min, IntKind.max, IntKind.signed, IntKind.bits, Bool.and_eq_true, decide_eq_true_eq, Bool.true_and, Bool.false_and, Bool.false_eq_true, if_false, if_true, ge_iff_le] <;> (try split) <;> simp <;> omega
theorem wf_iff (k : IntKind) (z : Int) : (Lit.int k z).wf = true ↔ k.min ≤ z ∧ z ≤ k.max := by
  simp [Lit.wf]
theorem wf_tmod {k : IntKind} {a b : Int} (h : (Lit.int k a).wf = true) : (Lit.int k (a.tmod b)).wf = true := by
  rw [wf_iff] at *
  have h0 : k.min ≤ 0 ∧ 0 ≤ k.max := by cases k <;> simp [IntKind.min, IntKind.max, IntKind.signed, IntKind.bits]
  have hm : (a.tmod b).natAbs ≤ a.natAbs := by rw [Int.natAbs_tmod]; exact Nat.mod_le _ _
  rcases Int.le_total 0 a with ha | ha
  · have h1 := Int.tmod_nonneg b ha
    omega
  · have h1 : (-a).tmod b = -(a.tmod b) := Int.neg_tmod ..
    have h2 : 0 ≤ (-a).tmod b := Int.tmod_nonneg b (by omega)
    omega
theorem wf_fdiv {k : IntKind} {a : Int} (h : (Lit.int k a).wf = true) (m : Nat) : (Lit.int k (a.fdiv (2 ^ m))).wf = true := by
  rw [wf_iff] at *
  have h0 : k.min ≤ 0 ∧ 0 ≤ k.max := by cases k <;> simp [IntKind.min, IntKind.max, IntKind.signed, IntKind.bits]
  have hp' : (0 : Int) < 2 ^ m := Int.pow_pos (by decide)
  obtain ⟨q, hq⟩ : ∃ q : Int, q = 2 ^ m := ⟨_, rfl⟩
  rw [← hq] at hp' ⊢
  have hp : 0 ≤ q := by omega
  rw [Int.fdiv_eq_ediv_of_nonneg _ hp]
  rcases Int.le_total 0 a with ha | ha
  · have h1 := Int.ediv_nonneg ha hp
    have h2 : a / q ≤ a := Int.ediv_le_self _ ha
    omega
  · have h1 : a / q ≤ 0 := Int.ediv_nonpos_of_nonpos_of_neg ha hp'
    have h2 : a ≤ a / q := by
      rw [Int.le_ediv_iff_mul_le hp']
      have := Int.mul_le_mul_of_nonpos_left ha (show 1 ≤ q by omega)
      omega
    omega
theorem wrap_wf {k : IntKind} {z : Int} (h : (Lit.int k z).wf = true) : k.wrap z = z := by
  rw [wf_iff] at h
  cases k <;> simp only [IntKind.wrap, IntKind.min, IntKind.max, IntKind.signed, IntKind.bits, if_true, if_false, Bool.false_eq_true] at h ⊢ <;> (try split) <;> simp at h ⊢ <;> omega
theorem shl_wf {k : IntKind} {a b : Int} (h : stdIn k (a * 2 ^ b.toNat)) : a * 2 ^ (min b.toNat k.bits) = a * 2 ^ b.toNat := by
  by_cases hb : b.toNat ≤ k.bits
  · rw [Nat.min_eq_left hb]
  · by_cases ha : a = 0
    · subst ha; simp
    · exfalso
      have hm : (2 : Int) ^ 64 ≤ 2 ^ b.toNat ∨ (2 : Int) ^ k.bits < 2 ^ b.toNat := .inr (Int.pow_lt_pow_of_lt (by decide) (by omega))
      have h1 : (2 : Int) ^ k.bits < 2 ^ b.toNat := Int.pow_lt_pow_of_lt (by decide) (by omega)
      generalize (2 : Int) ^ b.toNat = q at h h1
      have hq : k.bits = 8 ∨ k.bits = 16 ∨ k.bits = 32 ∨ k.bits = 64 := by cases k <;> simp [IntKind.bits]
      rcases Int.lt_or_gt_of_ne ha with ha | ha
      · have h2 : a * q ≤ -1 * q := Int.mul_le_mul_of_nonneg_right (by omega) (by have : (0 : Int) < 2 ^ k.bits := Int.pow_pos (by decide); omega)
        cases k <;> simp only [stdIn, IntKind.bits] at h h1 <;> omega
      · have h2 : 1 * q ≤ a * q := Int.mul_le_mul_of_nonneg_right (by omega) (by have : (0 : Int) < 2 ^ k.bits := Int.pow_pos (by decide); omega)
        cases k <;> simp only [stdIn, IntKind.bits] at h h1 <;> omega
theorem sub_wf {k k' : IntKind} {z : Int} (hs : IntKind.sub k' k = true) (h : (Lit.int k' z).wf = true) : (Lit.int k z).wf = true := by
  rw [← stdIn_iff] at h ⊢
  cases k' <;> cases k <;> first | (exact absurd hs (by decide)) | (simp only [stdIn] at h ⊢; omega)
theorem bin_wf {op : BinOp} {k : IntKind} {a b : Int} (h : (Lit.int k a).wf = true) (hop : isCmp op = false) : (Lit.int k (stdBin op k a b)).wf = true := by
  cases op <;> first | exact wf_wrap _ _ | exact wf_tmod h | exact wf_fdiv h _ | cases hop
theorem run_eq_bool {t : TypeId} (h : P.underlying t = some .bool) (a b : Bool) : (Op.equal t (.bool a) (.bool b)).run P w = .ok (a == b) w := run_equalIn_bool w 9999 t a b h
theorem ex_bool (hr : ∀ id, n ≤ id → r id = none) {op : BinOp} {t t' : TypeId} {x y : Operand} {a b : Bool} (ho : o.op = .binOp op t x y t') (ha : ρ x = .bool a) (hb : ρ y = .bool b) (ht : P.underlying t = some .bool) : Okk P ρ g r n w o (exBool std op a b) := by
  have hwb : ∀ c : Bool, (SV.v (.bool c)).Is g r (.bool c) := fun c => by simp only [SV.Is]; exact ⟨trivial, trivial⟩
  unfold exBool
  split
  · refine okk_one hr (v := .bool (a == b)) ?_ (hwb _)
    have : binOp .eql t (.bool a) (.bool b) = (do pure (.bool (← Op.equal t (.bool a) (.bool b)))) := rfl
    simp [execOp, ho, ha, hb, eqGuard, this, run_eq_bool ht]
  · refine okk_one hr (v := .bool (!(a == b))) ?_ (hwb _)
    have : binOp .neq t (.bool a) (.bool b) = (do pure (.bool (!(← Op.equal t (.bool a) (.bool b))))) := rfl
    simp [execOp, ho, ha, hb, eqGuard, this, run_eq_bool ht]
  · exact okk_none
theorem ex_arith (hr : ∀ id, n ≤ id → r id = none) {ck : Bool} {k : IntKind} {op : BinOp} {a b : Int} (hop : isCmp op = false) (wa : (Lit.int k a).wf = true) (h : (execOp ρ o).run P w = .ok (.value (.int k (stdBin op k a b))) w) : Okk P ρ g r n w o (exArith std ck k op a b) := by
  have hpl : Okk P ρ g r n w o (Er.one (.v (.int k (std.bin op k a b)))) := okk_one hr h (by simp only [SV.Is]; exact ⟨rfl, bin_wf wa hop⟩)
  have hck : ∀ z, stdBin op k a b = k.wrap z → Okk P ρ g r n w o (Er.one' (stdIn k z) (.v (.int k z))) := fun z hz => okk_one' hr fun hp => by
    have hp := (stdIn_iff k z).1 hp
    rw [hz, wrap_wf hp] at h
    exact ⟨_, h, by simp only [SV.Is]; exact ⟨trivial, hp⟩⟩
  unfold exArith
  cases ck with
  | false => exact hpl
  | true =>
    simp only [cond_true]
    split
    · exact hck _ rfl
    · exact hck _ rfl
    · exact hck _ rfl
    · exact hpl
theorem ex_shift (hr : ∀ id, n ≤ id → r id = none) {ck : Bool} {k : IntKind} {op : BinOp} {a b : Int} (hop : op = .shl ∨ op = .shr) (wa : (Lit.int k a).wf = true) (h : ¬ b < 0 → (execOp ρ o).run P w = .ok (.value (.int k (stdBin op k a b))) w) : Okk P ρ g r n w o (exShift std ck k op a b) := by
  have hc : isCmp op = false := by rcases hop with rfl | rfl <;> rfl
  have hpl : Okk P ρ g r n w o (Er.one' (std.nn b) (.v (.int k (std.bin op k a b)))) := okk_one' hr fun hp => by
    have hp : 0 ≤ b := hp
    exact ⟨_, h (by omega), by simp only [SV.Is]; exact ⟨rfl, bin_wf wa hc⟩⟩
  unfold exShift
  cases ck with
  | false => exact hpl
  | true =>
    simp only [cond_true]
    split
    · refine okk_one' hr fun hp => ?_
      obtain ⟨h0, h1⟩ := hp
      have h0 : 0 ≤ b := h0
      have h1 : stdIn k (a * 2 ^ b.toNat) := h1
      have h2 := h (by omega)
      simp only [stdBin] at h2
      rw [shl_wf h1, wrap_wf ((stdIn_iff k _).1 h1)] at h2
      exact ⟨_, h2, by simp only [SV.Is]; exact ⟨rfl, (stdIn_iff k _).1 h1⟩⟩
    · exact hpl
theorem ex_bin (hr : ∀ id, n ≤ id → r id = none) {ck : Bool} {op : BinOp} {t t' : TypeId} {x y : Operand} {a b : SV} {u : Un} (hu : u ≠ .other → ∃ e, P.underlying t = some e ∧ unOf e = u) (ho : o.op = .binOp op t x y t') (ha : a.Is g r (ρ x)) (hb : b.Is g r (ρ y)) : Okk P ρ g r n w o (exBin std ck u op a b) := by
  have hwb : ∀ c : Bool, (SV.v (.bool c)).Is g r (.bool c) := fun c => by simp only [SV.Is]; exact ⟨trivial, trivial⟩
  have hub : isBool u = true → P.underlying t = some .bool := by
    intro h
    cases u <;> first | cases h | skip
    obtain ⟨e, h1, h2⟩ := hu (by simp)
    rw [h1]
    cases e <;> first | rfl | cases h2
  unfold exBin
  split
  · rename_i k a k' b
    simp only [SV.Is] at ha hb
    obtain ⟨ha, wa⟩ := ha
    obtain ⟨hb, wb⟩ := hb
    have hw : ∀ op', isCmp op' = false → (SV.v (.int k (std.bin op' k a b))).Is g r (.int k (std.bin op' k a b)) := fun op' h => by
      simp only [SV.Is]; exact ⟨trivial, bin_wf wa h⟩
    have hshl : o.op = .binOp .shl t x y t' → Okk P ρ g r n w o (exShift std ck k .shl a b) := fun ho => ex_shift hr (.inl rfl) wa fun hp => by
      simp [execOp, ho, ha, hb, eqGuard, binOp, Op.shift, hp, stdBin]
    have hshr : o.op = .binOp .shr t x y t' → Okk P ρ g r n w o (exShift std ck k .shr a b) := fun ho => ex_shift hr (.inr rfl) wa fun hp => by
      simp [execOp, ho, ha, hb, eqGuard, binOp, Op.shift, hp, stdBin]
    cases hk : IntKind.same k k' with
    | false =>
      cases op <;> simp only [cond_false] <;> first
        | exact okk_none
        | exact hshl ho
        | exact hshr ho
    | true =>
      obtain rfl := same_eq hk
      cases op <;> simp only [cond_true] <;> first
        | exact hshl ho
        | exact hshr ho
        | (refine ex_arith hr (by rfl) wa ?_
           simp [execOp, ho, ha, hb, eqGuard, binOp, Op.intArith, Op.intBits, stdBin]; done)
        | (refine okk_one hr ?_ (hwb _)
           simp [execOp, ho, ha, hb, eqGuard, binOp, Op.intCmp, std, stdCmp]; done)
        | (refine okk_one' hr fun hp => ⟨_, ?_, hw _ (by rfl)⟩
           have hp : ¬ b = 0 := hp
           simp [execOp, ho, ha, hb, eqGuard, binOp, Op.intDiv, hp, std, stdBin]; done)
  · rename_i a b
    simp only [SV.Is] at ha hb
    obtain ⟨ha, wa⟩ := ha
    obtain ⟨hb, wb⟩ := hb
    split
    · refine okk_one hr ?_ (hwb _)
      simp [execOp, ho, ha, hb, eqGuard, binOp, Op.stringOp, std]
    · refine okk_one hr ?_ (hwb _)
      simp [execOp, ho, ha, hb, eqGuard, binOp, Op.stringOp, std]
    · refine okk_one' hr fun hp => ⟨.string (a ++ b), ?_, by
        have hp : (a.size : Int) + (b.size : Int) ≤ 9223372036854775807 := hp
        simp only [SV.Is]; exact ⟨rfl, by show (a ++ b).size ≤ maxLen; rw [ByteArray.size_append]; unfold maxLen; omega⟩⟩
      have hp : ¬ (9223372036854775807 < (a.size : Int) + (b.size : Int)) := by
        have : (a.size : Int) + (b.size : Int) ≤ 9223372036854775807 := hp
        omega
      simp [execOp, ho, ha, hb, eqGuard, binOp, Op.stringOp, IntKind.max, IntKind.signed, IntKind.bits, hp]
    · exact okk_none
  · rename_i a b
    simp only [SV.Is] at ha hb
    cases h : isBool u with
    | false => exact okk_none
    | true => exact ex_bool hr ho ha.1 hb.1 (hub h)
  · rename_i a b
    simp only [SV.Is] at ha hb
    cases h : isBool u with
    | false => exact okk_none
    | true => exact ex_bool hr ho ha hb.1 (hub h)
  · rename_i a b
    simp only [SV.Is] at ha hb
    cases h : isBool u with
    | false => exact okk_none
    | true => exact ex_bool hr ho ha.1 hb (hub h)
  · rename_i id off
    simp only [SV.Is] at ha hb
    obtain ⟨_, b, _, _, ha⟩ := ha
    have hu' : ∀ e, u = .ptr e → P.underlying t = some (.pointer (P.pointee t)) := by
      intro e h
      obtain ⟨d, h1, h2⟩ := hu (by rw [h]; simp)
      rw [h] at h2
      cases d <;> first | cases h2 | skip
      unfold Program.pointee
      rw [h1]
    split
    · refine okk_one hr (v := .bool false) ?_ (by simp only [SV.Is])
      simp [execOp, ho, ha, hb.1, eqGuard, run_eql_pointer_nil w t _ (hu' _ rfl)]
    · refine okk_one hr (v := .bool true) ?_ (by simp only [SV.Is])
      simp [execOp, ho, ha, hb.1, eqGuard, run_neq_pointer_nil w t _ (hu' _ rfl)]
    · exact okk_none
  · exact okk_none
theorem eqSV_ok {ks : List CK} : ∀ {l m : List SV} {us vs : List Value} {b : Bool}, eqSV std ks l m = some b → LsIs g r l us → LsIs g r m vs → Cks ks us ∧ Cks ks vs ∧ eqV ks us vs = b := by
  induction ks with
  | nil =>
    intro l m us vs b h hx hy
    unfold eqSV at h
    split at h
    · cases h
      simp only [LsIs] at hx hy
      subst hx; subst hy
      exact ⟨trivial, trivial, rfl⟩
    · simp_all
    · simp_all
    · simp_all
    · simp_all
    · simp_all
    · cases h
  | cons k ks ih =>
    intro l m us vs b h hx hy
    unfold eqSV at h
    split at h
    · simp_all
    · rename_i q ks' k1 a l' k2 c m' hk
      cases hk
      cases hs : (IntKind.same q k1 && IntKind.same q k2) with
      | false => rw [hs] at h; cases h
      | true =>
        rw [hs] at h
        simp only [cond_true] at h
        rw [Bool.and_eq_true] at hs
        obtain rfl := same_eq hs.1
        obtain rfl := same_eq hs.2
        simp only [LsIs, SV.Is] at hx hy
        obtain ⟨u, us', rfl, ⟨rfl, wu⟩, hx⟩ := hx
        obtain ⟨v, vs', rfl, ⟨rfl, wv⟩, hy⟩ := hy
        split at h
        · rename_i r0 hr0
          cases h
          obtain ⟨c1, c2, c3⟩ := ih hr0 hx hy
          exact ⟨⟨⟨_, rfl, wu⟩, c1⟩, ⟨⟨_, rfl, wv⟩, c2⟩, by simp only [eqV, c3]; rfl⟩
        · cases h
    all_goals first
      | (rename_i ks' a l' c m' hk
         cases hk
         simp only [LsIs, SV.Is] at hx hy
         obtain ⟨u, us', rfl, hu, hx⟩ := hx
         obtain ⟨v, vs', rfl, hv, hy⟩ := hy
         first | (obtain ⟨rfl, _⟩ := hu) | (obtain rfl := hu)
         first | (obtain ⟨rfl, _⟩ := hv) | (obtain rfl := hv)
         split at h
         · rename_i r0 hr0
           cases h
           obtain ⟨c1, c2, c3⟩ := ih hr0 hx hy
           exact ⟨⟨⟨_, rfl⟩, c1⟩, ⟨⟨_, rfl⟩, c2⟩, by simp only [eqV, c3]; rfl⟩
         · cases h)
      | cases h
theorem ex_bin2 {C : Cx} (ht : ttOk P C.tt) (hA : C.A = std) (hr : ∀ id, n ≤ id → r id = none) {op : BinOp} {t t' : TypeId} {x y : Operand} {a b : SV} (hu : (C.td t).un ≠ .other → ∃ e, P.underlying t = some e ∧ unOf e = (C.td t).un) (ho : o.op = .binOp op t x y t') (ha : a.Is g r (ρ x)) (hb : b.Is g r (ρ y)) : Okk P ρ g r n w o (exBin2 C op t a b) := by
  unfold exBin2
  split
  · rename_i l
    split
    · rename_i m
      unfold exEq
      split
      · exact okk_none
      · rename_i hne
        rw [hA]
        simp only [SV.Is] at ha hb
        obtain ⟨us, ha, hl⟩ := ha
        obtain ⟨vs, hb, hm⟩ := hb
        have hT : TDok P t (C.td t) := by
          unfold Cx.td at hne ⊢
          cases hq : assoc C.tt t with
          | none => rw [hq] at hne; exact absurd rfl hne
          | some d => exact ttOk_mem ht (assoc_mem hq)
        have hq := hT.2.2.2.2
        rw [Bool.or_eq_true, Bool.and_eq_true] at hq
        have hq : eqB P t (C.td t).eq = true ∧ isAgg2 P t = true := by
          rcases hq with hq | hq
          · exact absurd (List.isEmpty_iff.1 hq) hne
          · exact hq
        split
        · rename_i bb hbb
          obtain ⟨c1, c2, c3⟩ := eqSV_ok hbb hl hm
          have hrun := eql_agg hq.1 c1 c2 hq.2 w
          have hgd := eq_guard hq.1 op x y us vs w
          rw [c3] at hrun
          have hwb : ∀ c : Bool, (SV.v (.bool c)).Is g r (.bool c) := fun c => by simp only [SV.Is]; exact ⟨trivial, trivial⟩
          split
          · refine okk_one hr ?_ (hwb _)
            simp [execOp, ho, ha, hb, hgd, hrun.1]
          · refine okk_one hr ?_ (hwb _)
            simp [execOp, ho, ha, hb, hgd, hrun.2, std]
          · exact okk_none
        · exact okk_none
    · exact okk_none
  · rw [hA]
    exact ex_bin hr hu ho ha hb
theorem ex_un (hr : ∀ id, n ≤ id → r id = none) {ck : Bool} {op : UnOp} {t : TypeId} {x : Operand} {a : SV} (ho : o.op = .unOp op t x) (ha : a.Is g r (ρ x)) : Okk P ρ g r n w o (exUn std ck op a) := by
  unfold exUn
  split
  · rename_i b
    simp only [SV.Is] at ha
    split
    · exact okk_one hr (v := .bool (!b)) (by simp [execOp, ho, ha, Op.unary]) (by simp only [SV.Is])
    · exact okk_none
  · rename_i b
    simp only [SV.Is] at ha
    split
    · exact okk_one hr (v := .bool (!b)) (by simp [execOp, ho, ha.1, Op.unary]) (by simp only [SV.Is]; exact ⟨rfl, trivial⟩)
    · exact okk_none
  · rename_i k z
    simp only [SV.Is] at ha
    split
    · have hrun : (execOp ρ o).run P w = .ok (.value (.int k (k.wrap (0 - z)))) w := by simp [execOp, ho, ha.1, Op.unary, Op.intArith]
      cases ck with
      | false => exact okk_one hr hrun (by simp only [SV.Is]; exact ⟨rfl, wf_wrap _ _⟩)
      | true =>
        refine okk_one' hr fun hp => ?_
        have hp : stdIn k (-z) := hp
        have hp := (stdIn_iff k _).1 hp
        rw [Int.zero_sub, wrap_wf hp] at hrun
        exact ⟨_, hrun, by simp only [SV.Is]; exact ⟨rfl, hp⟩⟩
    · exact okk_one hr (v := .int k (stdUna .xor k z)) (by simp [execOp, ho, ha.1, Op.unary, Op.intBits, stdUna]) (by simp only [SV.Is]; exact ⟨rfl, wf_wrap _ _⟩)
    · exact okk_none
  · exact okk_none
theorem nble {a b : Nat} (h : Nat.ble a b = true) : a ≤ b := Nat.le_of_ble_eq_true h
theorem run_loadAt {t : TypeId} {d : TD} (h : TDok P t d) {a : Addr} {cs : List Value} (hl : cs.length = d.size) (hs : 1 ≤ d.size) (hc : ∀ j v, cs[j]? = some v → w.cell? (a.add j) = some v) :
    (Instr.loadAt t (.pointer (some a))).run P w = .ok (if d.agg then .agg cs.toArray else cs.headD undef) w := by
  simp only [Instr.loadAt, Instr.sureAddr, loadVar, Sem.run_bind, Sem.run_pure, Result.andThen_ok, h.isAgg, Sem.run_ite, h.sizeOf]
  cases hd : d.agg with
  | true =>
    have := run_loadCells_list (P := P) w a cs hc
    rw [hl] at this
    simp [this]
  | false =>
    cases cs with
    | nil => simp at hl; omega
    | cons c cs =>
      have := hc 0 c rfl
      simp only [Addr.add, if_true] at this
      simp [this]
/-- What the state gives to an operation. -/
theorem rd_ints {M : Nat} {w : World} {k : IntKind} {v : Value} {d : Dat} (h : Rd M w (.sl (.int k)) [v] d) (hM : M ≤ maxLen) : Reads k w v d.ints ∧ d.ints.length ≤ M := by
  rw [Rd] at h
  obtain ⟨ao, cap, ds, he, rfl, hl, hc, hh⟩ := h
  cases he
  have hint : (Dat.list ds).ints = ds.map Dat.z := rfl
  rw [hint]
  rcases hh with rfl | ⟨b, o, rfl, hh⟩
  · exact ⟨⟨⟨ao, cap, rfl, hl, by omega, .inl rfl⟩, by intro x hx; simp at hx, by simp⟩, by simp⟩
  · have h1 : ∀ i u, ds[i]? = some u → ∃ z, u = .int z ∧ w.cell? ⟨b, o + i, none⟩ = some (.int k z) ∧ (Lit.int k z).wf = true := by
      intro i u hu
      obtain ⟨es, he1, he2, he3⟩ := hh i u hu
      rw [Rd] at he3
      obtain ⟨z, rfl, rfl, hz⟩ := he3
      have := he2 0 _ rfl
      simp only [Ty.size, Nat.mul_one, Nat.add_zero] at this
      exact ⟨z, rfl, this, hz⟩
    have hk : ∀ i u, (ds.map Dat.z)[i]? = some u → w.cell? ⟨b, o + i, none⟩ = some (.int k u) ∧ (Lit.int k u).wf = true := by
      intro i u hu
      rw [List.getElem?_map] at hu
      obtain ⟨u', hu', rfl⟩ := Option.map_eq_some_iff.1 hu
      obtain ⟨z, rfl, h2, h3⟩ := h1 i u' hu'
      exact ⟨h2, h3⟩
    have hlen : (ds.map Dat.z).length = ds.length := by simp
    generalize ds.map Dat.z = l at hk hlen
    refine ⟨⟨⟨some ⟨b, o, none⟩, cap, by rw [kv_len, hlen], by rw [kv_len, hlen]; exact hl, by omega, .inr ⟨b, o, rfl, ?_⟩⟩, ?_, by omega⟩, by omega⟩
    · intro i u hu
      rw [List.getElem?_map] at hu
      obtain ⟨z, hz, rfl⟩ := Option.map_eq_some_iff.1 hu
      exact (hk i z hz).1
    · intro x hx
      obtain ⟨i, hi, rfl⟩ := List.getElem_of_mem hx
      exact (hk i _ (List.getElem?_eq_getElem hi)).2
mutual
/-- Data of a type is what its cells are known to be. -/
theorem svOf_is : ∀ (T : Ty) (cs : List Value) (d : Dat), Rd maxLen g T cs d → LsIs g r (svOf std T d) cs
  | .int k, cs, d, h => by
    simp only [Rd] at h
    obtain ⟨z, rfl, rfl, hw⟩ := h
    simp only [svOf, LsIs, SV.Is]
    exact ⟨_, [], rfl, ⟨rfl, hw⟩, rfl⟩
  | .bool, cs, d, h => by
    simp only [Rd] at h
    obtain ⟨z, rfl, rfl⟩ := h
    simp only [svOf, LsIs, SV.Is]
    exact ⟨_, [], rfl, ⟨rfl, trivial⟩, rfl⟩
  | .str, cs, d, h => by
    simp only [Rd] at h
    obtain ⟨z, rfl, rfl, hw⟩ := h
    simp only [svOf, LsIs, SV.Is]
    exact ⟨_, [], rfl, ⟨rfl, hw⟩, rfl⟩
  | .sl e, cs, d, h => by
    have hc : ∃ v, cs = [v] := by
      simp only [Rd] at h
      obtain ⟨ao, cap, ds, h1, _⟩ := h
      exact ⟨_, h1⟩
    obtain ⟨v, rfl⟩ := hc
    unfold svOf
    split
    · rename_i k
      simp only [LsIs, SV.Is]
      exact ⟨_, [], rfl, (rd_ints h (Nat.le_refl _)).1, rfl⟩
    · simp only [LsIs, SV.Is]
      exact ⟨_, [], rfl, h, rfl⟩
  | .st fs, cs, d, h => by
    simp only [Rd] at h
    obtain ⟨ds, rfl, h⟩ := h
    unfold svOf
    exact svOfs_is fs cs ds [] h
theorem svOfs_is : ∀ (fs : List Ty) (cs : List Value) (ds : List Dat) (pre : List Dat), RdL maxLen g fs cs ds → LsIs g r (svOfs std fs (.agg (pre ++ ds)) pre.length) cs
  | [], cs, ds, pre, h => by
    obtain ⟨rfl, rfl⟩ := h.nil
    simp only [svOfs, LsIs]
  | t :: ts, cs, ds, pre, h => by
    obtain ⟨c1, c2, u, us, rfl, h1, rfl, h2, h3⟩ := h.cons
    unfold svOfs
    have e : std.dfld (.agg (pre ++ u :: us)) pre.length = u := by
      show ((pre ++ u :: us).getD pre.length (.int 0)) = u
      simp
    rw [e]
    refine lsIs_append (svOf_is t c1 u h2) ?_
    have := svOfs_is ts c2 us (pre ++ [u]) h3
    simpa using this
end
structure Env (P : Program) (C : Cx) (g : World) (r : Nat → Option Value) (n base : Nat) (w : World) (ob : Nat → SO) : Prop where
  tt : ttOk P C.tt
  A : C.A = std
  r1 : ∀ i h, r i = some h → one1 h
  rn : ∀ id, n ≤ id → r id = none
  gw : SubW g w
  obs : ∀ id, ob id ≠ .gone → ∃ h, r id = some h ∧ (ob id).Is g r w base h
theorem agg_arr {g : World} {r : Nat → Option Value} {l : List SV} {us : List Value} (h : LsIs g r l us) : (SV.agg l).Is g r (.agg us.toArray) := by
  simp only [SV.Is]
  exact ⟨_, rfl, by simpa using h⟩
theorem ex_load {C : Cx} {base : Nat} {ob : Nat → SO} (E : Env P C g r n base w ob) {t : TypeId} {x : Operand} {a : SV} (ho : o.op = .load t x) (ha : a.Is g r (ρ x)) : Okk P ρ g r n w o (exLoad C ob t a) := by
  unfold exLoad
  split
  · rename_i id off
    split
    · rename_i t' l hob
      cases hs : Nat.ble 1 (C.td t).size with
      | false => exact okk_none
      | true =>
      cases hf : Nat.ble (off + (C.td t).size) l.length with
      | false => exact okk_none
      | true =>
        simp only [Bool.and_self, cond_true]
        have hs := nble hs
        have hf := nble hf
        have hT := td_ok E.tt hs
        obtain ⟨h, hr1, hoi⟩ := E.obs id (by rw [hob]; simp)
        rw [hob] at hoi
        obtain ⟨b, cs, hb1, _, hb2, hl⟩ := hoi
        simp only [SV.Is] at ha
        obtain ⟨h', b', hr2, hb3, hx⟩ := ha
        rw [hr1] at hr2
        cases hr2
        rw [hb1] at hb3
        cases hb3
        have hseg := lsIs_take (lsIs_drop hl off) (C.td t).size
        have hlen : ((cs.toList.drop off).take (C.td t).size).length = (C.td t).size := by
          have := lsIs_len hl
          rw [List.length_take, List.length_drop]
          omega
        have hrun := run_loadAt (P := P) (w := w) hT (a := ⟨b, off, none⟩) hlen hs (fun j v hj => by
          rw [Addr.add_lit]
          refine cell_at hb2 ?_
          rw [List.getElem?_take] at hj
          split at hj
          · rw [List.getElem?_drop] at hj
            simpa using hj
          · cases hj)
        cases hag : (C.td t).agg with
        | true =>
          rw [hag, if_pos rfl] at hrun
          simp only [cond_true]
          exact okk_one E.rn (by simp [execOp, ho, hx, hrun]) (agg_arr hseg)
        | false =>
          rw [hag, if_neg (by simp)] at hrun
          simp only [cond_false]
          split
          · rename_i y hy
            obtain ⟨u, hu, hyu⟩ := lsIs_get hl hy
            have : ((cs.toList.drop off).take (C.td t).size).headD undef = u := by
              rw [List.headD_eq_head?_getD, List.head?_eq_getElem?, List.getElem?_take, if_pos (by omega), List.getElem?_drop, Nat.add_zero, hu]
              rfl
            rw [this] at hrun
            exact okk_one E.rn (by simp [execOp, ho, hx, hrun]) hyu
          · exact okk_none
    · exact okk_none
  · rename_i id i
    split
    · rename_i E' k l hob
      cases hs : Nat.ble 1 (C.td t).size with
      | false => exact okk_none
      | true =>
      cases hag : (C.td t).agg with
      | true => exact okk_none
      | false =>
        simp only [Bool.not_false, Bool.and_self, cond_true]
        have hs := nble hs
        have hT := td_ok E.tt hs
        obtain ⟨h, hr1, hoi⟩ := E.obs id (by rw [hob]; simp)
        rw [hob] at hoi
        simp only [SV.Is] at ha
        obtain ⟨b, m, c, hr2, h0, hm, hx⟩ := ha
        rw [hr1] at hr2
        cases hr2
        obtain ⟨hown, hfit⟩ := hoi
        have hlen : l.length = m := by
          obtain ⟨_, _, he, _⟩ := holds_ownM hown
          rw [kv_len] at he
          injection he with _ e2 _
          exact e2.symm
        have hi : i.toNat < l.length := by omega
        have hcell : w.cell? ⟨b, i.toNat, none⟩ = some (.int k (l.getD i.toNat 0)) := by
          subst hlen
          have := hown.cellAt i.toNat (by rw [Nat.mul_one]; exact hi)
          rw [kv_getD k l i.toNat hi] at this
          exact this
        rw [E.A]
        refine okk_one E.rn (v := .int k (l.getD i.toNat 0)) ?_ (by simp only [SV.Is]; exact ⟨rfl, fits_getD hfit _⟩)
        have hrun : (Instr.loadAt t (.pointer (some ⟨b, i.toNat, none⟩))).run P w = .ok (.int k (l.getD i.toNat 0)) w := by
          simp [Instr.loadAt, Instr.sureAddr, loadVar, hT.isAgg, hag, hcell]
        simp [execOp, ho, hx, hrun]
    · exact okk_none
  · rename_i id i sz off
    split
    · rename_i E' T d hob
      cases hs : Nat.ble 1 (C.td t).size with
      | false => exact okk_none
      | true =>
      cases hz : Nat.beq sz T.size with
      | false => exact okk_none
      | true =>
      cases hf : Nat.ble (off + (C.td t).size) (svOf C.A T (C.A.dat d i)).length with
      | false => exact okk_none
      | true =>
        simp only [Bool.and_self, cond_true]
        have hs := nble hs
        have hf := nble hf
        obtain rfl := Nat.eq_of_beq_eq_true hz
        have hT := td_ok E.tt hs
        obtain ⟨h, hr1, hoi⟩ := E.obs id (by rw [hob]; simp)
        rw [hob] at hoi
        obtain ⟨hsz, ds, cl, rfl, hown, hrd⟩ := hoi
        simp only [SV.Is] at ha
        obtain ⟨b, m, c, hr2, h0, hm, hx⟩ := ha
        rw [hr1] at hr2
        cases hr2
        have hlen0 : ds.length = m := by
          rcases hown.2 with ⟨e1, _⟩ | ⟨g', cap, cur, e1, _⟩
          · cases e1
          · injection e1 with _ e2 _; exact e2.symm
        subst hlen0
        have hi : i.toNat < ds.length := by omega
        have hat : std.dat (Dat.list ds) i = ds[i.toNat] := by
          show ds.getD i.toNat (.int 0) = _
          simp [List.getD, hi]
        rw [E.A] at hf ⊢
        rw [hat] at hf ⊢
        have hl : LsIs g r (svOf std T ds[i.toNat]) ((cl.drop (i.toNat * T.size)).take T.size) := svOf_is T _ _ (hrd _ _ (List.getElem?_eq_getElem hi))
        have hseg := lsIs_take (lsIs_drop hl off) (C.td t).size
        have hlen : ((((cl.drop (i.toNat * T.size)).take T.size).drop off).take (C.td t).size).length = (C.td t).size := by
          have := lsIs_len hl
          rw [List.length_take, List.length_drop]
          omega
        have hrun := run_loadAt (P := P) (w := w) hT (a := ⟨b, i.toNat * T.size + off, none⟩) hlen hs (fun j v hj => by
          rw [Addr.add_lit]
          rw [List.getElem?_take] at hj
          split at hj
          · rw [List.getElem?_drop, List.getElem?_take] at hj
            split at hj
            · rw [List.getElem?_drop] at hj
              have := hown.cells (g := b) rfl _ _ hj
              rw [Addr.add_lit, Nat.zero_add] at this
              rwa [Nat.add_assoc]
            · cases hj
          · cases hj)
        cases hag : (C.td t).agg with
        | true =>
          rw [hag, if_pos rfl] at hrun
          simp only [cond_true]
          exact okk_one E.rn (by simp [execOp, ho, hx, hrun]) (agg_arr hseg)
        | false =>
          rw [hag, if_neg (by simp)] at hrun
          simp only [cond_false]
          split
          · rename_i y hy
            obtain ⟨u, hu, hyu⟩ := lsIs_get hl hy
            have : ((((cl.drop (i.toNat * T.size)).take T.size).drop off).take (C.td t).size).headD undef = u := by
              rw [List.headD_eq_head?_getD, List.head?_eq_getElem?, List.getElem?_take, if_pos (by omega), List.getElem?_drop, Nat.add_zero, hu]
              rfl
            rw [this] at hrun
            exact okk_one E.rn (by simp [execOp, ho, hx, hrun]) hyu
          · exact okk_none
    · exact okk_none
  · rename_i l
    cases hs : Nat.ble 1 (C.td t).size with
    | false => exact okk_none
    | true =>
    cases hf : Nat.ble (C.td t).size l.length with
    | false => exact okk_none
    | true =>
      simp only [Bool.and_self, cond_true]
      have hs := nble hs
      have hf := nble hf
      have hT := td_ok E.tt hs
      simp only [SV.Is] at ha
      obtain ⟨b, off, hx, hat⟩ := ha
      obtain ⟨us, hus, hcs⟩ := isAt_list hat
      have hseg := lsIs_take hus (C.td t).size
      have hlen : (us.take (C.td t).size).length = (C.td t).size := by
        have := lsIs_len hus
        rw [List.length_take]
        omega
      have hrun := run_loadAt (P := P) (w := w) hT (a := ⟨b, off, none⟩) hlen hs (fun j v hj => by
        rw [Addr.add_lit]
        rw [List.getElem?_take] at hj
        split at hj
        · exact E.gw _ _ _ (hcs j v hj)
        · cases hj)
      cases hag : (C.td t).agg with
      | true =>
        rw [hag, if_pos rfl] at hrun
        simp only [cond_true]
        exact okk_one E.rn (by simp [execOp, ho, hx, hrun]) (agg_arr hseg)
      | false =>
        rw [hag, if_neg (by simp)] at hrun
        simp only [cond_false]
        split
        · rename_i y l' _ _
          simp only [LsIs] at hus
          obtain ⟨u, us', rfl, hyu, _⟩ := hus
          have : ((u :: us').take (C.td t).size).headD undef = u := by
            rw [List.headD_eq_head?_getD, List.head?_eq_getElem?, List.getElem?_take, if_pos (by omega)]
            rfl
          rw [this] at hrun
          exact okk_one E.rn (by simp [execOp, ho, hx, hrun]) hyu
        · exact okk_none
  · exact okk_none
end
end Go.Proofs.Ytekokhlldcmjfaa
