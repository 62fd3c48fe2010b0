/- A region whose orders are gone through, one by one. No program in sight. -/
import Derived.Test.YtekokhlldcmjfaaSndA
namespace Go.Proofs.Ytekokhlldcmjfaa
open Go.RowKit Go.ChangeShapes Go.WideShapes Go.Deep
set_option linter.unusedVariables false
set_option linter.unusedSimpArgs false
/-! ### An operation may come first, as long as what comes ahead of it keeps what it sees -/
section
variable {P : Program} {ops : Array Oper} {Q : Exit → Act → World → Prop}
def ClosedL (ops : Array Oper) (listed : Array Bool) : Prop := ∀ j oj, ops[j]? = some oj → listed.getD j false = true → ∀ e ∈ oj.after, Region.binds .any e = true → listed.getD e.on false = true
theorem closed_set {listed : Array Bool} (h : ClosedL ops listed) {i : Nat} (hi : i ∈ Region.ready .any ops listed) : ClosedL ops (listed.setIfInBounds i true) := by
  intro j oj hj hl e he hb
  by_cases hij : i = j
  · subst hij
    obtain ⟨_, o, ho, hall⟩ := mem_ready.1 hi
    rw [hj] at ho
    cases ho
    exact getD_set_true (hall e he hb)
  · rw [getD_set_ne false hij] at hl
    exact getD_set_true (h j oj hj hl e he hb)
/-- Whatever order is picked, with what each operation does to the world. -/
def wpAnyR (P : Program) (ops : Array Oper) (Q : Exit → Act → World → Prop) (R : Nat → Act → World → World → Prop) : Nat → Array Bool → Act → World → Prop
  | 0, listed, a, w => Region.ready .any ops listed = [] ∧ Q .normal a w
  | fuel + 1, listed, a, w => (Region.ready .any ops listed = [] → Q .normal a w) ∧
    ∀ i ∈ Region.ready .any ops listed, wpOp P ops Q i (fun a' w' => R i a w w' ∧ wpAnyR P ops Q R fuel (listed.setIfInBounds i true) a' w') a w
theorem wpAnyR_any {R : Nat → Act → World → World → Prop} : ∀ (fuel : Nat) (listed : Array Bool) (a : Act) (w : World), wpAnyR P ops Q R fuel listed a w → wpAny P .any ops Q fuel listed a w
  | 0, _, _, _, h => h
  | fuel + 1, _, _, _, h => ⟨h.1, fun i hi => wpOp_mono (fun a' w' h' => wpAnyR_any fuel _ a' w' h'.2) (h.2 i hi)⟩
theorem wpAnyR_imp {R R' : Nat → Act → World → World → Prop} (hR : ∀ i a w w', R i a w w' → R' i a w w') : ∀ (fuel : Nat) (listed : Array Bool) (a : Act) (w : World), wpAnyR P ops Q R fuel listed a w → wpAnyR P ops Q R' fuel listed a w
  | 0, _, _, _, h => h
  | fuel + 1, _, a, w, h => ⟨h.1, fun i hi => wpOp_mono (fun a' w' h' => ⟨hR i a w w' h'.1, wpAnyR_imp hR fuel _ a' w' h'.2⟩) (h.2 i hi)⟩
/-- An operation writes its own slot alone. -/
theorem wpOp_slot {j : Nat} {oj : Oper} (hj : ops[j]? = some oj) {K : Act → World → Prop} {a : Act} {w : World} (h : wpOp P ops Q j K a w) : wpOp P ops Q j (fun a' w' => K a' w' ∧ ∀ q, oj.dst ≠ some q → a'.tmps.getD q undef = a.tmps.getD q undef) a w := by
  have key : ∀ (u : Value) (q : Nat), oj.dst ≠ some q → (a.put oj.dst u).tmps.getD q undef = a.tmps.getD q undef := fun u q hq => put_keep hq
  unfold wpOp at *
  simp only [hj] at *
  split
  · rename_i hw
    simp only [hw, if_true] at h
    rcases h with h | h
    case inr => exact .inr h
    refine .inl ?_
    unfold Oper.wp at *
    generalize (execOp a.eval oj).run P w = rr at *
    cases rr with
    | ok n w' =>
      cases n <;> simp only [Oper.upon] at h ⊢
      case value u => exact ⟨h, fun q hq => key u q hq⟩
      case skip => exact ⟨h, fun q hq => key _ q hq⟩
      case defer d =>
        refine ⟨h, fun q hq => ?_⟩
        have := put_keep (a := { a with defers := d :: a.defers }) (u := undef) hq
        exact this
      case enter f args =>
        refine Calls.mono h fun e w'' he => ?_
        cases e with
        | returned u => exact ⟨he, fun q hq => key u q hq⟩
        | panicked c => exact he
        | outgrown => exact he
      case row row args => exact Rows.mono h fun u w'' he => ⟨he, fun q hq => key u q hq⟩
    | halt x w' => cases x <;> simp only [Oper.upon] at h ⊢ <;> exact h
  · rename_i hw
    simp only [hw] at h
    exact ⟨h, fun q hq => key _ q hq⟩
theorem first_gen {D : Nat → Nat → Bool} (hD : ClosedD D ops) {R : Nat → Act → World → World → Prop} {k : Nat} {qs : Nat → Prop} {ok : Oper} {v : Value} {A : Nat → Value} {S : World → Prop} (hk : ops[k]? = some ok) (hsel : ∀ (j : Nat) (o : Oper) cs b, ops[j]? = some o → o.op ≠ .select cs b)
    (hQ : ∀ c a w, Q (.panic c) (a.put ok.dst v) w → Q (.panic c) a w) (hRk : ∀ a w, S w → R k a w w) (hRp : ∀ j oj a w w', ops[j]? = some oj → ok.apart ops oj = true → R j (a.put ok.dst v) w w' → R j a w w') :
    ∀ (fuel : Nat) (listed : Array Bool) (a : Act) (w1 : World), ClosedL ops listed →
      (∀ j oj, ops[j]? = some oj → j ≠ k → listed.getD j true = false → D j k = false → (∀ e ∈ oj.after, Region.binds .any e = true → e.on ≠ k) → ok.apart ops oj = true ∧ (∀ q, qs q → oj.dst ≠ some q) ∧
        ∀ a' : Act, (∀ q, qs q → a'.tmps.getD q undef = A q) → ∀ w w', S w → R j a' w w' → S w') →
      k ∈ Region.ready .any ops listed → YieldsIf P ops S ok v a → S w1 → (∀ q, qs q → a.tmps.getD q undef = A q) →
      wpAnyR P ops Q R fuel (listed.setIfInBounds k true) (a.put ok.dst v) w1 → wpAnyR P ops Q R (fuel + 1) listed a w1 := by
  intro fuel
  induction fuel with
  | zero =>
    intro listed a w1 _ _ hr hy hS _ H
    refine ⟨fun h => (by rw [h] at hr; cases hr), fun j hj => ?_⟩
    by_cases hji : j = k
    · subst hji; exact hy.wpOp hk hS ⟨hRk a w1 hS, H⟩
    · have := ready_mono hj hji
      rw [H.1] at this
      cases this
  | succ fuel ih =>
    intro listed a w1 hcl hfree hr hy hS hB H
    refine ⟨fun h => (by rw [h] at hr; cases hr), fun j hj => ?_⟩
    by_cases hji : j = k
    · subst hji; exact hy.wpOp hk hS ⟨hRk a w1 hS, H⟩
    · have h1 := H.2 j (ready_mono hj hji)
      obtain ⟨hjun, oj, hoj, hall⟩ := mem_ready.1 hj
      have hkun := getD_both (mem_ready.1 hr).1
      have hnot : ∀ e ∈ oj.after, Region.binds .any e = true → e.on ≠ k := fun e he hb heq => by
        have h1 := hall e he hb
        rw [heq, hkun] at h1
        cases h1
      have hDk : D j k = false := by
        cases hd : D j k with
        | false => rfl
        | true =>
          have := hD listed hcl j oj hoj hall k hd
          rw [hkun] at this
          cases this
      obtain ⟨hap, hqd, hstill⟩ := hfree j oj hoj hji hjun hDk hnot
      have h2 := wpOp_putIf hoj hap (fun cs b => hsel k ok cs b hk) (fun cs b => hsel j oj cs b hoj) hQ hy h1
      have h3 := wpOp_slot hoj h2
      refine wpOp_mono (fun a' w' h4 => ?_) h3
      obtain ⟨⟨g1, g2, g3⟩, g4⟩ := h4
      have g2 := hRp j oj a w1 w' hoj hap g2
      refine ⟨g2, ?_⟩
      refine ih (listed.setIfInBounds j true) a' w' (closed_set hcl hj) ?_ (ready_mono hr (Ne.symm hji)) g1 (hstill a hB w1 w' hS g2) (fun q hq => (g4 q (hqd q hq)).trans (hB q hq)) ?_
      · intro i oi hi hik hun hd hno
        refine hfree i oi hi hik ?_ hd hno
        by_cases hjk : j = i
        · subst hjk; exact hjun
        · rw [getD_set_ne true hjk] at hun; exact hun
      · rw [Array.setIfInBounds_comm _ _ hji]
        exact g3
theorem first_gen2 {D : Nat → Nat → Bool} (hD : ClosedD D ops) {R : Nat → Act → World → World → Prop} {k : Nat} {ok : Oper} {v : Value} {S : World → Prop} (hk : ops[k]? = some ok) (hsel : ∀ (j : Nat) (o : Oper) cs b, ops[j]? = some o → o.op ≠ .select cs b)
    (hQ : ∀ c a w, Q (.panic c) (a.put ok.dst v) w → Q (.panic c) a w) (hRk : ∀ a w, S w → R k a w w) (hRp : ∀ j oj a w w', ops[j]? = some oj → ok.apart ops oj = true → R j (a.put ok.dst v) w w' → R j a w w') :
    ∀ (fuel : Nat) (listed : Array Bool) (a : Act) (w1 : World), ClosedL ops listed →
      (∀ j oj, ops[j]? = some oj → j ≠ k → listed.getD j true = false → D j k = false → (∀ e ∈ oj.after, Region.binds .any e = true → e.on ≠ k) → ok.apart ops oj = true ∧
        ∀ (a' : Act) w nxt w', S w → (execOp a'.eval oj).run P w = .ok nxt w' → ((∃ u, nxt = .value u) ∨ nxt = .skip) ∧ S w') →
      k ∈ Region.ready .any ops listed → YieldsIf P ops S ok v a → S w1 →
      wpAnyR P ops Q R fuel (listed.setIfInBounds k true) (a.put ok.dst v) w1 → wpAnyR P ops Q R (fuel + 1) listed a w1 := by
  intro fuel
  induction fuel with
  | zero =>
    intro listed a w1 _ _ hr hy hS H
    refine ⟨fun h => (by rw [h] at hr; cases hr), fun j hj => ?_⟩
    by_cases hji : j = k
    · subst hji; exact hy.wpOp hk hS ⟨hRk a w1 hS, H⟩
    · have := ready_mono hj hji
      rw [H.1] at this
      cases this
  | succ fuel ih =>
    intro listed a w1 hcl hfree hr hy hS H
    refine ⟨fun h => (by rw [h] at hr; cases hr), fun j hj => ?_⟩
    by_cases hji : j = k
    · subst hji; exact hy.wpOp hk hS ⟨hRk a w1 hS, H⟩
    · have h1 := H.2 j (ready_mono hj hji)
      obtain ⟨hjun, oj, hoj, hall⟩ := mem_ready.1 hj
      have hkun := getD_both (mem_ready.1 hr).1
      have hnot : ∀ e ∈ oj.after, Region.binds .any e = true → e.on ≠ k := fun e he hb heq => by
        have h1 := hall e he hb
        rw [heq, hkun] at h1
        cases h1
      have hDk : D j k = false := by
        cases hd : D j k with
        | false => rfl
        | true =>
          have := hD listed hcl j oj hoj hall k hd
          rw [hkun] at this
          cases this
      obtain ⟨hap, hstill⟩ := hfree j oj hoj hji hjun hDk hnot
      have h2 := wpOp_putIf hoj hap (fun cs b => hsel k ok cs b hk) (fun cs b => hsel j oj cs b hoj) hQ hy h1
      have h3 := wpOp_more (T := fun _ w' => S w') hoj h2 hS fun nxt w' hrun => by
        obtain ⟨g1, g2⟩ := hstill a _ _ _ hS hrun
        rcases g1 with ⟨u, rfl⟩ | rfl
        · exact .inl ⟨u, rfl, g2⟩
        · exact .inr ⟨rfl, g2⟩
      refine wpOp_mono (fun a' w' h4 => ?_) h3
      obtain ⟨⟨g1, g2, g3⟩, g4⟩ := h4
      have g2 := hRp j oj a w1 w' hoj hap g2
      refine ⟨g2, ?_⟩
      refine ih (listed.setIfInBounds j true) a' w' (closed_set hcl hj) ?_ (ready_mono hr (Ne.symm hji)) g1 g4 ?_
      · intro i oi hi hik hun hd hno
        refine hfree i oi hi hik ?_ hd hno
        by_cases hjk : j = i
        · subst hjk; exact hjun
        · rw [getD_set_ne true hjk] at hun; exact hun
      · rw [Array.setIfInBounds_comm _ _ hji]
        exact g3
end
/-! ### Operations that leave the world as it is -/
def IsRow (w : World) (b : Nat) : Prop := ∃ cs T z, w.heap[b]? = some (.cells cs T z)
section
variable {P : Program}
theorem stillK_still {o : Oper} (h : stillK o.op = true) : Still P o := by
  unfold stillK at h
  split at h
  · exact still_load ‹_›
  · exact still_field ‹_›
  · rename_i x hop; exact still_eager (eager_of (by rw [hop]; rfl))
  · rename_i x hop; exact still_eager (eager_of (by rw [hop]; rfl))
  · rename_i x i hop; exact still_eager (eager_of (by rw [hop]; rfl))
  · rename_i t x i hop; exact still_eager (eager_of (by rw [hop]; rfl))
  · cases h
theorem setCell_row {w : World} {a : Addr} {v : Value} {b : Nat} (h : IsRow w b) : IsRow (w.setCell a v) b := by
  obtain ⟨cs, T, z, h⟩ := h
  unfold IsRow World.setCell
  simp only [Array.getElem?_modify]
  by_cases e : a.block = b
  · rw [if_pos e, h]
    exact ⟨_, _, _, rfl⟩
  · rw [if_neg e, h]
    exact ⟨_, _, _, rfl⟩
theorem store_row {w w' : World} {a : Addr} {v : Value} {u : Unit} (h : IsRow w a.block) (hr : (store a v).run P w = .ok u w') : w' = w.setCell a v := by
  obtain ⟨cs, T, z, h⟩ := h
  have hfar : ∀ at', w.farStore P a v at' = .error (w.noCell a "store: no such cell") := by
    intro at'
    unfold World.farStore
    rw [h]
  unfold store at hr
  cases v <;> simp only [Sem.run] at hr <;> (try cases hr) <;>
    (cases hc : w.cell? a with
     | some x =>
       rw [hc] at hr
       simp only at hr
       split at hr
       · cases hr
       · simp only [Result.ok.injEq] at hr
         exact hr.2.symm
     | none =>
       rw [hc] at hr
       simp only [hfar] at hr
       cases hr)
/-- Stores of one block leave the others as they are. -/
theorem storeCells_far (b off : Nat) (sp : Option Nat) : ∀ (vs : List Value) (i : Nat) (w : World) (u : Unit) (w' : World), IsRow w b → (storeCells ⟨b, off, sp⟩ vs i).run P w = .ok u w' → (∀ b', b' ≠ b → w'.heap[b']? = w.heap[b']?) ∧ ∀ b', IsRow w b' → IsRow w' b'
  | [], i, w, u, w', _, h => by
    unfold storeCells at h
    cases h
    exact ⟨fun _ _ => rfl, fun _ h => h⟩
  | v :: vs, i, w, u, w', hrow, h => by
    unfold storeCells at h
    rw [Sem.run_bind] at h
    cases hr : (store (Addr.add ⟨b, off, sp⟩ i) v).run P w with
    | halt x w1 => rw [hr] at h; cases h
    | ok u1 w1 =>
      rw [hr] at h
      have hblk : (Addr.add ⟨b, off, sp⟩ i).block = b := by unfold Addr.add; split <;> rfl
      have h1 := store_row (by rw [hblk]; exact hrow) hr
      subst h1
      obtain ⟨h2, h3⟩ := storeCells_far b off sp vs (i + 1) _ u w' (setCell_row hrow) h
      refine ⟨fun b' hb => (h2 b' hb).trans ?_, fun b' hb => h3 b' (setCell_row hb)⟩
      unfold World.setCell
      simp only [Array.getElem?_modify, hblk]
      rw [if_neg (Ne.symm hb)]
theorem store_far {ρ : Operand → Value} {o : Oper} {t : TypeId} {q x : Operand} (ho : o.op = .store t q x) {b off : Nat} {sp : Option Nat} (hq : ρ q = .pointer (some ⟨b, off, sp⟩)) {w w' : World} {nxt : Next} (hrow : IsRow w b) (hr : (execOp ρ o).run P w = .ok nxt w') :
    nxt = .skip ∧ (∀ b', b' ≠ b → w'.heap[b']? = w.heap[b']?) ∧ ∀ b', IsRow w b' → IsRow w' b' := by
  have he : execOp ρ o = ((Instr.storeAt t (ρ q) (ρ x)) >>= fun _ => pure .skip) := by simp only [execOp, ho]
  rw [he, hq, Sem.run_bind] at hr
  have hs : Instr.storeAt t (.pointer (some ⟨b, off, sp⟩)) (ρ x) = storeVar t ⟨b, off, sp⟩ (ρ x) := rfl
  rw [hs] at hr
  unfold storeVar at hr
  rw [Sem.run_bind] at hr
  have hz := quiet_wi (P := P) (wi_sizeOf t)
  cases h1 : (sizeOf t).run P w with
  | halt y w1 => rw [h1] at hr; cases hr
  | ok n w1 =>
    rw [h1] at hr
    obtain rfl := hz _ _ _ h1
    by_cases hsz : (ρ x).cells.size ≠ n
    · simp only [Result.andThen, if_pos hsz] at hr
      rw [Sem.run_bind] at hr
      cases hr
    · simp only [Result.andThen, if_neg hsz] at hr
      cases h2 : (storeCells ⟨b, off, sp⟩ (ρ x).cells.toList 0).run P w1 with
      | halt y w2 => rw [h2] at hr; cases hr
      | ok u w2 =>
        rw [h2] at hr
        cases hr
        exact ⟨rfl, storeCells_far b off sp _ 0 _ u _ hrow h2⟩
theorem wi_binint (op : BinOp) (t : TypeId) (x y : Operand) (k k' : IntKind) (a b : Int) : WI P (do eqGuard op t x y (.int k a) (.int k' b); binOp op t (.int k a) (.int k' b)) := by
  have hg : eqGuard op t x y (.int k a) (.int k' b) = pure () := by
    unfold eqGuard
    cases op <;> rfl
  rw [hg, pure_bind]
  unfold binOp
  cases op <;> simp only <;> (try unfold Op.shift) <;> (try unfold Op.intArith) <;> (try unfold Op.intDiv) <;> (try unfold Op.intBits) <;> (try unfold Op.intCmp)
  all_goals repeat' (first | exact wi_pure _ | exact wi_halt _ | (refine wi_ends ?_; intro v w; exact ⟨_, w, rfl⟩) | (refine wi_bind ?_ (fun _ _ => ?_)) | split | dsimp only)
end
/-! ### What there was stays, but for one row -/
def FarB {α : Type} (P : Program) (B : Nat → Prop) (s : Sem α) : Prop := ∀ w v w', (∀ c, B c → IsRow w c) → s.run P w = .ok v w' → w.heap.size ≤ w'.heap.size ∧ (∀ b, b < w.heap.size → ¬ B b → w'.heap[b]? = w.heap[b]?) ∧ ∀ c, IsRow w c → IsRow w' c
section
variable {P : Program} {B : Nat → Prop}
theorem far_quiet {α : Type} {s : Sem α} (h : Quiet P s) : FarB P B s := fun w v w' _ hr => by
  obtain rfl := h _ _ _ hr
  exact ⟨Nat.le_refl _, fun _ _ _ => rfl, fun _ h => h⟩
theorem far_bind {α β : Type} {s : Sem α} {f : α → Sem β} (hs : FarB P B s) (hf : ∀ v, FarB P B (f v)) : FarB P B (s >>= f) := by
  intro w v w' hB h
  rw [Sem.run_bind] at h
  cases hr : s.run P w with
  | ok u w1 =>
    rw [hr] at h
    obtain ⟨h1, h2, h3⟩ := hs _ _ _ hB hr
    obtain ⟨k1, k2, k3⟩ := hf u _ _ _ (fun c hc => h3 c (hB c hc)) h
    exact ⟨Nat.le_trans h1 k1, fun b hb hn => (k2 b (Nat.lt_of_lt_of_le hb h1) hn).trans (h2 b hb hn), fun c hc => k3 c (h3 c hc)⟩
  | halt x w1 => rw [hr] at h; cases h
theorem far_pure {α : Type} (v : α) : FarB P B (pure v : Sem α) := far_quiet (quiet_pure v)
theorem far_halt {α : Type} (h : Halt) : FarB P B (.halt h : Sem α) := far_quiet (quiet_halt h)
theorem row_of_heap {w w' : World} (h : ∀ b, b < w.heap.size → w'.heap[b]? = w.heap[b]?) {c : Nat} (hc : IsRow w c) : IsRow w' c := by
  obtain ⟨cs, T, z, h1⟩ := hc
  exact ⟨cs, T, z, (h c (Array.getElem?_eq_some_iff.1 h1).1).trans h1⟩
theorem far_ite {α : Type} {c : Prop} [Decidable c] {s t : Sem α} (hs : FarB P B s) (ht : FarB P B t) : FarB P B (if c then s else t) := by split <;> assumption
theorem far_choose (q : Question) : FarB P B (choose q) := fun w v w' _ h => by
  simp only [choose, Sem.run] at h
  split at h <;> cases h <;> exact ⟨Nat.le_refl _, fun _ _ _ => rfl, fun _ h => h⟩
theorem far_mark (m : Mark) : FarB P B (mark m) := fun w v w' _ h => by
  simp only [mark, Sem.run] at h
  cases h
  exact ⟨Nat.le_refl _, fun _ _ _ => rfl, fun _ h => h⟩
theorem far_new (o : Obj) : FarB P B (newObj o) := fun w v w' _ h => by
  simp only [newObj, Sem.run] at h
  cases h
  have key : ∀ b, b < w.heap.size → (w.heap.push o)[b]? = w.heap[b]? := fun b hb => by rw [Array.getElem?_push_lt hb, Array.getElem?_eq_getElem hb]
  exact ⟨by simp, fun b hb _ => key b hb, fun c hc => row_of_heap (w' := { w with heap := w.heap.push o }) key hc⟩
theorem far_newRow (e : TypeId) (cs : Array Value) : FarB P B (newRow e cs) := far_bind (far_new _) fun _ => far_pure _
theorem far_store {a : Addr} (ha : B a.block) : ∀ (vs : List Value) (i : Nat), FarB P B (storeCells a vs i)
  | [], i => far_pure _
  | v :: vs, i => by
    unfold storeCells
    refine far_bind ?_ fun _ => far_store ha vs (i + 1)
    intro w u w' hB hr
    have hblk : (Addr.add a i).block = a.block := by unfold Addr.add; split <;> rfl
    have h1 := store_row (by rw [hblk]; exact hB _ ha) hr
    subst h1
    refine ⟨by simp [World.setCell], fun b hb hn => ?_, fun c hc => setCell_row hc⟩
    unfold World.setCell
    simp only [Array.getElem?_modify, hblk]
    rw [if_neg (fun e : a.block = b => hn (by rw [← e]; exact ha))]
theorem quiet_frozen (a : Addr) : Quiet P (frozen a) := fun w v w' h => by simp only [frozen, Sem.run] at h; cases h; rfl
theorem quiet_holds (a : Addr) (n : Nat) : Quiet P (Builtin.holdsCells a n) := by
  unfold Builtin.holdsCells
  refine quiet_bind (quiet_shape _) fun d => ?_
  split <;> exact quiet_pure _
theorem quiet_typeInfo (t : TypeId) : Quiet P (typeInfo t) := by
  unfold typeInfo
  refine quiet_bind quiet_program fun p => ?_
  split
  · exact quiet_pure _
  · exact quiet_halt _
theorem quiet_zero (t : TypeId) : Quiet P (zeroValue t) := by
  unfold zeroValue
  refine quiet_bind (quiet_typeInfo t) fun i => ?_
  split
  · exact quiet_pure _
  · exact quiet_halt _
theorem quiet_share (size sLen n : Nat) (base : Option Addr) (x : Value) : Quiet P (Builtin.mayShare size sLen n base x) := by
  unfold Builtin.mayShare
  repeat' (first | exact quiet_pure _ | exact quiet_halt _ | exact quiet_holds _ _ | exact quiet_frozen _ | (refine quiet_bind ?_ (fun _ => ?_)) | split | dsimp only)
theorem quiet_first (size n : Nat) (x : Value) : Quiet P (Builtin.firstCells size n x) := by
  unfold Builtin.firstCells loadCells
  split
  · exact quiet_cells _ _ _ _
  · exact quiet_pure _
  · exact quiet_pure _
  · exact quiet_halt _
theorem quiet_asInt (v : Value) : Quiet P (asInt v) := by
  unfold asInt asIntOf
  repeat' (first | exact quiet_pure _ | exact quiet_halt _ | (refine quiet_bind ?_ (fun _ => ?_)) | split | dsimp only)
theorem quiet_lenOf (v : Value) : Quiet P (Builtin.lenOf v) := by
  unfold Builtin.lenOf
  split
  · exact quiet_pure _
  · exact quiet_pure _
  · exact quiet_halt _
theorem far_panic {α : Type} (m : String) : FarB P B (runtimePanic (.error m) : Sem α) := by
  unfold runtimePanic
  exact far_bind (far_quiet quiet_program) fun p => far_halt _
theorem far_room (n : Nat) : FarB P B (askRoom n) := by
  unfold askRoom
  split
  · exact far_mark _
  · exact far_pure _
set_option maxHeartbeats 2000000 in
theorem far_append {tys : Array TypeId} {ty : TypeId} {args : Array Value} {base : Option Addr} {n cap : Nat} (hs : args[0]? = some (.slice base n cap)) (hB : ∀ a, base = some a → B a.block) : FarB P B (Builtin.append_ tys ty args) := by
  unfold Builtin.append_
  rw [hs]
  cases tys[0]? with
  | none => exact far_halt _
  | some t =>
  cases args[1]? with
  | none => exact far_halt _
  | some x =>
  simp only
  refine far_bind (far_quiet (quiet_wi (wi_underlying t))) fun d => ?_
  split
  · rename_i elem
    refine far_bind (far_quiet (quiet_wi (wi_sizeOf elem))) fun size => ?_
    have hst : ∀ (l : List Value), FarB P B (match base with | some a => storeCells (a.add (n * size)) l | _ => pure ()) := by
      intro l
      cases base with
      | none => exact far_pure _
      | some a =>
        refine far_store ?_ _ _
        have hblk : (Addr.add a (n * size)).block = a.block := by unfold Addr.add; split <;> rfl
        rw [hblk]; exact hB a rfl
    repeat' (first | exact far_pure _ | exact far_halt _ | exact far_panic _ | exact far_choose _ | exact far_mark _ | exact far_room _ | exact far_newRow _ _ | exact far_quiet (quiet_asInt _) | exact far_quiet (quiet_lenOf _) | exact far_quiet (quiet_first _ _ _) | exact far_quiet (quiet_zero _) | exact far_quiet (quiet_share _ _ _ _ _) | exact far_quiet (quiet_typeInfo _) | exact far_quiet (quiet_wi (wi_underlying _)) | (refine far_store ?_ _ _; assumption) | (refine far_bind ?_ (fun _ => ?_)) | (refine far_ite ?_ ?_) | split | dsimp only)
    all_goals first | (refine far_store ?_ _ _; rename_i a; have hblk : ∀ k, (Addr.add a k).block = a.block := (fun k => by unfold Addr.add; split <;> rfl); rw [hblk]; exact hB a rfl) | skip
  · exact far_halt _
/-- An append. -/
theorem append_next {ρ : Operand → Value} {o : Oper} {c : Call} (ho : o.op = .call c) (hc : c.callee = .builtin .append) {w w' : World} {nxt : Next} (hr : (execOp ρ o).run P w = .ok nxt w') : ∃ u, nxt = .value u ∧ (Builtin.append_ c.argTypes o.type (c.args.map ρ)).run P w = .ok u w' := by
  have he : execOp ρ o = ((Builtin.append_ c.argTypes o.type (c.args.map ρ)) >>= fun v => pure (.value v)) := by
    simp [execOp, ho, resolve, hc, invoke, builtin]
  rw [he, Sem.run_bind] at hr
  cases hl : (Builtin.append_ c.argTypes o.type (c.args.map ρ)).run P w with
  | ok v w1 => rw [hl] at hr; cases hr; exact ⟨v, rfl, rfl⟩
  | halt x w1 => rw [hl] at hr; cases hr
end
/-! ### The tree -/
section
variable {P : Program} {C : Cx} {w0 : Fr} {r : Nat → Option Value} {s : AS} {a : Act} {w : World} {o : Oper}
theorem eagD_sound (h : Sat w0 r s a w) (ht : ttOk P C.tt) (he : eagD C s o.op = true) : (∃ v, ∀ w2, (execOp a.eval o).run P w2 = .ok (.value v) w2) ∨ (∃ x w', (execOp a.eval o).run P w = .halt x w') := by
  unfold eagD at he
  split at he
  · rename_i x hop; exact eager_of (by rw [hop]; rfl) a.eval w
  · rename_i x hop; exact eager_of (by rw [hop]; rfl) a.eval w
  · rename_i x i hop; exact eager_of (by rw [hop]; rfl) a.eval w
  · rename_i t x i hop; exact eager_of (by rw [hop]; rfl) a.eval w
  · rename_i x hop
    have hx := h.ev x
    split at he
    · rename_i id off e1
      rw [e1] at hx
      simp only [SV.Is] at hx
      obtain ⟨q, b, h1, h2, h3⟩ := hx
      exact .inl ⟨a.eval x, fun w2 => by simp [execOp, hop, h3]⟩
    · rename_i id ix e1
      rw [e1] at hx
      simp only [SV.Is] at hx
      obtain ⟨b, m, c, h1, h2, h3, h4⟩ := hx
      exact .inl ⟨a.eval x, fun w2 => by simp [execOp, hop, h4]⟩
    · cases he
  · rename_i t x f hop
    have hx := h.ev x
    split at he
    · rename_i id off e1
      rw [e1] at hx
      simp only [SV.Is] at hx
      obtain ⟨q, b, h1, h2, h3⟩ := hx
      split at he
      · rename_i fs hu
        split at he
        · rename_i off' ft hf
          obtain ⟨fa, hP, hfs⟩ := under_struct ht hu
          obtain ⟨fld, hfa, hfe⟩ : ∃ fld, fa[f]? = some fld ∧ (fld.offset, fld.type) = (off', ft) := by
            rw [← hfs, List.getElem?_map] at hf
            obtain ⟨fld, g1, g2⟩ := Option.map_eq_some_iff.1 hf
            exact ⟨fld, by simpa using g1, g2⟩
          simp only [Prod.mk.injEq] at hfe
          obtain ⟨rfl, rfl⟩ := hfe
          have hs := nble he
          have hT := td_ok ht hs
          have hz : ¬ (C.td fld.type).size = 0 := by omega
          refine .inl ⟨.pointer (some ⟨b, off + fld.offset, none⟩), fun w' => ?_⟩
          simp [execOp, hop, h3, Instr.fieldAt, run_underlying hP, hfa, Instr.sureAddr, fieldPlace, hT.sizeOf, hz, Addr.add_lit]
        · cases he
      · cases he
    · cases he
  · rename_i c hop
    split at he
    · rename_i hcal
      split at he
      · rename_i x t hargs htys
        obtain ⟨callee, args, tys⟩ := c
        simp only at hcal hargs htys
        subst hcal
        obtain rfl : args = #[x] := by rw [← Array.toList_inj]; simpa using hargs
        obtain rfl : tys = #[t] := by rw [← Array.toList_inj]; simpa using htys
        split at he
        · rename_i e hu
          have hP := under_slice ht hu
          have hx := h.ev x
          split at he
          · rename_i k l e1
            rw [e1] at hx
            simp only [SV.Is] at hx
            obtain ⟨ao, cap, hx, _⟩ := hx.1
            exact .inl ⟨_, fun w2 => run_len_slice hP rfl hop hx⟩
          · rename_i id e1
            rw [e1] at hx
            simp only [SV.Is] at hx
            split at he
            · rename_i E' k l hob
              obtain ⟨q, hr1, hoi⟩ := h.objs id (by rw [hob]; simp)
              rw [hob] at hoi
              rw [hx] at hr1
              cases hr1
              obtain ⟨ao, cap, hx, _⟩ := row_len hoi.1
              exact .inl ⟨_, fun w2 => run_len_slice hP rfl hop hx⟩
            · cases he
          · rename_i id lo len e1
            rw [e1] at hx
            simp only [SV.Is] at hx
            obtain ⟨ao, n, c, _, _, _, _, a', c', hx, _⟩ := hx
            exact .inl ⟨_, fun w2 => run_len_slice hP rfl hop hx⟩
          · rename_i e1
            rw [e1] at hx
            simp only [SV.Is] at hx
            exact .inl ⟨_, fun w2 => run_len_slice hP rfl hop hx.1⟩
          · cases he
        · cases he
      · cases he
    · cases he
  · rename_i op t x y t' hop
    split at he
    · rename_i k z k' z' e1 e2
      have hx := h.ev x
      have hy := h.ev y
      rw [e1] at hx
      rw [e2] at hy
      simp only [SV.Is] at hx hy
      have hw : WI P (do eqGuard op t x y (.int k z) (.int k' z'); binOp op t (.int k z) (.int k' z')) := wi_binint op t x y k k' z z'
      have hex : execOp a.eval o = ((do eqGuard op t x y (.int k z) (.int k' z'); binOp op t (.int k z) (.int k' z')) >>= fun v => pure (.value v)) := by
        simp only [execOp, hop, hx.1, hy.1]
      rw [hex]
      rcases hw with ⟨v, hv⟩ | hh
      · exact .inl ⟨v, fun w2 => by rw [Sem.run_bind, hv w2]; rfl⟩
      · obtain ⟨q, w', hq⟩ := hh w
        exact .inr ⟨q, w', by rw [Sem.run_bind, hq]; rfl⟩
    · cases he
  · cases he
theorem split_sound {ops : Array Oper} {K : AS → Prop} : ∀ (l : List (Nat × Oper)) (s : AS), Sat w0 r s a w → splitG ops.toList l K s → ∃ s', Sat w0 r s' a w ∧ K s'
  | [], s, h, hv => ⟨s, h, hv⟩
  | x :: l, s, h, hv => by
    unfold splitG at hv
    split at hv
    · rename_i j want hg
      split at hv
      · rename_i t hd
        split at hv
        · rename_i b hb
          obtain ⟨u, hu, hx⟩ := slot_at h hb (by simp)
          simp only [SV.Is] at hx
          obtain ⟨rfl, _⟩ := hx
          cases b with
          | true => exact split_sound l _ (h.refine hu (by simp only [SV.Is])) (hv.1 rfl)
          | false => exact split_sound l _ (h.refine hu (by simp only [SV.Is])) (hv.2 rfl)
        · exact split_sound l s h hv
      · exact split_sound l s h hv
    · exact split_sound l s h hv
theorem want_sound (h : Sat w0 r s a w) {ops : Array Oper} {b : Bool} (hw : wantT ops.toList s o.guard = some b) : Region.wanted o (yielded ops a.tmps) = b := by
  unfold wantT at hw
  split at hw
  · rename_i hg
    cases hw
    simp [Region.wanted, hg]
  · rename_i j want hg
    split at hw
    · rename_i t hd
      have hd : (ops[j]?).bind (·.dst) = some t := by simpa using hd
      split at hw
      · rename_i c hb
        cases hw
        obtain ⟨u, hu, hx⟩ := slot_at h hb (by simp)
        simp only [SV.Is] at hx
        subst hx
        have hyl := yield_of (a := a) hd hu
        simp only at hyl
        simp [Region.wanted, hg, hyl]
      · rename_i hb
        cases hw
        obtain ⟨u, hu, hx⟩ := slot_at h hb (by simp)
        simp only [SV.Is] at hx
        obtain ⟨cs, rfl, _⟩ := hx
        have hyl := yield_of (a := a) hd hu
        simp only at hyl
        simp [Region.wanted, hg, hyl]
      · cases hw
    · cases hw
/-- What is known behind an operation. -/
def After (fz : Bool) (w0 : Fr) (K : AS → Prop) (a : Act) (w : World) : Prop := ∃ w1 r s, Fr.le fz w0 w1 ∧ Sat w1 r s a w ∧ K s
theorem step_cases (ht : ttOk P C.tt) (hA : C.A = std) (hG : GOk P C.G) (hI : IOk P C.fz C.I) {ops : Array Oper} {o : Oper} {K : AS → Prop} (h : Sat w0 r s a w) (hv : stepT C ops.toList o K s) :
    (Region.wanted o (yielded ops a.tmps) = true ∧ ∀ Q, o.wp P a w (After C.fz w0 K) Q) ∨ (Region.wanted o (yielded ops a.tmps) = false ∧ After C.fz w0 K (a.put o.dst undef) w) := by
  unfold stepT at hv
  refine ask_sound (o := o) h hv ?_ ?_
  · intro s' h' hv' hw
    exact .inl ⟨hw, fun Q => eff_wp h' ht hA hG hI hv' fun w1 r' s'' a' w' hl h'' hv'' => ⟨w1, r', s'', hl, h'', hv''⟩⟩
  · intro s' h' hv' hw
    exact .inr ⟨hw, w0, r, _, Fr.le.refl _ _, h'.put (undef_is w0.g) o.dst, hv'⟩
/-- One operation, picked. -/
theorem step_wpOp {Q : Exit → Act → World → Prop} {ops : Array Oper} {i : Nat} {K K' : Act → World → Prop} {o : Oper} (ho : ops[i]? = some o) (hc : (Region.wanted o (yielded ops a.tmps) = true ∧ ∀ Q, o.wp P a w K Q) ∨ (Region.wanted o (yielded ops a.tmps) = false ∧ K (a.put o.dst undef) w)) (hK : ∀ a' w', K a' w' → K' a' w') : wpOp P ops Q i K' a w := by
  refine wpOp_mono hK ?_
  unfold wpOp
  simp only [ho]
  rcases hc with ⟨hw, h⟩ | ⟨hw, h⟩
  · rw [if_pos hw]; exact .inl (h Q)
  · rw [if_neg (by rw [hw]; simp)]; exact h
end
section
variable {P : Program} {g : World} {r : Nat → Option Value} {n base : Nat} {w : World} {C : Cx} {ob : Nat → SO} {o : Oper} {a : Act}
theorem okk_to {e : Er} (h : Okk P a.eval g r n w o e) {c : Option Prop} {rt : Out} (he : e = some (c, rt)) (hc : ∀ p, c = some p → p) {G : Prop}
    (hK : ∀ v w', (execOp a.eval o).run P w = .ok (.value v) w' → Gv g r n w rt.pick v w' → (rt.pick.2 = [] → w' = w) → G) : G := by
  obtain ⟨v, w', h1, h2, h3⟩ := h c rt he hc
  exact hK v w' h1 h2 h3
/-- An operation that makes no memory. -/
theorem exec_okk (E : Env P C g r n base w ob) {ev : Operand → SV} (hev : ∀ x ∈ o.op.operands.toList, (ev x).Is g r (a.eval x)) (hpk : pureK o.op = true) {c : Option Prop} {rt : Out} (he : exec C ev ob n o.op = some (c, rt)) (hc : ∀ p, c = some p → p) {G : Prop}
    (hK : ∀ v w', (execOp a.eval o).run P w = .ok (.value v) w' → Gv g r n w rt.pick v w' → (rt.pick.2 = [] → w' = w) → G) : G := by
  generalize hop : o.op = op at hev he hpk
  cases op
  case pick p x y =>
    have hp := hev p (by simp [Op.operands])
    have hx := hev x (by simp [Op.operands])
    have hy := hev y (by simp [Op.operands])
    simp only [exec] at he
    split at he
    · rename_i b hb
      rw [hb] at hp
      simp only [SV.Is] at hp
      cases b with
      | true => exact okk_to (P := P) (o := o) (a := a) (w := w) (g := g) (r := r) (n := n) (e := Er.one (ev x)) (okk_one E.rn (v := a.eval x) (by simp [execOp, hop, hp, asBool]) hx) he hc hK
      | false => exact okk_to (P := P) (o := o) (a := a) (w := w) (g := g) (r := r) (n := n) (e := Er.one (ev y)) (okk_one E.rn (v := a.eval y) (by simp [execOp, hop, hp, asBool]) hy) he hc hK
    · rename_i b hb
      rw [hb] at hp
      simp only [SV.Is] at hp
      cases he
      cases b with
      | true =>
        refine okk_to (P := P) (o := o) (a := a) (w := w) (g := g) (r := r) (n := n) (e := Er.one (ev x)) (rt := .ret (ev x) []) (c := none) (okk_one E.rn (v := a.eval x) (by simp [execOp, hop, hp, asBool]) hx) rfl hc ?_
        intro v w' h0 h h3
        refine hK v w' h0 ?_ ?_
        · simpa [Out.pick] using h
        · intro _; exact h3 rfl
      | false =>
        refine okk_to (P := P) (o := o) (a := a) (w := w) (g := g) (r := r) (n := n) (e := Er.one (ev y)) (rt := .ret (ev y) []) (c := none) (okk_one E.rn (v := a.eval y) (by simp [execOp, hop, hp, asBool]) hy) rfl hc ?_
        intro v w' h0 h h3
        refine hK v w' h0 ?_ ?_
        · simpa [Out.pick] using h
        · intro _; exact h3 rfl
    · cases he
  case build t ps =>
    simp only [exec] at he
    cases hb : buildable C (C.td t).un with
    | false => rw [hb] at he; cases he
    | true =>
      rw [hb] at he
      simp only [cond_true] at he
      cases hf : fillS (placeOf C t) (zeros C t) (ps.toList.map fun p => (p.1, ev p.2)) with
      | none => rw [hf] at he; cases he
      | some m =>
        rw [hf] at he
        refine okk_to (ex_build E hb hop (fun p hp => hev p.2 ?_) hf) he hc hK
        simp only [Op.operands]
        exact List.mem_map.2 ⟨p, hp, rfl⟩
  case load t x => exact okk_to (ex_load E hop (hev x (by simp [Op.operands]))) he hc hK
  case binOp op t x y t' =>
    simp only [exec] at he
    refine okk_to (ex_bin2 E.tt E.A E.rn (fun hne => (td_un E.tt hne).under) hop (hev x (by simp [Op.operands])) (hev y (by simp [Op.operands]))) he hc hK
  case unOp op t x =>
    simp only [exec] at he
    rw [E.A] at he
    exact okk_to (ex_un E.rn hop (hev x (by simp [Op.operands]))) he hc hK
  case convert src dst x => exact okk_to (ex_convert E hop (hev x (by simp [Op.operands]))) he hc hK
  case index t x i =>
    have hx := hev x (by simp [Op.operands])
    have hi := hev i (by simp [Op.operands])
    simp only [exec] at he
    split at he
    · rename_i m e l ki j hu h1 h2
      rw [h1] at hx
      rw [h2] at hi
      simp only [SV.Is] at hx hi
      obtain ⟨cs, hx, hl⟩ := hx
      cases h3 : Nat.ble 1 (C.td e).size with
      | false => rw [h3] at he; cases he
      | true =>
      cases h4 : Nat.blt j m with
      | false => rw [h3, h4] at he; cases he
      | true =>
      cases h5 : Nat.ble (j * (C.td e).size + (C.td e).size) l.length with
      | false => rw [h3, h4, h5] at he; cases he
      | true =>
        rw [h3, h4, h5] at he
        simp only [Bool.and_self, cond_true] at he
        have h3 := nble h3
        have h4 : j < m := nble h4
        have h5 := nble h5
        have hP := under_array E.tt hu
        have hT := td_ok E.tt h3
        have hcl := lsIs_len hl
        rw [Array.length_toList] at hcl
        have hpart := run_part (P := P) (w := w) hT cs (j * (C.td e).size) (by omega) h3
        have hrun : (execOp a.eval o).run P w = .ok (.value (if (C.td e).agg then .agg (cs.extract (j * (C.td e).size) (j * (C.td e).size + (C.td e).size)) else cs.getD (j * (C.td e).size) undef)) w := by
          have h0 : (0 : Int) ≤ (j : Int) ∧ (j : Int) < (m : Int) := ⟨Int.natCast_nonneg j, Int.ofNat_lt.2 h4⟩
          simp only [execOp, hop, hx, hi.1, Instr.index, asIntOf, run_underlying hP, Sem.run_bind, Sem.run_pure, Result.andThen_ok, Int.ofNat_eq_natCast, if_pos h0, hT.sizeOf, Int.toNat_natCast, hpart]
        cases hag : (C.td e).agg with
        | true =>
          rw [hag] at he hrun
          simp only [cond_true, if_true] at he hrun
          refine okk_to (okk_one E.rn hrun ?_) he hc hK
          have hseg := lsIs_take (lsIs_drop hl (j * (C.td e).size)) (C.td e).size
          have e1 : cs.extract (j * (C.td e).size) (j * (C.td e).size + (C.td e).size) = ((cs.toList.drop (j * (C.td e).size)).take (C.td e).size).toArray := by
            apply Array.toList_inj.1
            rw [Array.toList_extract]
            simp [List.extract, List.drop_take]
          rw [e1]
          exact agg_arr hseg
        | false =>
          rw [hag] at he hrun
          simp only [cond_false, Bool.false_eq_true, if_false] at he hrun
          split at he
          · rename_i y hy
            obtain ⟨u, hu', hyu⟩ := lsIs_get hl hy
            refine okk_to (okk_one E.rn hrun ?_) he hc hK
            rw [Array.getD_eq_getD_getElem?, ← Array.getElem?_toList, hu']
            exact hyu
          · cases he
    · cases he
  case field t x f =>
    have hx := hev x (by simp [Op.operands])
    simp only [exec] at he
    split at he
    · rename_i l hl
      rw [hl] at hx
      exact okk_to (ex_field E (fun _ _ => hop) (fun h => absurd rfl (h l)) hx) he hc hK
    · cases he
  case extract x i =>
    have hx := hev x (by simp [Op.operands])
    simp only [exec] at he
    split at he
    · rename_i l hl
      rw [hl] at hx
      split at he
      · rename_i y hy
        exact okk_to (ex_extract E hop hx hy) he hc hK
      · cases he
    · cases he
  case call c0 =>
    have hargs : ∀ x ∈ c0.args.toList, (ev x).Is g r (a.eval x) := fun x hx => hev x (by simp only [Op.operands, Call.operands, Array.toList_append]; exact List.mem_append_right _ hx)
    obtain ⟨callee, args, ats⟩ := c0
    simp only at hargs
    cases callee with
    | builtin bi =>
      cases bi
      case len =>
        simp only [exec] at he
        split at he
        · rename_i x t hx ht
          have h1 : args = #[x] := Array.toList_inj.1 hx
          have h2 : ats = #[t] := Array.toList_inj.1 ht
          subst h1; subst h2
          exact okk_to (ex_len E hop (hargs x (by simp))) he hc hK
        · cases he
      case max =>
        simp only [exec] at he
        split at he
        · rename_i x xs hx
          split at he
          · rename_i k z hz
            have h1 : args = (x :: xs).toArray := Array.toList_inj.1 hx
            subst h1
            rw [E.A] at he
            have h2 := hargs x (by simp)
            rw [hz] at h2
            exact okk_to (ex_max E hop h2 (lsIs_map xs fun y hy => hargs y (by simp [hy]))) he hc hK
          · cases he
        · cases he
      case min =>
        simp only [exec] at he
        split at he
        · rename_i x xs hx
          split at he
          · rename_i k z hz
            have h1 : args = (x :: xs).toArray := Array.toList_inj.1 hx
            subst h1
            rw [E.A] at he
            have h2 := hargs x (by simp)
            rw [hz] at h2
            exact okk_to (ex_min E hop h2 (lsIs_map xs fun y hy => hargs y (by simp [hy]))) he hc hK
          · cases he
        · cases he
      all_goals simp [pureK] at hpk
    | value f => simp [pureK] at hpk
    | invoke x y => simp [pureK] at hpk
  all_goals simp [pureK] at hpk
end
section
variable {P : Program} {C : Cx} {w0 : Fr} {r : Nat → Option Value} {s : AS} {a : Act} {w : World} {o : Oper}
/-- What an operation does to the world. -/
structure Rel {α : Type} (P : Program) (I : List (FuncId × α)) (ops : Array Oper) (g : World) (j : Nat) (a : Act) (w w' : World) : Prop where
  sub : SubW g w'
  grow : ∀ oj, ops[j]? = some oj → isEff I oj.op = false → w.heap.size ≤ w'.heap.size ∧ ∀ b, b < w.heap.size → w'.heap[b]? = w.heap[b]?
  eff : ∀ oj q, ops[j]? = some oj → effDst oj.op = some q → w' = w ∨ ∃ nxt, (execOp a.eval oj).run P w = .ok nxt w'
theorem Rel.refl {α : Type} {I : List (FuncId × α)} {ops : Array Oper} {g : World} {j : Nat} {a : Act} {w : World} (h : SubW g w) : Rel P I ops g j a w w := ⟨h, fun _ _ _ => ⟨Nat.le_refl _, fun _ _ => rfl⟩, fun _ _ _ _ => .inl rfl⟩
theorem Rel.of {α : Type} {I : List (FuncId × α)} {ops : Array Oper} {g g' : World} {j : Nat} {a : Act} {w w' : World} (hg : SubW g g') (h : Rel P I ops g' j a w w') : Rel P I ops g j a w w' := ⟨hg.trans h.sub, h.grow, h.eff⟩
theorem Rel.put {α : Type} {I : List (FuncId × α)} {ops : Array Oper} {g : World} {j : Nat} {a : Act} {w w' : World} {ok oj : Oper} {v : Value} (hsel : ∀ (j : Nat) (o : Oper) cs b, ops[j]? = some o → o.op ≠ .select cs b) (hj : ops[j]? = some oj) (hap : ok.apart ops oj = true) (h : Rel P I ops g j (a.put ok.dst v) w w') : Rel P I ops g j a w w' := by
  obtain ⟨h1, h2, h3⟩ := Oper.apart_spec hap
  refine ⟨h.sub, h.grow, fun o q ho hq => ?_⟩
  rw [hj] at ho
  cases ho
  have := h.eff oj q hj hq
  rwa [execOp_put oj (fun cs b => hsel j oj cs b hj) a ok.dst v h1] at this
theorem Oper.wp_more {K T : Act → World → Prop} {Q : Exit → Act → World → Prop} {a : Act} {w : World} {o : Oper} (h : o.wp P a w K Q) (h1 : ∀ nxt w', (execOp a.eval o).run P w = .ok nxt w' → (∃ u, nxt = .value u ∧ T (a.put o.dst u) w') ∨ (nxt = .skip ∧ T (a.put o.dst undef) w')) : o.wp P a w (fun a' w' => K a' w' ∧ T a' w') Q := by
  unfold Oper.wp at *
  generalize hr : (execOp a.eval o).run P w = r at *
  cases r with
  | ok n w' =>
    rcases h1 n w' rfl with ⟨u, rfl, ht⟩ | ⟨rfl, ht⟩
    · rw [Oper.upon_value] at h ⊢; exact ⟨h, ht⟩
    · rw [Oper.upon_skip] at h ⊢; exact ⟨h, ht⟩
  | halt x w' => cases x <;> simp only [Oper.upon] at h ⊢ <;> exact h
theorem effDst_eff {α : Type} {I : List (FuncId × α)} {op : Op} {q : Nat} (h : effDst op = some q) : isEff I op = true := by
  unfold effDst at h
  split at h
  · rfl
  · rename_i c
    split at h
    · rename_i hcal
      split at h
      · rename_i x l hargs
        split at h
        · simp [isEff, hcal, hargs, nilSl]
        · cases h
      · cases h
    · cases h
  · cases h
/-- Append to the constant nil. -/
def appB : Op → Bool
  | .call c => match c.callee with
    | .builtin .append => true
    | _ => false
  | _ => false
theorem eff_exec {op : Op} {K : AS → Prop} {d : Option Tmp} (h : isEff C.I op = false) (hb : appB op = false) (hv : eff C s d op K) : (exec C s.ev s.ob s.objs.length op).vc fun sv os => K ((s.new os).put d sv) := by
  cases op
  case store t x y => cases h
  case call c =>
    obtain ⟨callee, args, ats⟩ := c
    cases callee with
    | builtin b =>
      cases b <;> first | exact hv | (cases hb; done) | (cases h; done)
    | invoke x y => exact hv
    | value fo =>
      cases fo with
      | func f =>
        have hI : hasI C.I f = false := h
        simp only [eff, AS.ev, fnOf] at hv
        cases ha : assoc C.I f with
        | none => rw [ha] at hv; exact hv
        | some run => unfold hasI at hI; rw [ha] at hI; cases hI
      | tmp t => cases h
      | const v => cases h
      | global g => cases h
  case convert src d x =>
    have hb : Nat.beq src d = false := h
    simp only [eff, hb] at hv
    exact hv
  all_goals exact hv
theorem step_rel (ht : ttOk P C.tt) (hA : C.A = std) (hG : GOk P C.G) (hI : IOk P C.fz C.I) {ops : Array Oper} {i : Nat} {o : Oper} (ho : ops[i]? = some o) {K : AS → Prop} (h : Sat w0 r s a w) (hv : stepT C ops.toList o K s) :
    (Region.wanted o (yielded ops a.tmps) = true ∧ ∀ Q, o.wp P a w (fun a' w' => Rel P C.I ops w0.g i a w w' ∧ After C.fz w0 K a' w') Q) ∨ (Region.wanted o (yielded ops a.tmps) = false ∧ (Rel P C.I ops w0.g i a w w ∧ After C.fz w0 K (a.put o.dst undef) w)) := by
  unfold stepT at hv
  refine ask_sound (o := o) h hv ?_ ?_
  · intro s' h' hv' hw
    refine .inl ⟨hw, fun Q => ?_⟩
    have hbase : ∀ Q, o.wp P a w (After C.fz w0 K) Q := fun Q => eff_wp h' ht hA hG hI hv' fun w1 r' s'' a' w' hl h'' hv'' => ⟨w1, r', s'', hl, h'', hv''⟩
    have hsub : ∀ a' w', After C.fz w0 K a' w' → SubW w0.g w' := fun a' w' ⟨w1, r', s'', hl, h'', _⟩ => hl.sub.trans h''.gw
    have hoe : ∀ oj, ops[i]? = some oj → oj = o := fun oj hj => by rw [ho] at hj; cases hj; rfl
    cases he : isEff C.I o.op with
    | false =>
      have hne : ∀ q, effDst o.op ≠ some q := fun q hq => by rw [effDst_eff hq] at he; cases he
      cases hb : appB o.op with
      | true =>
        -- append to nothing
        have hop : ∃ c, o.op = .call c ∧ c.callee = .builtin .append := by
          unfold appB at hb
          split at hb
          · rename_i c hc
            split at hb
            · exact ⟨c, hc, ‹_›⟩
            · cases hb
          · cases hb
        obtain ⟨c, hop, hcal⟩ := hop
        refine Oper.wp_mono (K := fun a' w' => After C.fz w0 K a' w' ∧ (w.heap.size ≤ w'.heap.size ∧ ∀ b, b < w.heap.size → w'.heap[b]? = w.heap[b]?)) (fun a' w' hh => ⟨⟨hsub _ _ hh.1, fun _ _ _ => hh.2, fun oj q hj hq => (by rw [hoe oj hj] at hq; exact absurd hq (hne q))⟩, hh.1⟩) ?_
        refine Oper.wp_more (T := fun _ w' => w.heap.size ≤ w'.heap.size ∧ ∀ b, b < w.heap.size → w'.heap[b]? = w.heap[b]?) (hbase Q) fun nxt w' hr => .inl ?_
        obtain ⟨u, rfl, hr2⟩ := append_next hop hcal hr
        refine ⟨u, rfl, ?_⟩
        have hx : ∃ x l, c.args.toList = x :: l ∧ nilSl x = true := by
          unfold isEff at he
          rw [hop] at he
          simp only [hcal] at he
          cases hl : c.args.toList with
          | nil => rw [hl] at he; cases he
          | cons x l => rw [hl] at he; exact ⟨x, l, rfl, by simpa using he⟩
        obtain ⟨x, l, hl, hn⟩ := hx
        have hx0 : (c.args.map a.eval)[0]? = some (.slice none 0 0) := by
          rw [← Array.getElem?_toList, Array.toList_map, hl]
          unfold nilSl at hn
          split at hn
          · rfl
          · cases hn
        obtain ⟨g1, g2, g3⟩ := far_append (P := P) (B := fun _ => False) hx0 (fun a ha => by cases ha) w u w' (fun c hc => hc.elim) hr2
        exact ⟨g1, fun b hb => g2 b hb id⟩
      | false =>
        have hvc := eff_exec he hb hv'
        cases hex : exec C s'.ev s'.ob s'.objs.length o.op with
        | none => rw [hex] at hvc; exact hvc.elim
        | some q =>
          obtain ⟨c, rt⟩ := q
          rw [hex] at hvc
          have hE := h'.env ht hA (P := P)
          have hc : (∀ p, c = some p → p) ∧ rt.vc (fun sv os => K ((s'.new os).put o.dst sv)) := by
            cases c with
            | none => exact ⟨fun p hp => (by cases hp), hvc⟩
            | some p => exact ⟨fun p' hp => (by cases hp; exact hvc.1), hvc.2⟩
          refine exec_wp hE hG (fun x _ => h'.ev x) hex hc.1 fun v w' hgv => ?_
          have hS := h'.gv hgv o.dst
          refine ⟨⟨hS.gw, fun _ _ _ => ⟨hgv.below.size, fun b hb => hgv.below.block b hb⟩, fun oj q hj hq => (by rw [hoe oj hj] at hq; exact absurd hq (hne q))⟩, w0, _, _, Fr.le.refl _ _, hS, Out.vc_pick hc.2⟩
    | true =>
      cases hd : effDst o.op with
      | none =>
        exact Oper.wp_mono (fun a' w' hh => ⟨⟨hsub _ _ hh, fun oj hj h0 => (by rw [hoe oj hj, he] at h0; cases h0), fun oj q hj hq => (by rw [hoe oj hj, hd] at hq; cases hq)⟩, hh⟩) (hbase Q)
      | some q0 =>
        refine Oper.wp_mono (K := fun a' w' => After C.fz w0 K a' w' ∧ ∃ nxt, (execOp a.eval o).run P w = .ok nxt w') (fun a' w' hh => ⟨⟨hsub _ _ hh.1, fun oj hj h0 => (by rw [hoe oj hj, he] at h0; cases h0), fun oj q hj hq => (by rw [hoe oj hj]; exact .inr hh.2)⟩, hh.1⟩) ?_
        refine Oper.wp_more (T := fun _ w' => ∃ nxt, (execOp a.eval o).run P w = .ok nxt w') (hbase Q) fun nxt w' hr => ?_
        unfold effDst at hd
        split at hd
        · rename_i t x y hop
          right
          have he : execOp a.eval o = ((Instr.storeAt t (a.eval x) (a.eval y)) >>= fun _ => pure .skip) := by simp only [execOp, hop]
          have hr' := hr
          rw [he, Sem.run_bind] at hr'
          cases hl : (Instr.storeAt t (a.eval x) (a.eval y)).run P w with
          | ok v w1 => rw [hl] at hr'; cases hr'; exact ⟨rfl, _, hr⟩
          | halt x w1 => rw [hl] at hr'; cases hr'
        · rename_i c hop
          split at hd
          · rename_i hcal
            obtain ⟨u, rfl, _⟩ := append_next hop hcal hr
            exact .inl ⟨u, rfl, _, hr⟩
          · cases hd
        · cases hd
  · intro s' h' hv' hw
    exact .inr ⟨hw, Rel.refl h.gw, w0, r, _, Fr.le.refl _ _, h'.put (undef_is w0.g) o.dst, hv'⟩
/-- What it yields, where that hangs on S alone. -/
theorem yields_of {ops : Array Oper} {K : Act → World → Prop} {S : World → Prop} (hc : (Region.wanted o (yielded ops a.tmps) = true ∧ ∀ Q, o.wp P a w K Q) ∨ (Region.wanted o (yielded ops a.tmps) = false ∧ K (a.put o.dst undef) w)) (hS : S w)
    (hrun : Region.wanted o (yielded ops a.tmps) = true → (∃ v, ∀ w2, S w2 → (execOp a.eval o).run P w2 = .ok (.value v) w2) ∨ (∃ x w', (execOp a.eval o).run P w = .halt x w')) : ∃ v, YieldsIf P ops S o v a ∧ K (a.put o.dst v) w := by
  rcases hc with ⟨hw, h⟩ | ⟨hw, h⟩
  · rcases hrun hw with ⟨v, hv⟩ | ⟨x, w', hx⟩
    · have h1 := h fun _ _ _ => False
      unfold Oper.wp at h1
      rw [hv w hS, Oper.upon_value] at h1
      exact ⟨v, .inl ⟨hw, hv⟩, h1⟩
    · have h1 := h fun _ _ _ => False
      unfold Oper.wp at h1
      rw [hx] at h1
      cases x <;> exact h1.elim
  · exact ⟨undef, .inr ⟨hw, rfl⟩, h⟩
mutual
theorem det_eq {g : World} {r : Nat → Option Value} {g' : World} {r' : Nat → Option Value} : ∀ (x : SV) {u u' : Value}, x.det = true → x.Is g r u → x.Is g' r' u' → u = u'
  | .v y, u, u', _, h, h' => by simp only [SV.Is] at h h'; rw [h.1, h'.1]
  | .lit b, u, u', _, h, h' => by simp only [SV.Is] at h h'; rw [h, h']
  | .agg l, u, u', hd, h, h' => by
    simp only [SV.Is] at h h'
    obtain ⟨cs, rfl, h⟩ := h
    obtain ⟨cs', rfl, h'⟩ := h'
    rw [Array.toList_inj.1 (dets_eq l (by simpa only [SV.det] using hd) h h')]
  | .tup l, u, u', hd, h, h' => by
    simp only [SV.Is] at h h'
    obtain ⟨cs, rfl, h⟩ := h
    obtain ⟨cs', rfl, h'⟩ := h'
    rw [Array.toList_inj.1 (dets_eq l (by simpa only [SV.det] using hd) h h')]
  | .iimm _ _, _, _, hd, _, _ => by cases hd
  | .imm _ _, _, _, hd, _, _ => by cases hd
  | .ip _, _, _, hd, _, _ => by cases hd
  | .ptr _ _, _, _, hd, _, _ => by cases hd
  | .elt _ _, _, _, hd, _, _ => by cases hd
  | .hdl _, _, _, hd, _, _ => by cases hd
  | .sub _ _ _, _, _, hd, _, _ => by cases hd
  | .csl _ _, _, _, hd, _, _ => by cases hd
  | .sel _ _ _ _, _, _, hd, _, _ => by cases hd
  | .psl _ _ _, _, _, hd, _, _ => by cases hd
  | .clo _ _, _, _, hd, _, _ => by cases hd
  | .any, _, _, hd, _, _ => by cases hd
theorem dets_eq {g : World} {r : Nat → Option Value} {g' : World} {r' : Nat → Option Value} : ∀ (l : List SV) {us us' : List Value}, dets l = true → LsIs g r l us → LsIs g' r' l us' → us = us'
  | [], us, us', _, h, h' => by simp only [LsIs] at h h'; rw [h, h']
  | x :: l, us, us', hd, h, h' => by
    simp only [LsIs] at h h'
    obtain ⟨u, vs, rfl, h1, h2⟩ := h
    obtain ⟨u', vs', rfl, h1', h2'⟩ := h'
    simp only [dets, Bool.and_eq_true] at hd
    rw [det_eq x hd.1 h1 h1', dets_eq l hd.2 h2 h2']
end
theorem pureR_spec {e : Er} {c : Option Prop} {sv : SV} (h : pureR e = some (c, sv)) : e = some (c, .ret sv []) ∧ sv.det = true := by
  unfold pureR at h
  split at h
  · split at h
    · cases h; exact ⟨rfl, ‹_›⟩
    · cases h
  · cases h
/-- What is said wholly comes in any world that keeps what nobody writes. -/
theorem pure_yields (h : Sat w0 r s a w) (ht : ttOk P C.tt) (hA : C.A = std) {c : Option Prop} {sv : SV} (hp : pureE C s o.op = some (c, sv)) (hc : ∀ p, c = some p → p) : ∃ v, (∀ w2, SubW w0.g w2 → (execOp a.eval o).run P w2 = .ok (.value v) w2) ∧ sv.Is w0.g r v := by
  unfold pureE at hp
  split at hp
  · rename_i hpk
    obtain ⟨he, hd⟩ := pureR_spec hp
    have key : ∀ w2, SubW w0.g w2 → ∃ v, (execOp a.eval o).run P w2 = .ok (.value v) w2 ∧ sv.Is w0.g r v := by
      intro w2 hg
      have E : Env P C w0.g r s.objs.length 0 w2 (fun _ => .gone) := ⟨ht, hA, h.r1, h.rn, hg, fun id hh => absurd rfl hh⟩
      refine exec_okk (a := a) E (fun x _ => h.ev x) hpk he hc fun v w' h1 h2 h3 => ?_
      obtain rfl := h3 rfl
      refine ⟨v, h1, ?_⟩
      have := h2.sv
      simp only [Out.pick] at this
      rwa [ext_nil h.rn] at this
    obtain ⟨v, hv, hs⟩ := key w h.gw
    refine ⟨v, fun w2 hg => ?_, hs⟩
    obtain ⟨v2, hv2, hs2⟩ := key w2 hg
    rw [det_eq sv hd hs hs2]
    exact hv2
  · cases hp
/-- A mask tells who has come up. -/
def MaskOk (ops : Array Oper) (m : Nat) (listed : Array Bool) : Prop := listed.size = ops.size ∧ ∀ j, listed.getD j false = Nat.testBit m j
theorem mask_set {ops : Array Oper} {m : Nat} {listed : Array Bool} (h : MaskOk ops m listed) {i : Nat} (hi : i < ops.size) : MaskOk ops (Nat.lor m (Nat.shiftLeft 1 i)) (listed.setIfInBounds i true) := by
  refine ⟨by simp [h.1], fun j => ?_⟩
  show _ = (m ||| (1 <<< i)).testBit j
  rw [Nat.testBit_or, Nat.one_shiftLeft, Nat.testBit_two_pow, ← h.2 j]
  by_cases e : i = j
  · subst e
    have : i < listed.size := by rw [h.1]; exact hi
    simp [this]
  · rw [getD_set_ne false e]
    simp [e]
theorem foldM_bit (q : Nat) : ∀ (l : List Nat) (s : Nat), Nat.testBit (l.foldl (fun s k => Nat.lor s (Nat.shiftLeft 1 k)) s) q = true ↔ Nat.testBit s q = true ∨ q ∈ l
  | [], s => by simp
  | k :: l, s => by
    simp only [List.foldl_cons]
    rw [foldM_bit q l]
    have e : Nat.testBit (Nat.lor s (Nat.shiftLeft 1 k)) q = true ↔ Nat.testBit s q = true ∨ q = k := by
      show Nat.testBit (s ||| (1 <<< k)) q = true ↔ _
      rw [Nat.testBit_or, Nat.one_shiftLeft, Nat.testBit_two_pow]
      simp only [Bool.or_eq_true, decide_eq_true_eq]
      exact ⟨fun h => h.imp id Eq.symm, fun h => h.imp id Eq.symm⟩
    rw [e, List.mem_cons, or_assoc]
theorem onM_bit {o : Oper} {q : Nat} : Nat.testBit (onM o) q = true ↔ q ∈ ons o := by
  unfold onM
  rw [foldM_bit]
  simp
theorem subM_iff {b m : Nat} : subM b m = true ↔ ∀ x, Nat.testBit b x = true → Nat.testBit m x = true := by
  have key : subM b m = true ↔ b ||| m = m := by
    unfold subM
    rw [Nat.beq_eq]
    show (b ||| m) - m = 0 ↔ _
    have : m ≤ b ||| m := Nat.right_le_or
    omega
  rw [key]
  constructor
  · intro h1 x hx
    rw [← h1, Nat.testBit_or, hx]; rfl
  · intro h
    refine Nat.eq_of_testBit_eq fun x => ?_
    rw [Nat.testBit_or]
    cases hx : Nat.testBit b x with
    | false => rfl
    | true => rw [h x hx]; rfl
theorem readyT_mem {m : Nat} : ∀ (l : List Oper) (k i : Nat) (o : Oper), (i, o) ∈ readyT m k (waitsL l) ↔ ∃ j, i = k + j ∧ l[j]? = some o ∧ Nat.testBit m i = false ∧ ∀ q ∈ ons o, Nat.testBit m q = true
  | [], k, i, o => by simp [readyT, waitsL]
  | x :: l, k, i, o => by
    have ih := readyT_mem (m := m) l (k + 1) i o
    have hshift : (∃ j, i = k + 1 + j ∧ l[j]? = some o ∧ Nat.testBit m i = false ∧ ∀ q ∈ ons o, Nat.testBit m q = true) ↔ ∃ j, i = k + (j + 1) ∧ (x :: l)[j + 1]? = some o ∧ Nat.testBit m i = false ∧ ∀ q ∈ ons o, Nat.testBit m q = true := by
      constructor
      · rintro ⟨j, h1, h2⟩; exact ⟨j, by omega, by simpa using h2⟩
      · rintro ⟨j, h1, h2⟩; exact ⟨j, by omega, by simpa using h2⟩
    have hsub : subM (onM x) m = true ↔ ∀ q ∈ ons x, Nat.testBit m q = true := by
      rw [subM_iff]
      exact forall_congr' fun q => by rw [onM_bit]
    have no : ¬ (Nat.testBit m k = false ∧ subM (onM x) m = true) → ((i, o) ∈ readyT m (k + 1) (waitsL l) ↔ ∃ j, i = k + j ∧ (x :: l)[j]? = some o ∧ Nat.testBit m i = false ∧ ∀ q ∈ ons o, Nat.testBit m q = true) := by
      intro hn
      rw [ih, hshift]
      constructor
      · rintro ⟨j, h⟩; exact ⟨j + 1, h⟩
      · rintro ⟨j, h1, h2, h3, h4⟩
        cases j with
        | zero =>
          exfalso
          simp at h2
          subst h2
          have h1 : i = k := by omega
          subst h1
          exact hn ⟨h3, hsub.2 h4⟩
        | succ j => exact ⟨j, h1, h2, h3, h4⟩
    unfold waitsL readyT
    cases hb : Nat.testBit m k with
    | true => exact no fun h => by rw [hb] at h; cases h.1
    | false =>
      cases hs : subM (onM x) m with
      | false => simp only [hs]; exact no fun h => by rw [hs] at h; cases h.2
      | true =>
        simp only [hs, List.mem_cons, Prod.mk.injEq]
        rw [ih, hshift]
        constructor
        · rintro (⟨rfl, rfl⟩ | ⟨j, h⟩)
          · exact ⟨0, rfl, rfl, hb, hsub.1 hs⟩
          · exact ⟨j + 1, h⟩
        · rintro ⟨j, h1, h2, h3⟩
          cases j with
          | zero => exact .inl ⟨h1, by simpa using h2.symm⟩
          | succ j => exact .inr ⟨j, h1, h2, h3⟩
theorem ready_iff {ops : Array Oper} {m : Nat} {listed : Array Bool} (h : MaskOk ops m listed) (i : Nat) : i ∈ Region.ready .any ops listed ↔ ∃ o, ops[i]? = some o ∧ (i, o) ∈ readyT m 0 (waitsL ops.toList) := by
  rw [mem_ready]
  constructor
  · rintro ⟨h0, o, ho, hall⟩
    refine ⟨o, ho, (readyT_mem _ _ _ _).2 ⟨i, by omega, by simpa using ho, ?_, fun q hq => ?_⟩⟩
    · rw [← h.2]; exact getD_both h0
    · obtain ⟨e, he, hb, rfl⟩ := mem_ons.1 hq
      rw [← h.2]; exact hall e he hb
  · rintro ⟨o, ho, hmem⟩
    obtain ⟨j, hj, _, h1, h2⟩ := (readyT_mem _ _ _ _).1 hmem
    refine ⟨?_, o, ho, fun e he hb => ?_⟩
    · refine getD_in ?_ ?_
      · rw [h.1]; exact (Array.getElem?_eq_some_iff.1 ho).1
      · rw [h.2]; exact h1
    · rw [h.2]; exact h2 _ (mem_ons.2 ⟨e, he, hb, rfl⟩)
theorem ready_at {ops : Array Oper} {m i : Nat} {o : Oper} (h : (i, o) ∈ readyT m 0 (waitsL ops.toList)) : ops[i]? = some o := by
  obtain ⟨j, hj, ho, _⟩ := (readyT_mem _ _ _ _).1 h
  have hj : i = j := by omega
  subst hj
  simpa using ho
theorem ready_nil {ops : Array Oper} {m : Nat} {listed : Array Bool} (h : MaskOk ops m listed) : Region.ready .any ops listed = [] ↔ readyT m 0 (waitsL ops.toList) = [] := by
  rw [List.eq_nil_iff_forall_not_mem, List.eq_nil_iff_forall_not_mem]
  constructor
  · rintro hh ⟨i, o⟩ hm
    exact hh i ((ready_iff h i).2 ⟨o, ready_at hm, hm⟩)
  · intro hh i hi
    obtain ⟨o, _, hm⟩ := (ready_iff h i).1 hi
    exact hh _ hm
/-- Whoever is not of the mask and need not stand behind i is as p says. -/
theorem badT_spec {p : Op → Bool} {cl : List Nat} {i m : Nat} : ∀ (l : List Oper) (k : Nat), subM (badT p cl i k l) m = true → ∀ j o, l[j]? = some o → Nat.testBit m (k + j) = false → k + j ≠ i → Nat.testBit (cl.getD (k + j) 0) i = false → p o.op = true
  | [], k, _, j, o, h, _, _, _ => by simp at h
  | q :: l, k, hs, j, o, h, hm, hne, hcl => by
    have hsub : ∀ b, subM b m = true → ∀ x, Nat.testBit b x = true → Nat.testBit m x = true := fun b hb => subM_iff.1 hb
    unfold badT at hs
    cases hb : (Nat.beq k i || (p q.op || Nat.testBit (cl.getD k 0) i)) with
    | true =>
      rw [hb] at hs
      cases j with
      | zero =>
        simp at h
        subst h
        simp only [Bool.or_eq_true, Nat.add_zero] at hb hcl hne
        rcases hb with hb | hb | hb
        · exact absurd (Nat.eq_of_beq_eq_true hb) hne
        · exact hb
        · rw [hb] at hcl; cases hcl
      | succ j => exact badT_spec l (k + 1) hs j o (by simpa using h) (by rw [show k + 1 + j = k + (j + 1) from by omega]; exact hm) (by omega) (by rw [show k + 1 + j = k + (j + 1) from by omega]; exact hcl)
    | false =>
      rw [hb] at hs
      simp only at hs
      have htail : subM (badT p cl i (k + 1) l) m = true := by
        refine subM_iff.2 fun x hx => hsub _ hs x ?_
        show ((1 <<< k) ||| badT p cl i (k + 1) l).testBit x = true
        rw [Nat.testBit_or, hx]; simp
      cases j with
      | zero =>
        have := hsub _ hs k (by
          show ((1 <<< k) ||| badT p cl i (k + 1) l).testBit k = true
          rw [Nat.testBit_or, Nat.one_shiftLeft, Nat.testBit_two_pow]; simp)
        rw [Nat.add_zero] at hm
        rw [this] at hm; cases hm
      | succ j => exact badT_spec l (k + 1) htail j o (by simpa using h) (by rw [show k + 1 + j = k + (j + 1) from by omega]; exact hm) (by omega) (by rw [show k + 1 + j = k + (j + 1) from by omega]; exact hcl)
/-- What is asked of a region by its text. -/
def treeOk (ops : Array Oper) : Bool := Region.noSelect ops && (List.range ops.size).all fun i => (List.range ops.size).all fun j => Nat.beq j i || Region.waitsFor .any ops j i || Region.waitsFor .any ops i j || (match ops[i]?, ops[j]? with | some x, some y => x.apart ops y | _, _ => true)
theorem treeOk_free {ops : Array Oper} (hok : treeOk ops = true) {listed : Array Bool} {i : Nat} (hr : i ∈ Region.ready .any ops listed) {oi : Oper} (hi : ops[i]? = some oi) : ∀ j oj, ops[j]? = some oj → j ≠ i → listed.getD j true = false → (∀ e ∈ oj.after, Region.binds .any e = true → e.on ≠ i) → oi.apart ops oj = true := by
  intro j oj hj hne hun hno
  unfold treeOk at hok
  simp only [Bool.and_eq_true, List.all_eq_true, List.mem_range, Bool.or_eq_true] at hok
  have := hok.2 i (Array.getElem?_eq_some_iff.1 hi).1 j (Array.getElem?_eq_some_iff.1 hj).1
  rw [hi, hj] at this
  rcases this with ((h | h) | h) | h
  · exact absurd (Nat.eq_of_beq_eq_true h) hne
  · obtain ⟨oj2, hoj2, e, he, hb2, hon⟩ := Region.waitsFor_spec h
    rw [hj] at hoj2
    cases hoj2
    exact absurd hon (hno e he hb2)
  · obtain ⟨oi2, hoi2, e, he, hb2, hon⟩ := Region.waitsFor_spec h
    obtain ⟨_, oi3, hoi3, hall⟩ := mem_ready.1 hr
    rw [hoi2] at hoi3
    cases hoi3
    have := hall e he hb2
    rw [hon, getD_both hun] at this
    cases this
  · exact h
theorem noWr_spec {m q : Nat} : ∀ (l : List Oper) (k : Nat), noWr m q k l = true → ∀ j o, l[j]? = some o → Nat.testBit m (k + j) = false → o.dst ≠ some q
  | [], k, _, j, o, h, _ => by simp at h
  | x :: l, k, hs, j, o, h, hm => by
    unfold noWr at hs
    simp only [Bool.and_eq_true] at hs
    cases j with
    | zero =>
      simp at h
      subst h
      have h1 := hs.1
      rw [Nat.add_zero] at hm
      rw [hm, Bool.false_or] at h1
      intro e
      rw [e] at h1
      simp only [Nat.beq_refl, Bool.not_true] at h1
      cases h1
    | succ j => exact noWr_spec l (k + 1) hs.2 j o (by simpa using h) (by rw [show k + 1 + j = k + (j + 1) from by omega]; exact hm)
/-- A slot that leads to a row of the call's own. -/
def Rowy (s : AS) (q id' : Nat) : Prop := (∃ off T l, s.slots.get q = .ptr id' off ∧ s.ob id' = .cells T l) ∨ (∃ ix E k l, s.slots.get q = .elt id' ix ∧ s.ob id' = .irow E k l) ∨ (∃ E k l, s.slots.get q = .hdl id' ∧ s.ob id' = .irow E k l)
theorem storesT_spec {α : Type} {I : List (FuncId × α)} {ops : List Oper} {s : AS} {cl : List Nat} {m i id : Nat} : ∀ (l : List Oper) (k : Nat), storesT I ops s cl m i id k l = true → ∀ j o, l[j]? = some o → Nat.testBit m (k + j) = false → k + j ≠ i → Nat.testBit (cl.getD (k + j) 0) i = false → isEff I o.op = true →
    ∃ q id', effDst o.op = some q ∧ id ≠ id' ∧ noWr m q 0 ops = true ∧ Rowy s q id'
  | [], k, _, j, o, h, _, _, _, _ => by simp at h
  | x :: l, k, hs, j, o, h, hm, hne0, hcl, hst => by
    unfold storesT at hs
    cases hb : (Nat.testBit m k || (Nat.testBit (cl.getD k 0) i || (Nat.beq k i || !isEff I x.op))) with
    | true =>
      rw [hb] at hs
      cases j with
      | zero =>
        exfalso
        simp at h
        subst h
        rw [Nat.add_zero] at hm hcl hne0
        have hki : Nat.beq k i = false := by
          cases hh : Nat.beq k i with
          | false => rfl
          | true => exact absurd (Nat.eq_of_beq_eq_true hh) hne0
        rw [hm, hcl, hst, hki] at hb
        cases hb
      | succ j => exact storesT_spec l (k + 1) hs j o (by simpa using h) (by rw [show k + 1 + j = k + (j + 1) from by omega]; exact hm) (by omega) (by rw [show k + 1 + j = k + (j + 1) from by omega]; exact hcl) hst
    | false =>
      rw [hb] at hs
      simp only at hs
      have hne : ∀ {id' : Nat}, (!Nat.beq id id') = true → id ≠ id' := fun h e => by rw [e, Nat.beq_refl] at h; cases h
      split at hs
      · rename_i q hd
        have goal : ∀ id', (!Nat.beq id id') = true → Rowy s q id' → noWr m q 0 ops = true → storesT I ops s cl m i id (k + 1) l = true → ∃ q id', effDst o.op = some q ∧ id ≠ id' ∧ noWr m q 0 ops = true ∧ Rowy s q id' := by
          intro id' h1 h2 h3 h4
          cases j with
          | zero =>
            simp at h
            subst h
            exact ⟨q, id', hd, hne h1, h3, h2⟩
          | succ j => exact storesT_spec l (k + 1) h4 j o (by simpa using h) (by rw [show k + 1 + j = k + (j + 1) from by omega]; exact hm) (by omega) (by rw [show k + 1 + j = k + (j + 1) from by omega]; exact hcl) hst
        split at hs
        · rename_i id' off hq
          simp only [Bool.and_eq_true] at hs
          obtain ⟨h1, h2, h3, h4⟩ := hs
          refine goal id' h1 (.inl ?_) h3 h4
          cases hob : s.ob id' with
          | cells T l => exact ⟨off, T, l, hq, rfl⟩
          | irow E k l => rw [hob] at h2; cases h2
          | srow E T d => rw [hob] at h2; cases h2
          | gone => rw [hob] at h2; cases h2
        · rename_i id' ix hq
          simp only [Bool.and_eq_true] at hs
          obtain ⟨h1, h2, h3, h4⟩ := hs
          refine goal id' h1 (.inr (.inl ?_)) h3 h4
          cases hob : s.ob id' with
          | irow E k l => exact ⟨ix, E, k, l, hq, rfl⟩
          | cells E l => rw [hob] at h2; cases h2
          | srow E T d => rw [hob] at h2; cases h2
          | gone => rw [hob] at h2; cases h2
        · rename_i id' hq
          simp only [Bool.and_eq_true] at hs
          obtain ⟨h1, h2, h3, h4⟩ := hs
          refine goal id' h1 (.inr (.inr ?_)) h3 h4
          cases hob : s.ob id' with
          | irow E k l => exact ⟨E, k, l, hq, rfl⟩
          | cells E l => rw [hob] at h2; cases h2
          | srow E T d => rw [hob] at h2; cases h2
          | gone => rw [hob] at h2; cases h2
        · cases hs
      · cases hs
/-- Where such a slot leads. -/
def Leads (r : Nat → Option Value) (id' : Nat) (w : World) (u : Value) : Prop :=
  (∃ b off hv, r id' = some hv ∧ blk hv = some b ∧ IsRow w b ∧ u = .pointer (some ⟨b, off, none⟩)) ∨ (∃ b n c hv, r id' = some hv ∧ blk hv = some b ∧ IsRow w b ∧ u = .slice (some ⟨b, 0, none⟩) n c) ∨ (∃ n c, u = .slice none n c)
theorem Sat.rowAt (h : Sat w0 r s a w) {q id' : Nat} (hq : Rowy s q id') : s.ob id' ≠ .gone ∧ Leads r id' w (a.tmps.getD q undef) := by
  rcases hq with ⟨off, T, l, h1, h2⟩ | ⟨ix, E, k, l, h1, h2⟩ | ⟨E, k, l, h1, h2⟩
  · have hx := h.slots.get q
    rw [h1] at hx
    simp only [SV.Is] at hx
    obtain ⟨hv, b, h3, h4, h5⟩ := hx
    obtain ⟨q', hq', hoi⟩ := h.objs id' (by rw [h2]; simp)
    rw [h3] at hq'
    cases hq'
    rw [h2] at hoi
    obtain ⟨b', cs, hb1, _, hb2, _⟩ := hoi
    rw [h4] at hb1
    cases hb1
    exact ⟨by rw [h2]; simp, .inl ⟨b, off, hv, h3, h4, ⟨_, _, _, hb2⟩, h5⟩⟩
  · have hx := h.slots.get q
    rw [h1] at hx
    simp only [SV.Is] at hx
    obtain ⟨b, n, c, h3, h4, h5, h6⟩ := hx
    obtain ⟨q', hq', hoi⟩ := h.objs id' (by rw [h2]; simp)
    rw [h3] at hq'
    cases hq'
    rw [h2] at hoi
    obtain ⟨hown, hfit⟩ := hoi
    rcases hown.2 with ⟨e0, _⟩ | ⟨g, cap, cur, e0, _, hg, _⟩
    · cases e0
    · cases e0
      exact ⟨by rw [h2]; simp, .inl ⟨b, ix.toNat, _, h3, rfl, (by obtain ⟨fz, q1, _⟩ := hg; exact ⟨_, _, _, q1⟩), h6⟩⟩
  · have hx := h.slots.get q
    rw [h1] at hx
    simp only [SV.Is] at hx
    obtain ⟨q', hq', hoi⟩ := h.objs id' (by rw [h2]; simp)
    rw [hx] at hq'
    cases hq'
    rw [h2] at hoi
    obtain ⟨hown, hfit⟩ := hoi
    refine ⟨by rw [h2]; simp, ?_⟩
    rcases hown.2 with ⟨e0, _⟩ | ⟨g, cap, cur, e0, _, hg, _⟩
    · rw [e0]; exact .inr (.inr ⟨0, 0, rfl⟩)
    · rw [e0] at hx ⊢
      exact .inr (.inl ⟨g, _, cap, _, hx, rfl, (by obtain ⟨fz, q1, _⟩ := hg; exact ⟨_, _, _, q1⟩), rfl⟩)
/-- A store, an append through such a slot leaves other blocks as they are. -/
theorem eff_far {ρ : Operand → Value} {o : Oper} {q : Nat} (hd : effDst o.op = some q) {id' b : Nat} {w w' : World} {nxt : Next} (hl : Leads r id' w (ρ (.tmp q))) (hr : (execOp ρ o).run P w = .ok nxt w') (hb : ∀ hv, r id' = some hv → blk hv ≠ some b) (hlt : b < w.heap.size) :
    w'.heap[b]? = w.heap[b]? ∧ ∀ c, IsRow w c → IsRow w' c := by
  unfold effDst at hd
  split at hd
  · rename_i t x y hop
    split at hd
    · cases hd
      rcases hl with ⟨b2, off, hv, h1, h2, h3, h4⟩ | ⟨b2, n, c, hv, h1, h2, h3, h4⟩ | ⟨n, c, h4⟩
      · obtain ⟨_, j2, j3⟩ := store_far hop h4 h3 hr
        exact ⟨j2 b fun e => hb hv h1 (by rw [h2, e]), j3⟩
      · exfalso
        have he : execOp ρ o = ((Instr.storeAt t (ρ (.tmp q)) (ρ y)) >>= fun _ => pure .skip) := by simp only [execOp, hop]
        rw [he, h4] at hr
        cases hr
      · exfalso
        have he : execOp ρ o = ((Instr.storeAt t (ρ (.tmp q)) (ρ y)) >>= fun _ => pure .skip) := by simp only [execOp, hop]
        rw [he, h4] at hr
        cases hr
    · cases hd
  · rename_i c hop
    split at hd
    · rename_i hcal
      split at hd
      · rename_i x l hargs
        split at hd
        · cases hd
          obtain ⟨u, rfl, hr2⟩ := append_next hop hcal hr
          have hx0 : (c.args.map ρ)[0]? = some (ρ (.tmp q)) := by
            rw [← Array.getElem?_toList, Array.toList_map, hargs]; rfl
          rcases hl with ⟨b2, off, hv, h1, h2, h3, h4⟩ | ⟨b2, n, c2, hv, h1, h2, h3, h4⟩ | ⟨n, c2, h4⟩
          · exfalso
            rw [h4] at hx0
            unfold Builtin.append_ at hr2
            rw [hx0] at hr2
            cases ha : c.argTypes[0]? with
            | none => rw [ha] at hr2; cases hr2
            | some t0 =>
            cases hb2 : (c.args.map ρ)[1]? with
            | none => rw [ha, hb2] at hr2; cases hr2
            | some x0 =>
            rw [ha, hb2] at hr2
            simp only at hr2
            rw [Sem.run_bind] at hr2
            cases hu : (underlying t0).run P w with
            | halt y w1 => rw [hu] at hr2; cases hr2
            | ok d w1 =>
              rw [hu] at hr2
              cases d <;> cases hr2
          · rw [h4] at hx0
            obtain ⟨g1, g2, g3⟩ := far_append (P := P) (B := fun c => c = b2) hx0 (fun a ha => by cases ha; rfl) w u w' (fun c hc => by rw [hc]; exact h3) hr2
            exact ⟨g2 b hlt fun e => hb hv h1 (by rw [h2, e]), g3⟩
          · rw [h4] at hx0
            obtain ⟨g1, g2, g3⟩ := far_append (P := P) (B := fun _ => False) hx0 (fun a ha => by cases ha) w u w' (fun c hc => hc.elim) hr2
            exact ⟨g2 b hlt id, g3⟩
        · cases hd
      · cases hd
    · cases hd
  · cases hd
/-- Who comes first, and why that may be. -/
def Why (C : Cx) (s : AS) (ops : List Oper) (cl : List Nat) (m i : Nat) (o : Oper) : Prop :=
  wantT ops s o.guard = some false ∨ (wantT ops s o.guard = some true ∧ ((eagD C s o.op = true ∨ ipT C s o.op = true) ∨ (stillK o.op = true ∧ subM (badT stillK cl i 0 ops) m = true) ∨ loadT C ops cl m s i o.op = true))
def FstOk (C : Cx) (s : AS) (ops : List Oper) (cl : List Nat) (m : Nat) (l : List (Nat × Oper)) : Fst → Prop
  | .step i o => (i, o) ∈ l ∧ Why C s ops cl m i o
  | .pure i o c sv => (i, o) ∈ l ∧ wantT ops s o.guard = some true ∧ pureE C s o.op = some (c, sv)
  | .no => True
theorem FstOk.cons {ops : List Oper} {cl : List Nat} {m : Nat} {l : List (Nat × Oper)} {x : Nat × Oper} {f : Fst} (h : FstOk C s ops cl m l f) : FstOk C s ops cl m (x :: l) f := by
  cases f with
  | step i o => exact ⟨List.mem_cons_of_mem _ h.1, h.2⟩
  | pure i o c sv => exact ⟨List.mem_cons_of_mem _ h.1, h.2⟩
  | no => trivial
theorem firstT_spec {ops : List Oper} {cl : List Nat} {m : Nat} : ∀ (l : List (Nat × Oper)), FstOk C s ops cl m l (firstT C ops cl m s l)
  | [] => trivial
  | y :: l => by
    have tail := (firstT_spec (ops := ops) (cl := cl) (m := m) l).cons (x := y)
    unfold firstT
    split
    · rename_i hw
      exact ⟨by simp, .inl hw⟩
    · rename_i hw
      split
      · rename_i he
        simp only [Bool.or_eq_true] at he
        exact ⟨by simp, .inr ⟨hw, .inl he⟩⟩
      · split
        · rename_i c sv hp
          exact ⟨by simp, hw, hp⟩
        · split
          · rename_i hb
            simp only [Bool.or_eq_true, Bool.and_eq_true] at hb
            exact ⟨by simp, .inr ⟨hw, .inr hb⟩⟩
          · exact tail
    · exact tail
/-- Loads of a row of the call's own hang on that row alone. -/
theorem load_yields (h : Sat w0 r s a w) (ht : ttOk P C.tt) {t : TypeId} {p : Operand} (hop : o.op = .load t p) {id : Nat}
    (hcase : (∃ off T l, s.ev p = .ptr id off ∧ s.ob id = .cells T l ∧ 1 ≤ (C.td t).size ∧ off + (C.td t).size ≤ l.length) ∨ (∃ ix E k l, s.ev p = .elt id ix ∧ s.ob id = .irow E k l ∧ (C.td t).size = 1 ∧ (C.td t).agg = false)) :
    ∃ b hv v, r id = some hv ∧ blk hv = some b ∧ b < w.heap.size ∧ ∀ w', w'.heap[b]? = w.heap[b]? → (execOp a.eval o).run P w' = .ok (.value v) w' := by
  have hpi := h.ev p
  rcases hcase with ⟨off, T, l, e1, hobe, hs, hfl⟩ | ⟨ix, E, k, l, e1, hobe, hs1, hag⟩
  · rw [e1] at hpi
    simp only [SV.Is] at hpi
    obtain ⟨hv0, b, g1, g2, g3⟩ := hpi
    obtain ⟨q', hq', hoi⟩ := h.objs id (by rw [hobe]; simp)
    rw [g1] at hq'
    cases hq'
    rw [hobe] at hoi
    obtain ⟨b', cs, hb1, _, hb2, hls2⟩ := hoi
    rw [g2] at hb1
    cases hb1
    have hT := td_ok ht hs
    have hlen : ((cs.toList.drop off).take (C.td t).size).length = (C.td t).size := by
      have := lsIs_len hls2
      rw [List.length_take, List.length_drop]
      omega
    refine ⟨b, hv0, if (C.td t).agg = true then .agg ((cs.toList.drop off).take (C.td t).size).toArray else ((cs.toList.drop off).take (C.td t).size).headD undef, g1, g2, (Array.getElem?_eq_some_iff.1 hb2).1, fun w' hw' => ?_⟩
    have hb3 := hw'.trans hb2
    have hrun := run_loadAt (P := P) (w := w') hT (a := ⟨b, off, none⟩) hlen hs (fun j v hj => by
      rw [Addr.add_lit]
      refine cell_at hb3 ?_
      rw [List.getElem?_take] at hj
      split at hj
      · rw [List.getElem?_drop] at hj
        simpa using hj
      · cases hj)
    simp only [execOp, hop, g3]
    rw [Sem.run_bind, hrun]
    rfl
  · rw [e1] at hpi
    simp only [SV.Is] at hpi
    obtain ⟨b, n, c, g1, g2, g3, g4⟩ := hpi
    obtain ⟨q', hq', hoi⟩ := h.objs id (by rw [hobe]; simp)
    rw [g1] at hq'
    cases hq'
    rw [hobe] at hoi
    obtain ⟨hown, hfit⟩ := hoi
    have hlen : l.length = n := by
      obtain ⟨_, _, he, _⟩ := holds_ownM hown
      rw [kv_len] at he
      injection he with _ e2 _
      exact e2.symm
    subst hlen
    have hlt : b < w.heap.size := by
      rcases hown.2 with ⟨e0, _⟩ | ⟨g, cap, cur, e0, _, hg, _⟩
      · cases e0
      · cases e0; exact hg.lt
    have hcell := hown.cellAt ix.toNat (by rw [Nat.mul_one]; omega)
    rw [kv_getD k l ix.toNat (by omega)] at hcell
    have hT := td_ok ht (t := t) (by omega)
    refine ⟨b, _, .int k (l.getD ix.toNat 0), g1, rfl, hlt, fun w' hw' => ?_⟩
    have hc2 : w'.cell? ⟨b, ix.toNat, none⟩ = some (.int k (l.getD ix.toNat 0)) := by
      rw [← hcell]
      unfold World.cell?
      rw [hw']
    have hrun := run_loadAt (P := P) (w := w') hT (a := ⟨b, ix.toNat, none⟩) (cs := [.int k (l.getD ix.toNat 0)]) (by rw [hs1]; rfl) (by omega) (fun j v hj => by
      cases j with
      | zero => simp at hj; subst hj; rw [Addr.add_lit]; exact hc2
      | succ j => simp at hj)
    rw [hag] at hrun
    simp only [execOp, hop, g4]
    rw [Sem.run_bind, hrun]
    rfl
/-- So do loads of what nobody writes: on nothing. -/
theorem ip_yields (h : Sat w0 r s a w) (ht : ttOk P C.tt) (hp : ipT C s o.op = true) : ∃ v, ∀ w', SubW w0.g w' → (execOp a.eval o).run P w' = .ok (.value v) w' := by
  unfold ipT at hp
  split at hp
  · rename_i t p hop
    split at hp
    · rename_i l e1
      simp only [Bool.and_eq_true] at hp
      have hs := nble hp.1
      have hfl := nble hp.2
      have hpi := h.ev p
      rw [e1] at hpi
      simp only [SV.Is] at hpi
      obtain ⟨b, off, g3, hat⟩ := hpi
      obtain ⟨us, hls, hus⟩ := isAt_list hat
      have hT := td_ok ht hs
      have hlen : (us.take (C.td t).size).length = (C.td t).size := by
        have := lsIs_len hls
        rw [List.length_take]
        omega
      refine ⟨if (C.td t).agg = true then .agg (us.take (C.td t).size).toArray else (us.take (C.td t).size).headD undef, fun w' hw' => ?_⟩
      have hrun := run_loadAt (P := P) (w := w') hT (a := ⟨b, off, none⟩) hlen hs (fun j v hj => by
        rw [Addr.add_lit]
        rw [List.getElem?_take] at hj
        split at hj
        · exact hw' _ _ _ (hus j v hj)
        · cases hj)
      simp only [execOp, hop, g3]
      rw [Sem.run_bind, hrun]
      rfl
    · cases hp
  · cases hp
theorem effDst_of {α : Type} {I : List (FuncId × α)} {op : Op} (h : passK I op = true) (he : isEff I op = true) : ∃ q, effDst op = some q := by
  unfold passK at h
  rw [he] at h
  exact Option.isSome_iff_exists.1 h
/-- A REGION, WHATEVER ITS ORDER. -/
theorem tree_wpR (ht : ttOk P C.tt) (hA : C.A = std) (hG : GOk P C.G) (hI : IOk P C.fz C.I) {ops : Array Oper} (hok : treeOk ops = true) {K : AS → Prop} {Q : Exit → Act → World → Prop} (hQ0 : ∀ c a w, ¬ Q (.panic c) a w) :
    ∀ (f m : Nat) (listed : Array Bool) (w0 : Fr) (r : Nat → Option Value) (s : AS) (a : Act) (w : World), Sat w0 r s a w → MaskOk ops m listed → ClosedL ops listed → vcTree C ops.toList (clAll ops.toList []) (waitsL ops.toList) K f m s →
    (∀ w1 r' s' a' w', Fr.le C.fz w0 w1 → Sat w1 r' s' a' w' → K s' → Q .normal a' w') → wpAnyR P ops Q (Rel P C.I ops w0.g) f listed a w
  | 0, m, listed, w0, r, s, a, w, h, hm, hcl, hv, hQ => by
    unfold vcTree at hv
    split at hv
    · rename_i hr
      exact ⟨(ready_nil hm).2 hr, hQ _ _ _ _ _ (Fr.le.refl _ _) h hv⟩
    · exact hv.elim
  | f + 1, m, listed, w0, r, s, a, w, h, hm, hcl, hv, hQ => by
    have hsel : ∀ (j : Nat) (o : Oper) cs b, ops[j]? = some o → o.op ≠ .select cs b := by
      unfold treeOk at hok
      simp only [Bool.and_eq_true] at hok
      exact Region.noSelect_spec hok.1
    unfold vcTree at hv
    cases hrs : readyT m 0 (waitsL ops.toList) with
    | nil =>
      rw [hrs] at hv
      have h0 := (ready_nil hm).2 hrs
      exact ⟨fun _ => hQ _ _ _ _ _ (Fr.le.refl _ _) h hv, fun i hi => by rw [h0] at hi; cases hi⟩
    | cons x0 xs =>
      rw [hrs] at hv
      simp only at hv
      rw [← hrs] at hv
      obtain ⟨s', h', hv⟩ := split_sound _ _ h hv
      have hlt : ∀ i o, (i, o) ∈ readyT m 0 (waitsL ops.toList) → i < ops.size := fun i o hi => (Array.getElem?_eq_some_iff.1 (ready_at hi)).1
      have go : ∀ i o, (i, o) ∈ readyT m 0 (waitsL ops.toList) → ∀ a' w', After C.fz w0 (fun s => vcTree C ops.toList (clAll ops.toList []) (waitsL ops.toList) K f (Nat.lor m (Nat.shiftLeft 1 i)) s) a' w' → wpAnyR P ops Q (Rel P C.I ops w0.g) f (listed.setIfInBounds i true) a' w' := by
        rintro i o hi a' w' ⟨w1, r1, s1, hl, h1, hk⟩
        have := tree_wpR ht hA hG hI hok hQ0 f _ _ w1 r1 s1 a' w' h1 (mask_set hm (hlt i o hi)) (closed_set hcl ((ready_iff hm i).2 ⟨o, ready_at hi, hi⟩)) hk fun w2 r2 s2 a2 w3 hl2 => hQ w2 r2 s2 a2 w3 (hl.trans hl2)
        exact wpAnyR_imp (fun _ _ _ _ hR => hR.of hl.sub) _ _ _ _ this
      have hun : ∀ j oj, ops[j]? = some oj → listed.getD j true = false → Nat.testBit m j = false := fun j oj hj hl => by rw [← hm.2]; exact getD_both hl
      have hspec := firstT_spec (C := C) (s := s') (ops := ops.toList) (cl := clAll ops.toList []) (m := m) (readyT m 0 (waitsL ops.toList))
      -- what hangs on nothing but what nobody writes comes first
      have easy : ∀ i o, (i, o) ∈ readyT m 0 (waitsL ops.toList) → ∀ v, YieldsIf P ops (SubW w0.g) o v a → wpAnyR P ops Q (Rel P C.I ops w0.g) f (listed.setIfInBounds i true) (a.put o.dst v) w → wpAnyR P ops Q (Rel P C.I ops w0.g) (f + 1) listed a w := by
        intro i o hi v hy hk
        have ho := ready_at hi
        have hir := (ready_iff hm i).2 ⟨o, ho, hi⟩
        refine first_gen (Dof_closed ops) (qs := fun _ => False) (A := fun _ => undef) (S := SubW w0.g) ho hsel (fun c a w hq => absurd hq (hQ0 _ _ _)) (fun a w hS => Rel.refl hS) (fun j oj a w w' hj hap hR => hR.put hsel hj hap) f listed a w hcl ?_ hir hy h'.gw (fun q hq => hq.elim) hk
        intro j oj hj hne hl hd hno
        exact ⟨treeOk_free hok hir ho j oj hj hne hl hno, fun q hq => hq.elim, fun a' _ w1 w' hS hR => hR.sub⟩
      split at hv
      · rename_i i o hf
        rw [hf] at hspec
        obtain ⟨hi, hwhy⟩ := hspec
        have go := go i o hi
        have ho := ready_at hi
        have hir := (ready_iff hm i).2 ⟨o, ho, hi⟩
        have hc := step_rel ht hA hG hI ho h' hv
        have hfree := treeOk_free hok hir ho
        have hD : ∀ j, Dof ops j i = false → Nat.testBit ((clAll ops.toList []).getD j 0) i = false := fun j hj => hj
        rcases hwhy with hw | ⟨hw, hwhy⟩
        · have hwt := want_sound h' hw
          obtain ⟨v, hy, hk⟩ := yields_of (S := SubW w0.g) hc h'.gw fun hh => by rw [hwt] at hh; cases hh
          exact easy i o hi v hy (go _ _ hk.2)
        · rcases hwhy with (he | hip) | ⟨hst, hsub⟩ | hload
          · obtain ⟨v, hy, hk⟩ := yields_of (S := SubW w0.g) hc h'.gw fun _ => (eagD_sound h' ht he).imp (fun ⟨v, hv⟩ => ⟨v, fun w2 _ => hv w2⟩) id
            exact easy i o hi v hy (go _ _ hk.2)
          · obtain ⟨v, hy, hk⟩ := yields_of (S := SubW w0.g) hc h'.gw fun _ => .inl (ip_yields h' ht hip)
            exact easy i o hi v hy (go _ _ hk.2)
          · obtain ⟨v, hy, hk⟩ := yields_of (S := fun w' => w' = w) hc rfl fun _ => by
              cases hr : (execOp a.eval o).run P w with
              | ok nxt w' =>
                obtain ⟨rfl, u, rfl⟩ := stillK_still hst _ _ _ _ hr
                exact .inl ⟨u, fun w2 e => by rw [e]; exact hr⟩
              | halt x w' => exact .inr ⟨x, w', rfl⟩
            refine first_gen2 (Dof_closed ops) ho hsel (fun c a w hq => absurd hq (hQ0 _ _ _)) (fun a w' hS => by rw [hS]; exact Rel.refl h'.gw) (fun j oj a w w' hj hap hR => hR.put hsel hj hap) f listed a w hcl ?_ hir hy rfl (go _ _ hk.2)
            intro j oj hj hne hl hd hno
            refine ⟨hfree j oj hj hne hl hno, ?_⟩
            have hsk := badT_spec (p := stillK) _ 0 hsub j oj (by simpa using hj) (by rw [Nat.zero_add]; exact hun j oj hj hl) (by omega) (by rw [Nat.zero_add]; exact hD j hd)
            intro a' w1 nxt w' hS hr
            obtain ⟨e, u, rfl⟩ := stillK_still hsk _ _ _ _ hr
            exact ⟨.inl ⟨u, rfl⟩, e.trans hS⟩
          · obtain ⟨t, p, id, hop, hcase, hsub, hstores⟩ : ∃ t p id, o.op = .load t p ∧ ((∃ off T l, s'.ev p = .ptr id off ∧ s'.ob id = .cells T l ∧ 1 ≤ (C.td t).size ∧ off + (C.td t).size ≤ l.length) ∨ (∃ ix E k l, s'.ev p = .elt id ix ∧ s'.ob id = .irow E k l ∧ (C.td t).size = 1 ∧ (C.td t).agg = false)) ∧ subM (badT (passK C.I) (clAll ops.toList []) i 0 ops.toList) m = true ∧ storesT C.I ops.toList s' (clAll ops.toList []) m i id 0 ops.toList = true := by
              unfold loadT at hload
              split at hload
              · rename_i t p hop
                split at hload
                · rename_i id off e1
                  simp only [Bool.and_eq_true] at hload
                  obtain ⟨hob, h1, h2⟩ := hload
                  cases hobe : s'.ob id with
                  | irow E k l => rw [hobe] at hob; cases hob
                  | srow E T d => rw [hobe] at hob; cases hob
                  | gone => rw [hobe] at hob; cases hob
                  | cells T l =>
                    rw [hobe] at hob
                    simp only [Bool.and_eq_true] at hob
                    exact ⟨t, p, id, hop, .inl ⟨off, T, l, e1, hobe, nble hob.1, nble hob.2⟩, h1, h2⟩
                · rename_i id ix e1
                  simp only [Bool.and_eq_true] at hload
                  obtain ⟨hob, h1, h2⟩ := hload
                  cases hobe : s'.ob id with
                  | cells T l => rw [hobe] at hob; cases hob
                  | srow E T d => rw [hobe] at hob; cases hob
                  | gone => rw [hobe] at hob; cases hob
                  | irow E k l =>
                    rw [hobe] at hob
                    simp only [Bool.and_eq_true, Bool.not_eq_true'] at hob
                    exact ⟨t, p, id, hop, .inr ⟨ix, E, k, l, e1, hobe, Nat.eq_of_beq_eq_true hob.1, hob.2⟩, h1, h2⟩
                · cases hload
              · cases hload
            have hne0 : s'.ob id ≠ .gone := by
              rcases hcase with ⟨_, _, _, _, e, _⟩ | ⟨_, _, _, _, _, e, _⟩ <;> rw [e] <;> simp
            obtain ⟨b, hv0, v0, g1, g2, g3, g4⟩ := load_yields h' ht hop hcase
            obtain ⟨v, hy, hk⟩ := yields_of (S := fun w' => SubW w0.g w' ∧ (w'.heap[b]? = w.heap[b]? ∧ ∀ c, IsRow w c → IsRow w' c)) hc ⟨h'.gw, rfl, fun _ h => h⟩ fun _ => .inl ⟨v0, fun w' hw' => g4 w' hw'.2.1⟩
            refine first_gen (Dof_closed ops) (qs := fun q => noWr m q 0 ops.toList = true) (A := fun q => a.tmps.getD q undef) (S := fun w' => SubW w0.g w' ∧ (w'.heap[b]? = w.heap[b]? ∧ ∀ c, IsRow w c → IsRow w' c)) ho hsel (fun c a w hq => absurd hq (hQ0 _ _ _)) (fun a w' hS => Rel.refl hS.1) (fun j oj a w w' hj hap hR => hR.put hsel hj hap) f listed a w hcl ?_ hir hy ⟨h'.gw, rfl, fun _ h => h⟩ (fun q _ => rfl) (go _ _ hk.2)
            intro j oj hj hne hl hd hno
            have hmj := hun j oj hj hl
            refine ⟨hfree j oj hj hne hl hno, fun q hq => noWr_spec _ 0 hq j oj (by simpa using hj) (by rw [Nat.zero_add]; exact hmj), fun a' ha' w1 w' hS hR => ⟨hR.sub, ?_⟩⟩
            have hlt1 : b < w1.heap.size := by
              have := hS.2.1
              rw [Array.getElem?_eq_getElem g3] at this
              exact (Array.getElem?_eq_some_iff.1 this).1
            cases hef : isEff C.I oj.op with
            | false =>
              obtain ⟨k1, k2⟩ := hR.grow oj hj hef
              exact ⟨(k2 b hlt1).trans hS.2.1, fun c hc => row_of_heap k2 (hS.2.2 c hc)⟩
            | true =>
              have hpk := badT_spec (p := passK C.I) _ 0 hsub j oj (by simpa using hj) (by rw [Nat.zero_add]; exact hmj) (by omega) (by rw [Nat.zero_add]; exact hD j hd)
              obtain ⟨q, id', hdq, hne2, hnw, hrow⟩ := storesT_spec _ 0 hstores j oj (by simpa using hj) (by rw [Nat.zero_add]; exact hmj) (by omega) (by rw [Nat.zero_add]; exact hD j hd) hef
              rcases hR.eff oj q hj hdq with rfl | ⟨nxt, hrun⟩
              · exact hS.2
              · obtain ⟨hng, hlead⟩ := h'.rowAt hrow
                have hav : a'.eval (.tmp q) = a.tmps.getD q undef := ha' q hnw
                have hlead' : Leads r id' w1 (a'.eval (.tmp q)) := by
                  rw [hav]
                  rcases hlead with ⟨b2, off, hv, h1, h2, h3, h4⟩ | ⟨b2, n, c, hv, h1, h2, h3, h4⟩ | h4
                  · exact .inl ⟨b2, off, hv, h1, h2, hS.2.2 _ h3, h4⟩
                  · exact .inr (.inl ⟨b2, n, c, hv, h1, h2, hS.2.2 _ h3, h4⟩)
                  · exact .inr (.inr h4)
                obtain ⟨j2, j3⟩ := eff_far hdq hlead' hrun (b := b) (fun hv hrv hbv => h'.apart id id' hv0 hv b hne2 hne0 hng g1 hrv g2 hbv) hlt1
                exact ⟨j2.trans hS.2.1, fun c hc => j3 c (hS.2.2 c hc)⟩
      · rename_i i o c sv hf
        rw [hf] at hspec
        obtain ⟨hi, hw, hp⟩ := hspec
        have hc : (∀ p, c = some p → p) ∧ vcTree C ops.toList (clAll ops.toList []) (waitsL ops.toList) K f (Nat.lor m (Nat.shiftLeft 1 i)) (s'.put o.dst sv) := by
          unfold okP at hv
          cases c with
          | none => exact ⟨fun p hp => (by cases hp), hv⟩
          | some p => exact ⟨fun p' hp => (by cases hp; exact hv.1), hv.2⟩
        obtain ⟨v, hy, hs⟩ := pure_yields h' ht hA hp hc.1
        exact easy i o hi v (.inl ⟨want_sound h' hw, hy⟩) (go i o hi _ _ ⟨w0, r, _, Fr.le.refl _ _, h'.put hs o.dst, hc.2⟩)
      · rename_i hf
        have hall : ∀ (l : List (Nat × Oper)), allT (fun x => stepT C ops.toList x.2 (fun s => vcTree C ops.toList (clAll ops.toList []) (waitsL ops.toList) K f (Nat.lor m (Nat.shiftLeft 1 x.1)) s) s') l → ∀ x ∈ l, stepT C ops.toList x.2 (fun s => vcTree C ops.toList (clAll ops.toList []) (waitsL ops.toList) K f (Nat.lor m (Nat.shiftLeft 1 x.1)) s) s' := by
          intro l
          induction l with
          | nil => intro _ i hi; cases hi
          | cons x l ih =>
            intro hh i hi
            cases l with
            | nil =>
              simp only [List.mem_singleton] at hi
              subst hi
              exact hh
            | cons y l =>
              rcases List.mem_cons.1 hi with rfl | hi
              · exact hh.1
              · exact ih hh.2 i hi
        refine ⟨fun h0 => ?_, fun i hi => ?_⟩
        · rw [(ready_nil hm)] at h0; rw [h0] at hrs; cases hrs
        · obtain ⟨o, ho, hi2⟩ := (ready_iff hm i).1 hi
          have hc := step_rel ht hA hG hI ho h' (hall _ hv (i, o) hi2)
          exact step_wpOp ho hc fun a' w' hk => ⟨hk.1, go i o hi2 a' w' hk.2⟩
theorem tree_wp (ht : ttOk P C.tt) (hA : C.A = std) (hG : GOk P C.G) (hI : IOk P C.fz C.I) {ops : Array Oper} (hok : treeOk ops = true) {K : AS → Prop} {Q : Exit → Act → World → Prop} (hQ0 : ∀ c a w, ¬ Q (.panic c) a w) (f m : Nat) (listed : Array Bool) (w0 : Fr) (r : Nat → Option Value) (s : AS) (a : Act) (w : World) (h : Sat w0 r s a w) (hm : MaskOk ops m listed) (hcl : ClosedL ops listed) (hv : vcTree C ops.toList (clAll ops.toList []) (waitsL ops.toList) K f m s)
    (hQ : ∀ w1 r' s' a' w', Fr.le C.fz w0 w1 → Sat w1 r' s' a' w' → K s' → Q .normal a' w') : wpAny P .any ops Q f listed a w := wpAnyR_any _ _ _ _ (tree_wpR ht hA hG hI hok hQ0 f m listed w0 r s a w h hm hcl hv hQ)
theorem SO.Is.drew {g : World} {r : Nat → Option Value} {w : World} {b : Nat} {h : Value} {o : SO} (ho : o.Is g r w b h) (n : Nat) : o.Is g r { w with drawn := n } b h := by
  cases o <;> exact ho
theorem Sat.drew (h : Sat w0 r s a w) (n : Nat) : Sat w0 r s a { w with drawn := n } :=
  ⟨h.slots, h.defs, ⟨h.below.os, h.below.tape, h.below.output, h.below.size, h.below.block⟩, h.gw, h.rn, h.r1, fun id hne => by
    obtain ⟨q, h1, h2⟩ := h.objs id hne
    exact ⟨q, h1, h2.drew n⟩, h.mine, h.apart, h.sav⟩
/-- The same, of a region. -/
theorem tree_region (ht : ttOk P C.tt) (hA : C.A = std) (hG : GOk P C.G) (hI : IOk P C.fz C.I) (hm : P.follows .mixedOrders = true) {ops : Array Oper} (hok : treeOk ops = true) {K : AS → Prop} {Q : Exit → Act → World → Prop} {id : Nat} (h : Sat w0 r s a w)
    (hv : vcTree C ops.toList (clAll ops.toList []) (waitsL ops.toList) K ops.toList.length 0 s) (hQ : ∀ w1 r' s' a' w', Fr.le C.fz w0 w1 → Sat w1 r' s' a' w' → K s' → Q .normal a' w') : (Code.region id ops true).wp P Q a w := by
  refine wp_mono (wp_region_any (Q := fun e a w => e = .normal ∧ Q e a w) hm ?_) fun e a w h => h.2
  have hl : ops.toList.length = ops.size := by simp
  rw [← hl]
  refine tree_wp ht hA hG hI hok (fun c a w hh => by cases hh.1) _ 0 _ w0 r s a _ (h.drew _) ?_ ?_ hv fun w1 r' s' a' w' h1 h2 h3 => ⟨rfl, hQ w1 r' s' a' w' h1 h2 h3⟩
  · exact ⟨by simp, fun j => by rw [getD_replicate_false]; simp⟩
  · intro j oj hj hh
    rw [getD_replicate_false] at hh
    cases hh
end
end Go.Proofs.Ytekokhlldcmjfaa
