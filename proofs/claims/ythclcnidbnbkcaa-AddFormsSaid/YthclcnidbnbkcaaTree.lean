/- A region whose orders are gone through, one by one. No program in sight. -/
import Derived.Test.YthclcnidbnbkcaaSndA
namespace Go.Proofs.Ythclcnidbnbkcaa
open Go.RowKit Go.ChangeShapes Go.WideShapes Go.Deep
set_option linter.unusedVariables false
set_option linter.unusedSimpArgs false
/-! ### An operation may come first, as long as what comes ahead of it keeps what it sees -/
section
variable {P : Program} {ops : Array Oper} {Q : Exit → Act → World → Prop}
def ClosedL (ops : Array Oper) (listed : Array Bool) : Prop := ∀ j oj, ops[j]? = some oj → listed.getD j false = true → ∀ e ∈ oj.after, Region.binds .any e = true → listed.getD e.on false = true
theorem closed_set {listed : Array Bool} (h : ClosedL ops listed) {i : Nat} (hi : i ∈ Region.ready .any ops listed) : ClosedL ops (listed.setIfInBounds i true) := by
  intro j oj hj hl e he hb
  by_cases hij : i = j
  · subst hij
    obtain ⟨_, o, ho, hall⟩ := mem_ready.1 hi
    rw [hj] at ho
    cases ho
    exact getD_set_true (hall e he hb)
  · rw [getD_set_ne false hij] at hl
    exact getD_set_true (h j oj hj hl e he hb)
theorem first_gen {D : Nat → Nat → Bool} (hD : ClosedD D ops) {k : Nat} {qs : Nat → Prop} {ok : Oper} {v : Value} {A : Nat → Value} {S : World → Prop} (hk : ops[k]? = some ok) (hsel : ∀ (j : Nat) (o : Oper) cs b, ops[j]? = some o → o.op ≠ .select cs b)
    (hQ : ∀ c a w, Q (.panic c) (a.put ok.dst v) w → Q (.panic c) a w) :
    ∀ (fuel : Nat) (listed : Array Bool) (a : Act) (w1 : World), ClosedL ops listed →
      (∀ j oj, ops[j]? = some oj → j ≠ k → listed.getD j true = false → D j k = false → (∀ e ∈ oj.after, Region.binds .any e = true → e.on ≠ k) → ok.apart ops oj = true ∧ (∀ q, qs q → oj.dst ≠ some q) ∧
        ∀ a' : Act, (∀ q, qs q → a'.tmps.getD q undef = A q) → ∀ w nxt w', S w → (execOp a'.eval oj).run P w = .ok nxt w' → ((∃ u, nxt = .value u) ∨ nxt = .skip) ∧ S w') →
      k ∈ Region.ready .any ops listed → YieldsIf P ops S ok v a → S w1 → (∀ q, qs q → a.tmps.getD q undef = A q) →
      wpAny P .any ops Q fuel (listed.setIfInBounds k true) (a.put ok.dst v) w1 → wpAny P .any ops Q (fuel + 1) listed a w1 := by
  intro fuel
  induction fuel with
  | zero =>
    intro listed a w1 _ _ hr hy hS _ H
    refine ⟨fun h => (by rw [h] at hr; cases hr), fun j hj => ?_⟩
    by_cases hji : j = k
    · subst hji; exact hy.wpOp hk hS H
    · have := ready_mono hj hji
      rw [H.1] at this
      cases this
  | succ fuel ih =>
    intro listed a w1 hcl hfree hr hy hS hB H
    refine ⟨fun h => (by rw [h] at hr; cases hr), fun j hj => ?_⟩
    by_cases hji : j = k
    · subst hji; exact hy.wpOp hk hS H
    · have h1 := H.2 j (ready_mono hj hji)
      obtain ⟨hjun, oj, hoj, hall⟩ := mem_ready.1 hj
      have hkun := getD_both (mem_ready.1 hr).1
      have hnot : ∀ e ∈ oj.after, Region.binds .any e = true → e.on ≠ k := fun e he hb heq => by
        have h1 := hall e he hb
        rw [heq, hkun] at h1
        cases h1
      have hDk : D j k = false := by
        cases hd : D j k with
        | false => rfl
        | true =>
          have := hD listed hcl j oj hoj hall k hd
          rw [hkun] at this
          cases this
      obtain ⟨hap, hqd, hstill⟩ := hfree j oj hoj hji hjun hDk hnot
      have h2 := wpOp_putIf hoj hap (fun cs b => hsel k ok cs b hk) (fun cs b => hsel j oj cs b hoj) hQ hy h1
      have h3 : wpOp P ops Q j (fun a' w' => (YieldsIf P ops S ok v a' ∧ wpAny P .any ops Q fuel ((listed.setIfInBounds k true).setIfInBounds j true) (a'.put ok.dst v) w') ∧ (S w' ∧ ∀ q, qs q → a'.tmps.getD q undef = A q)) a w1 := by
        refine wpOp_more hoj h2 ⟨hS, fun q hq => ?_⟩ fun nxt w' hrun => ?_
        · rw [put_keep (hqd q hq)]; exact hB q hq
        · obtain ⟨g1, g2⟩ := hstill a hB _ _ _ hS hrun
          rcases g1 with ⟨u, rfl⟩ | rfl
          · exact .inl ⟨u, rfl, g2, fun q hq => by rw [put_keep (hqd q hq)]; exact hB q hq⟩
          · exact .inr ⟨rfl, g2, fun q hq => by rw [put_keep (hqd q hq)]; exact hB q hq⟩
      refine wpOp_mono (fun a' w' h4 => ?_) h3
      obtain ⟨⟨g1, g2⟩, g3, g4⟩ := h4
      refine ih (listed.setIfInBounds j true) a' w' (closed_set hcl hj) ?_ (ready_mono hr (Ne.symm hji)) g1 g3 g4 ?_
      · intro i oi hi hik hun hd hno
        refine hfree i oi hi hik ?_ hd hno
        by_cases hjk : j = i
        · subst hjk; exact hjun
        · rw [getD_set_ne true hjk] at hun; exact hun
      · rw [Array.setIfInBounds_comm _ _ hji]
        exact g2
end
/-! ### Operations that leave the world as it is -/
def IsRow (w : World) (b : Nat) : Prop := ∃ cs T z, w.heap[b]? = some (.cells cs T z)
section
variable {P : Program}
theorem stillK_still {o : Oper} (h : stillK o.op = true) : Still P o := by
  unfold stillK at h
  split at h
  · exact still_load ‹_›
  · exact still_field ‹_›
  · rename_i x hop; exact still_eager (eager_of (by rw [hop]; rfl))
  · rename_i x hop; exact still_eager (eager_of (by rw [hop]; rfl))
  · rename_i x i hop; exact still_eager (eager_of (by rw [hop]; rfl))
  · rename_i t x i hop; exact still_eager (eager_of (by rw [hop]; rfl))
  · cases h
theorem setCell_row {w : World} {a : Addr} {v : Value} {b : Nat} (h : IsRow w b) : IsRow (w.setCell a v) b := by
  obtain ⟨cs, T, z, h⟩ := h
  unfold IsRow World.setCell
  simp only [Array.getElem?_modify]
  by_cases e : a.block = b
  · rw [if_pos e, h]
    exact ⟨_, _, _, rfl⟩
  · rw [if_neg e, h]
    exact ⟨_, _, _, rfl⟩
theorem store_row {w w' : World} {a : Addr} {v : Value} {u : Unit} (h : IsRow w a.block) (hr : (store a v).run P w = .ok u w') : w' = w.setCell a v := by
  obtain ⟨cs, T, z, h⟩ := h
  have hfar : ∀ at', w.farStore P a v at' = .error (w.noCell a "store: no such cell") := by
    intro at'
    unfold World.farStore
    rw [h]
  unfold store at hr
  cases v <;> simp only [Sem.run] at hr <;> (try cases hr) <;>
    (cases hc : w.cell? a with
     | some x =>
       rw [hc] at hr
       simp only at hr
       split at hr
       · cases hr
       · simp only [Result.ok.injEq] at hr
         exact hr.2.symm
     | none =>
       rw [hc] at hr
       simp only [hfar] at hr
       cases hr)
/-- Stores of one block leave the others as they are. -/
theorem storeCells_far (b off : Nat) (sp : Option Nat) : ∀ (vs : List Value) (i : Nat) (w : World) (u : Unit) (w' : World), IsRow w b → (storeCells ⟨b, off, sp⟩ vs i).run P w = .ok u w' → (∀ b', b' ≠ b → w'.heap[b']? = w.heap[b']?) ∧ ∀ b', IsRow w b' → IsRow w' b'
  | [], i, w, u, w', _, h => by
    unfold storeCells at h
    cases h
    exact ⟨fun _ _ => rfl, fun _ h => h⟩
  | v :: vs, i, w, u, w', hrow, h => by
    unfold storeCells at h
    rw [Sem.run_bind] at h
    cases hr : (store (Addr.add ⟨b, off, sp⟩ i) v).run P w with
    | halt x w1 => rw [hr] at h; cases h
    | ok u1 w1 =>
      rw [hr] at h
      have hblk : (Addr.add ⟨b, off, sp⟩ i).block = b := by unfold Addr.add; split <;> rfl
      have h1 := store_row (by rw [hblk]; exact hrow) hr
      subst h1
      obtain ⟨h2, h3⟩ := storeCells_far b off sp vs (i + 1) _ u w' (setCell_row hrow) h
      refine ⟨fun b' hb => (h2 b' hb).trans ?_, fun b' hb => h3 b' (setCell_row hb)⟩
      unfold World.setCell
      simp only [Array.getElem?_modify, hblk]
      rw [if_neg (Ne.symm hb)]
theorem store_far {ρ : Operand → Value} {o : Oper} {t : TypeId} {q x : Operand} (ho : o.op = .store t q x) {b off : Nat} {sp : Option Nat} (hq : ρ q = .pointer (some ⟨b, off, sp⟩)) {w w' : World} {nxt : Next} (hrow : IsRow w b) (hr : (execOp ρ o).run P w = .ok nxt w') :
    nxt = .skip ∧ (∀ b', b' ≠ b → w'.heap[b']? = w.heap[b']?) ∧ ∀ b', IsRow w b' → IsRow w' b' := by
  have he : execOp ρ o = ((Instr.storeAt t (ρ q) (ρ x)) >>= fun _ => pure .skip) := by simp only [execOp, ho]
  rw [he, hq, Sem.run_bind] at hr
  have hs : Instr.storeAt t (.pointer (some ⟨b, off, sp⟩)) (ρ x) = storeVar t ⟨b, off, sp⟩ (ρ x) := rfl
  rw [hs] at hr
  unfold storeVar at hr
  rw [Sem.run_bind] at hr
  have hz := quiet_wi (P := P) (wi_sizeOf t)
  cases h1 : (sizeOf t).run P w with
  | halt y w1 => rw [h1] at hr; cases hr
  | ok n w1 =>
    rw [h1] at hr
    obtain rfl := hz _ _ _ h1
    by_cases hsz : (ρ x).cells.size ≠ n
    · simp only [Result.andThen, if_pos hsz] at hr
      rw [Sem.run_bind] at hr
      cases hr
    · simp only [Result.andThen, if_neg hsz] at hr
      cases h2 : (storeCells ⟨b, off, sp⟩ (ρ x).cells.toList 0).run P w1 with
      | halt y w2 => rw [h2] at hr; cases hr
      | ok u w2 =>
        rw [h2] at hr
        cases hr
        exact ⟨rfl, storeCells_far b off sp _ 0 _ u _ hrow h2⟩
theorem wi_binint (op : BinOp) (t : TypeId) (x y : Operand) (k k' : IntKind) (a b : Int) : WI P (do eqGuard op t x y (.int k a) (.int k' b); binOp op t (.int k a) (.int k' b)) := by
  have hg : eqGuard op t x y (.int k a) (.int k' b) = pure () := by
    unfold eqGuard
    cases op <;> rfl
  rw [hg, pure_bind]
  unfold binOp
  cases op <;> simp only <;> (try unfold Op.shift) <;> (try unfold Op.intArith) <;> (try unfold Op.intDiv) <;> (try unfold Op.intBits) <;> (try unfold Op.intCmp)
  all_goals repeat' (first | exact wi_pure _ | exact wi_halt _ | (refine wi_ends ?_; intro v w; exact ⟨_, w, rfl⟩) | (refine wi_bind ?_ (fun _ _ => ?_)) | split | dsimp only)
end
/-! ### The tree -/
section
variable {P : Program} {C : Cx} {w0 : Fr} {r : Nat → Option Value} {s : AS} {a : Act} {w : World} {o : Oper}
theorem eagD_sound (h : Sat w0 r s a w) (ht : ttOk P C.tt) (he : eagD C s o.op = true) : (∃ v, ∀ w2, (execOp a.eval o).run P w2 = .ok (.value v) w2) ∨ (∃ x w', (execOp a.eval o).run P w = .halt x w') := by
  unfold eagD at he
  split at he
  · rename_i x hop; exact eager_of (by rw [hop]; rfl) a.eval w
  · rename_i x hop; exact eager_of (by rw [hop]; rfl) a.eval w
  · rename_i x i hop; exact eager_of (by rw [hop]; rfl) a.eval w
  · rename_i t x i hop; exact eager_of (by rw [hop]; rfl) a.eval w
  · rename_i x hop
    have hx := h.ev x
    split at he
    · rename_i id off e1
      rw [e1] at hx
      simp only [SV.Is] at hx
      obtain ⟨q, b, h1, h2, h3⟩ := hx
      exact .inl ⟨a.eval x, fun w2 => by simp [execOp, hop, h3]⟩
    · rename_i id ix e1
      rw [e1] at hx
      simp only [SV.Is] at hx
      obtain ⟨b, m, c, h1, h2, h3, h4⟩ := hx
      exact .inl ⟨a.eval x, fun w2 => by simp [execOp, hop, h4]⟩
    · cases he
  · rename_i t x f hop
    have hx := h.ev x
    split at he
    · rename_i id off e1
      rw [e1] at hx
      simp only [SV.Is] at hx
      obtain ⟨q, b, h1, h2, h3⟩ := hx
      split at he
      · rename_i fs hu
        split at he
        · rename_i off' ft hf
          obtain ⟨fa, hP, hfs⟩ := under_struct ht hu
          obtain ⟨fld, hfa, hfe⟩ : ∃ fld, fa[f]? = some fld ∧ (fld.offset, fld.type) = (off', ft) := by
            rw [← hfs, List.getElem?_map] at hf
            obtain ⟨fld, g1, g2⟩ := Option.map_eq_some_iff.1 hf
            exact ⟨fld, by simpa using g1, g2⟩
          simp only [Prod.mk.injEq] at hfe
          obtain ⟨rfl, rfl⟩ := hfe
          have hs := nble he
          have hT := td_ok ht hs
          have hz : ¬ (C.td fld.type).size = 0 := by omega
          refine .inl ⟨.pointer (some ⟨b, off + fld.offset, none⟩), fun w' => ?_⟩
          simp [execOp, hop, h3, Instr.fieldAt, run_underlying hP, hfa, Instr.sureAddr, fieldPlace, hT.sizeOf, hz, Addr.add_lit]
        · cases he
      · cases he
    · cases he
  · rename_i c hop
    split at he
    · rename_i hcal
      split at he
      · rename_i x t hargs htys
        obtain ⟨callee, args, tys⟩ := c
        simp only at hcal hargs htys
        subst hcal
        obtain rfl : args = #[x] := by rw [← Array.toList_inj]; simpa using hargs
        obtain rfl : tys = #[t] := by rw [← Array.toList_inj]; simpa using htys
        split at he
        · rename_i e hu
          have hP := under_slice ht hu
          have hx := h.ev x
          split at he
          · rename_i k l e1
            rw [e1] at hx
            simp only [SV.Is] at hx
            obtain ⟨ao, cap, hx, _⟩ := hx.1
            exact .inl ⟨_, fun w2 => run_len_slice hP rfl hop hx⟩
          · rename_i id e1
            rw [e1] at hx
            simp only [SV.Is] at hx
            split at he
            · rename_i E' k l hob
              obtain ⟨q, hr1, hoi⟩ := h.objs id (by rw [hob]; simp)
              rw [hob] at hoi
              rw [hx] at hr1
              cases hr1
              obtain ⟨ao, cap, hx, _⟩ := row_len hoi.1
              exact .inl ⟨_, fun w2 => run_len_slice hP rfl hop hx⟩
            · cases he
          · rename_i id lo len e1
            rw [e1] at hx
            simp only [SV.Is] at hx
            obtain ⟨ao, n, c, _, _, _, _, a', c', hx, _⟩ := hx
            exact .inl ⟨_, fun w2 => run_len_slice hP rfl hop hx⟩
          · rename_i e1
            rw [e1] at hx
            simp only [SV.Is] at hx
            exact .inl ⟨_, fun w2 => run_len_slice hP rfl hop hx.1⟩
          · cases he
        · cases he
      · cases he
    · cases he
  · rename_i op t x y t' hop
    split at he
    · rename_i k z k' z' e1 e2
      have hx := h.ev x
      have hy := h.ev y
      rw [e1] at hx
      rw [e2] at hy
      simp only [SV.Is] at hx hy
      have hw : WI P (do eqGuard op t x y (.int k z) (.int k' z'); binOp op t (.int k z) (.int k' z')) := wi_binint op t x y k k' z z'
      have hex : execOp a.eval o = ((do eqGuard op t x y (.int k z) (.int k' z'); binOp op t (.int k z) (.int k' z')) >>= fun v => pure (.value v)) := by
        simp only [execOp, hop, hx.1, hy.1]
      rw [hex]
      rcases hw with ⟨v, hv⟩ | hh
      · exact .inl ⟨v, fun w2 => by rw [Sem.run_bind, hv w2]; rfl⟩
      · obtain ⟨q, w', hq⟩ := hh w
        exact .inr ⟨q, w', by rw [Sem.run_bind, hq]; rfl⟩
    · cases he
  · cases he
theorem split_sound {ops : Array Oper} {K : AS → Prop} : ∀ (l : List (Nat × Oper)) (s : AS), Sat w0 r s a w → splitG ops.toList l K s → ∃ s', Sat w0 r s' a w ∧ K s'
  | [], s, h, hv => ⟨s, h, hv⟩
  | x :: l, s, h, hv => by
    unfold splitG at hv
    split at hv
    · rename_i j want hg
      split at hv
      · rename_i t hd
        split at hv
        · rename_i b hb
          obtain ⟨u, hu, hx⟩ := slot_at h hb (by simp)
          simp only [SV.Is] at hx
          obtain ⟨rfl, _⟩ := hx
          cases b with
          | true => exact split_sound l _ (h.refine hu (by simp only [SV.Is])) (hv.1 rfl)
          | false => exact split_sound l _ (h.refine hu (by simp only [SV.Is])) (hv.2 rfl)
        · exact split_sound l s h hv
      · exact split_sound l s h hv
    · exact split_sound l s h hv
theorem want_sound (h : Sat w0 r s a w) {ops : Array Oper} {b : Bool} (hw : wantT ops.toList s o.guard = some b) : Region.wanted o (yielded ops a.tmps) = b := by
  unfold wantT at hw
  split at hw
  · rename_i hg
    cases hw
    simp [Region.wanted, hg]
  · rename_i j want hg
    split at hw
    · rename_i t hd
      have hd : (ops[j]?).bind (·.dst) = some t := by simpa using hd
      split at hw
      · rename_i c hb
        cases hw
        obtain ⟨u, hu, hx⟩ := slot_at h hb (by simp)
        simp only [SV.Is] at hx
        subst hx
        have hyl := yield_of (a := a) hd hu
        simp only at hyl
        simp [Region.wanted, hg, hyl]
      · rename_i hb
        cases hw
        obtain ⟨u, hu, hx⟩ := slot_at h hb (by simp)
        simp only [SV.Is] at hx
        obtain ⟨cs, rfl, _⟩ := hx
        have hyl := yield_of (a := a) hd hu
        simp only at hyl
        simp [Region.wanted, hg, hyl]
      · cases hw
    · cases hw
/-- What is known behind an operation. -/
def After (fz : Bool) (w0 : Fr) (K : AS → Prop) (a : Act) (w : World) : Prop := ∃ w1 r s, Fr.le fz w0 w1 ∧ Sat w1 r s a w ∧ K s
theorem step_cases (ht : ttOk P C.tt) (hA : C.A = std) (hG : GOk P C.G) (hI : IOk P C.fz C.I) {ops : Array Oper} {o : Oper} {K : AS → Prop} (h : Sat w0 r s a w) (hv : stepT C ops.toList o K s) :
    (Region.wanted o (yielded ops a.tmps) = true ∧ ∀ Q, o.wp P a w (After C.fz w0 K) Q) ∨ (Region.wanted o (yielded ops a.tmps) = false ∧ After C.fz w0 K (a.put o.dst undef) w) := by
  unfold stepT at hv
  refine ask_sound (o := o) h hv ?_ ?_
  · intro s' h' hv' hw
    exact .inl ⟨hw, fun Q => eff_wp h' ht hA hG hI hv' fun w1 r' s'' a' w' hl h'' hv'' => ⟨w1, r', s'', hl, h'', hv''⟩⟩
  · intro s' h' hv' hw
    exact .inr ⟨hw, w0, r, _, Fr.le.refl _ _, h'.put (undef_is w0.g) o.dst, hv'⟩
/-- One operation, picked. -/
theorem step_wpOp {Q : Exit → Act → World → Prop} {ops : Array Oper} {i : Nat} {K K' : Act → World → Prop} {o : Oper} (ho : ops[i]? = some o) (hc : (Region.wanted o (yielded ops a.tmps) = true ∧ ∀ Q, o.wp P a w K Q) ∨ (Region.wanted o (yielded ops a.tmps) = false ∧ K (a.put o.dst undef) w)) (hK : ∀ a' w', K a' w' → K' a' w') : wpOp P ops Q i K' a w := by
  refine wpOp_mono hK ?_
  unfold wpOp
  simp only [ho]
  rcases hc with ⟨hw, h⟩ | ⟨hw, h⟩
  · rw [if_pos hw]; exact .inl (h Q)
  · rw [if_neg (by rw [hw]; simp)]; exact h
/-- What it yields, where that hangs on S alone. -/
theorem yields_of {ops : Array Oper} {K : Act → World → Prop} {S : World → Prop} (hc : (Region.wanted o (yielded ops a.tmps) = true ∧ ∀ Q, o.wp P a w K Q) ∨ (Region.wanted o (yielded ops a.tmps) = false ∧ K (a.put o.dst undef) w)) (hS : S w)
    (hrun : Region.wanted o (yielded ops a.tmps) = true → (∃ v, ∀ w2, S w2 → (execOp a.eval o).run P w2 = .ok (.value v) w2) ∨ (∃ x w', (execOp a.eval o).run P w = .halt x w')) : ∃ v, YieldsIf P ops S o v a ∧ K (a.put o.dst v) w := by
  rcases hc with ⟨hw, h⟩ | ⟨hw, h⟩
  · rcases hrun hw with ⟨v, hv⟩ | ⟨x, w', hx⟩
    · have h1 := h fun _ _ _ => False
      unfold Oper.wp at h1
      rw [hv w hS, Oper.upon_value] at h1
      exact ⟨v, .inl ⟨hw, hv⟩, h1⟩
    · have h1 := h fun _ _ _ => False
      unfold Oper.wp at h1
      rw [hx] at h1
      cases x <;> exact h1.elim
  · exact ⟨undef, .inr ⟨hw, rfl⟩, h⟩
/-- A mask tells who has come up. -/
def MaskOk (ops : Array Oper) (m : Nat) (listed : Array Bool) : Prop := listed.size = ops.size ∧ ∀ j, listed.getD j false = Nat.testBit m j
theorem mask_set {ops : Array Oper} {m : Nat} {listed : Array Bool} (h : MaskOk ops m listed) {i : Nat} (hi : i < ops.size) : MaskOk ops (Nat.lor m (Nat.shiftLeft 1 i)) (listed.setIfInBounds i true) := by
  refine ⟨by simp [h.1], fun j => ?_⟩
  show _ = (m ||| (1 <<< i)).testBit j
  rw [Nat.testBit_or, Nat.one_shiftLeft, Nat.testBit_two_pow, ← h.2 j]
  by_cases e : i = j
  · subst e
    have : i < listed.size := by rw [h.1]; exact hi
    simp [this]
  · rw [getD_set_ne false e]
    simp [e]
theorem foldM_bit (q : Nat) : ∀ (l : List Nat) (s : Nat), Nat.testBit (l.foldl (fun s k => Nat.lor s (Nat.shiftLeft 1 k)) s) q = true ↔ Nat.testBit s q = true ∨ q ∈ l
  | [], s => by simp
  | k :: l, s => by
    simp only [List.foldl_cons]
    rw [foldM_bit q l]
    have e : Nat.testBit (Nat.lor s (Nat.shiftLeft 1 k)) q = true ↔ Nat.testBit s q = true ∨ q = k := by
      show Nat.testBit (s ||| (1 <<< k)) q = true ↔ _
      rw [Nat.testBit_or, Nat.one_shiftLeft, Nat.testBit_two_pow]
      simp only [Bool.or_eq_true, decide_eq_true_eq]
      exact ⟨fun h => h.imp id Eq.symm, fun h => h.imp id Eq.symm⟩
    rw [e, List.mem_cons, or_assoc]
theorem onM_bit {o : Oper} {q : Nat} : Nat.testBit (onM o) q = true ↔ q ∈ ons o := by
  unfold onM
  rw [foldM_bit]
  simp
theorem subM_iff {b m : Nat} : subM b m = true ↔ ∀ x, Nat.testBit b x = true → Nat.testBit m x = true := by
  have key : subM b m = true ↔ b ||| m = m := by
    unfold subM
    rw [Nat.beq_eq]
    show (b ||| m) - m = 0 ↔ _
    have : m ≤ b ||| m := Nat.right_le_or
    omega
  rw [key]
  constructor
  · intro h1 x hx
    rw [← h1, Nat.testBit_or, hx]; rfl
  · intro h
    refine Nat.eq_of_testBit_eq fun x => ?_
    rw [Nat.testBit_or]
    cases hx : Nat.testBit b x with
    | false => rfl
    | true => rw [h x hx]; rfl
theorem readyT_mem {m : Nat} : ∀ (l : List Oper) (k i : Nat) (o : Oper), (i, o) ∈ readyT m k (waitsL l) ↔ ∃ j, i = k + j ∧ l[j]? = some o ∧ Nat.testBit m i = false ∧ ∀ q ∈ ons o, Nat.testBit m q = true
  | [], k, i, o => by simp [readyT, waitsL]
  | x :: l, k, i, o => by
    have ih := readyT_mem (m := m) l (k + 1) i o
    have hshift : (∃ j, i = k + 1 + j ∧ l[j]? = some o ∧ Nat.testBit m i = false ∧ ∀ q ∈ ons o, Nat.testBit m q = true) ↔ ∃ j, i = k + (j + 1) ∧ (x :: l)[j + 1]? = some o ∧ Nat.testBit m i = false ∧ ∀ q ∈ ons o, Nat.testBit m q = true := by
      constructor
      · rintro ⟨j, h1, h2⟩; exact ⟨j, by omega, by simpa using h2⟩
      · rintro ⟨j, h1, h2⟩; exact ⟨j, by omega, by simpa using h2⟩
    have hsub : subM (onM x) m = true ↔ ∀ q ∈ ons x, Nat.testBit m q = true := by
      rw [subM_iff]
      exact forall_congr' fun q => by rw [onM_bit]
    have no : ¬ (Nat.testBit m k = false ∧ subM (onM x) m = true) → ((i, o) ∈ readyT m (k + 1) (waitsL l) ↔ ∃ j, i = k + j ∧ (x :: l)[j]? = some o ∧ Nat.testBit m i = false ∧ ∀ q ∈ ons o, Nat.testBit m q = true) := by
      intro hn
      rw [ih, hshift]
      constructor
      · rintro ⟨j, h⟩; exact ⟨j + 1, h⟩
      · rintro ⟨j, h1, h2, h3, h4⟩
        cases j with
        | zero =>
          exfalso
          simp at h2
          subst h2
          have h1 : i = k := by omega
          subst h1
          exact hn ⟨h3, hsub.2 h4⟩
        | succ j => exact ⟨j, h1, h2, h3, h4⟩
    unfold waitsL readyT
    cases hb : Nat.testBit m k with
    | true => exact no fun h => by rw [hb] at h; cases h.1
    | false =>
      cases hs : subM (onM x) m with
      | false => simp only [hs]; exact no fun h => by rw [hs] at h; cases h.2
      | true =>
        simp only [hs, List.mem_cons, Prod.mk.injEq]
        rw [ih, hshift]
        constructor
        · rintro (⟨rfl, rfl⟩ | ⟨j, h⟩)
          · exact ⟨0, rfl, rfl, hb, hsub.1 hs⟩
          · exact ⟨j + 1, h⟩
        · rintro ⟨j, h1, h2, h3⟩
          cases j with
          | zero => exact .inl ⟨h1, by simpa using h2.symm⟩
          | succ j => exact .inr ⟨j, h1, h2, h3⟩
theorem ready_iff {ops : Array Oper} {m : Nat} {listed : Array Bool} (h : MaskOk ops m listed) (i : Nat) : i ∈ Region.ready .any ops listed ↔ ∃ o, ops[i]? = some o ∧ (i, o) ∈ readyT m 0 (waitsL ops.toList) := by
  rw [mem_ready]
  constructor
  · rintro ⟨h0, o, ho, hall⟩
    refine ⟨o, ho, (readyT_mem _ _ _ _).2 ⟨i, by omega, by simpa using ho, ?_, fun q hq => ?_⟩⟩
    · rw [← h.2]; exact getD_both h0
    · obtain ⟨e, he, hb, rfl⟩ := mem_ons.1 hq
      rw [← h.2]; exact hall e he hb
  · rintro ⟨o, ho, hmem⟩
    obtain ⟨j, hj, _, h1, h2⟩ := (readyT_mem _ _ _ _).1 hmem
    refine ⟨?_, o, ho, fun e he hb => ?_⟩
    · refine getD_in ?_ ?_
      · rw [h.1]; exact (Array.getElem?_eq_some_iff.1 ho).1
      · rw [h.2]; exact h1
    · rw [h.2]; exact h2 _ (mem_ons.2 ⟨e, he, hb, rfl⟩)
theorem ready_at {ops : Array Oper} {m i : Nat} {o : Oper} (h : (i, o) ∈ readyT m 0 (waitsL ops.toList)) : ops[i]? = some o := by
  obtain ⟨j, hj, ho, _⟩ := (readyT_mem _ _ _ _).1 h
  have hj : i = j := by omega
  subst hj
  simpa using ho
theorem ready_nil {ops : Array Oper} {m : Nat} {listed : Array Bool} (h : MaskOk ops m listed) : Region.ready .any ops listed = [] ↔ readyT m 0 (waitsL ops.toList) = [] := by
  rw [List.eq_nil_iff_forall_not_mem, List.eq_nil_iff_forall_not_mem]
  constructor
  · rintro hh ⟨i, o⟩ hm
    exact hh i ((ready_iff h i).2 ⟨o, ready_at hm, hm⟩)
  · intro hh i hi
    obtain ⟨o, _, hm⟩ := (ready_iff h i).1 hi
    exact hh _ hm
/-- Whoever is not of the mask and need not stand behind i is as p says. -/
theorem badT_spec {p : Op → Bool} {cl : List Nat} {i m : Nat} : ∀ (l : List Oper) (k : Nat), subM (badT p cl i k l) m = true → ∀ j o, l[j]? = some o → Nat.testBit m (k + j) = false → k + j ≠ i → Nat.testBit (cl.getD (k + j) 0) i = false → p o.op = true
  | [], k, _, j, o, h, _, _, _ => by simp at h
  | q :: l, k, hs, j, o, h, hm, hne, hcl => by
    have hsub : ∀ b, subM b m = true → ∀ x, Nat.testBit b x = true → Nat.testBit m x = true := fun b hb => subM_iff.1 hb
    unfold badT at hs
    cases hb : (Nat.beq k i || (p q.op || Nat.testBit (cl.getD k 0) i)) with
    | true =>
      rw [hb] at hs
      cases j with
      | zero =>
        simp at h
        subst h
        simp only [Bool.or_eq_true, Nat.add_zero] at hb hcl hne
        rcases hb with hb | hb | hb
        · exact absurd (Nat.eq_of_beq_eq_true hb) hne
        · exact hb
        · rw [hb] at hcl; cases hcl
      | succ j => exact badT_spec l (k + 1) hs j o (by simpa using h) (by rw [show k + 1 + j = k + (j + 1) from by omega]; exact hm) (by omega) (by rw [show k + 1 + j = k + (j + 1) from by omega]; exact hcl)
    | false =>
      rw [hb] at hs
      simp only at hs
      have htail : subM (badT p cl i (k + 1) l) m = true := by
        refine subM_iff.2 fun x hx => hsub _ hs x ?_
        show ((1 <<< k) ||| badT p cl i (k + 1) l).testBit x = true
        rw [Nat.testBit_or, hx]; simp
      cases j with
      | zero =>
        have := hsub _ hs k (by
          show ((1 <<< k) ||| badT p cl i (k + 1) l).testBit k = true
          rw [Nat.testBit_or, Nat.one_shiftLeft, Nat.testBit_two_pow]; simp)
        rw [Nat.add_zero] at hm
        rw [this] at hm; cases hm
      | succ j => exact badT_spec l (k + 1) htail j o (by simpa using h) (by rw [show k + 1 + j = k + (j + 1) from by omega]; exact hm) (by omega) (by rw [show k + 1 + j = k + (j + 1) from by omega]; exact hcl)
/-- What is asked of a region by its text. -/
def treeOk (ops : Array Oper) : Bool := Region.noSelect ops && (List.range ops.size).all fun i => (List.range ops.size).all fun j => Nat.beq j i || Region.waitsFor .any ops j i || Region.waitsFor .any ops i j || (match ops[i]?, ops[j]? with | some x, some y => x.apart ops y | _, _ => true)
theorem treeOk_free {ops : Array Oper} (hok : treeOk ops = true) {listed : Array Bool} {i : Nat} (hr : i ∈ Region.ready .any ops listed) {oi : Oper} (hi : ops[i]? = some oi) : ∀ j oj, ops[j]? = some oj → j ≠ i → listed.getD j true = false → (∀ e ∈ oj.after, Region.binds .any e = true → e.on ≠ i) → oi.apart ops oj = true := by
  intro j oj hj hne hun hno
  unfold treeOk at hok
  simp only [Bool.and_eq_true, List.all_eq_true, List.mem_range, Bool.or_eq_true] at hok
  have := hok.2 i (Array.getElem?_eq_some_iff.1 hi).1 j (Array.getElem?_eq_some_iff.1 hj).1
  rw [hi, hj] at this
  rcases this with ((h | h) | h) | h
  · exact absurd (Nat.eq_of_beq_eq_true h) hne
  · obtain ⟨oj2, hoj2, e, he, hb2, hon⟩ := Region.waitsFor_spec h
    rw [hj] at hoj2
    cases hoj2
    exact absurd hon (hno e he hb2)
  · obtain ⟨oi2, hoi2, e, he, hb2, hon⟩ := Region.waitsFor_spec h
    obtain ⟨_, oi3, hoi3, hall⟩ := mem_ready.1 hr
    rw [hoi2] at hoi3
    cases hoi3
    have := hall e he hb2
    rw [hon, getD_both hun] at this
    cases this
  · exact h
theorem noWr_spec {m q : Nat} : ∀ (l : List Oper) (k : Nat), noWr m q k l = true → ∀ j o, l[j]? = some o → Nat.testBit m (k + j) = false → o.dst ≠ some q
  | [], k, _, j, o, h, _ => by simp at h
  | x :: l, k, hs, j, o, h, hm => by
    unfold noWr at hs
    simp only [Bool.and_eq_true] at hs
    cases j with
    | zero =>
      simp at h
      subst h
      have h1 := hs.1
      rw [Nat.add_zero] at hm
      rw [hm, Bool.false_or] at h1
      intro e
      rw [e] at h1
      simp only [Nat.beq_refl, Bool.not_true] at h1
      cases h1
    | succ j => exact noWr_spec l (k + 1) hs.2 j o (by simpa using h) (by rw [show k + 1 + j = k + (j + 1) from by omega]; exact hm)
theorem storesT_spec {ops : List Oper} {s : AS} {cl : List Nat} {m i id : Nat} : ∀ (l : List Oper) (k : Nat), storesT ops s cl m i id k l = true → ∀ j o, l[j]? = some o → Nat.testBit m (k + j) = false → Nat.testBit (cl.getD (k + j) 0) i = false → isStore o.op = true →
    ∃ t q x id', o.op = .store t (.tmp q) x ∧ id ≠ id' ∧ noWr m q 0 ops = true ∧ ((∃ off T l, s.slots.get q = .ptr id' off ∧ s.ob id' = .cells T l) ∨ (∃ ix E k l, s.slots.get q = .elt id' ix ∧ s.ob id' = .irow E k l))
  | [], k, _, j, o, h, _, _, _ => by simp at h
  | x :: l, k, hs, j, o, h, hm, hcl, hst => by
    unfold storesT at hs
    cases hb : (Nat.testBit m k || (Nat.testBit (cl.getD k 0) i || !isStore x.op)) with
    | true =>
      rw [hb] at hs
      cases j with
      | zero =>
        exfalso
        simp at h
        subst h
        rw [Nat.add_zero] at hm hcl
        rw [hm, hcl, hst] at hb
        cases hb
      | succ j => exact storesT_spec l (k + 1) hs j o (by simpa using h) (by rw [show k + 1 + j = k + (j + 1) from by omega]; exact hm) (by rw [show k + 1 + j = k + (j + 1) from by omega]; exact hcl) hst
    | false =>
      rw [hb] at hs
      simp only at hs
      have hne : ∀ {id' : Nat}, (!Nat.beq id id') = true → id ≠ id' := fun h e => by rw [e, Nat.beq_refl] at h; cases h
      split at hs
      · rename_i t q y hop
        split at hs
        · rename_i id' off hq
          simp only [Bool.and_eq_true] at hs
          obtain ⟨h1, h2, h3, h4⟩ := hs
          cases j with
          | zero =>
            simp at h
            subst h
            refine ⟨t, q, y, id', hop, hne h1, h3, .inl ?_⟩
            cases hob : s.ob id' with
            | cells T l => exact ⟨off, T, l, hq, rfl⟩
            | irow E k l => rw [hob] at h2; cases h2
            | srow E T d => rw [hob] at h2; cases h2
            | gone => rw [hob] at h2; cases h2
          | succ j => exact storesT_spec l (k + 1) h4 j o (by simpa using h) (by rw [show k + 1 + j = k + (j + 1) from by omega]; exact hm) (by rw [show k + 1 + j = k + (j + 1) from by omega]; exact hcl) hst
        · rename_i id' ix hq
          simp only [Bool.and_eq_true] at hs
          obtain ⟨h1, h2, h3, h4⟩ := hs
          cases j with
          | zero =>
            simp at h
            subst h
            refine ⟨t, q, y, id', hop, hne h1, h3, .inr ?_⟩
            cases hob : s.ob id' with
            | irow E k l => exact ⟨ix, E, k, l, hq, rfl⟩
            | cells E l => rw [hob] at h2; cases h2
            | srow E T d => rw [hob] at h2; cases h2
            | gone => rw [hob] at h2; cases h2
          | succ j => exact storesT_spec l (k + 1) h4 j o (by simpa using h) (by rw [show k + 1 + j = k + (j + 1) from by omega]; exact hm) (by rw [show k + 1 + j = k + (j + 1) from by omega]; exact hcl) hst
        · cases hs
      · cases hs
theorem Sat.rowAt (h : Sat w0 r s a w) {q id' : Nat} (hq : (∃ off T l, s.slots.get q = .ptr id' off ∧ s.ob id' = .cells T l) ∨ (∃ ix E k l, s.slots.get q = .elt id' ix ∧ s.ob id' = .irow E k l)) :
    ∃ b off hv, r id' = some hv ∧ blk hv = some b ∧ s.ob id' ≠ .gone ∧ a.tmps.getD q undef = .pointer (some ⟨b, off, none⟩) ∧ IsRow w b := by
  rcases hq with ⟨off, T, l, h1, h2⟩ | ⟨ix, E, k, l, h1, h2⟩
  · have hx := h.slots.get q
    rw [h1] at hx
    simp only [SV.Is] at hx
    obtain ⟨hv, b, h3, h4, h5⟩ := hx
    obtain ⟨q', hq', hoi⟩ := h.objs id' (by rw [h2]; simp)
    rw [h3] at hq'
    cases hq'
    rw [h2] at hoi
    obtain ⟨b', cs, hb1, _, hb2, _⟩ := hoi
    rw [h4] at hb1
    cases hb1
    exact ⟨b, off, hv, h3, h4, by rw [h2]; simp, h5, _, _, _, hb2⟩
  · have hx := h.slots.get q
    rw [h1] at hx
    simp only [SV.Is] at hx
    obtain ⟨b, n, c, h3, h4, h5, h6⟩ := hx
    obtain ⟨q', hq', hoi⟩ := h.objs id' (by rw [h2]; simp)
    rw [h3] at hq'
    cases hq'
    rw [h2] at hoi
    obtain ⟨hown, hfit⟩ := hoi
    have hlen : l.length = n := by
      obtain ⟨_, _, he, _⟩ := holds_own hown
      rw [kv_len] at he
      injection he with _ e2 _
      exact e2.symm
    subst hlen
    have hcell := hown.cellAt ix.toNat (by rw [Nat.mul_one]; omega)
    rw [kv_getD k l ix.toNat (by omega)] at hcell
    refine ⟨b, ix.toNat, _, h3, rfl, by rw [h2]; simp, h6, ?_⟩
    unfold World.cell? at hcell
    split at hcell
    · rename_i c' T z hh
      exact ⟨_, _, _, hh⟩
    · cases hcell
/-- Who comes first, and why that may be. -/
theorem firstT_spec {ops : List Oper} {cl : List Nat} {m : Nat} : ∀ (l : List (Nat × Oper)) (x : Nat × Oper), firstT C ops cl m s l = some x → x ∈ l ∧ (wantT ops s x.2.guard = some false ∨ (wantT ops s x.2.guard = some true ∧ (eagD C s x.2.op = true ∨ (stillK x.2.op = true ∧ subM (badT stillK cl x.1 0 ops) m = true) ∨ loadT C ops cl m s x.1 (badT (fun o => stillK o || isStore o) cl x.1 0 ops) x.2.op = true)))
  | [], x, h => by cases h
  | y :: l, x, h => by
    have tail : firstT C ops cl m s l = some x → x ∈ y :: l ∧ (wantT ops s x.2.guard = some false ∨ (wantT ops s x.2.guard = some true ∧ (eagD C s x.2.op = true ∨ (stillK x.2.op = true ∧ subM (badT stillK cl x.1 0 ops) m = true) ∨ loadT C ops cl m s x.1 (badT (fun o => stillK o || isStore o) cl x.1 0 ops) x.2.op = true))) := fun h => by
      obtain ⟨h1, h2⟩ := firstT_spec l x h
      exact ⟨List.mem_cons_of_mem _ h1, h2⟩
    unfold firstT at h
    split at h
    · rename_i hw
      cases h
      exact ⟨by simp, .inl hw⟩
    · rename_i hw
      split at h
      · rename_i he
        cases h
        exact ⟨by simp, .inr ⟨hw, .inl he⟩⟩
      · split at h
        · rename_i hst
          split at h
          · rename_i hb
            cases h
            simp only [Bool.or_eq_true] at hb
            exact ⟨by simp, .inr ⟨hw, .inr (hb.imp (fun hb => ⟨hst, hb⟩) id)⟩⟩
          · exact tail h
        · exact tail h
    · exact tail h
/-- A REGION, WHATEVER ITS ORDER. -/
theorem tree_wp (ht : ttOk P C.tt) (hA : C.A = std) (hG : GOk P C.G) (hI : IOk P C.fz C.I) {ops : Array Oper} (hok : treeOk ops = true) {K : AS → Prop} {Q : Exit → Act → World → Prop} (hQ0 : ∀ c a w, ¬ Q (.panic c) a w) :
    ∀ (f m : Nat) (listed : Array Bool) (w0 : Fr) (r : Nat → Option Value) (s : AS) (a : Act) (w : World), Sat w0 r s a w → MaskOk ops m listed → ClosedL ops listed → vcTree C ops.toList (clAll ops.toList []) (waitsL ops.toList) K f m s →
    (∀ w1 r' s' a' w', Fr.le C.fz w0 w1 → Sat w1 r' s' a' w' → K s' → Q .normal a' w') → wpAny P .any ops Q f listed a w
  | 0, m, listed, w0, r, s, a, w, h, hm, hcl, hv, hQ => by
    unfold vcTree at hv
    split at hv
    · rename_i hr
      exact ⟨(ready_nil hm).2 hr, hQ _ _ _ _ _ (Fr.le.refl _ _) h hv⟩
    · exact hv.elim
  | f + 1, m, listed, w0, r, s, a, w, h, hm, hcl, hv, hQ => by
    have hsel : ∀ (j : Nat) (o : Oper) cs b, ops[j]? = some o → o.op ≠ .select cs b := by
      unfold treeOk at hok
      simp only [Bool.and_eq_true] at hok
      exact Region.noSelect_spec hok.1
    unfold vcTree at hv
    cases hrs : readyT m 0 (waitsL ops.toList) with
    | nil =>
      rw [hrs] at hv
      have h0 := (ready_nil hm).2 hrs
      exact ⟨fun _ => hQ _ _ _ _ _ (Fr.le.refl _ _) h hv, fun i hi => by rw [h0] at hi; cases hi⟩
    | cons x0 xs =>
      rw [hrs] at hv
      simp only at hv
      rw [← hrs] at hv
      obtain ⟨s', h', hv⟩ := split_sound _ _ h hv
      have hlt : ∀ i o, (i, o) ∈ readyT m 0 (waitsL ops.toList) → i < ops.size := fun i o hi => (Array.getElem?_eq_some_iff.1 (ready_at hi)).1
      have go : ∀ i o, (i, o) ∈ readyT m 0 (waitsL ops.toList) → ∀ a' w', After C.fz w0 (fun s => vcTree C ops.toList (clAll ops.toList []) (waitsL ops.toList) K f (Nat.lor m (Nat.shiftLeft 1 i)) s) a' w' → wpAny P .any ops Q f (listed.setIfInBounds i true) a' w' := by
        rintro i o hi a' w' ⟨w1, r1, s1, hl, h1, hk⟩
        exact tree_wp ht hA hG hI hok hQ0 f _ _ w1 r1 s1 a' w' h1 (mask_set hm (hlt i o hi)) (closed_set hcl ((ready_iff hm i).2 ⟨o, ready_at hi, hi⟩)) hk fun w2 r2 s2 a2 w3 hl2 => hQ w2 r2 s2 a2 w3 (hl.trans hl2)
      split at hv
      · rename_i x hf
        obtain ⟨i, o⟩ := x
        obtain ⟨hi, hwhy⟩ := firstT_spec _ _ hf
        have go := go i o hi
        simp only at hv hwhy
        have ho := ready_at hi
        have hir := (ready_iff hm i).2 ⟨o, ho, hi⟩
        have hc := step_cases ht hA hG hI h' hv
        have hfree := treeOk_free hok hir ho
        have hQp : ∀ v, ∀ c a w, Q (.panic c) (a.put o.dst v) w → Q (.panic c) a w := fun v c a w hq => absurd hq (hQ0 _ _ _)
        have hun : ∀ j oj, ops[j]? = some oj → listed.getD j true = false → Nat.testBit m j = false := fun j oj hj hl => by rw [← hm.2]; exact getD_both hl
        have hD : ∀ j, Dof ops j i = false → Nat.testBit ((clAll ops.toList []).getD j 0) i = false := fun j hj => hj
        rcases hwhy with hw | ⟨hw, hwhy⟩
        · have hwt := want_sound h' hw
          obtain ⟨v, hy, hk⟩ := yields_of (S := fun _ => True) hc trivial fun hh => by rw [hwt] at hh; cases hh
          exact wpAny_first ho hsel (hQp v) f listed a w hfree hir (hy.imp (fun hh => ⟨hh.1, fun w2 => hh.2 w2 trivial⟩) id) (go _ _ hk)
        · rcases hwhy with he | ⟨hst, hsub⟩ | hload
          · obtain ⟨v, hy, hk⟩ := yields_of (S := fun _ => True) hc trivial fun _ => (eagD_sound h' ht he).imp (fun ⟨v, hv⟩ => ⟨v, fun w2 _ => hv w2⟩) id
            exact wpAny_first ho hsel (hQp v) f listed a w hfree hir (hy.imp (fun hh => ⟨hh.1, fun w2 => hh.2 w2 trivial⟩) id) (go _ _ hk)
          · obtain ⟨v, hy, hk⟩ := yields_of (S := fun w' => w' = w) hc rfl fun _ => by
              cases hr : (execOp a.eval o).run P w with
              | ok nxt w' =>
                obtain ⟨rfl, u, rfl⟩ := stillK_still hst _ _ _ _ hr
                exact .inl ⟨u, fun w2 e => by rw [e]; exact hr⟩
              | halt x w' => exact .inr ⟨x, w', rfl⟩
            refine first_gen (Dof_closed ops) (qs := fun _ => False) (A := fun _ => undef) ho hsel (hQp v) f listed a w hcl ?_ hir hy rfl (fun q hq => hq.elim) (go _ _ hk)
            intro j oj hj hne hl hd hno
            refine ⟨hfree j oj hj hne hl hno, fun q hq => hq.elim, fun a' _ w1 nxt w' hS hr => ?_⟩
            have hsk := badT_spec (p := stillK) _ 0 hsub j oj (by simpa using hj) (by rw [Nat.zero_add]; exact hun j oj hj hl) (by omega) (by rw [Nat.zero_add]; exact hD j hd)
            obtain ⟨rfl, u, rfl⟩ := stillK_still hsk _ _ _ _ hr
            exact ⟨.inl ⟨u, rfl⟩, hS⟩
          · unfold loadT at hload
            split at hload
            · rename_i t p hop
              split at hload
              · rename_i id off e1
                simp only [Bool.and_eq_true] at hload
                obtain ⟨hsub, hob, hstores⟩ := hload
                cases hobe : s'.ob id with
                | irow E k l => rw [hobe] at hob; cases hob
                | srow E T d => rw [hobe] at hob; cases hob
                | gone => rw [hobe] at hob; cases hob
                | cells T l =>
                rw [hobe] at hob
                simp only [Bool.and_eq_true] at hob
                have hs := nble hob.1
                have hfl := nble hob.2
                have hpi := h'.ev p
                rw [e1] at hpi
                simp only [SV.Is] at hpi
                obtain ⟨hv0, b, g1, g2, g3⟩ := hpi
                obtain ⟨q', hq', hoi⟩ := h'.objs id (by rw [hobe]; simp)
                rw [g1] at hq'
                cases hq'
                rw [hobe] at hoi
                obtain ⟨b', cs, hb1, _, hb2, hls2⟩ := hoi
                rw [g2] at hb1
                cases hb1
                have hT := td_ok ht hs
                have hlen : ((cs.toList.drop off).take (C.td t).size).length = (C.td t).size := by
                  have := lsIs_len hls2
                  rw [List.length_take, List.length_drop]
                  omega
                obtain ⟨v, hy, hk⟩ := yields_of (S := fun w' => w'.heap[b]? = w.heap[b]? ∧ ∀ c, IsRow w c → IsRow w' c) hc ⟨rfl, fun _ h => h⟩ fun _ => .inl ⟨if (C.td t).agg = true then .agg ((cs.toList.drop off).take (C.td t).size).toArray else ((cs.toList.drop off).take (C.td t).size).headD undef, fun w' hw' => by
                  have hb3 := hw'.1.trans hb2
                  have hrun := run_loadAt (P := P) (w := w') hT (a := ⟨b, off, none⟩) hlen hs (fun j v hj => by
                    rw [Addr.add_lit]
                    refine cell_at hb3 ?_
                    rw [List.getElem?_take] at hj
                    split at hj
                    · rw [List.getElem?_drop] at hj
                      simpa using hj
                    · cases hj)
                  simp only [execOp, hop, g3]
                  rw [Sem.run_bind, hrun]
                  rfl⟩
                refine first_gen (Dof_closed ops) (qs := fun q => noWr m q 0 ops.toList = true) (A := fun q => a.tmps.getD q undef) (S := fun w' => w'.heap[b]? = w.heap[b]? ∧ ∀ c, IsRow w c → IsRow w' c) ho hsel (hQp v) f listed a w hcl ?_ hir hy ⟨rfl, fun _ h => h⟩ (fun q _ => rfl) (go _ _ hk)
                intro j oj hj hne hl hd hno
                have hmj := hun j oj hj hl
                refine ⟨hfree j oj hj hne hl hno, fun q hq => noWr_spec _ 0 hq j oj (by simpa using hj) (by rw [Nat.zero_add]; exact hmj), fun a' ha' w1 nxt w' hS hr => ?_⟩
                have hsk := badT_spec (p := fun o => stillK o || isStore o) _ 0 hsub j oj (by simpa using hj) (by rw [Nat.zero_add]; exact hmj) (by omega) (by rw [Nat.zero_add]; exact hD j hd)
                simp only [Bool.or_eq_true] at hsk
                rcases hsk with hsk | hsk
                · obtain ⟨rfl, u, rfl⟩ := stillK_still hsk _ _ _ _ hr
                  exact ⟨.inl ⟨u, rfl⟩, hS⟩
                · obtain ⟨t2, q, y, id', hst, hne2, hnw, hcase⟩ := storesT_spec _ 0 hstores j oj (by simpa using hj) (by rw [Nat.zero_add]; exact hmj) (by rw [Nat.zero_add]; exact hD j hd) hsk
                  obtain ⟨b2, off2, hv2, k1, k2, k3, k4, k5⟩ := h'.rowAt hcase
                  have hbne : b ≠ b2 := by
                    intro e
                    subst e
                    exact h'.apart id id' _ _ b hne2 (by rw [hobe]; simp) k3 g1 k1 g2 k2
                  have hav : a'.eval (.tmp q) = .pointer (some ⟨b2, off2, none⟩) := by
                    show a'.tmps.getD q undef = _
                    rw [ha' q hnw]; exact k4
                  obtain ⟨j1, j2, j3⟩ := store_far hst hav (hS.2 b2 k5) hr
                  exact ⟨.inr j1, (j2 b hbne).trans hS.1, fun c hc => j3 c (hS.2 c hc)⟩
              · cases hload
            · cases hload
      · rename_i hf
        have hall : ∀ (l : List (Nat × Oper)), allT (fun x => stepT C ops.toList x.2 (fun s => vcTree C ops.toList (clAll ops.toList []) (waitsL ops.toList) K f (Nat.lor m (Nat.shiftLeft 1 x.1)) s) s') l → ∀ x ∈ l, stepT C ops.toList x.2 (fun s => vcTree C ops.toList (clAll ops.toList []) (waitsL ops.toList) K f (Nat.lor m (Nat.shiftLeft 1 x.1)) s) s' := by
          intro l
          induction l with
          | nil => intro _ i hi; cases hi
          | cons x l ih =>
            intro hh i hi
            cases l with
            | nil =>
              simp only [List.mem_singleton] at hi
              subst hi
              exact hh
            | cons y l =>
              rcases List.mem_cons.1 hi with rfl | hi
              · exact hh.1
              · exact ih hh.2 i hi
        refine ⟨fun h0 => ?_, fun i hi => ?_⟩
        · rw [(ready_nil hm)] at h0; rw [h0] at hrs; cases hrs
        · obtain ⟨o, ho, hi2⟩ := (ready_iff hm i).1 hi
          have hc := step_cases ht hA hG hI h' (hall _ hv (i, o) hi2)
          exact step_wpOp ho hc fun a' w' hk => go i o hi2 a' w' hk
theorem SO.Is.drew {g : World} {r : Nat → Option Value} {w : World} {b : Nat} {h : Value} {o : SO} (ho : o.Is g r w b h) (n : Nat) : o.Is g r { w with drawn := n } b h := by
  cases o <;> exact ho
theorem Sat.drew (h : Sat w0 r s a w) (n : Nat) : Sat w0 r s a { w with drawn := n } :=
  ⟨h.slots, h.defs, ⟨h.below.os, h.below.tape, h.below.output, h.below.size, h.below.block⟩, h.gw, h.rn, h.r1, fun id hne => by
    obtain ⟨q, h1, h2⟩ := h.objs id hne
    exact ⟨q, h1, h2.drew n⟩, h.mine, h.apart, h.sav⟩
/-- The same, of a region. -/
theorem tree_region (ht : ttOk P C.tt) (hA : C.A = std) (hG : GOk P C.G) (hI : IOk P C.fz C.I) (hm : P.follows .mixedOrders = true) {ops : Array Oper} (hok : treeOk ops = true) {K : AS → Prop} {Q : Exit → Act → World → Prop} {id : Nat} (h : Sat w0 r s a w)
    (hv : vcTree C ops.toList (clAll ops.toList []) (waitsL ops.toList) K ops.toList.length 0 s) (hQ : ∀ w1 r' s' a' w', Fr.le C.fz w0 w1 → Sat w1 r' s' a' w' → K s' → Q .normal a' w') : (Code.region id ops true).wp P Q a w := by
  refine wp_mono (wp_region_any (Q := fun e a w => e = .normal ∧ Q e a w) hm ?_) fun e a w h => h.2
  have hl : ops.toList.length = ops.size := by simp
  rw [← hl]
  refine tree_wp ht hA hG hI hok (fun c a w hh => by cases hh.1) _ 0 _ w0 r s a _ (h.drew _) ?_ ?_ hv fun w1 r' s' a' w' h1 h2 h3 => ⟨rfl, hQ w1 r' s' a' w' h1 h2 h3⟩
  · exact ⟨by simp, fun j => by rw [getD_replicate_false]; simp⟩
  · intro j oj hj hh
    rw [getD_replicate_false] at hh
    cases hh
end
end Go.Proofs.Ythclcnidbnbkcaa
