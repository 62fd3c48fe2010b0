/- A load that need not stand behind a store of other memory is done ahead of it. No program in sight. -/
import Derived.Test.YtekokhlldcmjfaaPor
import Derived.OrdersHeld
namespace Go.Proofs.Ytekokhlldcmjfaa
open Go.RowKit
set_option linter.unusedVariables false
/-- It leaves the world as it is. -/
def Still (P : Program) (o : Oper) : Prop := ∀ (ρ : Operand → Value) (w : World) (nxt : Next) (w' : World), (execOp ρ o).run P w = .ok nxt w' → w' = w ∧ ∃ u, nxt = .value u
/-- The same, where a frame is as it is asked. -/
def StillAt (P : Program) (F : Act → Prop) (o : Oper) : Prop := ∀ (a : Act), F a → ∀ (w : World) (nxt : Next) (w' : World), (execOp a.eval o).run P w = .ok nxt w' → w' = w ∧ ∃ u, nxt = .value u
theorem Still.at {P : Program} {o : Oper} (h : Still P o) (F : Act → Prop) : StillAt P F o := fun a _ => h a.eval
theorem still_eager {P : Program} {o : Oper} (h : Eager P o) : Still P o := by
  intro ρ w nxt w' hr
  rcases h ρ w with ⟨v, hv⟩ | ⟨x, w2, hx⟩
  · rw [hv w] at hr
    cases hr
    exact ⟨rfl, v, rfl⟩
  · rw [hx] at hr
    cases hr
section
variable {P : Program} {ops : Array Oper} {Q : Exit → Act → World → Prop}
theorem wpOp_more {j : Nat} {oj : Oper} (hj : ops[j]? = some oj) {K T : Act → World → Prop} {a : Act} {w : World} (h : wpOp P ops Q j K a w) (h0 : T (a.put oj.dst undef) w)
    (h1 : ∀ nxt w', (execOp a.eval oj).run P w = .ok nxt w' → (∃ u, nxt = .value u ∧ T (a.put oj.dst u) w') ∨ (nxt = .skip ∧ T (a.put oj.dst undef) w')) : wpOp P ops Q j (fun a' w' => K a' w' ∧ T a' w') a w := by
  unfold wpOp at *
  simp only [hj] at *
  split
  · rename_i hw
    simp only [hw, if_true] at h
    rcases h with h | h
    · left
      unfold Oper.wp at *
      generalize hr : (execOp a.eval oj).run P w = r at *
      cases r with
      | ok n w' =>
        rcases h1 n w' rfl with ⟨u, rfl, ht⟩ | ⟨rfl, ht⟩
        · rw [Oper.upon_value] at h ⊢; exact ⟨h, ht⟩
        · rw [Oper.upon_skip] at h ⊢; exact ⟨h, ht⟩
      | halt x w' => cases x <;> simp only [Oper.upon] at h ⊢ <;> exact h
    · exact .inr h
  · rename_i hw
    rw [if_neg hw] at h
    exact ⟨h, h0⟩
theorem put_keep {a : Act} {d : Option Nat} {u : Value} {q : Nat} (h : d ≠ some q) : (a.put d u).tmps.getD q undef = a.tmps.getD q undef := by
  rw [Array.getD_eq_getD_getElem?, Array.getD_eq_getD_getElem?, put_get_ne h]
theorem getD_set_self {listed : Array Bool} {i : Nat} (h : i < listed.size) : (listed.setIfInBounds i true).getD i true = true := by
  simp [h]
/-- A load, ahead of the one store that need not wait for it. -/
theorem first_keep {k n : Nat} {qs : Nat → Prop} {ok on : Oper} {v : Value} {w : World} {A : Nat → Value} {S : World → Prop} (hk : ops[k]? = some ok) (hkn : k ≠ n) (hon : ops[n]? = some on) (hsel : ∀ (j : Nat) (o : Oper) cs b, ops[j]? = some o → o.op ≠ .select cs b)
    (hQ : ∀ c a w, Q (.panic c) (a.put ok.dst v) w → Q (.panic c) a w) (hnd : on.dst = none)
    (hst : ∀ a' : Act, (∀ q, qs q → a'.tmps.getD q undef = A q) → ∀ nxt w', (execOp a'.eval on).run P w = .ok nxt w' → nxt = .skip ∧ S w') :
    ∀ (fuel : Nat) (listed : Array Bool) (a : Act) (w1 : World), n < listed.size →
      (∀ j oj, ops[j]? = some oj → j ≠ k → listed.getD j true = false → (∀ e ∈ oj.after, Region.binds .any e = true → e.on ≠ k) → ok.apart ops oj = true ∧ (j ≠ n → StillAt P (fun a' => ∀ q, qs q → a'.tmps.getD q undef = A q) oj ∧ ∀ q, qs q → oj.dst ≠ some q)) →
      k ∈ Region.ready .any ops listed → YieldsIf P ops S ok v a → S w1 → (listed.getD n true = false → w1 = w) → (∀ q, qs q → a.tmps.getD q undef = A q) →
      wpAny P .any ops Q fuel (listed.setIfInBounds k true) (a.put ok.dst v) w1 → wpAny P .any ops Q (fuel + 1) listed a w1 := by
  intro fuel
  induction fuel with
  | zero =>
    intro listed a w1 _ _ hr hy hS _ _ H
    refine ⟨fun h => (by rw [h] at hr; cases hr), fun j hj => ?_⟩
    by_cases hji : j = k
    · subst hji; exact hy.wpOp hk hS H
    · have := ready_mono hj hji
      rw [H.1] at this
      cases this
  | succ fuel ih =>
    intro listed a w1 hns hfree hr hy hS hA hB H
    refine ⟨fun h => (by rw [h] at hr; cases hr), fun j hj => ?_⟩
    by_cases hji : j = k
    · subst hji; exact hy.wpOp hk hS H
    · have h1 := H.2 j (ready_mono hj hji)
      obtain ⟨hjun, oj, hoj, hall⟩ := mem_ready.1 hj
      have hnot : ∀ e ∈ oj.after, Region.binds .any e = true → e.on ≠ k := fun e he hb heq => by
        have h1 := hall e he hb
        have h0 := (mem_ready.1 hr).1
        rw [heq] at h1
        rcases Nat.lt_or_ge k listed.size with h' | h'
        · simp [h'] at h0 h1; rw [h0] at h1; cases h1
        · simp [Array.getElem?_eq_none h'] at h1
      obtain ⟨hap, hstill⟩ := hfree j oj hoj hji hjun hnot
      have h2 := wpOp_putIf hoj hap (fun cs b => hsel k ok cs b hk) (fun cs b => hsel j oj cs b hoj) hQ hy h1
      have hfree' : ∀ i oi, ops[i]? = some oi → i ≠ k → (listed.setIfInBounds j true).getD i true = false →
          (∀ e ∈ oi.after, Region.binds .any e = true → e.on ≠ k) → ok.apart ops oi = true ∧ (i ≠ n → StillAt P (fun a' => ∀ q, qs q → a'.tmps.getD q undef = A q) oi ∧ ∀ q, qs q → oi.dst ≠ some q) := fun i oi hi hik hun hno => by
        refine hfree i oi hi hik ?_ hno
        by_cases hjk : j = i
        · subst hjk; exact hjun
        · rw [getD_set_ne true hjk] at hun; exact hun
      have h3 : wpOp P ops Q j (fun a' w' => (YieldsIf P ops S ok v a' ∧ wpAny P .any ops Q fuel ((listed.setIfInBounds k true).setIfInBounds j true) (a'.put ok.dst v) w') ∧ (S w' ∧ ((listed.setIfInBounds j true).getD n true = false → w' = w) ∧ ∀ q, qs q → a'.tmps.getD q undef = A q)) a w1 := by
        refine wpOp_more hoj h2 ⟨hS, fun hu => ?_, fun q hq => ?_⟩ fun nxt w' hrun => ?_
        · by_cases hjn : j = n
          · subst hjn
            rw [getD_set_self hns] at hu; cases hu
          · rw [getD_set_ne true hjn] at hu
            exact hA hu
        · by_cases hjn : j = n
          · subst hjn
            obtain rfl : oj = on := by rw [hoj] at hon; cases hon; rfl
            rw [put_keep (by rw [hnd]; simp)]; exact hB q hq
          · rw [put_keep ((hstill hjn).2 q hq)]; exact hB q hq
        · by_cases hjn : j = n
          · subst hjn
            obtain rfl : oj = on := by rw [hoj] at hon; cases hon; rfl
            have e1 := hA hjun
            subst e1
            obtain ⟨e3, e4⟩ := hst a hB nxt w' hrun
            exact .inr ⟨e3, e4, fun hu => (by rw [getD_set_self hns] at hu; cases hu), fun q hq => by rw [put_keep (by rw [hnd]; simp)]; exact hB q hq⟩
          · obtain ⟨hs1, hs2⟩ := hstill hjn
            obtain ⟨rfl, u, rfl⟩ := hs1 a hB _ _ _ hrun
            refine .inl ⟨u, rfl, hS, fun hu => ?_, fun q hq => by rw [put_keep (hs2 q hq)]; exact hB q hq⟩
            rw [getD_set_ne true hjn] at hu
            exact hA hu
      refine wpOp_mono (fun a' w' h4 => ?_) h3
      obtain ⟨⟨g1, g2⟩, g3, g4, g5⟩ := h4
      refine ih (listed.setIfInBounds j true) a' w' (by simpa using hns) hfree' (ready_mono hr (Ne.symm hji)) g1 g3 g4 g5 ?_
      rw [Array.setIfInBounds_comm _ _ hji]
      exact g2
end
/-- A slot that an operation writes behind which n stands. -/
def Stab (D : Nat → Nat → Bool) (ops : Array Oper) (n q : Nat) : Prop := ∃ kq, kq < n ∧ dstAt ops kq = some q ∧ D n kq = true
/-- A load that need not stand behind the store that comes next. -/
def LateOk (P : Program) (D : Nat → Nat → Bool) (ops : Array Oper) (n : Nat) (R : Nat → (Nat → Value) → Nat → Nat → World → Prop) (a0 : Act) (w0 : World) (i : Nat) (o : Oper) : Prop :=
  o.guard = none ∧ (∀ (V : Nat → Value) (L U : Nat → Nat) (w : World), Below w0.heap.size w0 w → (∀ j, j < n → D n j = true → R j V (L j) (U j) w) → StillAt P (fun a' => ∀ q, Stab D ops n q → a'.tmps.getD q undef = (putN ops V n a0).tmps.getD q undef) o) ∧
  (∀ j oj, ops[j]? = some oj → j ≠ i → Region.waitsFor .any ops j i = true ∨ Region.waitsFor .any ops i j = true ∨ o.apart ops oj = true) ∧ (∀ t, n < t → t < ops.size → Region.waitsFor .any ops t i = true) ∧
  ∃ on, ops[n]? = some on ∧ on.dst = none ∧
    ∀ (V : Nat → Value) (L U : Nat → Nat) (w : World), Below w0.heap.size w0 w → (∀ j, j < n → D i j = true ∨ D n j = true → R j V (L j) (U j) w) →
      ∃ (v : Value) (S : World → Prop), S w ∧ (∀ w', S w' → (execOp (putN ops V i a0).eval o).run P w' = .ok (.value v) w') ∧
        (∀ a' : Act, (∀ q, Stab D ops n q → a'.tmps.getD q undef = (putN ops V n a0).tmps.getD q undef) → ∀ nxt w', (execOp a'.eval on).run P w = .ok nxt w' → nxt = .skip ∧ S w')
section
variable {P : Program} {D : Nat → Nat → Bool} {ops : Array Oper} {Q : Exit → Act → World → Prop} {R : Nat → (Nat → Value) → Nat → Nat → World → Prop} {a0 : Act} {w0 : World} {n : Nat}
/-- As grow_head, where operations whose value does not hang on the world need not be behind. -/
theorem mix_head2 (hgb : growB ops n = true) (hn : n ≤ ops.size) (E : Nat → Bool) (hE : ∀ i, i < n → E i = true → ∀ o, ops[i]? = some o → o.guard = none ∧ Eager P o ∧ ∀ j oj, ops[j]? = some oj → j ≠ i → Region.waitsFor .any ops j i = true ∨ Region.waitsFor .any ops i j = true ∨ o.apart ops oj = true) (Lt : Nat → Bool) (hL : ∀ i, i < n → Lt i = true → ∀ o, ops[i]? = some o → LateOk P D ops n R a0 w0 i o) (hch : ∀ t, n < t → t < ops.size → D t n = true) (hsink : ∀ t, n ≤ t → t < ops.size → ∀ i, i < n → E i = false → Lt i = false → D t i = true) (hQ : ∀ c a d v w, Q (.panic c) (Act.put a d v) w → Q (.panic c) a w) (hsel : Region.noSelect ops = true)
    (hR : ∀ i V l u w w', R i V l u w → Below w.heap.size w w' → R i V l u w') (hD : ClosedD D ops) (hV' : ∀ i V V' l u w, R i V l u w → V i = V' i → (∀ j, D i j = true → V j = V' j) → R i V' l u w) (hop : opsOk P D ops R a0 w0 (ops.toList.take n) 0)
    (hend : ∀ (V : Nat → Value) (L U : Nat → Nat) w listed, Below w0.heap.size w0 w → (∀ j, j < n → R j V (L j) (U j) w ∧ w0.heap.size ≤ L j ∧ L j ≤ U j ∧ U j ≤ w.heap.size) → (∀ j k, j < n → k < n → j ≠ k → U j ≤ L k ∨ U k ≤ L j) → HeadInv .any ops n listed → (∀ j, j < n → listed.getD j false = true) → wpAny P .any ops Q (ops.size - n) listed (putN ops V n a0) w) :
    ∀ (m : Nat) (listed : Array Bool) (V : Nat → Value) (L U : Nat → Nat) (w : World), HeadInv .any ops n listed → unl listed n = m → Below w0.heap.size w0 w → (∀ j, listed.getD j false = true → R j V (L j) (U j) w ∧ w0.heap.size ≤ L j ∧ L j ≤ U j ∧ U j ≤ w.heap.size) → (∀ j k, listed.getD j false = true → listed.getD k false = true → j ≠ k → U j ≤ L k ∨ U k ≤ L j) →
      wpAny P .any ops Q (m + (ops.size - n)) listed (putL ops V listed n a0) w := by
  intro m
  induction m with
  | zero =>
    intro listed V L U w inv hu hb hV hsep
    have hall := unl_zero n hu
    rw [Nat.zero_add, putL_full n hall]
    exact hend V L U w listed hb (fun j hj => hV j (hall j hj)) (fun j k hj hk => hsep j k (hall j hj) (hall k hk)) inv hall
  | succ m ih =>
    intro listed V L U w inv hu hb hV hsep
    obtain ⟨k, hk, hkun, hkb⟩ := unl_some n (by omega : unl listed n ≠ 0)
    have hks : k < listed.size := by rw [inv.size]; omega
    have hkr : k ∈ Region.ready .any ops listed := by
      obtain ⟨o, ho, ha, _, _⟩ := growB_spec hgb hk
      exact mem_ready.2 ⟨getD_in hks hkun, o, ho, fun e he hb => hkb _ (ha e he hb)⟩
    have common : ∀ i, i ∈ Region.ready .any ops listed → i < n → ∃ o', ops[i]? = some o' ∧ execOp (putL ops V listed n a0).eval o' = execOp (putN ops V i a0).eval o' ∧ Region.wanted o' (yielded ops (putL ops V listed n a0).tmps) = Region.wanted o' (yielded ops (putN ops V i a0).tmps) ∧
        (if Region.wanted o' (yielded ops (putN ops V i a0).tmps) then ∀ K : Act → World → Prop, (∀ v w', R i (upd V i v) w.heap.size w'.heap.size w' → Below w.heap.size w w' → K ((putN ops V i a0).put o'.dst v) w') → o'.wp P (putN ops V i a0) w K (fun _ _ _ => False) else R i (upd V i undef) w.heap.size w.heap.size w) ∧
        ∀ (v : Value) (w' : World), R i (upd V i v) w.heap.size w'.heap.size w' → Below w.heap.size w w' → wpAny P .any ops Q (m + (ops.size - n)) (listed.setIfInBounds i true) ((putL ops V listed n a0).put o'.dst v) w' := by
      intro i hi hin
      obtain ⟨o, ho, ha, hlook, hdst⟩ := growB_spec hgb hin
      obtain ⟨hiun, o', ho', hready⟩ := mem_ready.1 hi
      obtain rfl : o' = o := by rw [ho] at ho'; cases ho'; rfl
      have hios := (Array.getElem?_eq_some_iff.1 ho).1
      have hiun' : listed.getD i false = false := getD_both hiun
      have his : i < listed.size := by rw [inv.size]; exact hios
      have hwait : ∀ j, Region.waitsFor .any ops i j = true → listed.getD j false = true := by
        intro j hj
        obtain ⟨oi, hoi, e, he, hb, rfl⟩ := Region.waitsFor_spec hj
        have : oi = o' := by rw [ho] at hoi; cases hoi; rfl
        subst this
        exact hready e he hb
      have hlist : (ops.toList.take n)[i]? = some o' := by
        rw [List.getElem?_take, if_pos hin]
        simpa using ho
      have hok := opsOk_at hop hlist
      rw [Nat.zero_add] at hok
      have hok := hok V L U w hb (fun j hj => (hV j (hD listed (fun j oj hoj hl e he hb => inv.closed j oj hoj hl e he hb) i o' ho (fun e he hb => hready e he hb) j hj)).1)
      -- what it sees is the same
      have hsee : ∀ t ∈ o'.looksAt ops, (putL ops V listed n a0).tmps[t]? = (putN ops V i a0).tmps[t]? := by
        intro t ht
        by_cases hex : ∃ j, j < n ∧ dstAt ops j = some t
        · obtain ⟨j, hj, hd⟩ := hex
          obtain ⟨oj, hoj, _, _, hdj⟩ := growB_spec hgb hj
          have hdj' : oj.dst = some t := by unfold dstAt at hd; rw [hoj] at hd; exact hd
          have honly := hdj t hdj'
          rcases hlook t ht j hj hd with ⟨hji, hw⟩ | ⟨hij, hw⟩
          · rw [putL_one hd (hwait j hw) n hj (fun q hq hne _ => honly q hq hne), putN_one hd i hji (fun q hq hne => honly q (by omega) hne)]
          · have hjun : listed.getD j false = false := by
              cases hl : listed.getD j false with
              | false => rfl
              | true =>
                obtain ⟨oj2, hoj2, e, he, hb2, hon⟩ := Region.waitsFor_spec hw
                have := inv.closed j oj2 hoj2 hl e he hb2
                rw [hon, hiun'] at this
                cases this
            rw [putL_none n (fun q hq hl => by
                by_cases e : q = j
                · subst e; rw [hjun] at hl; cases hl
                · exact honly q hq e), putN_none i (fun q hq => by
                by_cases e : q = j
                · omega
                · exact honly q (by omega) e)]
        · rw [putL_none n (fun q hq _ e => hex ⟨q, hq, e⟩), putN_none i (fun q hq e => hex ⟨q, by omega, e⟩)]
      have hex : execOp (putL ops V listed n a0).eval o' = execOp (putN ops V i a0).eval o' := by
        refine execOp_congr o' (fun cs b => Region.noSelect_spec hsel i o' cs b ho) ?_
        intro x hx
        cases x with
        | tmp t =>
          have := hsee t (List.mem_append_left _ (List.mem_filterMap.2 ⟨.tmp t, by simpa using hx, rfl⟩))
          simp only [Act.eval, Array.getD_eq_getD_getElem?, this]
        | _ => rfl
      have hwant : Region.wanted o' (yielded ops (putL ops V listed n a0).tmps) = Region.wanted o' (yielded ops (putN ops V i a0).tmps) := by
        unfold Region.wanted
        cases hg : o'.guard with
        | none => rfl
        | some gw =>
          obtain ⟨g, want⟩ := gw
          have : yielded ops (putL ops V listed n a0).tmps g = yielded ops (putN ops V i a0).tmps g := by
            unfold yielded
            cases ht : (ops[g]?).bind (·.dst) with
            | none => rfl
            | some t =>
              have := hsee t (by simp [Oper.looksAt, hg, ht])
              simp only [Option.bind_some, this]
          simp only [this]
      have hdi : dstAt ops i = o'.dst := by unfold dstAt; rw [ho]; rfl
      -- one step on
      have hgo : ∀ (v : Value) (w' : World), R i (upd V i v) w.heap.size w'.heap.size w' → Below w.heap.size w w' →
          wpAny P .any ops Q (m + (ops.size - n)) (listed.setIfInBounds i true) ((putL ops V listed n a0).put o'.dst v) w' := by
        intro v w' hRv hb'
        have hset := putL_set (a := a0) (V := V) (v := v) his hiun' (fun d hd j hjn hj => by
          rw [hdi] at hd
          exact hdst d hd j hjn hj) n (Nat.le_refl _)
        rw [if_pos hin, hdi] at hset
        rw [← hset]
        have hu' := unl_set his hiun' n hin
        refine ih _ _ (fun j => if j = i then w.heap.size else L j) (fun j => if j = i then w'.heap.size else U j) w' (inv.set hi hin) (by omega) (hb.trans (hb'.mono hb.size)) ?_ ?_
        · intro j hj
          by_cases e : j = i
          · subst e
            simp only [if_true]
            exact ⟨hRv, hb.size, hb'.size, Nat.le_refl _⟩
          · simp only [if_neg e]
            rw [getD_set_ne false (Ne.symm e)] at hj
            obtain ⟨r1, r2, r3, r4⟩ := hV j hj
            refine ⟨hR j _ _ _ w w' (hV' j V (upd V i v) _ _ _ r1 (upd_ne V v e).symm ?_) hb', r2, r3, Nat.le_trans r4 hb'.size⟩
            intro q hq
            have hql : listed.getD q false = true := by
              have hjs : j < ops.size := by
                rw [← inv.size]
                rcases Nat.lt_or_ge j listed.size with h | h
                · exact h
                · rw [Array.getD_eq_getD_getElem?, Array.getElem?_eq_none h] at hj; cases hj
              exact hD listed (fun j oj hoj hl e he hb => inv.closed j oj hoj hl e he hb) j _ (Array.getElem?_eq_getElem hjs) (fun e he hb => inv.closed j _ (Array.getElem?_eq_getElem hjs) hj e he hb) q hq
            have : q ≠ i := by rintro rfl; rw [hiun'] at hql; cases hql
            exact (upd_ne V v this).symm
        · intro j k hj hk hne
          by_cases ej : j = i
          · subst ej
            rw [getD_set_ne false hne] at hk
            simp only [if_true, if_neg (Ne.symm hne)]
            exact .inr (hV k hk).2.2.2
          · rw [getD_set_ne false (Ne.symm ej)] at hj
            by_cases ek : k = i
            · subst ek
              simp only [if_true, if_neg ej]
              exact .inl (hV j hj).2.2.2
            · rw [getD_set_ne false (Ne.symm ek)] at hk
              simp only [if_neg ej, if_neg ek]
              exact hsep j k hj hk hne
      exact ⟨o', ho, hex, hwant, hok, hgo⟩
    rw [show m + 1 + (ops.size - n) = m + (ops.size - n) + 1 from by omega]
    by_cases hx : ∃ i, i ∈ Region.ready .any ops listed ∧ i < n ∧ E i = true
    · obtain ⟨i, hi, hin, hEi⟩ := hx
      obtain ⟨o', ho, hex, hwant, hok, hgo⟩ := common i hi hin
      obtain ⟨hg, heag, hfree⟩ := hE i hin hEi o' ho
      have hwt : Region.wanted o' (yielded ops (putN ops V i a0).tmps) = true := by unfold Region.wanted; rw [hg]
      rw [if_pos hwt] at hok
      have h1 := hok (fun a' w' => ∃ v, a' = (putN ops V i a0).put o'.dst v ∧ R i (upd V i v) w.heap.size w'.heap.size w' ∧ Below w.heap.size w w') (fun v w' hr hb' => ⟨v, rfl, hr, hb'⟩)
      unfold Oper.wp at h1
      rcases heag (putN ops V i a0).eval w with ⟨v, hv⟩ | ⟨x, w', hv⟩
      · rw [hv w, Oper.upon_value] at h1
        obtain ⟨u, hu1, hr, hb'⟩ := h1
        have hput : (putL ops V listed n a0).put o'.dst v = (putL ops V listed n a0).put o'.dst u := put_same (by rw [putN_size, putL_size]) hu1
        refine wpAny_first ho (fun j o cs b hj => Region.noSelect_spec hsel j o cs b hj) (fun c a w h => hQ c a o'.dst v w h) _ listed _ w ?_ hi (.inl ⟨by rw [hwant]; exact hwt, fun w2 => by rw [hex]; exact hv w2⟩) (by rw [hput]; exact hgo u w hr hb')
        intro j oj hoj hne hun hno
        rcases hfree j oj hoj hne with h | h | h
        · obtain ⟨oj2, hoj2, e, he, hb2, hon⟩ := Region.waitsFor_spec h
          rw [hoj] at hoj2
          cases hoj2
          exact absurd hon (hno e he hb2)
        · obtain ⟨oi2, hoi2, e, he, hb2, hon⟩ := Region.waitsFor_spec h
          obtain ⟨_, oi3, hoi3, hall⟩ := mem_ready.1 hi
          rw [hoi2] at hoi3
          cases hoi3
          have := hall e he hb2
          rw [hon] at this
          have h3 := getD_both hun
          rw [this] at h3
          cases h3
        · exact h
      · rw [hv] at h1
        cases x <;> exact h1.elim
    · have hnun : listed.getD n false = false := by
        rcases Nat.lt_or_ge n ops.size with h | h
        · exact getD_both (inv.tail n (Nat.le_refl _) h)
        · rw [Array.getD_eq_getD_getElem?, Array.getElem?_eq_none (by rw [inv.size]; exact h)]; rfl
      by_cases hnr : n ∈ Region.ready .any ops listed
      · obtain ⟨_, on, hon, honall⟩ := mem_ready.1 hnr
        have hnn := (Array.getElem?_eq_some_iff.1 hon).1
        have hDn : ∀ q, D n q = true → listed.getD q false = true := fun q hq => hD listed (fun j oj hoj hl e he hb => inv.closed j oj hoj hl e he hb) n on hon (fun e he hb => honall e he hb) q hq
        have hunl : ∀ i, i < n → listed.getD i true = false → E i = true ∨ Lt i = true := by
          intro i hi hun
          cases hEi : E i with
          | true => exact .inl rfl
          | false =>
            cases hLi : Lt i with
            | true => exact .inr rfl
            | false =>
              have h1 := hDn i (hsink n (Nat.le_refl _) hnn i hi hEi hLi)
              rw [getD_both hun] at h1
              cases h1
        have hEk : E k = false := by
          cases hEk : E k with
          | false => rfl
          | true => exact absurd ⟨k, hkr, hk, hEk⟩ hx
        have hLk : Lt k = true := (hunl k hk (getD_in hks hkun)).resolve_left (by rw [hEk]; simp)
        obtain ⟨ok, hok0, hex, hwant, hok, hgo⟩ := common k hkr hk
        obtain ⟨hgu, hstl, hapk, hwt, on', hon', hond, hsem⟩ := hL k hk hLk ok hok0
        obtain rfl : on' = on := by rw [hon] at hon'; cases hon'; rfl
        obtain ⟨v, S, hS, hload, hst⟩ := hsem V L U w hb fun j hj hd => by
          refine (hV j ?_).1
          rcases hd with hd | hd
          · obtain ⟨_, o2, ho2, hall2⟩ := mem_ready.1 hkr
            exact hD listed (fun j oj hoj hl e he hb => inv.closed j oj hoj hl e he hb) k o2 ho2 (fun e he hb => hall2 e he hb) j hd
          · exact hDn j hd
        have hwk : Region.wanted ok (yielded ops (putN ops V k a0).tmps) = true := by unfold Region.wanted; rw [hgu]
        rw [if_pos hwk] at hok
        have h1 := hok (fun a' w' => ∃ v, a' = (putN ops V k a0).put ok.dst v ∧ R k (upd V k v) w.heap.size w'.heap.size w' ∧ Below w.heap.size w w') (fun v w' hr hb' => ⟨v, rfl, hr, hb'⟩)
        unfold Oper.wp at h1
        rw [hload w hS, Oper.upon_value] at h1
        obtain ⟨u, hu1, hr, hb'⟩ := h1
        have hput : (putL ops V listed n a0).put ok.dst v = (putL ops V listed n a0).put ok.dst u := put_same (by rw [putN_size, putL_size]) hu1
        refine first_keep (qs := Stab D ops n) (A := fun q => (putN ops V n a0).tmps.getD q undef) hok0 (by omega) hon (fun j o cs b hj => Region.noSelect_spec hsel j o cs b hj) (fun c a w h => hQ c a ok.dst v w h) hond hst _ listed _ w (by rw [inv.size]; exact hnn) ?_ hkr (.inl ⟨by rw [hwant]; exact hwk, fun w2 h2 => by rw [hex]; exact hload w2 h2⟩) hS (fun _ => rfl) (fun q hq => ?_) (by rw [hput]; exact hgo u w hr hb')
        · intro j oj hoj hne hun hno
          have hjap : ok.apart ops oj = true := by
            rcases hapk j oj hoj hne with h | h | h
            · obtain ⟨oj2, hoj2, e, he, hb2, hon2⟩ := Region.waitsFor_spec h
              rw [hoj] at hoj2
              cases hoj2
              exact absurd hon2 (hno e he hb2)
            · obtain ⟨oi2, hoi2, e, he, hb2, hon2⟩ := Region.waitsFor_spec h
              obtain ⟨_, oi3, hoi3, hall⟩ := mem_ready.1 hkr
              rw [hoi2] at hoi3
              cases hoi3
              have := hall e he hb2
              rw [hon2] at this
              have h3 := getD_both hun
              rw [this] at h3
              cases h3
            · exact h
          refine ⟨hjap, fun hjn => ?_⟩
          rcases Nat.lt_or_ge j n with hj | hj
          · refine ⟨?_, fun q hq hdq => ?_⟩
            · rcases hunl j hj hun with h | h
              · exact (still_eager (hE j hj h oj hoj).2.1).at _
              · exact (hL j hj h oj hoj).2.1 V L U w hb fun j hj hd => (hV j (hDn j hd)).1
            · obtain ⟨kq, hkq, hdkq, hwq⟩ := hq
              have hlq := hDn kq hwq
              have hjkq : j ≠ kq := by rintro rfl; rw [getD_both hun] at hlq; cases hlq
              obtain ⟨ojq, hojq, _, _, hdj⟩ := growB_spec hgb hj
              have : ojq = oj := by rw [hoj] at hojq; cases hojq; rfl
              subst this
              exact hdj q hdq kq hkq (Ne.symm hjkq) hdkq
          · exfalso
            have hjs := (Array.getElem?_eq_some_iff.1 hoj).1
            obtain ⟨oj2, hoj2, e, he, hb2, hon2⟩ := Region.waitsFor_spec (hwt j (by omega) hjs)
            rw [hoj] at hoj2
            cases hoj2
            exact hno e he hb2 hon2
        · obtain ⟨kq, hkq, hdkq, hwq⟩ := hq
          have hlq := hDn kq hwq
          obtain ⟨oq, hoq, _, _, hdj⟩ := growB_spec hgb hkq
          have hdq' : oq.dst = some q := by unfold dstAt at hdkq; rw [hoq] at hdkq; exact hdkq
          have honly := hdj q hdq'
          rw [Array.getD_eq_getD_getElem?, Array.getD_eq_getD_getElem?, putL_one hdkq hlq n hkq (fun j hj hne _ => honly j hj hne), putN_one hdkq n hkq (fun j hj hne => honly j hj hne)]
      · refine ⟨fun h => (by rw [h] at hkr; cases hkr), ?_⟩
        intro i hi
        have hin : i < n := by
          rcases Nat.lt_or_ge i n with h | h
          · exact h
          · exfalso
            obtain ⟨_, oi, hoi, hall⟩ := mem_ready.1 hi
            have hio := (Array.getElem?_eq_some_iff.1 hoi).1
            rcases Nat.eq_or_lt_of_le h with e | hlt
            · subst e; exact hnr hi
            · have h1 := hD listed (fun j oj hoj hl e he hb => inv.closed j oj hoj hl e he hb) i oi hoi (fun e he hb => hall e he hb) n (hch i hlt hio)
              rw [hnun] at h1
              cases h1
        obtain ⟨o', ho, hex, hwant, hok, hgo⟩ := common i hi hin
        unfold wpOp
        simp only [ho, hwant]
        split
        · rename_i hwt
          rw [if_pos hwt] at hok
          left
          have h1 := hok (fun a' w' => ∃ v, a' = (putN ops V i a0).put o'.dst v ∧ R i (upd V i v) w.heap.size w'.heap.size w' ∧ Below w.heap.size w w') (fun v w' hr hb' => ⟨v, rfl, hr, hb'⟩)
          refine wp_frames hex ?_ ?_ h1
          · rintro v w' ⟨u, hu1, hr, hb'⟩
            rw [put_same (by rw [putN_size, putL_size]) hu1]
            exact hgo u w' hr hb'
          · rintro d w' ⟨u, hu1, _⟩
            have := congrArg Act.defers hu1
            rw [put_defers, put_defers] at this
            exact absurd (congrArg List.length this) (by simp)
        · rename_i hwt
          rw [if_neg hwt] at hok
          exact hgo undef w hok (Below.refl _ _)
end
/-! ### Loads leave the world as it is -/
def Quiet {α : Type} (P : Program) (s : Sem α) : Prop := ∀ w v w', s.run P w = .ok v w' → w' = w
section
variable {P : Program}
theorem quiet_pure {α : Type} (v : α) : Quiet P (pure v : Sem α) := fun w u w' h => by cases h; rfl
theorem quiet_halt {α : Type} (h : Halt) : Quiet P (.halt h : Sem α) := fun w u w' h => by cases h
theorem quiet_bind {α β : Type} {s : Sem α} {f : α → Sem β} (hs : Quiet P s) (hf : ∀ v, Quiet P (f v)) : Quiet P (s >>= f) := by
  intro w v w' h
  rw [Sem.run_bind] at h
  cases hr : s.run P w with
  | ok u w1 =>
    rw [hr] at h
    obtain rfl := hs _ _ _ hr
    exact hf u _ _ _ h
  | halt x w1 => rw [hr] at h; cases h
theorem quiet_wi {α : Type} {s : Sem α} (h : WI P s) : Quiet P s := by
  intro w v w' hr
  rcases h with ⟨u, hu⟩ | hh
  · rw [hu w] at hr; cases hr; rfl
  · obtain ⟨x, w2, hx⟩ := hh w
    rw [hx] at hr; cases hr
theorem quiet_load (a : Addr) : Quiet P (load a) := by
  intro w v w' h
  simp only [load, Sem.run] at h
  split at h
  · cases h; rfl
  · split at h
    · cases h; rfl
    · cases h
theorem quiet_cells (a : Addr) : ∀ (n i : Nat) (acc : Array Value), Quiet P (loadCellsFrom a i n acc)
  | 0, _, _ => quiet_pure _
  | n + 1, i, acc => by
    unfold loadCellsFrom
    exact quiet_bind (quiet_load _) fun v => quiet_cells a n (i + 1) _
theorem quiet_isAgg (t : TypeId) : Quiet P (isAgg t) := by
  unfold isAgg
  refine quiet_bind (quiet_wi (wi_underlying t)) fun d => ?_
  split <;> exact quiet_pure _
theorem quiet_loadVar (t : TypeId) (a : Addr) : Quiet P (loadVar t a) := by
  unfold loadVar
  refine quiet_bind (quiet_isAgg t) fun b => ?_
  split
  · exact quiet_bind (quiet_wi (wi_sizeOf t)) fun n => quiet_bind (quiet_cells a n 0 _) fun _ => quiet_pure _
  · exact quiet_load a
theorem quiet_shape (r : Nat) : Quiet P (shape r) := fun w v w' h => by simp only [shape, Sem.run] at h; cases h; rfl
theorem quiet_program : Quiet P (program) := fun w v w' h => by simp only [program, Sem.run] at h; cases h; rfl
theorem quiet_getObj (r : Nat) : Quiet P (getObj r) := fun w v w' h => by
  simp only [getObj, Sem.run] at h
  split at h
  · cases h
  · cases h; rfl
  · cases h
theorem quiet_byteOf (a : Addr) : Quiet P (byteOf a) := by
  unfold byteOf
  repeat' (first | exact quiet_pure _ | exact quiet_halt _ | exact quiet_program | exact quiet_shape _ | exact quiet_getObj _ | (refine quiet_bind ?_ (fun _ => ?_)) | split | dsimp only | (unfold noView; split))
theorem quiet_fieldAt (s : TypeId) (x : Value) (f : Nat) : Quiet P (Instr.fieldAt s x f) := by
  unfold Instr.fieldAt fieldPlace partAt
  repeat' (first | exact quiet_pure _ | exact quiet_halt _ | exact quiet_byteOf _ | exact quiet_wi (wi_underlying _) | exact quiet_wi (wi_sure _) | exact quiet_wi (wi_sizeOf _) | (refine quiet_bind ?_ (fun _ => ?_)) | split | dsimp only)
theorem still_field {o : Oper} {t : TypeId} {x : Operand} {f : Nat} (h : o.op = .fieldAddr t x f) : Still P o := by
  intro ρ w nxt w' hr
  have he : execOp ρ o = ((Instr.fieldAt t (ρ x) f) >>= fun v => pure (.value v)) := by simp only [execOp, h]
  rw [he, Sem.run_bind] at hr
  cases hl : (Instr.fieldAt t (ρ x) f).run P w with
  | ok v w1 =>
    rw [hl] at hr
    obtain rfl := quiet_fieldAt t (ρ x) f _ _ _ hl
    cases hr
    exact ⟨rfl, v, rfl⟩
  | halt y w1 => rw [hl] at hr; cases hr
theorem still_load {o : Oper} {t : TypeId} {x : Operand} (h : o.op = .load t x) : Still P o := by
  intro ρ w nxt w' hr
  have he : execOp ρ o = ((Instr.loadAt t (ρ x)) >>= fun v => pure (.value v)) := by simp only [execOp, h]
  rw [he, Sem.run_bind] at hr
  cases hl : (Instr.loadAt t (ρ x)).run P w with
  | ok v w1 =>
    rw [hl] at hr
    have hq : Quiet P (Instr.loadAt t (ρ x)) := by
      unfold Instr.loadAt
      exact quiet_bind (quiet_wi (wi_sure _)) fun a => quiet_loadVar t a
    obtain rfl := hq _ _ _ hl
    cases hr
    exact ⟨rfl, v, rfl⟩
  | halt y w1 => rw [hl] at hr; cases hr
end
/-! ### The greatest, the least of numbers -/
def isMM : Callee → Bool
  | .builtin .max => true
  | .builtin .min => true
  | _ => false
section
variable {P : Program}
theorem mm_fold {f : Value → Value → Sem Value} (hf : ∀ k x k' y, ∃ z, f (.int k x) (.int k' y) = pure (.int k z)) : ∀ (l : List Value) (k : IntKind) (x : Int), (∀ u ∈ l, ∃ k' z, u = .int k' z) → ∃ v, ∀ w, (l.foldlM f (.int k x)).run P w = .ok v w
  | [], k, x, _ => ⟨.int k x, fun w => rfl⟩
  | u :: l, k, x, h => by
    obtain ⟨k', z, rfl⟩ := h u (by simp)
    obtain ⟨y, hy⟩ := hf k x k' z
    obtain ⟨v, hv⟩ := mm_fold hf l k y fun u hu => h u (by simp [hu])
    refine ⟨v, fun w => ?_⟩
    rw [List.foldlM_cons, hy]
    exact hv w
theorem mm_run {o : Oper} {c : Call} (ho : o.op = .call c) (hc : isMM c.callee = true) {ρ : Operand → Value} (hne : 1 ≤ c.args.toList.length) (h : ∀ x ∈ c.args.toList, ∃ k z, ρ x = .int k z) : ∃ v, ∀ w, (execOp ρ o).run P w = .ok (.value v) w := by
  obtain ⟨callee, args, ats⟩ := c
  obtain ⟨l, rfl⟩ : ∃ l : List Operand, args = l.toArray := ⟨args.toList, by simp⟩
  simp only at hc hne h
  cases l with
  | nil => simp at hne
  | cons x l =>
    obtain ⟨k, z, hx⟩ := h x (by simp)
    have hl : ∀ u ∈ l.map ρ, ∃ k' z', u = .int k' z' := by
      intro u hu
      obtain ⟨y, hy, rfl⟩ := List.mem_map.1 hu
      exact h y (by simp [hy])
    unfold isMM at hc
    split at hc
    · obtain ⟨v, hv⟩ := mm_fold (P := P) (f := Builtin.max2) (fun k x k' y => ⟨_, rfl⟩) (l.map ρ) k z hl
      refine ⟨v, fun w => ?_⟩
      simp [execOp, ho, resolve, invoke, builtin, Builtin.max_, hx, hv w]
    · obtain ⟨v, hv⟩ := mm_fold (P := P) (f := Builtin.min2) (fun k x k' y => ⟨_, rfl⟩) (l.map ρ) k z hl
      refine ⟨v, fun w => ?_⟩
      simp [execOp, ho, resolve, invoke, builtin, Builtin.min_, hx, hv w]
    · cases hc
end
/-! ### A region -/
section
variable {P : Program} {D : Nat → Nat → Bool} {ops ops' : Array Oper} {Q : Exit → Act → World → Prop} {R : Nat → (Nat → Value) → Nat → Nat → World → Prop} {a0 : Act} {w0 : World} {n : Nat}
theorem any_mix2 (n : Nat) (R : Nat → (Nat → Value) → Nat → Nat → World → Prop) (hsel : Region.noSelect ops = true) (hgb : growB ops n = true) (hn : n ≤ ops.size) (E : Nat → Bool) (hE : ∀ i, i < n → E i = true → ∀ o, ops[i]? = some o → o.guard = none ∧ Eager P o ∧ ∀ j oj, ops[j]? = some oj → j ≠ i → Region.waitsFor .any ops j i = true ∨ Region.waitsFor .any ops i j = true ∨ o.apart ops oj = true) (Lt : Nat → Bool) (hL : ∀ i, i < n → Lt i = true → ∀ o, ops[i]? = some o → LateOk P D ops n R a0 w0 i o) (hch : ∀ t, n < t → t < ops.size → D t n = true) (hsink : ∀ t, n ≤ t → t < ops.size → ∀ i, i < n → E i = false → Lt i = false → D t i = true) (hQ : ∀ c a d v w, Q (.panic c) (Act.put a d v) w → Q (.panic c) a w)
    (hq : Region.seqB .any ops (ops.size - n) n (firstN ops n) = true)
    (hR : ∀ i V l u w w', R i V l u w → Below w.heap.size w w' → R i V l u w') (hD : ClosedD D ops) (hV : ∀ i V V' l u w, R i V l u w → V i = V' i → (∀ j, D i j = true → V j = V' j) → R i V' l u w)
    (hop : opsOk P D ops R a0 w0 (ops.toList.take n) 0)
    (htail : ∀ (V : Nat → Value) (L U : Nat → Nat) w, Below w0.heap.size w0 w → (∀ j, j < n → R j V (L j) (U j) w ∧ w0.heap.size ≤ L j ∧ L j ≤ U j ∧ U j ≤ w.heap.size) → (∀ j k, j < n → k < n → j ≠ k → U j ≤ L k ∨ U k ≤ L j) → wpList P ops Q (ops.toList.drop n) (putN ops V n a0) w) : wpAny P .any ops Q ops.size (Array.replicate ops.size false) a0 { w0 with drawn := w0.drawn + 1 } := by
  have h := mix_head2 (Q := Q) hgb hn E hE Lt hL hch hsink hQ hsel hR hD hV hop ?_ n (Array.replicate ops.size false) (fun _ => undef) (fun _ => 0) (fun _ => 0) { w0 with drawn := w0.drawn + 1 } headInv_start (unl_start n) ((Below.refl _ w0).drew) (fun j hj => by rw [getD_replicate_false] at hj; cases hj) (fun j k hj => by rw [getD_replicate_false] at hj; cases hj)
  · rw [putL_start, show n + (ops.size - n) = ops.size from by omega] at h
    exact h
  · intro V L U w listed hb hV2 hsep inv hall
    have hl := firstN_eq inv hall
    subst hl
    have ht := htail V L U w hb hV2 hsep
    have hlen : (ops.toList.drop n).length = ops.size - n := by simp
    have := wpAny_of_seq (P := P) (md := .any) (Q' := Q) (ops.toList.drop n) n (firstN ops n) (putN ops V n a0) w (fun j => by simp) (by rw [hlen]; exact hq) ht
    rwa [hlen] at this
/-- A slot that an operation ahead writes, or none. -/
def slotB (D : Nat → Nat → Bool) (ops : Array Oper) (n i p : Nat) : Bool := ((List.range i).any fun k => dstAt ops k == some p && D i k) || (List.range n).all fun k => dstAt ops k != some p
theorem slotB_spec {i p : Nat} (h : slotB D ops n i p = true) : (∃ k, k < i ∧ dstAt ops k = some p ∧ D i k = true) ∨ ∀ k, k < n → dstAt ops k ≠ some p := by
  unfold slotB at h
  simp only [Bool.or_eq_true, List.any_eq_true, List.all_eq_true, List.mem_range, Bool.and_eq_true, beq_iff_eq, bne_iff_ne] at h
  rcases h with ⟨k, hk, h1, h2⟩ | h
  · exact .inl ⟨k, hk, h1, h2⟩
  · exact .inr h
/-- A slot that an operation writes behind which n stands. -/
def stabB (D : Nat → Nat → Bool) (ops : Array Oper) (n q : Nat) : Bool := (List.range n).any fun k => dstAt ops k == some q && D n k
theorem stabB_spec {q : Nat} (h : stabB D ops n q = true) : Stab D ops n q := by
  obtain ⟨k, hk, hk2⟩ := List.any_eq_true.1 h
  simp only [Bool.and_eq_true, beq_iff_eq] at hk2
  exact ⟨k, List.mem_range.1 hk, hk2.1, hk2.2⟩
/-- Kinds of operations that may be late. -/
def kindB (D : Nat → Nat → Bool) (ops : Array Oper) (n i : Nat) : Op → Bool
  | .load _ (.tmp p) => slotB D ops n i p
  | .fieldAddr _ (.tmp p) _ => slotB D ops n i p
  | .call c => isMM c.callee && c.args.toList.all fun x => match x with | .tmp y => slotB D ops n i y && stabB D ops n y | .const _ => true | _ => false
  | _ => false
/-- The operands of a store. -/
def storeB (D : Nat → Nat → Bool) (ops : Array Oper) (n : Nat) : Op → Bool
  | .store _ (.tmp q) y => stabB D ops n q && (match y with | .tmp y => stabB D ops n y | .const _ => true | _ => false)
  | _ => false
/-- What is asked of a late load by the text. -/
def lateS0 (D : Nat → Nat → Bool) (ops : Array Oper) (n i : Nat) : Bool := match ops[i]?, ops[n]? with
  | some o, some on => kindB D ops n i o.op && (o.guard.isNone && (storeB D ops n on.op && (on.dst.isNone &&
      (((List.range ops.size).all fun j => Nat.beq j i || Region.waitsFor .any ops j i || Region.waitsFor .any ops i j || (match ops[j]? with | none => true | some oj => o.apart ops oj)) && ((List.range (ops.size - (n + 1))).all fun t => Region.waitsFor .any ops (n + 1 + t) i)))))
  | _, _ => false
theorem lateS0_spec {i : Nat} (h : lateS0 D ops n i = true) : ∃ o on t2 q y, ops[i]? = some o ∧ ops[n]? = some on ∧ kindB D ops n i o.op = true ∧ on.op = .store t2 (.tmp q) y ∧ ((∃ z, y = .tmp z ∧ Stab D ops n z) ∨ ∃ c, y = .const c) ∧ o.guard = none ∧ on.dst = none ∧ Stab D ops n q ∧
    (∀ j oj, ops[j]? = some oj → j ≠ i → Region.waitsFor .any ops j i = true ∨ Region.waitsFor .any ops i j = true ∨ o.apart ops oj = true) ∧ (∀ t, n < t → t < ops.size → Region.waitsFor .any ops t i = true) := by
  unfold lateS0 at h
  split at h
  · rename_i o on ho hon
    simp only [Bool.and_eq_true, List.all_eq_true, List.mem_range, Bool.or_eq_true] at h
    obtain ⟨h1, h2, h3, h4, h5, h6⟩ := h
    unfold storeB at h3
    split at h3
    · rename_i t2 q y hst
      simp only [Bool.and_eq_true] at h3
      obtain ⟨h3, h7⟩ := h3
      refine ⟨o, on, t2, q, y, ho, hon, h1, hst, ?_, by simpa using h2, by simpa using h4, stabB_spec h3, ?_, ?_⟩
      · split at h7
        · exact .inl ⟨_, rfl, stabB_spec h7⟩
        · rename_i c; exact .inr ⟨c, rfl⟩
        · cases h7
      · intro j oj hj hne
        have := h5 j (Array.getElem?_eq_some_iff.1 hj).1
        rw [hj] at this
        rcases this with ((h | h) | h) | h
        · exact absurd (Nat.eq_of_beq_eq_true h) hne
        · exact .inl h
        · exact .inr (.inl h)
        · exact .inr (.inr h)
      · intro t h8 h9
        have := h6 (t - (n + 1)) (by omega)
        rwa [show n + 1 + (t - (n + 1)) = t from by omega] at this
    · cases h3
  · cases h
def lateS (D : Nat → Nat → Bool) (ops : Array Oper) (n i : Nat) : Bool := !D n i && lateS0 D ops n i
/-- Every operation of the tail stands behind every one of the head that is not done ahead, and is not late. -/
def sinkD2 (D : Nat → Nat → Bool) (ops : Array Oper) (n : Nat) : Bool := ((List.range (ops.size - n)).all fun t => (List.range n).all fun i => eagB ops i || lateS D ops n i || D (n + t) i) && ((List.range (ops.size - (n + 1))).all fun t => D (n + 1 + t) n)
theorem sinkD2_spec {n : Nat} (h : sinkD2 D ops n = true) : (∀ t, n ≤ t → t < ops.size → ∀ i, i < n → eagB ops i = false → lateS D ops n i = false → D t i = true) ∧ ∀ t, n < t → t < ops.size → D t n = true := by
  unfold sinkD2 at h
  simp only [List.all_eq_true, List.mem_range, Bool.or_eq_true, Bool.and_eq_true] at h
  refine ⟨fun t h1 h2 i hi he hl => ?_, fun t h1 h2 => ?_⟩
  · rcases h.1 (t - n) (by omega) i hi with (h | h) | h
    · rw [he] at h; cases h
    · rw [hl] at h; cases h
    · rwa [show n + (t - n) = t from by omega] at h
  · have := h.2 (t - (n + 1)) (by omega)
    rwa [show n + 1 + (t - (n + 1)) = t from by omega] at this
/-- A REGION THAT DRAWS ITS ORDER, numbered anew: a head, and a tail in one forced order. -/
theorem wp_region_mix2 {id : Nat} {f b : Nat → Nat} (n : Nat) (R : Nat → (Nat → Value) → Nat → Nat → World → Prop) (hm : P.follows .mixedOrders = true) (hN : Renum f b ops ops') (hg : ∀ (i : Nat) (o : Oper) (g : Nat × Bool), ops[i]? = some o → o.guard = some g → g.1 < ops.size)
    (hsel : Region.noSelect ops' = true) (hgb : growB ops' n = true) (hn : n ≤ ops'.size) (hs : sinkD2 D ops' n = true) (hL : ∀ i, i < n → lateS D ops' n i = true → ∀ o, ops'[i]? = some o → LateOk P D ops' n R a0 w0 i o)
    (hq : Region.seqB .any ops' (ops'.size - n) n (firstN ops' n) = true)
    (hR : ∀ i V l u w w', R i V l u w → Below w.heap.size w w' → R i V l u w') (hD : ClosedD D ops') (hV : ∀ i V V' l u w, R i V l u w → V i = V' i → (∀ j, D i j = true → V j = V' j) → R i V' l u w)
    (hop : opsOk P D ops' R a0 w0 (ops'.toList.take n) 0)
    (htail : ∀ (V : Nat → Value) (L U : Nat → Nat) w, Below w0.heap.size w0 w → (∀ j, j < n → R j V (L j) (U j) w ∧ w0.heap.size ≤ L j ∧ L j ≤ U j ∧ U j ≤ w.heap.size) → (∀ j k, j < n → k < n → j ≠ k → U j ≤ L k ∨ U k ≤ L j) → wpList P ops' (fun e a w => e = .normal ∧ Q e a w) (ops'.toList.drop n) (putN ops' V n a0) w) : (Code.region id ops true).wp P Q a0 w0 := by
  refine wp_mono (wp_region_any (Q := fun e a w => e = .normal ∧ Q e a w) hm ?_) fun e a w h => h.2
  refine wpAny_ren hN hg ops.size _ _ a0 _ (alike_start hN) ?_
  have h := any_mix2 (Q := fun e a w => e = .normal ∧ Q e a w) n R hsel hgb hn (eagB ops') (fun i hi he o ho => eagB_spec i hi he o ho) (lateS D ops' n) hL (sinkD2_spec hs).2 (sinkD2_spec hs).1 (fun c a d v w h => by cases h.1) hq hR hD hV hop htail
  rw [hN.size] at h ⊢
  exact h
end
end Go.Proofs.Ytekokhlldcmjfaa
