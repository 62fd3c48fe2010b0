/- A region that draws its order, whose operations make memory at most (what was there stays): told operation by operation, in the text's order; each may lean on all that it waits for, at however many hands. No program in sight. -/
import Derived.Test.YtekokhlldcmjfaaMem
import Derived.WalkKit
import Derived.StillTail
namespace Go.Proofs.Ytekokhlldcmjfaa
open Go.RowKit
/-- The slot that operation j writes. -/
def dstAt (ops : Array Oper) (j : Nat) : Option Tmp := (ops[j]?).bind (·.dst)
/-- The frame behind the first i operations: each slot holds what V says. -/
def putN (ops : Array Oper) (V : Nat → Value) : Nat → Act → Act
  | 0, a => a
  | i + 1, a => (putN ops V i a).put (dstAt ops i) (V i)
/-- The frame behind those that are listed. -/
def putL (ops : Array Oper) (V : Nat → Value) (listed : Array Bool) : Nat → Act → Act
  | 0, a => a
  | i + 1, a => if listed.getD i false then (putL ops V listed i a).put (dstAt ops i) (V i) else putL ops V listed i a
/-- What a region must be for this: whoever looks at a slot waits for whoever writes it; no two write one slot; edges lead back. -/
def growB (ops : Array Oper) (n : Nat) : Bool :=
  (List.range n).all fun i => match ops[i]? with
    | none => false
    | some o => o.after.all (fun e => !Region.binds .any e || decide (e.on < i)) &&
        (o.looksAt ops).all (fun t => (List.range n).all fun j => dstAt ops j != some t || (decide (j < i) && Region.waitsFor .any ops i j) || (decide (i < j) && Region.waitsFor .any ops j i)) &&
        (match o.dst with | none => true | some d => (List.range n).all fun j => j == i || dstAt ops j != some d)
theorem put_size (a : Act) (d : Option Tmp) (v : Value) : (a.put d v).tmps.size = a.tmps.size := by
  cases d <;> simp [Act.put]
theorem put_defers (a : Act) (d : Option Tmp) (v : Value) : (a.put d v).defers = a.defers := by
  cases d <;> rfl
theorem putN_size (ops : Array Oper) (V : Nat → Value) (i : Nat) (a : Act) : (putN ops V i a).tmps.size = a.tmps.size := by
  induction i with
  | zero => rfl
  | succ i ih => rw [putN, put_size, ih]
theorem putN_defers (ops : Array Oper) (V : Nat → Value) (i : Nat) (a : Act) : (putN ops V i a).defers = a.defers := by
  induction i with
  | zero => rfl
  | succ i ih => rw [putN, put_defers, ih]
theorem putL_size (ops : Array Oper) (V : Nat → Value) (l : Array Bool) (i : Nat) (a : Act) : (putL ops V l i a).tmps.size = a.tmps.size := by
  induction i with
  | zero => rfl
  | succ i ih => rw [putL]; split; rw [put_size, ih]; exact ih
theorem putL_defers (ops : Array Oper) (V : Nat → Value) (l : Array Bool) (i : Nat) (a : Act) : (putL ops V l i a).defers = a.defers := by
  induction i with
  | zero => rfl
  | succ i ih => rw [putL]; split; rw [put_defers, ih]; exact ih
theorem put_get_ne {a : Act} {d : Option Tmp} {v : Value} {t : Nat} (h : d ≠ some t) : (a.put d v).tmps[t]? = a.tmps[t]? := by
  cases d with
  | none => rfl
  | some d => simp only [Act.put]; rw [Array.getElem?_setIfInBounds_ne (fun e => h (by rw [e]))]
theorem put_get_eq {a : Act} {v : Value} {t : Nat} : (a.put (some t) v).tmps[t]? = if t < a.tmps.size then some v else none := by
  simp only [Act.put, Array.getElem?_setIfInBounds]
  simp
/-- A slot that none of the first m writes. -/
theorem putL_none {ops : Array Oper} {V : Nat → Value} {l : Array Bool} {t : Nat} {a : Act} : ∀ m, (∀ j, j < m → l.getD j false = true → dstAt ops j ≠ some t) → (putL ops V l m a).tmps[t]? = a.tmps[t]?
  | 0, _ => rfl
  | m + 1, h => by
    rw [putL]
    split
    · rename_i hl
      rw [put_get_ne (h m (by omega) hl)]
      exact putL_none m (fun j hj => h j (by omega))
    · exact putL_none m (fun j hj => h j (by omega))
theorem putN_none {ops : Array Oper} {V : Nat → Value} {t : Nat} {a : Act} : ∀ m, (∀ j, j < m → dstAt ops j ≠ some t) → (putN ops V m a).tmps[t]? = a.tmps[t]?
  | 0, _ => rfl
  | m + 1, h => by
    rw [putN, put_get_ne (h m (by omega))]
    exact putN_none m (fun j hj => h j (by omega))
/-- A slot that just one of them writes. -/
theorem putL_one {ops : Array Oper} {V : Nat → Value} {l : Array Bool} {t k : Nat} {a : Act} (hk : dstAt ops k = some t) (hl : l.getD k false = true) :
    ∀ m, k < m → (∀ j, j < m → j ≠ k → l.getD j false = true → dstAt ops j ≠ some t) → (putL ops V l m a).tmps[t]? = if t < a.tmps.size then some (V k) else none
  | 0, h, _ => by omega
  | m + 1, hm, h => by
    rw [putL]
    by_cases e : k = m
    · subst e
      rw [if_pos hl]
      rw [hk, put_get_eq, putL_size]
    · split
      · rename_i hl2
        rw [put_get_ne (h m (by omega) (Ne.symm e) hl2)]
        exact putL_one hk hl m (by omega) (fun j hj => h j (by omega))
      · exact putL_one hk hl m (by omega) (fun j hj => h j (by omega))
theorem putN_one {ops : Array Oper} {V : Nat → Value} {t k : Nat} {a : Act} (hk : dstAt ops k = some t) :
    ∀ m, k < m → (∀ j, j < m → j ≠ k → dstAt ops j ≠ some t) → (putN ops V m a).tmps[t]? = if t < a.tmps.size then some (V k) else none
  | 0, h, _ => by omega
  | m + 1, hm, h => by
    rw [putN]
    by_cases e : k = m
    · subst e
      rw [hk, put_get_eq, putN_size]
    · rw [put_get_ne (h m (by omega) (Ne.symm e))]
      exact putN_one hk m (by omega) (fun j hj => h j (by omega))
theorem putL_full {ops : Array Oper} {V : Nat → Value} {l : Array Bool} {a : Act} : ∀ m, (∀ j, j < m → l.getD j false = true) → putL ops V l m a = putN ops V m a
  | 0, _ => rfl
  | m + 1, h => by rw [putL, if_pos (h m (by omega)), putN, putL_full m (fun j hj => h j (by omega))]
/-- V with v at i. -/
def upd (V : Nat → Value) (i : Nat) (v : Value) : Nat → Value := fun j => if j = i then v else V j
theorem upd_eq (V : Nat → Value) (i : Nat) (v : Value) : upd V i v i = v := by simp [upd]
theorem upd_ne (V : Nat → Value) {i j : Nat} (v : Value) (h : j ≠ i) : upd V i v j = V j := by simp [upd, h]
/-- One more listed. -/
theorem putL_set {ops : Array Oper} {V : Nat → Value} {l : Array Bool} {a : Act} {i n : Nat} {v : Value} (hi : i < l.size) (hun : l.getD i false = false) (hd : ∀ d, dstAt ops i = some d → ∀ j, j < n → j ≠ i → dstAt ops j ≠ some d) :
    ∀ m, m ≤ n → putL ops (upd V i v) (l.setIfInBounds i true) m a = if i < m then (putL ops V l m a).put (dstAt ops i) v else putL ops V l m a
  | 0, _ => by simp [putL]
  | m + 1, hmn => by
    have ih := putL_set (V := V) (a := a) (v := v) hi hun hd m (by omega)
    rw [putL, ih]
    by_cases e : m = i
    · subst e
      have h1 : (l.setIfInBounds m true).getD m false = true := by simp [hi]
      have h2 : putL ops V l (m + 1) a = putL ops V l m a := by rw [putL, if_neg (by rw [hun]; simp)]
      have h3 : (m < m + 1) = True := by simp
      have h4 : (m < m) = False := by simp
      simp only [h1, h2, h3, h4, if_true, if_false, upd_eq]
    · have h1 : (l.setIfInBounds i true).getD m false = l.getD m false := getD_set_ne false (Ne.symm e)
      by_cases hm : i < m
      · have h3 : (i < m + 1) = True := by simp; omega
        have h4 : (i < m) = True := by simp [hm]
        simp only [h1, h3, h4, if_true, putL, upd_ne V v e]
        split
        · exact (Act.put_comm _ _ _ (fun d hd1 hd2 => hd d hd1 m (by omega) e hd2))
        · rfl
      · have h3 : (i < m + 1) = False := by simp; omega
        have h4 : (i < m) = False := by simp [hm]
        simp only [h1, h3, h4, if_false, putL, upd_ne V v e]

/-- Whoever is ready, or has been, has all of these behind it. -/
def ClosedD (D : Nat → Nat → Bool) (ops : Array Oper) : Prop := ∀ listed : Array Bool, (∀ j oj, ops[j]? = some oj → listed.getD j false = true → ∀ e ∈ oj.after, Region.binds .any e = true → listed.getD e.on false = true) →
  ∀ i o, ops[i]? = some o → (∀ e ∈ o.after, Region.binds .any e = true → listed.getD e.on false = true) → ∀ j, D i j = true → listed.getD j false = true
/-- What one operation is asked: in whatever world beyond the first, with what it waits for at hand, it goes on with a value that R allows. -/
def opOk (P : Program) (D : Nat → Nat → Bool) (ops : Array Oper) (R : Nat → (Nat → Value) → Nat → Nat → World → Prop) (a0 : Act) (w0 : World) (o : Oper) (i : Nat) : Prop :=
  ∀ (V : Nat → Value) (L U : Nat → Nat) (w : World), Below w0.heap.size w0 w → (∀ j, D i j = true → R j V (L j) (U j) w) →
    if Region.wanted o (yielded ops (putN ops V i a0).tmps) then
      ∀ K : Act → World → Prop, (∀ v w', R i (upd V i v) w.heap.size w'.heap.size w' → Below w.heap.size w w' → K ((putN ops V i a0).put o.dst v) w') → o.wp P (putN ops V i a0) w K (fun _ _ _ => False)
    else R i (upd V i undef) w.heap.size w.heap.size w
def opsOk (P : Program) (D : Nat → Nat → Bool) (ops : Array Oper) (R : Nat → (Nat → Value) → Nat → Nat → World → Prop) (a0 : Act) (w0 : World) : List Oper → Nat → Prop
  | [], _ => True
  | o :: l, i => opOk P D ops R a0 w0 o i ∧ opsOk P D ops R a0 w0 l (i + 1)
theorem opsOk_at {P : Program} {D : Nat → Nat → Bool} {ops : Array Oper} {R : Nat → (Nat → Value) → Nat → Nat → World → Prop} {a0 : Act} {w0 : World} : ∀ {l : List Oper} {k i : Nat} {o : Oper}, opsOk P D ops R a0 w0 l k → l[i]? = some o → opOk P D ops R a0 w0 o (k + i)
  | [], _, _, _, _, h => by simp at h
  | x :: l, k, 0, o, h, hi => by simp at hi; subst hi; exact h.1
  | x :: l, k, i + 1, o, h, hi => by
    have := opsOk_at (l := l) h.2 (by simpa using hi)
    rwa [show k + 1 + i = k + (i + 1) from by omega] at this
theorem growB_spec {ops : Array Oper} {n i : Nat} (h : growB ops n = true) (hi : i < n) : ∃ o, ops[i]? = some o ∧ (∀ e ∈ o.after, Region.binds .any e = true → e.on < i) ∧
    (∀ t ∈ o.looksAt ops, ∀ j, j < n → dstAt ops j = some t → (j < i ∧ Region.waitsFor .any ops i j = true) ∨ (i < j ∧ Region.waitsFor .any ops j i = true)) ∧
    (∀ d, o.dst = some d → ∀ j, j < n → j ≠ i → dstAt ops j ≠ some d) := by
  have h1 := List.all_eq_true.1 h i (List.mem_range.2 hi)
  split at h1
  · cases h1
  · rename_i o ho
    simp only [Bool.and_eq_true] at h1
    obtain ⟨⟨h2, h3⟩, h4⟩ := h1
    refine ⟨o, ho, ?_, ?_, ?_⟩
    · intro e he hb
      have := Array.all_eq_true_iff_forall_mem.1 h2 e he
      simp only [hb, Bool.not_true, Bool.false_or, decide_eq_true_eq] at this
      exact this
    · intro t ht j hj hd
      have := List.all_eq_true.1 (List.all_eq_true.1 h3 t ht) j (List.mem_range.2 hj)
      simp only [hd, bne_self_eq_false, Bool.false_or, Bool.or_eq_true, Bool.and_eq_true, decide_eq_true_eq] at this
      exact this
    · intro d hd j hj hne
      rw [hd] at h4
      have := List.all_eq_true.1 h4 j (List.mem_range.2 hj)
      simp only [Bool.or_eq_true, beq_iff_eq, hne, false_or, bne_iff_ne] at this
      exact this
theorem put_same {a b : Act} {d : Option Tmp} {v u : Value} (hs : a.tmps.size = b.tmps.size) (h : a.put d v = a.put d u) : b.put d v = b.put d u := by
  cases d with
  | none => rfl
  | some d =>
    by_cases hd : d < a.tmps.size
    · have := congrArg (fun a : Act => a.tmps[d]?) h
      rw [put_get_eq, put_get_eq, if_pos hd, if_pos hd] at this
      cases this
      rfl
    · have h1 : b.tmps.size ≤ d := hs ▸ Nat.le_of_not_lt hd
      simp only [Act.put]
      rw [Array.setIfInBounds_eq_of_size_le h1, Array.setIfInBounds_eq_of_size_le h1]
/-- An operation that runs in one frame runs alike in another where it sees the same. -/
theorem wp_frames {P : Program} {o : Oper} {a b : Act} {w : World} {K K' : Act → World → Prop} {Q : Exit → Act → World → Prop} (he : execOp b.eval o = execOp a.eval o)
    (hK : ∀ v w', K (a.put o.dst v) w' → K' (b.put o.dst v) w') (hD : ∀ (d : Deferred) w', ¬ K ({ a with defers := d :: a.defers }.put o.dst undef) w') (h : o.wp P a w K (fun _ _ _ => False)) : o.wp P b w K' Q := by
  unfold Oper.wp at *
  rw [he]
  generalize (execOp a.eval o).run P w = r at *
  cases r with
  | ok n w' =>
    cases n <;> simp only [Oper.upon] at h ⊢
    case value u => exact hK _ _ h
    case skip => exact hK _ _ h
    case defer d => exact absurd h (hD d w')
    case enter f args =>
      refine Calls.mono h fun e w'' he => ?_
      cases e with
      | returned u => exact hK _ _ he
      | panicked c => exact he.elim
      | outgrown => obtain ⟨_, _, hf⟩ := he; exact hf.elim
    case row row args => exact Rows.mono h fun u w'' he => hK _ _ he
  | halt x w' =>
    cases x <;> simp only [Oper.upon] at h
/-- How many of the first n are not listed yet. -/
def unl (l : Array Bool) : Nat → Nat
  | 0 => 0
  | n + 1 => unl l n + if l.getD n false then 0 else 1
theorem unl_zero {l : Array Bool} : ∀ n, unl l n = 0 → ∀ j, j < n → l.getD j false = true
  | 0, _, j, hj => by omega
  | n + 1, h, j, hj => by
    unfold unl at h
    by_cases e : l.getD n false = true
    · by_cases ej : j = n
      · rw [ej]; exact e
      · exact unl_zero n (by omega) j (by omega)
    · rw [if_neg e] at h; omega
theorem unl_set {l : Array Bool} {i : Nat} (hi : i < l.size) (hun : l.getD i false = false) : ∀ n, i < n → unl (l.setIfInBounds i true) n + 1 = unl l n
  | 0, h => by omega
  | n + 1, h => by
    unfold unl
    by_cases e : i = n
    · subst e
      have h1 : (l.setIfInBounds i true).getD i false = true := by simp [hi]
      have h2 : ∀ m, m ≤ i → unl (l.setIfInBounds i true) m = unl l m := by
        intro m
        induction m with
        | zero => intro _; rfl
        | succ m ih =>
          intro hm
          unfold unl
          rw [ih (by omega), getD_set_ne false (by omega)]
      rw [h1, hun, h2 i (Nat.le_refl _)]
      simp
    · rw [getD_set_ne false e]
      have := unl_set hi hun n (by omega)
      omega
theorem unl_some {l : Array Bool} : ∀ n, unl l n ≠ 0 → ∃ i, i < n ∧ l.getD i false = false ∧ ∀ j, j < i → l.getD j false = true
  | 0, h => by simp [unl] at h
  | n + 1, h => by
    by_cases e : unl l n = 0
    · refine ⟨n, by omega, ?_, unl_zero n e⟩
      unfold unl at h
      rw [e] at h
      by_cases e2 : l.getD n false = true
      · rw [if_pos e2] at h; simp at h
      · simpa using e2
    · obtain ⟨i, h1, h2⟩ := unl_some n e
      exact ⟨i, by omega, h2⟩
section
variable {P : Program} {D : Nat → Nat → Bool} {ops : Array Oper} {Q : Exit → Act → World → Prop} {R : Nat → (Nat → Value) → Nat → Nat → World → Prop} {a0 : Act} {w0 : World} {n : Nat}
theorem grow_head (hgb : growB ops n = true) (hn : n ≤ ops.size) (htw : n < ops.size → Region.sinkB .any ops n = true ∧ Region.chainB .any ops n = true) (hsel : Region.noSelect ops = true)
    (hR : ∀ i V l u w w', R i V l u w → Below w.heap.size w w' → R i V l u w') (hD : ClosedD D ops) (hV' : ∀ i V V' l u w, R i V l u w → V i = V' i → (∀ j, D i j = true → V j = V' j) → R i V' l u w) (hop : opsOk P D ops R a0 w0 (ops.toList.take n) 0)
    (hend : ∀ (V : Nat → Value) (L U : Nat → Nat) w listed, Below w0.heap.size w0 w → (∀ j, j < n → R j V (L j) (U j) w ∧ w0.heap.size ≤ L j ∧ L j ≤ U j ∧ U j ≤ w.heap.size) → (∀ j k, j < n → k < n → j ≠ k → U j ≤ L k ∨ U k ≤ L j) → HeadInv .any ops n listed → (∀ j, j < n → listed.getD j false = true) → wpAny P .any ops Q (ops.size - n) listed (putN ops V n a0) w) :
    ∀ (m : Nat) (listed : Array Bool) (V : Nat → Value) (L U : Nat → Nat) (w : World), HeadInv .any ops n listed → unl listed n = m → Below w0.heap.size w0 w → (∀ j, listed.getD j false = true → R j V (L j) (U j) w ∧ w0.heap.size ≤ L j ∧ L j ≤ U j ∧ U j ≤ w.heap.size) → (∀ j k, listed.getD j false = true → listed.getD k false = true → j ≠ k → U j ≤ L k ∨ U k ≤ L j) →
      wpAny P .any ops Q (m + (ops.size - n)) listed (putL ops V listed n a0) w := by
  intro m
  induction m with
  | zero =>
    intro listed V L U w inv hu hb hV hsep
    have hall := unl_zero n hu
    rw [Nat.zero_add, putL_full n hall]
    exact hend V L U w listed hb (fun j hj => hV j (hall j hj)) (fun j k hj hk => hsep j k (hall j hj) (hall k hk)) inv hall
  | succ m ih =>
    intro listed V L U w inv hu hb hV hsep
    obtain ⟨k, hk, hkun, hkb⟩ := unl_some n (by omega : unl listed n ≠ 0)
    have hks : k < listed.size := by rw [inv.size]; omega
    have hkr : k ∈ Region.ready .any ops listed := by
      obtain ⟨o, ho, ha, _, _⟩ := growB_spec hgb hk
      exact mem_ready.2 ⟨getD_in hks hkun, o, ho, fun e he hb => hkb _ (ha e he hb)⟩
    rw [show m + 1 + (ops.size - n) = m + (ops.size - n) + 1 from by omega]
    refine ⟨fun h => (by rw [h] at hkr; cases hkr), ?_⟩
    intro i hi
    have hin : i < n := by
      rcases Nat.lt_or_ge i n with h | h
      · exact h
      · obtain ⟨_, oi, hoi, _⟩ := mem_ready.1 hi
        have hio := (Array.getElem?_eq_some_iff.1 hoi).1
        obtain ⟨h1, h2⟩ := htw (by omega)
        exact absurd hi (tail_waits h1 h2 (by omega) inv _ k rfl hk (getD_in hks hkun) i h)
    obtain ⟨o, ho, ha, hlook, hdst⟩ := growB_spec hgb hin
    obtain ⟨hiun, o', ho', hready⟩ := mem_ready.1 hi
    obtain rfl : o' = o := by rw [ho] at ho'; cases ho'; rfl
    have hios := (Array.getElem?_eq_some_iff.1 ho).1
    have hiun' : listed.getD i false = false := getD_both hiun
    have his : i < listed.size := by rw [inv.size]; exact hios
    have hwait : ∀ j, Region.waitsFor .any ops i j = true → listed.getD j false = true := by
      intro j hj
      obtain ⟨oi, hoi, e, he, hb, rfl⟩ := Region.waitsFor_spec hj
      have : oi = o' := by rw [ho] at hoi; cases hoi; rfl
      subst this
      exact hready e he hb
    have hlist : (ops.toList.take n)[i]? = some o' := by
      rw [List.getElem?_take, if_pos hin]
      simpa using ho
    have hok := opsOk_at hop hlist
    rw [Nat.zero_add] at hok
    have hok := hok V L U w hb (fun j hj => (hV j (hD listed (fun j oj hoj hl e he hb => inv.closed j oj hoj hl e he hb) i o' ho (fun e he hb => hready e he hb) j hj)).1)
    -- what it sees is the same
    have hsee : ∀ t ∈ o'.looksAt ops, (putL ops V listed n a0).tmps[t]? = (putN ops V i a0).tmps[t]? := by
      intro t ht
      by_cases hex : ∃ j, j < n ∧ dstAt ops j = some t
      · obtain ⟨j, hj, hd⟩ := hex
        obtain ⟨oj, hoj, _, _, hdj⟩ := growB_spec hgb hj
        have hdj' : oj.dst = some t := by unfold dstAt at hd; rw [hoj] at hd; exact hd
        have honly := hdj t hdj'
        rcases hlook t ht j hj hd with ⟨hji, hw⟩ | ⟨hij, hw⟩
        · rw [putL_one hd (hwait j hw) n hj (fun q hq hne _ => honly q hq hne), putN_one hd i hji (fun q hq hne => honly q (by omega) hne)]
        · have hjun : listed.getD j false = false := by
            cases hl : listed.getD j false with
            | false => rfl
            | true =>
              obtain ⟨oj2, hoj2, e, he, hb2, hon⟩ := Region.waitsFor_spec hw
              have := inv.closed j oj2 hoj2 hl e he hb2
              rw [hon, hiun'] at this
              cases this
          rw [putL_none n (fun q hq hl => by
              by_cases e : q = j
              · subst e; rw [hjun] at hl; cases hl
              · exact honly q hq e), putN_none i (fun q hq => by
              by_cases e : q = j
              · omega
              · exact honly q (by omega) e)]
      · rw [putL_none n (fun q hq _ e => hex ⟨q, hq, e⟩), putN_none i (fun q hq e => hex ⟨q, by omega, e⟩)]
    have hex : execOp (putL ops V listed n a0).eval o' = execOp (putN ops V i a0).eval o' := by
      refine execOp_congr o' (fun cs b => Region.noSelect_spec hsel i o' cs b ho) ?_
      intro x hx
      cases x with
      | tmp t =>
        have := hsee t (List.mem_append_left _ (List.mem_filterMap.2 ⟨.tmp t, by simpa using hx, rfl⟩))
        simp only [Act.eval, Array.getD_eq_getD_getElem?, this]
      | _ => rfl
    have hwant : Region.wanted o' (yielded ops (putL ops V listed n a0).tmps) = Region.wanted o' (yielded ops (putN ops V i a0).tmps) := by
      unfold Region.wanted
      cases hg : o'.guard with
      | none => rfl
      | some gw =>
        obtain ⟨g, want⟩ := gw
        have : yielded ops (putL ops V listed n a0).tmps g = yielded ops (putN ops V i a0).tmps g := by
          unfold yielded
          cases ht : (ops[g]?).bind (·.dst) with
          | none => rfl
          | some t =>
            have := hsee t (by simp [Oper.looksAt, hg, ht])
            simp only [Option.bind_some, this]
        simp only [this]
    have hdi : dstAt ops i = o'.dst := by unfold dstAt; rw [ho]; rfl
    -- one step on
    have hgo : ∀ (v : Value) (w' : World), R i (upd V i v) w.heap.size w'.heap.size w' → Below w.heap.size w w' →
        wpAny P .any ops Q (m + (ops.size - n)) (listed.setIfInBounds i true) ((putL ops V listed n a0).put o'.dst v) w' := by
      intro v w' hRv hb'
      have hset := putL_set (a := a0) (V := V) (v := v) his hiun' (fun d hd j hjn hj => by
        rw [hdi] at hd
        exact hdst d hd j hjn hj) n (Nat.le_refl _)
      rw [if_pos hin, hdi] at hset
      rw [← hset]
      have hu' := unl_set his hiun' n hin
      refine ih _ _ (fun j => if j = i then w.heap.size else L j) (fun j => if j = i then w'.heap.size else U j) w' (inv.set hi hin) (by omega) (hb.trans (hb'.mono hb.size)) ?_ ?_
      · intro j hj
        by_cases e : j = i
        · subst e
          simp only [if_true]
          exact ⟨hRv, hb.size, hb'.size, Nat.le_refl _⟩
        · simp only [if_neg e]
          rw [getD_set_ne false (Ne.symm e)] at hj
          obtain ⟨r1, r2, r3, r4⟩ := hV j hj
          refine ⟨hR j _ _ _ w w' (hV' j V (upd V i v) _ _ _ r1 (upd_ne V v e).symm ?_) hb', r2, r3, Nat.le_trans r4 hb'.size⟩
          intro q hq
          have hql : listed.getD q false = true := by
            have hjs : j < ops.size := by
              rw [← inv.size]
              rcases Nat.lt_or_ge j listed.size with h | h
              · exact h
              · rw [Array.getD_eq_getD_getElem?, Array.getElem?_eq_none h] at hj; cases hj
            exact hD listed (fun j oj hoj hl e he hb => inv.closed j oj hoj hl e he hb) j _ (Array.getElem?_eq_getElem hjs) (fun e he hb => inv.closed j _ (Array.getElem?_eq_getElem hjs) hj e he hb) q hq
          have : q ≠ i := by rintro rfl; rw [hiun'] at hql; cases hql
          exact (upd_ne V v this).symm
      · intro j k hj hk hne
        by_cases ej : j = i
        · subst ej
          rw [getD_set_ne false hne] at hk
          simp only [if_true, if_neg (Ne.symm hne)]
          exact .inr (hV k hk).2.2.2
        · rw [getD_set_ne false (Ne.symm ej)] at hj
          by_cases ek : k = i
          · subst ek
            simp only [if_true, if_neg ej]
            exact .inl (hV j hj).2.2.2
          · rw [getD_set_ne false (Ne.symm ek)] at hk
            simp only [if_neg ej, if_neg ek]
            exact hsep j k hj hk hne
    unfold wpOp
    simp only [ho, hwant]
    split
    · rename_i hwt
      rw [if_pos hwt] at hok
      left
      have h1 := hok (fun a' w' => ∃ v, a' = (putN ops V i a0).put o'.dst v ∧ R i (upd V i v) w.heap.size w'.heap.size w' ∧ Below w.heap.size w w') (fun v w' hr hb' => ⟨v, rfl, hr, hb'⟩)
      refine wp_frames hex ?_ ?_ h1
      · rintro v w' ⟨u, hu1, hr, hb'⟩
        rw [put_same (by rw [putN_size, putL_size]) hu1]
        exact hgo u w' hr hb'
      · rintro d w' ⟨u, hu1, _⟩
        have := congrArg Act.defers hu1
        rw [put_defers, put_defers] at this
        exact absurd (congrArg List.length this) (by simp)
    · rename_i hwt
      rw [if_neg hwt] at hok
      exact hgo undef w hok (Below.refl _ _)
/-- Which are listed when just the first n are. -/
def firstN (ops : Array Oper) (n : Nat) : Array Bool := (Array.replicate ops.size false).mapIdx fun i _ => decide (i < n)
theorem firstN_eq {listed : Array Bool} (inv : HeadInv .any ops n listed) (hall : ∀ j, j < n → listed.getD j false = true) : listed = firstN ops n := by
  apply Array.ext
  · simp [firstN, inv.size]
  · intro i h1 h2
    by_cases hi : i < n
    · have := hall i hi
      simp [h1] at this
      simp [firstN, hi, this]
    · have := inv.tail i (by omega) (by rw [inv.size] at h1; exact h1)
      simp [h1] at this
      simp [firstN, hi, this]
theorem headInv_start : HeadInv .any ops n (Array.replicate ops.size false) := by
  refine ⟨by simp, ?_, ?_⟩
  · intro j oj _ h
    rw [getD_replicate_false] at h
    cases h
  · intro t _ ht
    simp [ht]
theorem putL_start {V : Nat → Value} (a : Act) : ∀ m, putL ops V (Array.replicate ops.size false) m a = a
  | 0 => rfl
  | m + 1 => by rw [putL, getD_replicate_false, if_neg (by simp)]; exact putL_start a m
theorem unl_start : ∀ m, unl (Array.replicate ops.size false) m = m
  | 0 => rfl
  | m + 1 => by rw [unl, unl_start m, getD_replicate_false]; rfl
/-- A REGION THAT DRAWS ITS ORDER, n operations that make memory at most, and a tail in one forced order. -/
theorem wp_region_grow {id : Nat} (n : Nat) (R : Nat → (Nat → Value) → Nat → Nat → World → Prop) (hm : P.follows .mixedOrders = true) (hsel : Region.noSelect ops = true) (hgb : growB ops n = true) (hn : n < ops.size)
    (hs : Region.sinkB .any ops n = true) (hc : Region.chainB .any ops n = true) (hq : Region.seqB .any ops (ops.size - n) n (firstN ops n) = true)
    (hR : ∀ i V l u w w', R i V l u w → Below w.heap.size w w' → R i V l u w') (hD : ClosedD D ops) (hV : ∀ i V V' l u w, R i V l u w → V i = V' i → (∀ j, D i j = true → V j = V' j) → R i V' l u w)
    (hop : opsOk P D ops R a0 w0 (ops.toList.take n) 0)
    (htail : ∀ (V : Nat → Value) (L U : Nat → Nat) w, Below w0.heap.size w0 w → (∀ j, j < n → R j V (L j) (U j) w ∧ w0.heap.size ≤ L j ∧ L j ≤ U j ∧ U j ≤ w.heap.size) → (∀ j k, j < n → k < n → j ≠ k → U j ≤ L k ∨ U k ≤ L j) → wpList P ops Q (ops.toList.drop n) (putN ops V n a0) w) : (Code.region id ops true).wp P Q a0 w0 := by
  refine wp_region_any hm ?_
  have h := grow_head (Q := Q) hgb (Nat.le_of_lt hn) (fun _ => ⟨hs, hc⟩) hsel hR hD hV hop ?_ n (Array.replicate ops.size false) (fun _ => undef) (fun _ => 0) (fun _ => 0) { w0 with drawn := w0.drawn + 1 } headInv_start (unl_start n) ((Below.refl _ w0).drew) (fun j hj => by rw [getD_replicate_false] at hj; cases hj) (fun j k hj => by rw [getD_replicate_false] at hj; cases hj)
  · rw [putL_start, show n + (ops.size - n) = ops.size from by omega] at h
    exact h
  · intro V L U w listed hb hV2 hsep inv hall
    have hl := firstN_eq inv hall
    subst hl
    have ht := htail V L U w hb hV2 hsep
    have hlen : (ops.toList.drop n).length = ops.size - n := by simp
    have := wpAny_of_seq (P := P) (md := .any) (Q' := Q) (ops.toList.drop n) n (firstN ops n) (putN ops V n a0) w (fun j => by simp) (by rw [hlen]; exact hq) ht
    rwa [hlen] at this
/-- The same where there is no tail. -/
theorem wp_region_grow_all {id : Nat} (R : Nat → (Nat → Value) → Nat → Nat → World → Prop) (hm : P.follows .mixedOrders = true) (hsel : Region.noSelect ops = true) (hgb : growB ops ops.size = true)
    (hR : ∀ i V l u w w', R i V l u w → Below w.heap.size w w' → R i V l u w') (hD : ClosedD D ops) (hV : ∀ i V V' l u w, R i V l u w → V i = V' i → (∀ j, D i j = true → V j = V' j) → R i V' l u w)
    (hop : opsOk P D ops R a0 w0 (ops.toList.take ops.size) 0)
    (hend : ∀ (V : Nat → Value) (L U : Nat → Nat) w, Below w0.heap.size w0 w → (∀ j, j < ops.size → R j V (L j) (U j) w ∧ w0.heap.size ≤ L j ∧ L j ≤ U j ∧ U j ≤ w.heap.size) → (∀ j k, j < ops.size → k < ops.size → j ≠ k → U j ≤ L k ∨ U k ≤ L j) → Q .normal (putN ops V ops.size a0) w) : (Code.region id ops true).wp P Q a0 w0 := by
  refine wp_region_any hm ?_
  have h := grow_head (Q := Q) (n := ops.size) hgb (Nat.le_refl _) (fun h => absurd h (Nat.lt_irrefl _)) hsel hR hD hV hop ?_ ops.size (Array.replicate ops.size false) (fun _ => undef) (fun _ => 0) (fun _ => 0) { w0 with drawn := w0.drawn + 1 } headInv_start (unl_start _) ((Below.refl _ w0).drew) (fun j hj => by rw [getD_replicate_false] at hj; cases hj) (fun j k hj => by rw [getD_replicate_false] at hj; cases hj)
  · rw [putL_start, show ops.size + (ops.size - ops.size) = ops.size from by omega] at h
    exact h
  · intro V L U w listed hb hV2 hsep inv hall
    rw [Nat.sub_self]
    refine ⟨?_, hend V L U w hb hV2 hsep⟩
    rw [List.eq_nil_iff_forall_not_mem]
    intro i hi
    obtain ⟨h1, o, ho, _⟩ := mem_ready.1 hi
    have := hall i (Array.getElem?_eq_some_iff.1 ho).1
    rw [getD_both h1] at this
    cases this
end

end Go.Proofs.Ytekokhlldcmjfaa
