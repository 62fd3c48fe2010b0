/- A region that draws its order, its operations numbered anew. No program in sight. -/
import Derived.Test.YtekokhlldcmjfaaGrw
namespace Go.Proofs.Ytekokhlldcmjfaa
open Go.RowKit
set_option linter.unusedVariables false
/-- An operation that names the others by their new numbers. -/
def renOp (f : Nat → Nat) (o : Oper) : Oper := { o with after := o.after.map (fun e => { e with on := f e.on }), guard := o.guard.map (fun g => (f g.1, g.2)) }
/-- ops' is ops, numbered anew: f tells the new number of an old one, b the old of a new. -/
structure Renum (f b : Nat → Nat) (ops ops' : Array Oper) : Prop where
  size : ops'.size = ops.size
  fb : ∀ i, i < ops.size → f i < ops.size ∧ b (f i) = i
  bf : ∀ i, i < ops.size → b i < ops.size ∧ f (b i) = i
  at' : ∀ (i : Nat) (o : Oper), ops[i]? = some o → ops'[f i]? = some (renOp f o)
  edges : ∀ (i : Nat) (o : Oper), ops[i]? = some o → ∀ e ∈ o.after, e.on < ops.size
section
variable {P : Program} {f b : Nat → Nat} {ops ops' : Array Oper} {Q : Exit → Act → World → Prop}
/-- The listed ones are the same. -/
def Alike (f : Nat → Nat) (ops : Array Oper) (l l' : Array Bool) : Prop := l.size = ops.size ∧ l'.size = ops.size ∧ ∀ i, i < ops.size → l'.getD (f i) false = l.getD i false
theorem getD_bools {l : Array Bool} {i : Nat} (h : i < l.size) : l.getD i true = l.getD i false := by
  simp [h]
theorem alike_ready (R : Renum f b ops ops') {l l' : Array Bool} (h : Alike f ops l l') {i : Nat} (hi : i ∈ Region.ready .any ops l) : f i ∈ Region.ready .any ops' l' := by
  obtain ⟨h0, o, ho, hall⟩ := mem_ready.1 hi
  have hlt := (Array.getElem?_eq_some_iff.1 ho).1
  refine mem_ready.2 ⟨?_, renOp f o, R.at' i o ho, ?_⟩
  · rw [getD_bools (by rw [h.2.1]; exact (R.fb i hlt).1), h.2.2 i hlt, ← getD_bools (by rw [h.1]; exact hlt)]
    exact h0
  · intro e he hb
    simp only [renOp, Array.mem_map] at he
    obtain ⟨e0, he0, rfl⟩ := he
    rw [h.2.2 e0.on (R.edges i o ho e0 he0)]
    exact hall e0 he0 hb
theorem alike_back (R : Renum f b ops ops') {l l' : Array Bool} (h : Alike f ops l l') {i : Nat} (hi : i ∈ Region.ready .any ops' l') : ∃ j, j ∈ Region.ready .any ops l ∧ f j = i := by
  obtain ⟨h0, o', ho', hall⟩ := mem_ready.1 hi
  have hlt := (Array.getElem?_eq_some_iff.1 ho').1
  rw [R.size] at hlt
  obtain ⟨hb1, hb2⟩ := R.bf i hlt
  have ho : ops[b i]? = some ops[b i] := Array.getElem?_eq_getElem hb1
  have h1 := R.at' (b i) _ ho
  rw [hb2, ho'] at h1
  injection h1 with h1
  refine ⟨b i, mem_ready.2 ⟨?_, _, ho, ?_⟩, hb2⟩
  · have h2 := h.2.2 (b i) hb1
    rw [hb2] at h2
    rw [getD_bools (by rw [h.1]; exact hb1), ← h2, ← getD_bools (by rw [h.2.1]; exact hlt)]
    exact h0
  · intro e he hb
    have h2 := h.2.2 e.on (R.edges (b i) _ ho e he)
    rw [← h2]
    refine hall { e with on := f e.on } ?_ hb
    rw [h1]
    simp only [renOp, Array.mem_map]
    exact ⟨e, he, rfl⟩
theorem alike_set (R : Renum f b ops ops') {l l' : Array Bool} (h : Alike f ops l l') {i : Nat} (hi : i < ops.size) : Alike f ops (l.setIfInBounds i true) (l'.setIfInBounds (f i) true) := by
  refine ⟨by simp [h.1], by simp [h.2.1], fun j hj => ?_⟩
  by_cases e : i = j
  · subst e
    have h1 := (R.fb i hi).1
    have h2 : i < l.size := by rw [h.1]; exact hi
    have h3 : f i < l'.size := by rw [h.2.1]; exact h1
    simp [h2, h3]
  · have hne : f i ≠ f j := fun he => e (by rw [← (R.fb i hi).2, ← (R.fb j hj).2, he])
    rw [getD_set_ne false e, getD_set_ne false hne]
    exact h.2.2 j hj
theorem ren_yielded (R : Renum f b ops ops') (tmps : Array Value) {g : Nat} (hg : g < ops.size) : yielded ops' tmps (f g) = yielded ops tmps g := by
  have ho : ops[g]? = some ops[g] := Array.getElem?_eq_getElem hg
  have h1 := R.at' g _ ho
  unfold yielded
  rw [h1, ho]
  rfl
theorem ren_wanted (R : Renum f b ops ops') (o : Oper) (tmps : Array Value) (hg : ∀ g, o.guard = some g → g.1 < ops.size) : Region.wanted (renOp f o) (yielded ops' tmps) = Region.wanted o (yielded ops tmps) := by
  unfold Region.wanted renOp
  cases hgo : o.guard with
  | none => rfl
  | some g =>
    obtain ⟨g, want⟩ := g
    simp only [Option.map_some]
    rw [ren_yielded R tmps (hg _ hgo)]
theorem ren_exec (ρ : Operand → Value) (o : Oper) : execOp ρ (renOp f o) = execOp ρ o := rfl
theorem ren_wpOp (R : Renum f b ops ops') {i : Nat} (hi : i < ops.size) (hg : ∀ (i : Nat) (o : Oper) (g : Nat × Bool), ops[i]? = some o → o.guard = some g → g.1 < ops.size) {K : Act → World → Prop} {a : Act} {w : World} (h : wpOp P ops' Q (f i) K a w) : wpOp P ops Q i K a w := by
  have ho : ops[i]? = some ops[i] := Array.getElem?_eq_getElem hi
  have h1 := R.at' i _ ho
  unfold wpOp at h ⊢
  rw [h1] at h
  rw [ho]
  simp only [ren_wanted R _ a.tmps (fun g hgo => hg i _ g ho hgo)] at h
  simp only
  exact h
/-- Whatever order is picked: numbered anew it is the same. -/
theorem wpAny_ren (R : Renum f b ops ops') (hg : ∀ (i : Nat) (o : Oper) (g : Nat × Bool), ops[i]? = some o → o.guard = some g → g.1 < ops.size) : ∀ (fuel : Nat) (l l' : Array Bool) (a : Act) (w : World), Alike f ops l l' → wpAny P .any ops' Q fuel l' a w → wpAny P .any ops Q fuel l a w
  | 0, l, l', a, w, h, hw => by
    refine ⟨?_, hw.2⟩
    rw [List.eq_nil_iff_forall_not_mem]
    intro i hi
    have := alike_ready R h hi
    rw [hw.1] at this
    cases this
  | fuel + 1, l, l', a, w, h, hw => by
    refine ⟨fun h0 => hw.1 ?_, fun i hi => ?_⟩
    · rw [List.eq_nil_iff_forall_not_mem]
      intro i hi
      obtain ⟨j, hj, _⟩ := alike_back R h hi
      rw [h0] at hj
      cases hj
    · have hlt : i < ops.size := by
        obtain ⟨_, o, ho, _⟩ := mem_ready.1 hi
        exact (Array.getElem?_eq_some_iff.1 ho).1
      refine ren_wpOp R hlt hg ?_
      exact wpOp_mono (fun a' w' hk => wpAny_ren R hg fuel _ _ a' w' (alike_set R h hlt) hk) (hw.2 (f i) (alike_ready R h hi))
theorem alike_start (R : Renum f b ops ops') : Alike f ops (Array.replicate ops.size false) (Array.replicate ops'.size false) := by
  refine ⟨by simp, by simp [R.size], fun i hi => ?_⟩
  rw [getD_replicate_false, getD_replicate_false]
end
/-- Its value does not hang on the world. -/
def Eager (P : Program) (o : Oper) : Prop := ∀ (ρ : Operand → Value) (w : World), (∃ v, ∀ w2, (execOp ρ o).run P w2 = .ok (.value v) w2) ∨ (∃ x w', (execOp ρ o).run P w = .halt x w')
section
variable {P : Program} {D : Nat → Nat → Bool} {ops : Array Oper} {Q : Exit → Act → World → Prop} {R : Nat → (Nat → Value) → Nat → Nat → World → Prop} {a0 : Act} {w0 : World} {n : Nat}
/-- As grow_head, where operations whose value does not hang on the world need not be behind. -/
theorem mix_head (hgb : growB ops n = true) (hn : n ≤ ops.size) (E : Nat → Bool) (hE : ∀ i, i < n → E i = true → ∀ o, ops[i]? = some o → o.guard = none ∧ Eager P o ∧ ∀ j oj, ops[j]? = some oj → j ≠ i → Region.waitsFor .any ops j i = true ∨ Region.waitsFor .any ops i j = true ∨ o.apart ops oj = true) (hsink : ∀ t, n ≤ t → t < ops.size → ∀ i, i < n → E i = false → D t i = true) (hQ : ∀ c a d v w, Q (.panic c) (Act.put a d v) w → Q (.panic c) a w) (hsel : Region.noSelect ops = true)
    (hR : ∀ i V l u w w', R i V l u w → Below w.heap.size w w' → R i V l u w') (hD : ClosedD D ops) (hV' : ∀ i V V' l u w, R i V l u w → V i = V' i → (∀ j, D i j = true → V j = V' j) → R i V' l u w) (hop : opsOk P D ops R a0 w0 (ops.toList.take n) 0)
    (hend : ∀ (V : Nat → Value) (L U : Nat → Nat) w listed, Below w0.heap.size w0 w → (∀ j, j < n → R j V (L j) (U j) w ∧ w0.heap.size ≤ L j ∧ L j ≤ U j ∧ U j ≤ w.heap.size) → (∀ j k, j < n → k < n → j ≠ k → U j ≤ L k ∨ U k ≤ L j) → HeadInv .any ops n listed → (∀ j, j < n → listed.getD j false = true) → wpAny P .any ops Q (ops.size - n) listed (putN ops V n a0) w) :
    ∀ (m : Nat) (listed : Array Bool) (V : Nat → Value) (L U : Nat → Nat) (w : World), HeadInv .any ops n listed → unl listed n = m → Below w0.heap.size w0 w → (∀ j, listed.getD j false = true → R j V (L j) (U j) w ∧ w0.heap.size ≤ L j ∧ L j ≤ U j ∧ U j ≤ w.heap.size) → (∀ j k, listed.getD j false = true → listed.getD k false = true → j ≠ k → U j ≤ L k ∨ U k ≤ L j) →
      wpAny P .any ops Q (m + (ops.size - n)) listed (putL ops V listed n a0) w := by
  intro m
  induction m with
  | zero =>
    intro listed V L U w inv hu hb hV hsep
    have hall := unl_zero n hu
    rw [Nat.zero_add, putL_full n hall]
    exact hend V L U w listed hb (fun j hj => hV j (hall j hj)) (fun j k hj hk => hsep j k (hall j hj) (hall k hk)) inv hall
  | succ m ih =>
    intro listed V L U w inv hu hb hV hsep
    obtain ⟨k, hk, hkun, hkb⟩ := unl_some n (by omega : unl listed n ≠ 0)
    have hks : k < listed.size := by rw [inv.size]; omega
    have hkr : k ∈ Region.ready .any ops listed := by
      obtain ⟨o, ho, ha, _, _⟩ := growB_spec hgb hk
      exact mem_ready.2 ⟨getD_in hks hkun, o, ho, fun e he hb => hkb _ (ha e he hb)⟩
    have common : ∀ i, i ∈ Region.ready .any ops listed → i < n → ∃ o', ops[i]? = some o' ∧ execOp (putL ops V listed n a0).eval o' = execOp (putN ops V i a0).eval o' ∧ Region.wanted o' (yielded ops (putL ops V listed n a0).tmps) = Region.wanted o' (yielded ops (putN ops V i a0).tmps) ∧
        (if Region.wanted o' (yielded ops (putN ops V i a0).tmps) then ∀ K : Act → World → Prop, (∀ v w', R i (upd V i v) w.heap.size w'.heap.size w' → Below w.heap.size w w' → K ((putN ops V i a0).put o'.dst v) w') → o'.wp P (putN ops V i a0) w K (fun _ _ _ => False) else R i (upd V i undef) w.heap.size w.heap.size w) ∧
        ∀ (v : Value) (w' : World), R i (upd V i v) w.heap.size w'.heap.size w' → Below w.heap.size w w' → wpAny P .any ops Q (m + (ops.size - n)) (listed.setIfInBounds i true) ((putL ops V listed n a0).put o'.dst v) w' := by
      intro i hi hin
      obtain ⟨o, ho, ha, hlook, hdst⟩ := growB_spec hgb hin
      obtain ⟨hiun, o', ho', hready⟩ := mem_ready.1 hi
      obtain rfl : o' = o := by rw [ho] at ho'; cases ho'; rfl
      have hios := (Array.getElem?_eq_some_iff.1 ho).1
      have hiun' : listed.getD i false = false := getD_both hiun
      have his : i < listed.size := by rw [inv.size]; exact hios
      have hwait : ∀ j, Region.waitsFor .any ops i j = true → listed.getD j false = true := by
        intro j hj
        obtain ⟨oi, hoi, e, he, hb, rfl⟩ := Region.waitsFor_spec hj
        have : oi = o' := by rw [ho] at hoi; cases hoi; rfl
        subst this
        exact hready e he hb
      have hlist : (ops.toList.take n)[i]? = some o' := by
        rw [List.getElem?_take, if_pos hin]
        simpa using ho
      have hok := opsOk_at hop hlist
      rw [Nat.zero_add] at hok
      have hok := hok V L U w hb (fun j hj => (hV j (hD listed (fun j oj hoj hl e he hb => inv.closed j oj hoj hl e he hb) i o' ho (fun e he hb => hready e he hb) j hj)).1)
      -- what it sees is the same
      have hsee : ∀ t ∈ o'.looksAt ops, (putL ops V listed n a0).tmps[t]? = (putN ops V i a0).tmps[t]? := by
        intro t ht
        by_cases hex : ∃ j, j < n ∧ dstAt ops j = some t
        · obtain ⟨j, hj, hd⟩ := hex
          obtain ⟨oj, hoj, _, _, hdj⟩ := growB_spec hgb hj
          have hdj' : oj.dst = some t := by unfold dstAt at hd; rw [hoj] at hd; exact hd
          have honly := hdj t hdj'
          rcases hlook t ht j hj hd with ⟨hji, hw⟩ | ⟨hij, hw⟩
          · rw [putL_one hd (hwait j hw) n hj (fun q hq hne _ => honly q hq hne), putN_one hd i hji (fun q hq hne => honly q (by omega) hne)]
          · have hjun : listed.getD j false = false := by
              cases hl : listed.getD j false with
              | false => rfl
              | true =>
                obtain ⟨oj2, hoj2, e, he, hb2, hon⟩ := Region.waitsFor_spec hw
                have := inv.closed j oj2 hoj2 hl e he hb2
                rw [hon, hiun'] at this
                cases this
            rw [putL_none n (fun q hq hl => by
                by_cases e : q = j
                · subst e; rw [hjun] at hl; cases hl
                · exact honly q hq e), putN_none i (fun q hq => by
                by_cases e : q = j
                · omega
                · exact honly q (by omega) e)]
        · rw [putL_none n (fun q hq _ e => hex ⟨q, hq, e⟩), putN_none i (fun q hq e => hex ⟨q, by omega, e⟩)]
      have hex : execOp (putL ops V listed n a0).eval o' = execOp (putN ops V i a0).eval o' := by
        refine execOp_congr o' (fun cs b => Region.noSelect_spec hsel i o' cs b ho) ?_
        intro x hx
        cases x with
        | tmp t =>
          have := hsee t (List.mem_append_left _ (List.mem_filterMap.2 ⟨.tmp t, by simpa using hx, rfl⟩))
          simp only [Act.eval, Array.getD_eq_getD_getElem?, this]
        | _ => rfl
      have hwant : Region.wanted o' (yielded ops (putL ops V listed n a0).tmps) = Region.wanted o' (yielded ops (putN ops V i a0).tmps) := by
        unfold Region.wanted
        cases hg : o'.guard with
        | none => rfl
        | some gw =>
          obtain ⟨g, want⟩ := gw
          have : yielded ops (putL ops V listed n a0).tmps g = yielded ops (putN ops V i a0).tmps g := by
            unfold yielded
            cases ht : (ops[g]?).bind (·.dst) with
            | none => rfl
            | some t =>
              have := hsee t (by simp [Oper.looksAt, hg, ht])
              simp only [Option.bind_some, this]
          simp only [this]
      have hdi : dstAt ops i = o'.dst := by unfold dstAt; rw [ho]; rfl
      -- one step on
      have hgo : ∀ (v : Value) (w' : World), R i (upd V i v) w.heap.size w'.heap.size w' → Below w.heap.size w w' →
          wpAny P .any ops Q (m + (ops.size - n)) (listed.setIfInBounds i true) ((putL ops V listed n a0).put o'.dst v) w' := by
        intro v w' hRv hb'
        have hset := putL_set (a := a0) (V := V) (v := v) his hiun' (fun d hd j hjn hj => by
          rw [hdi] at hd
          exact hdst d hd j hjn hj) n (Nat.le_refl _)
        rw [if_pos hin, hdi] at hset
        rw [← hset]
        have hu' := unl_set his hiun' n hin
        refine ih _ _ (fun j => if j = i then w.heap.size else L j) (fun j => if j = i then w'.heap.size else U j) w' (inv.set hi hin) (by omega) (hb.trans (hb'.mono hb.size)) ?_ ?_
        · intro j hj
          by_cases e : j = i
          · subst e
            simp only [if_true]
            exact ⟨hRv, hb.size, hb'.size, Nat.le_refl _⟩
          · simp only [if_neg e]
            rw [getD_set_ne false (Ne.symm e)] at hj
            obtain ⟨r1, r2, r3, r4⟩ := hV j hj
            refine ⟨hR j _ _ _ w w' (hV' j V (upd V i v) _ _ _ r1 (upd_ne V v e).symm ?_) hb', r2, r3, Nat.le_trans r4 hb'.size⟩
            intro q hq
            have hql : listed.getD q false = true := by
              have hjs : j < ops.size := by
                rw [← inv.size]
                rcases Nat.lt_or_ge j listed.size with h | h
                · exact h
                · rw [Array.getD_eq_getD_getElem?, Array.getElem?_eq_none h] at hj; cases hj
              exact hD listed (fun j oj hoj hl e he hb => inv.closed j oj hoj hl e he hb) j _ (Array.getElem?_eq_getElem hjs) (fun e he hb => inv.closed j _ (Array.getElem?_eq_getElem hjs) hj e he hb) q hq
            have : q ≠ i := by rintro rfl; rw [hiun'] at hql; cases hql
            exact (upd_ne V v this).symm
        · intro j k hj hk hne
          by_cases ej : j = i
          · subst ej
            rw [getD_set_ne false hne] at hk
            simp only [if_true, if_neg (Ne.symm hne)]
            exact .inr (hV k hk).2.2.2
          · rw [getD_set_ne false (Ne.symm ej)] at hj
            by_cases ek : k = i
            · subst ek
              simp only [if_true, if_neg ej]
              exact .inl (hV j hj).2.2.2
            · rw [getD_set_ne false (Ne.symm ek)] at hk
              simp only [if_neg ej, if_neg ek]
              exact hsep j k hj hk hne
      exact ⟨o', ho, hex, hwant, hok, hgo⟩
    rw [show m + 1 + (ops.size - n) = m + (ops.size - n) + 1 from by omega]
    by_cases hx : ∃ i, i ∈ Region.ready .any ops listed ∧ i < n ∧ E i = true
    · obtain ⟨i, hi, hin, hEi⟩ := hx
      obtain ⟨o', ho, hex, hwant, hok, hgo⟩ := common i hi hin
      obtain ⟨hg, heag, hfree⟩ := hE i hin hEi o' ho
      have hwt : Region.wanted o' (yielded ops (putN ops V i a0).tmps) = true := by unfold Region.wanted; rw [hg]
      rw [if_pos hwt] at hok
      have h1 := hok (fun a' w' => ∃ v, a' = (putN ops V i a0).put o'.dst v ∧ R i (upd V i v) w.heap.size w'.heap.size w' ∧ Below w.heap.size w w') (fun v w' hr hb' => ⟨v, rfl, hr, hb'⟩)
      unfold Oper.wp at h1
      rcases heag (putN ops V i a0).eval w with ⟨v, hv⟩ | ⟨x, w', hv⟩
      · rw [hv w, Oper.upon_value] at h1
        obtain ⟨u, hu1, hr, hb'⟩ := h1
        have hput : (putL ops V listed n a0).put o'.dst v = (putL ops V listed n a0).put o'.dst u := put_same (by rw [putN_size, putL_size]) hu1
        refine wpAny_first ho (fun j o cs b hj => Region.noSelect_spec hsel j o cs b hj) (fun c a w h => hQ c a o'.dst v w h) _ listed _ w ?_ hi (.inl ⟨by rw [hwant]; exact hwt, fun w2 => by rw [hex]; exact hv w2⟩) (by rw [hput]; exact hgo u w hr hb')
        intro j oj hoj hne hun hno
        rcases hfree j oj hoj hne with h | h | h
        · obtain ⟨oj2, hoj2, e, he, hb2, hon⟩ := Region.waitsFor_spec h
          rw [hoj] at hoj2
          cases hoj2
          exact absurd hon (hno e he hb2)
        · obtain ⟨oi2, hoi2, e, he, hb2, hon⟩ := Region.waitsFor_spec h
          obtain ⟨_, oi3, hoi3, hall⟩ := mem_ready.1 hi
          rw [hoi2] at hoi3
          cases hoi3
          have := hall e he hb2
          rw [hon] at this
          have h3 := getD_both hun
          rw [this] at h3
          cases h3
        · exact h
      · rw [hv] at h1
        cases x <;> exact h1.elim
    · refine ⟨fun h => (by rw [h] at hkr; cases hkr), ?_⟩
      intro i hi
      have hin : i < n := by
        rcases Nat.lt_or_ge i n with h | h
        · exact h
        · obtain ⟨_, oi, hoi, hall⟩ := mem_ready.1 hi
          have hio := (Array.getElem?_eq_some_iff.1 hoi).1
          exfalso
          cases hEk : E k with
          | true => exact hx ⟨k, hkr, hk, hEk⟩
          | false =>
            have := hD listed (fun j oj hoj hl e he hb => inv.closed j oj hoj hl e he hb) i oi hoi (fun e he hb => hall e he hb) k (hsink i h hio k hk hEk)
            rw [hkun] at this
            cases this
      obtain ⟨o', ho, hex, hwant, hok, hgo⟩ := common i hi hin
      unfold wpOp
      simp only [ho, hwant]
      split
      · rename_i hwt
        rw [if_pos hwt] at hok
        left
        have h1 := hok (fun a' w' => ∃ v, a' = (putN ops V i a0).put o'.dst v ∧ R i (upd V i v) w.heap.size w'.heap.size w' ∧ Below w.heap.size w w') (fun v w' hr hb' => ⟨v, rfl, hr, hb'⟩)
        refine wp_frames hex ?_ ?_ h1
        · rintro v w' ⟨u, hu1, hr, hb'⟩
          rw [put_same (by rw [putN_size, putL_size]) hu1]
          exact hgo u w' hr hb'
        · rintro d w' ⟨u, hu1, _⟩
          have := congrArg Act.defers hu1
          rw [put_defers, put_defers] at this
          exact absurd (congrArg List.length this) (by simp)
      · rename_i hwt
        rw [if_neg hwt] at hok
        exact hgo undef w hok (Below.refl _ _)
end
section
variable {P : Program} {D : Nat → Nat → Bool} {ops : Array Oper} {Q : Exit → Act → World → Prop} {R : Nat → (Nat → Value) → Nat → Nat → World → Prop} {a0 : Act} {w0 : World} {n : Nat}
theorem any_mix (n : Nat) (R : Nat → (Nat → Value) → Nat → Nat → World → Prop) (hsel : Region.noSelect ops = true) (hgb : growB ops n = true) (hn : n ≤ ops.size) (E : Nat → Bool) (hE : ∀ i, i < n → E i = true → ∀ o, ops[i]? = some o → o.guard = none ∧ Eager P o ∧ ∀ j oj, ops[j]? = some oj → j ≠ i → Region.waitsFor .any ops j i = true ∨ Region.waitsFor .any ops i j = true ∨ o.apart ops oj = true) (hsink : ∀ t, n ≤ t → t < ops.size → ∀ i, i < n → E i = false → D t i = true) (hQ : ∀ c a d v w, Q (.panic c) (Act.put a d v) w → Q (.panic c) a w)
    (hq : Region.seqB .any ops (ops.size - n) n (firstN ops n) = true)
    (hR : ∀ i V l u w w', R i V l u w → Below w.heap.size w w' → R i V l u w') (hD : ClosedD D ops) (hV : ∀ i V V' l u w, R i V l u w → V i = V' i → (∀ j, D i j = true → V j = V' j) → R i V' l u w)
    (hop : opsOk P D ops R a0 w0 (ops.toList.take n) 0)
    (htail : ∀ (V : Nat → Value) (L U : Nat → Nat) w, Below w0.heap.size w0 w → (∀ j, j < n → R j V (L j) (U j) w ∧ w0.heap.size ≤ L j ∧ L j ≤ U j ∧ U j ≤ w.heap.size) → (∀ j k, j < n → k < n → j ≠ k → U j ≤ L k ∨ U k ≤ L j) → wpList P ops Q (ops.toList.drop n) (putN ops V n a0) w) : wpAny P .any ops Q ops.size (Array.replicate ops.size false) a0 { w0 with drawn := w0.drawn + 1 } := by
  have h := mix_head (Q := Q) hgb hn E hE hsink hQ hsel hR hD hV hop ?_ n (Array.replicate ops.size false) (fun _ => undef) (fun _ => 0) (fun _ => 0) { w0 with drawn := w0.drawn + 1 } headInv_start (unl_start n) ((Below.refl _ w0).drew) (fun j hj => by rw [getD_replicate_false] at hj; cases hj) (fun j k hj => by rw [getD_replicate_false] at hj; cases hj)
  · rw [putL_start, show n + (ops.size - n) = ops.size from by omega] at h
    exact h
  · intro V L U w listed hb hV2 hsep inv hall
    have hl := firstN_eq inv hall
    subst hl
    have ht := htail V L U w hb hV2 hsep
    have hlen : (ops.toList.drop n).length = ops.size - n := by simp
    have := wpAny_of_seq (P := P) (md := .any) (Q' := Q) (ops.toList.drop n) n (firstN ops n) (putN ops V n a0) w (fun j => by simp) (by rw [hlen]; exact hq) ht
    rwa [hlen] at this
end
/-! ### What does not hang on the world -/
section
variable {P : Program}
/-- It answers the same in every world, or it ends there. -/
def WI {α : Type} (P : Program) (s : Sem α) : Prop := (∃ v, ∀ w, s.run P w = .ok v w) ∨ (∀ w, ∃ x w', s.run P w = .halt x w')
theorem wi_pure {α : Type} (v : α) : WI P (pure v : Sem α) := .inl ⟨v, fun _ => rfl⟩
theorem wi_halt {α : Type} (h : Halt) : WI P (.halt h : Sem α) := .inr fun w => ⟨h, w, rfl⟩
theorem wi_bind {α β : Type} {s : Sem α} {f : α → Sem β} (hs : WI P s) (hf : ∀ v, (∀ w, s.run P w = .ok v w) → WI P (f v)) : WI P (s >>= f) := by
  rcases hs with ⟨v, hv⟩ | hh
  · rcases hf v hv with ⟨u, hu⟩ | hu
    · exact .inl ⟨u, fun w => by rw [Sem.run_bind, hv w]; exact hu w⟩
    · refine .inr fun w => ?_
      obtain ⟨x, w', h⟩ := hu w
      exact ⟨x, w', by rw [Sem.run_bind, hv w]; exact h⟩
  · refine .inr fun w => ?_
    obtain ⟨x, w', h⟩ := hh w
    exact ⟨x, w', by rw [Sem.run_bind, h]; rfl⟩
theorem wi_ends {α β : Type} {s : Sem α} {f : α → Sem β} (hf : ∀ v w, ∃ x w', (f v).run P w = .halt x w') : WI P (s >>= f) := by
  refine .inr fun w => ?_
  rw [Sem.run_bind]
  cases s.run P w with
  | ok v w' => exact hf v w'
  | halt x w' => exact ⟨x, w', rfl⟩
theorem wi_underlying (t : TypeId) : WI P (underlying t) := by
  unfold underlying
  refine wi_bind (.inl ⟨P, fun _ => rfl⟩) fun p _ => ?_
  split
  · exact wi_pure _
  · exact wi_halt _
theorem wi_typeInfo (t : TypeId) : WI P (typeInfo t) := by
  unfold typeInfo
  refine wi_bind (.inl ⟨P, fun _ => rfl⟩) fun p _ => ?_
  split
  · exact wi_pure _
  · exact wi_halt _
theorem wi_sizeOf (t : TypeId) : WI P (sizeOf t) := wi_bind (wi_typeInfo t) fun _ _ => wi_pure _
theorem wi_sure (v : Value) : WI P (Instr.sureAddr v) := by
  unfold Instr.sureAddr
  split
  · exact wi_pure _
  · exact wi_halt _
theorem wi_int (v : Value) : WI P (asIntOf v) := by
  unfold asIntOf
  split
  · exact wi_pure _
  · exact wi_halt _
  · exact wi_halt _
theorem wi_bounds {α : Type} (k : IntKind) (x y : Int) (c : BoundsCode) : WI P (boundsPanic k x y c : Sem α) := by
  unfold boundsPanic
  dsimp only
  split
  · exact wi_ends fun v w => ⟨_, w, rfl⟩
  · exact wi_ends fun v w => ⟨_, w, rfl⟩
theorem wi_index (t : TypeId) (x i : Value) : WI P (Instr.indexAt t x i) := by
  unfold Instr.indexAt
  repeat' (first | exact wi_pure _ | exact wi_halt _ | exact wi_bounds _ _ _ _ | exact wi_sure _ | exact wi_underlying _ | exact wi_sizeOf _ | exact wi_int _ | (refine wi_bind ?_ (fun _ _ => ?_)) | split | dsimp only)
def eagerK : Op → Bool
  | .move _ => true
  | .assign _ => true
  | .extract _ _ => true
  | .indexAddr _ _ _ => true
  | _ => false
theorem eager_of {o : Oper} (h : eagerK o.op = true) : Eager P o := by
  have of : ∀ {ρ : Operand → Value} {w : World}, WI P (execOp ρ o) → (∀ ρ, ∃ s : Sem Value, execOp ρ o = s >>= fun v => pure (.value v)) → True := fun _ _ => trivial
  intro ρ w
  have key : ∀ s : Sem Value, WI P s → execOp ρ o = (s >>= fun v => pure (.value v)) → (∃ v, ∀ w2, (execOp ρ o).run P w2 = .ok (.value v) w2) ∨ (∃ x w', (execOp ρ o).run P w = .halt x w') := by
    intro s hs he
    rw [he]
    rcases hs with ⟨v, hv⟩ | hh
    · exact .inl ⟨v, fun w2 => by rw [Sem.run_bind, hv w2]; rfl⟩
    · obtain ⟨x, w', hx⟩ := hh w
      exact .inr ⟨x, w', by rw [Sem.run_bind, hx]; rfl⟩
  cases hop : o.op <;> rw [hop] at h <;> simp only [eagerK] at h
  case move x => exact .inl ⟨ρ x, fun w2 => by simp [execOp, hop]⟩
  case assign x => exact .inl ⟨ρ x, fun w2 => by simp [execOp, hop]⟩
  case extract t i =>
    refine key (Instr.extract (ρ t) i) ?_ (by simp only [execOp, hop])
    unfold Instr.extract
    split
    · split
      · exact wi_pure _
      · exact wi_halt _
    · exact wi_halt _
  case indexAddr t x i => exact key _ (wi_index t (ρ x) (ρ i)) (by simp only [execOp, hop])
  all_goals cases h
end
/-! ### The order that is reckoned -/
/-- Where i stands in the list. -/
def posIn : List Nat → Nat → Nat
  | [], _ => 0
  | x :: l, i => bif Nat.beq x i then 0 else posIn l i + 1
/-- The operations in the list's order, numbered anew. -/
def renOps (bl : List Nat) (ops : Array Oper) : Array Oper := (bl.filterMap fun i => ops[i]?.map (renOp (posIn bl))).toArray
def renB (bl : List Nat) (ops : Array Oper) : Bool :=
  Nat.beq bl.length ops.size && ((List.range ops.size).all fun i => Nat.blt (posIn bl i) ops.size && (Nat.beq (bl.getD (posIn bl i) 0) i && (Nat.blt (bl.getD i 0) ops.size && Nat.beq (posIn bl (bl.getD i 0)) i))) &&
    (ops.toList.all fun o => o.after.toList.all (fun e => Nat.blt e.on ops.size) && (match o.guard with | none => true | some g => Nat.blt g.1 ops.size))
theorem filterMap_at {α β : Type} (f : α → Option β) : ∀ (l : List α), (∀ x ∈ l, (f x).isSome = true) → (l.filterMap f).length = l.length ∧ ∀ i : Nat, (l.filterMap f)[i]? = (l[i]?).bind f
  | [], _ => ⟨rfl, fun i => by simp⟩
  | x :: l, h => by
    obtain ⟨h1, h2⟩ := filterMap_at f l fun y hy => h y (List.mem_cons_of_mem _ hy)
    have hx := h x (List.mem_cons_self ..)
    obtain ⟨v, hv⟩ := Option.isSome_iff_exists.1 hx
    rw [List.filterMap_cons, hv]
    refine ⟨by simp [h1], fun i => ?_⟩
    cases i with
    | zero => simp [hv]
    | succ i => simp [h2]
theorem ren_of {bl : List Nat} {ops : Array Oper} (h : renB bl ops = true) : Renum (posIn bl) (fun i => bl.getD i 0) ops (renOps bl ops) ∧ ∀ (i : Nat) (o : Oper) (g : Nat × Bool), ops[i]? = some o → o.guard = some g → g.1 < ops.size := by
  unfold renB at h
  simp only [Bool.and_eq_true, List.all_eq_true, List.mem_range] at h
  obtain ⟨⟨hlen, hall⟩, hops⟩ := h
  have hlen := Nat.eq_of_beq_eq_true hlen
  have hlt : ∀ {a b : Nat}, Nat.blt a b = true → a < b := fun h => Nat.le_of_ble_eq_true h
  have hat := filterMap_at (fun i => ops[i]?.map (renOp (posIn bl))) bl (fun x hx => by
    obtain ⟨k, hk, rfl⟩ := List.mem_iff_getElem.1 hx
    have := hlt (hall k (by omega)).2.2.1
    rw [List.getD_eq_getElem?_getD, List.getElem?_eq_getElem hk] at this
    simp [Option.getD] at this
    simp [this])
  have hmem : ∀ {i : Nat} {o : Oper}, ops[i]? = some o → o ∈ ops.toList := fun h => by
    rw [Array.mem_toList_iff]
    exact Array.mem_of_getElem? h
  refine ⟨⟨?_, ?_, ?_, ?_, ?_⟩, ?_⟩
  · unfold renOps
    simp only [List.size_toArray]
    rw [hat.1, hlen]
  · intro i hi
    obtain ⟨h1, h2, _⟩ := hall i hi
    exact ⟨hlt h1, Nat.eq_of_beq_eq_true h2⟩
  · intro i hi
    obtain ⟨_, _, h3, h4⟩ := hall i hi
    exact ⟨hlt h3, Nat.eq_of_beq_eq_true h4⟩
  · intro i o ho
    have hi := (Array.getElem?_eq_some_iff.1 ho).1
    obtain ⟨h1, h2, _⟩ := hall i hi
    have h1 := hlt h1
    have h2 := Nat.eq_of_beq_eq_true h2
    unfold renOps
    rw [List.getElem?_toArray, hat.2]
    rw [List.getD_eq_getElem?_getD, List.getElem?_eq_getElem (by omega)] at h2
    simp only [Option.getD_some] at h2
    rw [List.getElem?_eq_getElem (by omega), Option.bind_some, h2, ho]
    rfl
  · intro i o ho e he
    have := (hops o (hmem ho)).1 e (by simpa using he)
    exact hlt this
  · intro i o g ho hg
    have := (hops o (hmem ho)).2
    rw [hg] at this
    exact hlt this
/-- Every edge and every guard names an operation of the region. -/
def edgB (ops : Array Oper) : Bool := ops.toList.all fun o => o.after.toList.all (fun e => Nat.blt e.on ops.size) && (match o.guard with | none => true | some g => Nat.blt g.1 ops.size)
theorem ren_id {ops : Array Oper} (h : edgB ops = true) : Renum (fun i => i) (fun i => i) ops ops ∧ ∀ (i : Nat) (o : Oper) (g : Nat × Bool), ops[i]? = some o → o.guard = some g → g.1 < ops.size := by
  unfold edgB at h
  simp only [Bool.and_eq_true, List.all_eq_true] at h
  have hlt : ∀ {a b : Nat}, Nat.blt a b = true → a < b := fun h => Nat.le_of_ble_eq_true h
  have hmem : ∀ {i : Nat} {o : Oper}, ops[i]? = some o → o ∈ ops.toList := fun h => by
    rw [Array.mem_toList_iff]
    exact Array.mem_of_getElem? h
  refine ⟨⟨rfl, fun i hi => ⟨hi, rfl⟩, fun i hi => ⟨hi, rfl⟩, fun i o ho => ?_, fun i o ho e he => hlt ((h o (hmem ho)).1 e (by simpa using he))⟩, fun i o g ho hg => ?_⟩
  · have : renOp (fun i => i) o = o := by
      unfold renOp
      cases o with
      | mk => simp
    rw [this]; exact ho
  · have := (h o (hmem ho)).2
    rw [hg] at this
    exact hlt this
section
variable {P : Program} {D : Nat → Nat → Bool} {ops ops' : Array Oper} {Q : Exit → Act → World → Prop} {R : Nat → (Nat → Value) → Nat → Nat → World → Prop} {a0 : Act} {w0 : World}
/-- What may be done ahead of its turn. -/
def eagB (ops : Array Oper) (i : Nat) : Bool := match ops[i]? with
  | none => false
  | some o => eagerK o.op && o.guard.isNone && (List.range ops.size).all fun j => Nat.beq j i || Region.waitsFor .any ops j i || Region.waitsFor .any ops i j || (match ops[j]? with | none => true | some oj => o.apart ops oj)
theorem eagB_spec {n : Nat} (i : Nat) (hi : i < n) (h : eagB ops i = true) (o : Oper) (ho : ops[i]? = some o) : o.guard = none ∧ Eager P o ∧ ∀ j oj, ops[j]? = some oj → j ≠ i → Region.waitsFor .any ops j i = true ∨ Region.waitsFor .any ops i j = true ∨ o.apart ops oj = true := by
  unfold eagB at h
  rw [ho] at h
  simp only [Bool.and_eq_true, List.all_eq_true, List.mem_range, Bool.or_eq_true] at h
  obtain ⟨⟨h1, h2⟩, h3⟩ := h
  refine ⟨by simpa using h2, eager_of h1, fun j oj hj hne => ?_⟩
  have := h3 j (Array.getElem?_eq_some_iff.1 hj).1
  rw [hj] at this
  rcases this with ((h | h) | h) | h
  · exact absurd (Nat.eq_of_beq_eq_true h) hne
  · exact .inl h
  · exact .inr (.inl h)
  · exact .inr (.inr h)
/-- Every operation of the tail stands behind every one of the head that is not done ahead. -/
def sinkD (D : Nat → Nat → Bool) (ops : Array Oper) (n : Nat) : Bool := (List.range (ops.size - n)).all fun t => (List.range n).all fun i => eagB ops i || D (n + t) i
theorem sinkD_spec {n : Nat} (h : sinkD D ops n = true) (t : Nat) (h1 : n ≤ t) (h2 : t < ops.size) (i : Nat) (hi : i < n) (he : eagB ops i = false) : D t i = true := by
  unfold sinkD at h
  simp only [List.all_eq_true, List.mem_range, Bool.or_eq_true] at h
  rcases h (t - n) (by omega) i hi with h | h
  · rw [he] at h; cases h
  · rwa [show n + (t - n) = t from by omega] at h
/-- A REGION THAT DRAWS ITS ORDER, numbered anew: a head, and a tail in one forced order. -/
theorem wp_region_mix {id : Nat} {f b : Nat → Nat} (n : Nat) (R : Nat → (Nat → Value) → Nat → Nat → World → Prop) (hm : P.follows .mixedOrders = true) (hN : Renum f b ops ops') (hg : ∀ (i : Nat) (o : Oper) (g : Nat × Bool), ops[i]? = some o → o.guard = some g → g.1 < ops.size)
    (hsel : Region.noSelect ops' = true) (hgb : growB ops' n = true) (hn : n ≤ ops'.size) (hs : sinkD D ops' n = true)
    (hq : Region.seqB .any ops' (ops'.size - n) n (firstN ops' n) = true)
    (hR : ∀ i V l u w w', R i V l u w → Below w.heap.size w w' → R i V l u w') (hD : ClosedD D ops') (hV : ∀ i V V' l u w, R i V l u w → V i = V' i → (∀ j, D i j = true → V j = V' j) → R i V' l u w)
    (hop : opsOk P D ops' R a0 w0 (ops'.toList.take n) 0)
    (htail : ∀ (V : Nat → Value) (L U : Nat → Nat) w, Below w0.heap.size w0 w → (∀ j, j < n → R j V (L j) (U j) w ∧ w0.heap.size ≤ L j ∧ L j ≤ U j ∧ U j ≤ w.heap.size) → (∀ j k, j < n → k < n → j ≠ k → U j ≤ L k ∨ U k ≤ L j) → wpList P ops' (fun e a w => e = .normal ∧ Q e a w) (ops'.toList.drop n) (putN ops' V n a0) w) : (Code.region id ops true).wp P Q a0 w0 := by
  refine wp_mono (wp_region_any (Q := fun e a w => e = .normal ∧ Q e a w) hm ?_) fun e a w h => h.2
  refine wpAny_ren hN hg ops.size _ _ a0 _ (alike_start hN) ?_
  have h := any_mix (Q := fun e a w => e = .normal ∧ Q e a w) n R hsel hgb hn (eagB ops') (fun i hi he o ho => eagB_spec i hi he o ho) (sinkD_spec hs) (fun c a d v w h => by cases h.1) hq hR hD hV hop htail
  rw [hN.size] at h ⊢
  exact h
end
end Go.Proofs.Ytekokhlldcmjfaa
