/- Regions that draw their order, whatever it is. No program in sight. -/
import Derived.Test.YtekokhlldcmjfaaSnd9
namespace Go.Proofs.Ytekokhlldcmjfaa
open Go.RowKit Go.ChangeShapes Go.WideShapes Go.Deep
set_option linter.unusedVariables false
set_option linter.unusedSimpArgs false
/-! ### All that stands behind an operation -/
theorem mask_bit (c : List Nat) (j : Nat) : ∀ (l : List Nat) (s : Nat), Nat.testBit (l.foldl (fun s k => Nat.lor (Nat.lor s (Nat.shiftLeft 1 k)) (c.getD k 0)) s) j = true ↔ Nat.testBit s j = true ∨ ∃ k ∈ l, j = k ∨ Nat.testBit (c.getD k 0) j = true
  | [], s => by simp
  | k :: l, s => by
    simp only [List.foldl_cons]
    rw [mask_bit c j l]
    have e : Nat.testBit (Nat.lor (Nat.lor s (Nat.shiftLeft 1 k)) (c.getD k 0)) j = true ↔ Nat.testBit s j = true ∨ j = k ∨ Nat.testBit (c.getD k 0) j = true := by
      show Nat.testBit ((s ||| (1 <<< k)) ||| c.getD k 0) j = true ↔ _
      rw [Nat.testBit_or, Nat.testBit_or, Nat.one_shiftLeft, Nat.testBit_two_pow]
      simp only [Bool.or_eq_true, decide_eq_true_eq, or_assoc]
      constructor
      · rintro (h | h | h)
        · exact .inl h
        · exact .inr (.inl h.symm)
        · exact .inr (.inr h)
      · rintro (h | h | h)
        · exact .inl h
        · exact .inr (.inl h.symm)
        · exact .inr (.inr h)
    rw [e]
    constructor
    · rintro ((h | h) | ⟨q, hq, h⟩)
      · exact .inl h
      · exact .inr ⟨k, by simp, h⟩
      · exact .inr ⟨q, by simp [hq], h⟩
    · rintro (h | ⟨q, hq, h⟩)
      · exact .inl (.inl h)
      · rcases List.mem_cons.1 hq with rfl | hq
        · exact .inl (.inr h)
        · exact .inr ⟨q, hq, h⟩
theorem clAll_pre : ∀ (l : List Oper) (acc : List Nat), ∃ m, clAll l acc = acc ++ m ∧ m.length = l.length
  | [], acc => ⟨[], by simp [clAll], rfl⟩
  | o :: l, acc => by
    obtain ⟨m, h1, h2⟩ := clAll_pre l (acc ++ [clMask acc (ons o)])
    exact ⟨clMask acc (ons o) :: m, by rw [clAll, h1]; simp, by simp [h2]⟩
theorem clAll_at : ∀ (l : List Oper) (acc : List Nat) (i : Nat) (o : Oper), l[i]? = some o → (clAll l acc)[acc.length + i]? = some (clMask ((clAll l acc).take (acc.length + i)) (ons o))
  | [], acc, i, o, h => by simp at h
  | q :: l, acc, 0, o, h => by
    simp at h
    subst h
    obtain ⟨m, h1, h2⟩ := clAll_pre l (acc ++ [clMask acc (ons q)])
    rw [clAll, h1, Nat.add_zero, List.append_assoc, List.getElem?_append_right (Nat.le_refl _), List.take_left]
    simp
  | q :: l, acc, i + 1, o, h => by
    have := clAll_at l (acc ++ [clMask acc (ons q)]) i o (by simpa using h)
    rw [List.length_append, List.length_singleton] at this
    rw [clAll, show acc.length + (i + 1) = acc.length + 1 + i from by omega]
    exact this
/-- j stands behind i. -/
def Dof (ops : Array Oper) (i j : Nat) : Bool := Nat.testBit ((clAll ops.toList []).getD i 0) j
theorem Dof_iff {ops : Array Oper} {i j : Nat} : Dof ops i j = true ↔ ∃ o, ops[i]? = some o ∧ ∃ k ∈ ons o, j = k ∨ (k < i ∧ Dof ops k j = true) := by
  unfold Dof
  obtain ⟨m, hm1, hm2⟩ := clAll_pre ops.toList []
  cases ho : ops[i]? with
  | none =>
    have hi : ops.size ≤ i := by simpa using ho
    have : (clAll ops.toList []).getD i 0 = 0 := by
      rw [List.getD_eq_getElem?_getD, List.getElem?_eq_none (by rw [hm1]; simp [hm2]; exact hi)]; rfl
    rw [this]
    simp
  | some o =>
    have h1 := clAll_at ops.toList [] i o (by simpa using ho)
    simp only [List.length_nil, Nat.zero_add] at h1
    have h2 : (clAll ops.toList []).getD i 0 = clMask ((clAll ops.toList []).take i) (ons o) := by
      rw [List.getD_eq_getElem?_getD, h1]; rfl
    rw [h2]
    unfold clMask
    rw [mask_bit]
    simp only [Nat.zero_testBit, Bool.false_eq_true, false_or, Option.some.injEq, exists_eq_left']
    have h3 : ∀ k, Nat.testBit (((clAll ops.toList []).take i).getD k 0) j = true ↔ k < i ∧ Nat.testBit ((clAll ops.toList []).getD k 0) j = true := by
      intro k
      simp only [List.getD_eq_getElem?_getD, List.getElem?_take]
      by_cases hk : k < i
      · rw [if_pos hk]; simp [hk]
      · rw [if_neg hk]; simp [hk]
    simp only [h3]
theorem mem_ons {o : Oper} {k : Nat} : k ∈ ons o ↔ ∃ e ∈ o.after, Region.binds .any e = true ∧ e.on = k := by
  unfold ons
  rw [List.mem_filterMap]
  constructor
  · rintro ⟨e, he, h⟩
    cases hb : Region.binds .any e with
    | false => rw [hb] at h; cases h
    | true => rw [hb] at h; cases h; exact ⟨e, by simpa using he, hb, rfl⟩
  · rintro ⟨e, he, hb, rfl⟩
    exact ⟨e, by simpa using he, by rw [hb]; rfl⟩
theorem Dof_closed (ops : Array Oper) : ClosedD (Dof ops) ops := by
  intro listed hcl i
  induction i using Nat.strongRecOn with
  | _ i ih =>
    intro o ho hall j hj
    obtain ⟨o', ho', k, hk, h⟩ := Dof_iff.1 hj
    rw [ho] at ho'
    cases ho'
    obtain ⟨e, he, hb, rfl⟩ := mem_ons.1 hk
    have hkl := hall e he hb
    rcases h with rfl | ⟨hlt, h⟩
    · exact hkl
    · obtain ⟨ok, hok, _⟩ := Dof_iff.1 h
      exact ih _ hlt ok hok (fun e' he' hb' => hcl _ ok hok hkl e' he' hb') j h
theorem Dof_trans {ops : Array Oper} {n : Nat} (hgb : growB ops n = true) : ∀ i, i < n → ∀ j q, Dof ops i j = true → Dof ops j q = true → Dof ops i q = true := by
  intro i
  induction i using Nat.strongRecOn with
  | _ i ih =>
    intro hi j q h1 h2
    obtain ⟨o, ho, k, hk, h⟩ := Dof_iff.1 h1
    obtain ⟨o', ho', hback, _, _⟩ := growB_spec hgb hi
    rw [ho] at ho'
    cases ho'
    obtain ⟨e, he, hb, rfl⟩ := mem_ons.1 hk
    have hlt := hback e he hb
    rcases h with rfl | ⟨_, h⟩
    · exact Dof_iff.2 ⟨o, ho, e.on, hk, .inr ⟨hlt, h2⟩⟩
    · exact Dof_iff.2 ⟨o, ho, e.on, hk, .inr ⟨hlt, ih _ hlt (by omega) j q h h2⟩⟩
theorem Dof_lt {ops : Array Oper} {n : Nat} (hgb : growB ops n = true) : ∀ i, i < n → ∀ j, Dof ops i j = true → j < i := by
  intro i
  induction i using Nat.strongRecOn with
  | _ i ih =>
    intro hi j h1
    obtain ⟨o, ho, k, hk, h⟩ := Dof_iff.1 h1
    obtain ⟨o', ho', hback, _, _⟩ := growB_spec hgb hi
    rw [ho] at ho'
    cases ho'
    obtain ⟨e, he, hb, rfl⟩ := mem_ons.1 hk
    have hlt := hback e he hb
    rcases h with rfl | ⟨_, h⟩
    · exact hlt
    · have := ih _ hlt (by omega) j h
      omega
theorem Dof_waits {ops : Array Oper} {i j : Nat} (h : Region.waitsFor .any ops i j = true) : Dof ops i j = true := by
  obtain ⟨o, ho, e, he, hb, rfl⟩ := Region.waitsFor_spec h
  exact Dof_iff.2 ⟨o, ho, e.on, mem_ons.2 ⟨e, he, hb, rfl⟩, .inl rfl⟩
/-! ### The region -/
section
variable {P : Program} {C : Cx} {w0 : Fr} {r0 : Nat → Option Value} {s0 : AS} {a0 : Act} {w : World} {ops : Array Oper} {ps : List PI} {n : Nat}
/-- What is of the call's own, as far as D sees. -/
def hnd (r0 : Nat → Option Value) (n0 : Nat) (ps : List PI) (n : Nat) (V : Nat → Value) (D : Nat → Bool) : Nat → Option Value := fun id =>
  if id < n0 then r0 id else match (flatP ps n)[id - n0]? with
    | some q => if D q.1 then (vdeep (V q.1))[q.2.1]? else none
    | none => none
theorem hnd_sub {n0 : Nat} {V V' : Nat → Value} {D D' : Nat → Bool} (h : ∀ j, D j = true → D' j = true ∧ V j = V' j) : SubR (hnd r0 n0 ps n V D) (hnd r0 n0 ps n V' D') := by
  intro id q hq
  unfold hnd at hq ⊢
  split
  · rename_i hi; rw [if_pos hi] at hq; exact hq
  · rename_i hi
    rw [if_neg hi] at hq
    cases hf : (flatP ps n)[id - n0]? with
    | none => rw [hf] at hq; cases hq
    | some x =>
      rw [hf] at hq
      simp only at hq ⊢
      by_cases hd : D x.1 = true
      · obtain ⟨h1, h2⟩ := h _ hd
        rw [if_pos hd] at hq
        rw [if_pos h1, ← h2]
        exact hq
      · rw [if_neg hd] at hq; cases hq
/-- What one operation leaves. -/
structure Rr (g : World) (r0 : Nat → Option Value) (n0 : Nat) (ops : Array Oper) (ps : List PI) (n i : Nat) (V : Nat → Value) (L U : Nat) (w : World) : Prop where
  base : 0 ≤ L
  sv : (pAt ps i).sv.Is g (hnd r0 n0 ps n V fun j => Dof ops i j || j == i) (V i)
  objs : ∀ (k : Nat) (o : Nat × SO), (pAt ps i).os[k]? = some o → ∃ h, (vdeep (V i))[o.1]? = some h ∧ one1 h ∧ o.2.Is g (hnd r0 n0 ps n V fun j => Dof ops i j || j == i) w L h ∧ (o.2 ≠ .gone → ∀ b, blk h = some b → b < U)
  apart : ∀ (j k : Nat) (o p : Nat × SO) (a b : Value) (c : Nat), (pAt ps i).os[j]? = some o → (pAt ps i).os[k]? = some p → j ≠ k → (vdeep (V i))[o.1]? = some a → (vdeep (V i))[p.1]? = some b → blk a = some c → blk b ≠ some c
theorem putN_slot (V : Nat → Value) (t : Nat) : ∀ i, (putN ops V i a0).tmps.getD t undef = match lastW ops t i with
    | some j => if t < a0.tmps.size then V j else undef
    | none => a0.tmps.getD t undef
  | 0 => rfl
  | i + 1 => by
    unfold lastW
    rw [putN]
    by_cases hd : dstAt ops i = some t
    · rw [if_pos hd, hd, Array.getD_eq_getD_getElem?, put_get_eq, putN_size]
      simp only
      split <;> rfl
    · rw [if_neg hd, Array.getD_eq_getD_getElem?, put_get_ne hd, ← Array.getD_eq_getD_getElem?, putN_slot V t i]
theorem getD_is {g : World} {r : Nat → Option Value} {l : List SV} {us : Array Value} (h : LsIs g r l us.toList) (t : Nat) : (l.getD t .any).Is g r (us.getD t undef) := by
  cases ht : l[t]? with
  | none =>
    have : l.getD t .any = .any := by simp [List.getD, ht]
    rw [this]; simp only [SV.Is]
  | some y =>
    obtain ⟨u, h1, h2⟩ := lsIs_get h ht
    have e1 : l.getD t .any = y := by simp [List.getD, ht]
    have e2 : us.getD t undef = u := by rw [Array.getD_eq_getD_getElem?, ← Array.getElem?_toList, h1]; rfl
    rw [e1, e2]; exact h2
theorem r0_sub (h : Sat w0 r0 s0 a0 w) (V : Nat → Value) (D : Nat → Bool) : SubR r0 (hnd r0 s0.objs.length ps n V D) := by
  intro id q hq
  unfold hnd
  by_cases hi : id < s0.objs.length
  · rw [if_pos hi]; exact hq
  · rw [h.rn id (by omega)] at hq; cases hq
/-- What a slot that an operation looks at holds. -/
theorem look_is (h : Sat w0 r0 s0 a0 w) (hgb : growB ops n = true) {i : Nat} (hi : i < n) {o : Oper} (ho : ops[i]? = some o) {V : Nat → Value} {L U : Nat → Nat} {w' : World} (hR : ∀ j, Dof ops i j = true → Rr w0.g r0 s0.objs.length ops ps n j V (L j) (U j) w') {s : AS} (hk : Know ops s0 ps i s) {t : Nat} (ht : t ∈ o.looksAt ops) :
    (s.slots.get t).Is w0.g (hnd r0 s0.objs.length ps n V (Dof ops i)) ((putN ops V i a0).tmps.getD t undef) := by
  by_cases hts : t < a0.tmps.size
  · refine hk.2 t _ _ _ ?_
    rw [putN_slot]
    unfold srcSV
    cases hl : lastW ops t i with
    | none =>
      simp only
      exact SV.Is.sub (SubW.refl _) (r0_sub h V _) _ _ (h.slots.get t)
    | some j =>
      simp only
      rw [if_pos hts]
      obtain ⟨hji, hd⟩ := lastW_lt hl
      obtain ⟨o', ho', _, hlook, _⟩ := growB_spec hgb hi
      rw [ho] at ho'
      cases ho'
      rcases hlook t ht j (by omega) hd with ⟨_, hw⟩ | ⟨hij, _⟩
      · have hD := Dof_waits hw
        refine SV.Is.sub (SubW.refl _) (hnd_sub fun q hq => ⟨?_, rfl⟩) _ _ (hR j hD).sv
        simp only [Bool.or_eq_true, beq_iff_eq] at hq
        rcases hq with hq | rfl
        · exact Dof_trans hgb i hi j q hD hq
        · exact hD
      · omega
  · have : s.slots.get t = .any := by
      refine Fm.get_none ?_
      rw [hk.1.1]
      cases hh : s0.slots.has t with
      | false => rfl
      | true => exact absurd (h.slots.lt t hh) hts
    rw [this]
    simp only [SV.Is]
/-- Whether it is wanted. -/
theorem wanted_is (h : Sat w0 r0 s0 a0 w) (hgb : growB ops n = true) {i : Nat} (hi : i < n) {o : Oper} (ho : ops[i]? = some o) {V : Nat → Value} {L U : Nat → Nat} {w' : World} (hR : ∀ j, Dof ops i j = true → Rr w0.g r0 s0.objs.length ops ps n j V (L j) (U j) w') {s s' : AS} (hk : Know ops s0 ps i s) {run : Bool} (hr : Refines ops.toList o s s' run) :
    Region.wanted o (yielded ops (putN ops V i a0).tmps) = run := by
  unfold Refines at hr
  cases hg : o.guard with
  | none =>
    rw [hg] at hr
    rw [hr.2]
    simp [Region.wanted, hg]
  | some q =>
    obtain ⟨j, want⟩ := q
    rw [hg] at hr
    obtain ⟨t, hj, hr⟩ := hr
    have hj : (ops[j]?).bind (·.dst) = some t := by simpa using hj
    have hlook : t ∈ o.looksAt ops := by simp [Oper.looksAt, hg, hj]
    have his := look_is h hgb hi ho hR hk hlook
    have hsz : ∀ x, s.slots.get t = x → x ≠ .any → ∃ u, (putN ops V i a0).tmps[t]? = some u ∧ x.Is w0.g (hnd r0 s0.objs.length ps n V (Dof ops i)) u := by
      intro x hx hne
      rw [hx] at his
      have hht : s.slots.has t = true := by
        cases hh : s.slots.has t with
        | true => rfl
        | false => exact absurd (Fm.get_none hh) (by rw [hx]; exact hne)
      have : t < (putN ops V i a0).tmps.size := by
        rw [putN_size]
        exact h.slots.lt t (by rw [← hk.1.1]; exact hht)
      refine ⟨_, Array.getElem?_eq_getElem this, ?_⟩
      rw [Array.getD_eq_getD_getElem?, Array.getElem?_eq_getElem this] at his
      exact his
    rcases hr with ⟨b, hb, _, hrun⟩ | ⟨b, hb, _, hrun⟩ | ⟨hb, _, hrun⟩
    · obtain ⟨u, hu, hx⟩ := hsz _ hb (by simp)
      simp only [SV.Is] at hx
      subst hx
      have hyl := yield_of hj hu
      simp only at hyl
      simp [Region.wanted, hg, hyl, hrun]
    · obtain ⟨u, hu, hx⟩ := hsz _ hb (by simp)
      simp only [SV.Is] at hx
      obtain ⟨rfl, _⟩ := hx
      have hyl := yield_of hj hu
      simp only at hyl
      simp [Region.wanted, hg, hyl, hrun]
    · obtain ⟨u, hu, hx⟩ := hsz _ hb (by simp)
      simp only [SV.Is] at hx
      obtain ⟨cs, rfl, _⟩ := hx
      have hyl := yield_of hj hu
      simp only at hyl
      simp [Region.wanted, hg, hyl, hrun]
theorem eval_slot {A : Act} {x : Operand} {t : Nat} (hx : x = .tmp t) : A.eval x = A.tmps.getD t undef := by subst hx; rfl
/-- ONE OPERATION, IN WHATEVER ORDER. -/
theorem op_ok (ht : ttOk P C.tt) (hA : C.A = std) (hG : GOk P C.G) (h : Sat w0 r0 s0 a0 w) (hgb : growB ops n = true) {i : Nat} (hi : i < n) {o : Oper} (ho : ops[i]? = some o) (hf : OpFact C ops (clAll ops.toList []) s0.objs.length s0 ps i o) :
    opOk P (Dof ops) ops (fun i V L U w => Rr w0.g r0 s0.objs.length ops ps n i V L U w) a0 w o i := by
  intro V L U w1 hb hR
  obtain ⟨s, s', hk, hobj, hr, hrun, hskip⟩ := hf
  have hw := wanted_is h hgb hi ho hR hk hr
  rw [hw]
  obtain ⟨hk', hob'⟩ := hk.refine hr
  have hle := h.below.size
  have hle1 := hb.size
  have hnew : ∀ v j, Dof ops i j = true → upd V i v j = V j := fun v j hj => upd_ne V v (by have := Dof_lt hgb i hi j hj; omega)
  cases hrn : (pAt ps i).run with
  | false =>
    rw [if_neg (by simp)]
    obtain ⟨h1, h2⟩ := hskip hrn
    refine ⟨by omega, ?_, ?_, ?_⟩
    · rw [h1, upd_eq]
      exact undef_is w0.g
    · intro k o hk; rw [h2] at hk; simp at hk
    · intro j k o p a b c hj; rw [h2] at hj; simp at hj
  | true =>
    rw [if_pos rfl]
    intro K hK
    obtain ⟨c, rt, he, hc, hpick⟩ := hrun hrn
    have hlen : s'.objs.length = s0.objs.length + (flatP ps i).length := by rw [hob', hobj]; simp
    have hobs' : s'.objs = s0.objs ++ (flatP ps i).map (·.2.2) := by rw [hob', hobj]
    have E : Env P C w0.g (hnd r0 s0.objs.length ps n V (Dof ops i)) s'.objs.length 0 w1 (visOb s' s0.objs.length ((flatP ps i).map (·.1)) ((clAll ops.toList []).getD i 0)) := by
      refine ⟨ht, hA, ?_, ?_, h.gw.trans (SubW.below hb), ?_⟩
      · intro id q hq
        unfold hnd at hq
        by_cases hid : id < s0.objs.length
        · rw [if_pos hid] at hq; exact h.r1 id q hq
        · rw [if_neg hid] at hq
          cases hfl : (flatP ps n)[id - s0.objs.length]? with
          | none => rw [hfl] at hq; cases hq
          | some x =>
            rw [hfl] at hq
            simp only at hq
            obtain ⟨j, po⟩ := x
            by_cases hd : Dof ops i j = true
            · rw [if_pos hd] at hq
              obtain ⟨_, k, hk1, _⟩ := flat_get ps n _ j po hfl
              obtain ⟨hh, h1, h2, _⟩ := (hR j hd).objs k po hk1
              rw [h1] at hq
              cases hq
              exact h2
            · rw [if_neg hd] at hq; cases hq
      · intro id hid
        unfold hnd
        rw [if_neg (by omega)]
        cases hfl : (flatP ps n)[id - s0.objs.length]? with
        | none => rfl
        | some x =>
          simp only
          obtain ⟨j, po⟩ := x
          rw [if_neg ?_]
          intro hd
          have hji := Dof_lt hgb i hi j hd
          obtain ⟨_, k, hk1, hk2⟩ := flat_get ps n _ j po hfl
          obtain ⟨l, hl⟩ := flat_pre ps i (j + 1) (by omega)
          have hkl := (List.getElem?_eq_some_iff.1 hk1).1
          have : (flatP ps i).length = (flatP ps j).length + (pAt ps j).os.length + l.length := by rw [hl, flatP]; simp only [List.length_append, List.length_map]
          omega
      · intro id hne
        unfold visOb at hne ⊢
        cases hlt : Nat.blt id s0.objs.length with
        | true =>
          rw [hlt] at hne
          simp only [cond_true] at hne ⊢
          have hid : id < s0.objs.length := nble hlt
          have hobid : s'.ob id = s0.ob id := by
            unfold AS.ob
            rw [hobs']
            simp only [List.getD_eq_getElem?_getD]
            rw [List.getElem?_append_left hid]
          rw [hobid] at hne ⊢
          obtain ⟨q, h1, h2⟩ := h.objs id hne
          exact ⟨q, r0_sub h V _ _ _ h1, h2.sub (SubW.refl _) (r0_sub h V _) hb⟩
        | false =>
          rw [hlt] at hne
          simp only [cond_false] at hne ⊢
          have hid : ¬ id < s0.objs.length := fun hh => by
            have : Nat.blt id s0.objs.length = true := Nat.ble_eq_true_of_le hh
            rw [this] at hlt; cases hlt
          have hobid : s'.ob id = match (flatP ps i)[id - s0.objs.length]? with | some x => x.2.2 | none => .gone := by
            unfold AS.ob
            rw [hobs']
            simp only [List.getD_eq_getElem?_getD]
            rw [List.getElem?_append_right (by omega), List.getElem?_map]
            cases (flatP ps i)[id - s0.objs.length]? <;> rfl
          cases hfl : (flatP ps i)[id - s0.objs.length]? with
          | none =>
            rw [hobid, hfl] at hne
            simp only at hne
            exact absurd (by cases (Nat.testBit ((clAll ops.toList []).getD i 0) (((flatP ps i).map (·.1)).getD (id - s0.objs.length) 0)) <;> rfl) hne
          | some x =>
            obtain ⟨j, po⟩ := x
            have hcre : ((flatP ps i).map (·.1)).getD (id - s0.objs.length) 0 = j := by
              rw [List.getD_eq_getElem?_getD, List.getElem?_map, hfl]; rfl
            rw [hcre] at hne ⊢
            cases hbit : Nat.testBit ((clAll ops.toList []).getD i 0) j with
            | false => rw [hbit] at hne; exact absurd rfl hne
            | true =>
              rw [hbit] at hne
              simp only [cond_true] at hne ⊢
              rw [hobid, hfl] at hne ⊢
              simp only at hne ⊢
              have hd : Dof ops i j = true := hbit
              obtain ⟨_, k, hk1, hk2⟩ := flat_get ps i _ j po hfl
              obtain ⟨hh, h1, h2, h3, _⟩ := (hR j hd).objs k po hk1
              obtain ⟨l, hl⟩ := flat_pre ps n i (by omega)
              refine ⟨hh, ?_, ?_⟩
              · unfold hnd
                have : (flatP ps n)[id - s0.objs.length]? = some (j, po) := by
                  rw [hl, List.getElem?_append_left (List.getElem?_eq_some_iff.1 hfl).1, hfl]
                rw [if_neg hid, this]
                simp only [hd, if_true]
                exact h1
              · refine (SO.Is.sub (SubW.refl _) (hnd_sub fun q hq => ⟨?_, rfl⟩) h3 (Below.refl _ _)).down (hR j hd).base
                simp only [Bool.or_eq_true, beq_iff_eq] at hq
                rcases hq with hq | rfl
                · exact Dof_trans hgb i hi j q hd hq
                · exact hd
    have hev : ∀ x ∈ o.op.operands.toList, (s'.ev x).Is w0.g (hnd r0 s0.objs.length ps n V (Dof ops i)) ((putN ops V i a0).eval x) := by
      intro x hx
      cases x with
      | tmp t =>
        have hlook : t ∈ o.looksAt ops := List.mem_append_left _ (List.mem_filterMap.2 ⟨.tmp t, hx, rfl⟩)
        exact look_is h hgb hi ho hR hk' hlook
      | const v => exact ofLit_is v
      | global g => simp only [AS.ev, SV.Is]; exact ⟨rfl, trivial⟩
      | func f => simp only [AS.ev, SV.Is]; exact ⟨rfl, trivial⟩
    refine exec_wp E hG hev he hc fun v w' hgv => ?_
    rw [hpick] at hgv
    refine hK v w' ?_ hgv.below
    have hsub : SubR (ext (hnd r0 s0.objs.length ps n V (Dof ops i)) s'.objs.length (pAt ps i).os v) (hnd r0 s0.objs.length ps n (upd V i v) fun j => Dof ops i j || j == i) := by
      intro id q hq
      unfold ext at hq
      by_cases hid : id < s'.objs.length
      · rw [if_pos hid] at hq
        refine hnd_sub (fun j hj => ⟨by simp [hj], (hnew v j hj).symm⟩) id q hq
      · rw [if_neg hid] at hq
        cases hos : (pAt ps i).os[id - s'.objs.length]? with
        | none => rw [hos] at hq; cases hq
        | some po =>
          rw [hos] at hq
          simp only at hq
          unfold hnd
          have hfl := flat_at ps hi hos
          rw [show (flatP ps i).length + (id - s'.objs.length) = id - s0.objs.length from by omega] at hfl
          rw [if_neg (by omega), hfl]
          simp only [beq_self_eq_true, Bool.or_true, if_true, upd_eq]
          exact hq
    refine ⟨by omega, ?_, ?_, ?_⟩
    · rw [upd_eq]
      exact SV.Is.sub (SubW.refl _) hsub _ _ hgv.sv
    · intro k po hk1
      obtain ⟨hh, h1, h2, h3⟩ := hgv.objs k po hk1
      rw [upd_eq]
      exact ⟨hh, h1, h2, SO.Is.sub (SubW.refl _) hsub h3 (Below.refl _ _), fun hne b hbk => (h3.lt hne b hbk).2⟩
    · intro j k o p a b c h1 h2 h3 h4 h5 h6
      rw [upd_eq] at h4 h5
      exact hgv.apart j k o p a b c h1 h2 h3 h4 h5 h6
/-- All of them behind one another: the state. -/
theorem all_sat (h : Sat w0 r0 s0 a0 w) (hgb : growB ops n = true) {V : Nat → Value} {L U : Nat → Nat} {w1 : World} (hb : Below w.heap.size w w1) (hR : ∀ j, j < n → Rr w0.g r0 s0.objs.length ops ps n j V (L j) (U j) w1 ∧ w.heap.size ≤ L j ∧ L j ≤ U j ∧ U j ≤ w1.heap.size) (hsep : ∀ j k, j < n → k < n → j ≠ k → U j ≤ L k ∨ U k ≤ L j)
    {s : AS} (hk : Know ops s0 ps n s) (hobj : s.objs = s0.objs ++ (flatP ps n).map (·.2.2)) : Sat w0 (hnd r0 s0.objs.length ps n V fun _ => true) s (putN ops V n a0) w1 := by
  have hle := h.below.size
  have hall : ∀ j, SubR (hnd r0 s0.objs.length ps n V fun q => Dof ops j q || q == j) (hnd r0 s0.objs.length ps n V fun _ => true) := fun j => hnd_sub fun q _ => ⟨rfl, rfl⟩
  have hob : ∀ id, s.ob id ≠ .gone → (id < s0.objs.length ∧ s.ob id = s0.ob id) ∨ (¬ id < s0.objs.length ∧ ∃ j po k, (flatP ps n)[id - s0.objs.length]? = some (j, po) ∧ s.ob id = po.2 ∧ j < n ∧ (pAt ps j).os[k]? = some po ∧ id - s0.objs.length = (flatP ps j).length + k) := by
    intro id hne
    unfold AS.ob at hne ⊢
    rw [hobj] at hne ⊢
    simp only [List.getD_eq_getElem?_getD] at hne ⊢
    by_cases hid : id < s0.objs.length
    · left
      rw [List.getElem?_append_left hid]
      exact ⟨hid, rfl⟩
    · right
      rw [List.getElem?_append_right (by omega), List.getElem?_map] at hne ⊢
      cases hfl : (flatP ps n)[id - s0.objs.length]? with
      | none => rw [hfl] at hne; exact absurd rfl hne
      | some x =>
        obtain ⟨j, po⟩ := x
        obtain ⟨h1, k, h2, h3⟩ := flat_get ps n _ j po hfl
        exact ⟨hid, j, po, k, rfl, rfl, h1, h2, h3⟩
  have hnew : ∀ id j po, ¬ id < s0.objs.length → (flatP ps n)[id - s0.objs.length]? = some (j, po) → hnd r0 s0.objs.length ps n V (fun _ => true) id = (vdeep (V j))[po.1]? := by
    intro id j po hid hfl
    unfold hnd
    rw [if_neg hid, hfl]
    simp
  have hold : ∀ id, id < s0.objs.length → hnd r0 s0.objs.length ps n V (fun _ => true) id = r0 id := by
    intro id hid
    unfold hnd
    rw [if_pos hid]
  refine ⟨?_, by rw [putN_defers]; exact h.defs, h.below.below hb, h.gw.trans (SubW.below hb), ?_, ?_, ?_, ?_, ?_, by rw [hk.1.2]; exact h.sav.sub (SubW.refl _) (r0_sub h V _)⟩
  · refine ⟨fun t => ?_, fun t hh => by rw [putN_size]; exact h.slots.lt t (by rw [← hk.1.1]; exact hh)⟩
    by_cases ht : t < a0.tmps.size
    · refine hk.2 t _ _ _ ?_
      rw [putN_slot]
      unfold srcSV
      cases hl : lastW ops t n with
      | none => exact SV.Is.sub (SubW.refl _) (r0_sub h V _) _ _ (h.slots.get t)
      | some j =>
        simp only
        rw [if_pos ht]
        exact SV.Is.sub (SubW.refl _) (hall j) _ _ (hR j (lastW_lt hl).1).1.sv
    · have : s.slots.get t = .any := by
        refine Fm.get_none ?_
        rw [hk.1.1]
        cases hh : s0.slots.has t with
        | false => rfl
        | true => exact absurd (h.slots.lt t hh) ht
      rw [this]
      simp only [SV.Is]
  · intro id hid
    have hid : s0.objs.length + (flatP ps n).length ≤ id := by rw [hobj] at hid; simpa using hid
    unfold hnd
    rw [if_neg (by omega), List.getElem?_eq_none (by omega)]
  · intro id q hq
    by_cases hid : id < s0.objs.length
    · rw [hold id hid] at hq; exact h.r1 id q hq
    · unfold hnd at hq
      rw [if_neg hid] at hq
      cases hfl : (flatP ps n)[id - s0.objs.length]? with
      | none => rw [hfl] at hq; cases hq
      | some x =>
        obtain ⟨j, po⟩ := x
        rw [hfl] at hq
        simp only [if_true] at hq
        obtain ⟨hj, k, h2, _⟩ := flat_get ps n _ j po hfl
        obtain ⟨hh, h3, h4, _⟩ := (hR j hj).1.objs k po h2
        rw [h3] at hq
        cases hq
        exact h4
  · intro id hne
    rcases hob id hne with ⟨hid, he⟩ | ⟨hid, j, po, k, hfl, he, hj, hk1, _⟩
    · rw [he] at hne ⊢
      obtain ⟨q, h1, h2⟩ := h.objs id hne
      exact ⟨q, by rw [hold id hid]; exact h1, h2.sub (SubW.refl _) (r0_sub h V _) hb⟩
    · rw [he]
      obtain ⟨hh, h3, h4, h5, _⟩ := (hR j hj).1.objs k po hk1
      exact ⟨hh, by rw [hnew id j po hid hfl]; exact h3, (SO.Is.sub (SubW.refl _) (hall j) h5 (Below.refl _ _)).down (hR j hj).1.base⟩
  · intro id q b hne hri hbi
    rcases hob id hne with ⟨hid, he⟩ | ⟨hid, m, po, k, hfl, he, hm, hk1, hk2⟩
    · rw [he] at hne
      rw [hold id hid] at hri
      exact h.mine id q b hne hri hbi
    · rw [hnew id m po hid hfl] at hri
      obtain ⟨hh, h3, h4, h5, h6⟩ := (hR m hm).1.objs k po hk1
      rw [hri] at h3
      cases h3
      rw [he] at hne
      have h7 := (h5.lt hne b hbi).1
      have h8 := (hR m hm).2.1
      exact ⟨.inl (by omega), g_new h.gw (by omega)⟩
  · intro i j hi hj b hne hgi hgj hri hrj hbi hbj
    have rng : ∀ id q c, s.ob id ≠ .gone → hnd r0 s0.objs.length ps n V (fun _ => true) id = some q → blk q = some c →
        (id < s0.objs.length ∧ s0.ob id ≠ .gone ∧ r0 id = some q ∧ c < w.heap.size) ∨ (¬ id < s0.objs.length ∧ ∃ m po k, m < n ∧ (pAt ps m).os[k]? = some po ∧ id - s0.objs.length = (flatP ps m).length + k ∧ (vdeep (V m))[po.1]? = some q ∧ L m ≤ c ∧ c < U m) := by
      intro id q c hne hr hc
      rcases hob id hne with ⟨hid, he⟩ | ⟨hid, m, po, k, hfl, he, hm, hk1, hk2⟩
      · left
        rw [he] at hne
        rw [hold id hid] at hr
        obtain ⟨q', h1, h2⟩ := h.objs id hne
        rw [hr] at h1
        cases h1
        exact ⟨hid, hne, hr, (h2.lt hne c hc).2⟩
      · right
        rw [hnew id m po hid hfl] at hr
        obtain ⟨hh, h3, h4, h5, h6⟩ := (hR m hm).1.objs k po hk1
        rw [hr] at h3
        cases h3
        rw [he] at hne
        exact ⟨hid, m, po, k, hm, hk1, hk2, hr, (h5.lt hne c hc).1, h6 hne c hc⟩
    rcases rng i hi b hgi hri hbi with ⟨h1, h2, h3, h4⟩ | ⟨h1, m1, p1, k1, h2, h3, h3', h4, h5, h6⟩
    · rcases rng j hj b hgj hrj hbj with ⟨h1', h2', h3', h4'⟩ | ⟨h1', m2, p2, k2, h2', h3', _, h4', h5', h6'⟩
      · exact h.apart i j hi hj b hne h2 h2' h3 h3' hbi hbj
      · have := (hR m2 h2').2.1
        omega
    · rcases rng j hj b hgj hrj hbj with ⟨h1', h2', h3', h4'⟩ | ⟨h1', m2, p2, k2, h2', h3'', h3b, h4', h5', h6'⟩
      · have := (hR m1 h2).2.1
        omega
      · by_cases hm : m1 = m2
        · subst hm
          refine (hR m1 h2).1.apart k1 k2 p1 p2 hi hj b h3 h3'' (fun e => hne ?_) h4 h4' hbi hbj
          omega
        · rcases hsep m1 m2 h2 h2' hm with hs | hs <;> omega
theorem rr_stable (n0 : Nat) : ∀ i V l u (w w' : World), Rr w0.g r0 n0 ops ps n i V l u w → Below w.heap.size w w' → Rr w0.g r0 n0 ops ps n i V l u w' := by
  intro i V l u w w' h hb
  refine ⟨h.base, h.sv, fun k o hk => ?_, h.apart⟩
  obtain ⟨hh, h1, h2, h3, h4⟩ := h.objs k o hk
  exact ⟨hh, h1, h2, SO.Is.sub (SubW.refl _) (SubR.refl _) h3 hb, h4⟩
theorem rr_apart (n0 : Nat) : ∀ i V V' l u (w : World), Rr w0.g r0 n0 ops ps n i V l u w → V i = V' i → (∀ j, Dof ops i j = true → V j = V' j) → Rr w0.g r0 n0 ops ps n i V' l u w := by
  intro i V V' l u w h hi hj
  have hs : SubR (hnd r0 n0 ps n V fun j => Dof ops i j || j == i) (hnd r0 n0 ps n V' fun j => Dof ops i j || j == i) := hnd_sub fun j hd => ⟨hd, by
    simp only [Bool.or_eq_true, beq_iff_eq] at hd
    rcases hd with hd | rfl
    · exact hj j hd
    · exact hi⟩
  refine ⟨h.base, by rw [← hi]; exact SV.Is.sub (SubW.refl _) hs _ _ h.sv, fun k o hk => ?_, by rw [← hi]; exact h.apart⟩
  obtain ⟨hh, h1, h2, h3, h4⟩ := h.objs k o hk
  exact ⟨hh, by rw [← hi]; exact h1, h2, SO.Is.sub (SubW.refl _) hs h3 (Below.refl _ _), h4⟩
theorem lastW_none {ops : Array Oper} {t : Nat} : ∀ {m : Nat}, lastW ops t m = none → ∀ k, k < m → dstAt ops k ≠ some t
  | 0, _, k, hk => by omega
  | m + 1, h, k, hk => by
    unfold lastW at h
    split at h
    · cases h
    · rename_i hd
      by_cases e : k = m
      · subst e; exact hd
      · exact lastW_none h k (by omega)
theorem lateGo_mem {mask : Nat} {o : Oper} : ∀ (l : List Oper) (k i : Nat), l[i]? = some o → lateK o.op = true → Nat.testBit mask (k + i) = false → o ∈ lateGo mask k l
  | [], k, i, h, _, _ => by simp at h
  | q :: l, k, 0, h, hk, hm => by
    simp at h
    subst h
    unfold lateGo
    rw [Nat.add_zero] at hm
    rw [hk, hm]
    simp
  | q :: l, k, i + 1, h, hk, hm => by
    have h1 := lateGo_mem l (k + 1) i (by simpa using h) hk (by rw [show k + 1 + i = k + (i + 1) from by omega]; exact hm)
    unfold lateGo
    cases (lateK q.op && !Nat.testBit mask k) with
    | true => simp [h1]
    | false => exact h1
/-- What a slot holds at last. -/
theorem slot_now (h : Sat w0 r0 s0 a0 w) (hgb : growB ops n = true) {s : AS} (hkn : Know ops s0 ps n s) {V : Nat → Value} {L U : Nat → Nat} {w1 : World} {m t : Nat} (hm : m ≤ n)
    (hw : (∃ k, k < m ∧ dstAt ops k = some t ∧ Rr w0.g r0 s0.objs.length ops ps n k V (L k) (U k) w1) ∨ ∀ k, k < n → dstAt ops k ≠ some t) (hne : s.slots.get t ≠ .any) :
    (s.slots.get t).Is w0.g (hnd r0 s0.objs.length ps n V fun _ => true) ((putN ops V m a0).tmps.getD t undef) := by
  have hts : t < a0.tmps.size := by
    have hht : s.slots.has t = true := by
      cases hh : s.slots.has t with
      | true => rfl
      | false => exact absurd (Fm.get_none hh) hne
    exact h.slots.lt t (by rw [← hkn.1.1]; exact hht)
  refine hkn.2 t _ _ _ ?_
  unfold srcSV
  rcases hw with ⟨k, hk, hd, hR⟩ | hno
  · obtain ⟨ok, hok, _, _, hdk⟩ := growB_spec hgb (show k < n by omega)
    have hd' : ok.dst = some t := by unfold dstAt at hd; rw [hok] at hd; exact hd
    have honly := hdk t hd'
    have hl : lastW ops t n = some k := by
      cases hl : lastW ops t n with
      | none => exact absurd hd (lastW_none hl k (by omega))
      | some j =>
        obtain ⟨h1, h2⟩ := lastW_lt hl
        by_cases e : j = k
        · rw [e]
        · exact absurd h2 (honly j h1 e)
    rw [hl, Array.getD_eq_getD_getElem?, putN_one hd m hk (fun j hj hne => honly j (by omega) hne), if_pos hts]
    exact SV.Is.sub (SubW.refl _) (hnd_sub fun q _ => ⟨rfl, rfl⟩) _ _ hR.sv
  · have hl : lastW ops t n = none := by
      cases hl : lastW ops t n with
      | none => rfl
      | some j => obtain ⟨h1, h2⟩ := lastW_lt hl; exact absurd h2 (hno j h1)
    rw [hl, Array.getD_eq_getD_getElem?, putN_none m (fun j hj => hno j (by omega)), ← Array.getD_eq_getD_getElem?]
    exact SV.Is.sub (SubW.refl _) (r0_sub h V _) _ _ (h.slots.get t)
theorem ob_old {s : AS} {id : Nat} (hobj : s.objs = s0.objs ++ (flatP ps n).map (·.2.2)) (hid : id < s0.objs.length) : s.ob id = s0.ob id := by
  unfold AS.ob
  rw [hobj, List.getD_eq_getElem?_getD, List.getElem?_append_left hid, ← List.getD_eq_getElem?_getD]
theorem hnd_old {V : Nat → Value} {D : Nat → Bool} {n0 id : Nat} (hid : id < n0) : hnd r0 n0 ps n V D id = r0 id := by
  unfold hnd; rw [if_pos hid]
theorem lateSt_spec {s : AS} {n0 id : Nat} {on : Op} (h : lateSt C s n0 on = some id) : ∃ t2 q y ky z, on = .store t2 q y ∧ s.ev y = .v (.int ky z) ∧ id < n0 ∧ (C.td t2).size = 1 ∧ ((∃ ix, s.ev q = .elt id ix ∧ ∃ E k l, s.ob id = .irow E k l) ∨ (∃ off, s.ev q = .ptr id off ∧ ∃ T l, s.ob id = .cells T l ∧ off < l.length)) := by
  unfold lateSt at h
  split at h
  · rename_i t2 q y
    split at h
    · rename_i id' ix ky z e1 e2
      cases h1 : Nat.blt id' n0 with
      | false => rw [h1] at h; cases h
      | true =>
      rw [h1, Bool.true_and] at h
      cases h3 : Nat.beq (C.td t2).size 1 with
      | false => rw [h3, Bool.and_false] at h; cases h
      | true =>
      rw [h3, Bool.and_true] at h
      cases hob : s.ob id' with
      | irow E k l =>
        rw [hob] at h
        cases h
        exact ⟨t2, q, y, ky, z, rfl, e2, nble h1, Nat.eq_of_beq_eq_true h3, .inl ⟨ix, e1, E, k, l, hob⟩⟩
      | cells T l => rw [hob] at h; cases h
      | srow E T d => rw [hob] at h; cases h
      | gone => rw [hob] at h; cases h
    · rename_i id' off ky z e1 e2
      cases h1 : Nat.blt id' n0 with
      | false => rw [h1] at h; cases h
      | true =>
      rw [h1, Bool.true_and] at h
      cases h3 : Nat.beq (C.td t2).size 1 with
      | false => rw [h3, Bool.and_false] at h; cases h
      | true =>
      rw [h3, Bool.and_true] at h
      cases hob : s.ob id' with
      | cells T l =>
        rw [hob] at h
        simp only at h
        cases h4 : Nat.blt off l.length with
        | false => rw [h4] at h; cases h
        | true =>
          rw [h4] at h
          cases h
          exact ⟨t2, q, y, ky, z, rfl, e2, nble h1, Nat.eq_of_beq_eq_true h3, .inr ⟨off, e1, T, l, hob, nble h4⟩⟩
      | irow E k l => rw [hob] at h; cases h
      | srow E T d => rw [hob] at h; cases h
      | gone => rw [hob] at h; cases h
    · cases h
  · cases h
theorem ofLit_int {c : Value} {k : IntKind} {z : Int} (e : SV.ofLit c = .v (.int k z)) : c = .int k z := by
  unfold SV.ofLit at e
  split at e
  · cases e
  · rename_i k' n'
    cases hb' : (Lit.int k' n').wf with
    | true => rw [hb'] at e; cases e; rfl
    | false => rw [hb'] at e; cases e
  · rename_i s'
    cases hb' : Nat.ble s'.size 1000000 with
    | true => rw [hb'] at e; cases e
    | false => rw [hb'] at e; cases e
  · cases e
  · cases e
  · cases e; rfl
/-- A late load is as it is asked. -/
theorem late_ok (ht : ttOk P C.tt) (hA : C.A = std) (h : Sat w0 r0 s0 a0 w) (hgb : growB ops n = true) {s : AS} (hkn : Know ops s0 ps n s) (hobj : s.objs = s0.objs ++ (flatP ps n).map (·.2.2)) {i : Nat} (hi : i < n) {o on : Oper} (ho : ops[i]? = some o) (hon : ops[n]? = some on)
    (hl : lateS0 (Dof ops) ops n i = true) (hc : lateChk C s s0.objs.length on.op o.op = true) : LateOk P (Dof ops) ops n (fun i V L U w => Rr w0.g r0 s0.objs.length ops ps n i V L U w) a0 w i o := by
  obtain ⟨o', on', t2, q, y, ho', hon', hkind, hst, hy, hgu, hnod, hqs, hap, hwt⟩ := lateS0_spec hl
  rw [ho] at ho'; cases ho'
  rw [hon] at hon'; cases hon'
  -- a slot that is stable
  have stab : ∀ {V : Nat → Value} {L U : Nat → Nat} {w1 : World}, (∀ j, j < n → Dof ops n j = true → Rr w0.g r0 s0.objs.length ops ps n j V (L j) (U j) w1) → ∀ x, Stab (Dof ops) ops n x → s.slots.get x ≠ .any → (s.slots.get x).Is w0.g (hnd r0 s0.objs.length ps n V fun _ => true) ((putN ops V n a0).tmps.getD x undef) := by
    intro V L U w1 hR x ⟨kq, h1, h2, h3⟩ hne
    exact slot_now h hgb hkn (Nat.le_refl n) (.inl ⟨kq, h1, h2, hR kq h1 h3⟩) hne
  -- a slot that is a number
  have num : ∀ {V : Nat → Value} {L U : Nat → Nat} {w1 : World}, (∀ j, j < n → Dof ops n j = true → Rr w0.g r0 s0.objs.length ops ps n j V (L j) (U j) w1) → ∀ a' : Act, (∀ q', Stab (Dof ops) ops n q' → a'.tmps.getD q' undef = (putN ops V n a0).tmps.getD q' undef) → ∀ x ky z, s.ev x = .v (.int ky z) → ((∃ y, x = .tmp y ∧ Stab (Dof ops) ops n y) ∨ ∃ c, x = .const c) → a'.eval x = .int ky z := by
    intro V L U w1 hR a' ha' x ky z hx hxs
    rcases hxs with ⟨yt, rfl, hs⟩ | ⟨cc, rfl⟩
    · have e : s.slots.get yt = .v (.int ky z) := hx
      have hyi := stab hR yt hs (by rw [e]; simp)
      rw [e] at hyi
      simp only [SV.Is] at hyi
      show a'.tmps.getD yt undef = _
      rw [ha' yt hs]; exact hyi.1
    · exact ofLit_int hx
  have store : ∀ (id' : Nat), lateSt C s s0.objs.length on.op = some id' → ∀ {V : Nat → Value} {L U : Nat → Nat} {w1 : World}, Below w.heap.size w w1 → (∀ j, j < n → Dof ops n j = true → Rr w0.g r0 s0.objs.length ops ps n j V (L j) (U j) w1) →
      id' < s0.objs.length ∧ s0.ob id' ≠ .gone ∧ ∃ b2 hv, r0 id' = some hv ∧ blk hv = some b2 ∧ ∀ a' : Act, (∀ q', Stab (Dof ops) ops n q' → a'.tmps.getD q' undef = (putN ops V n a0).tmps.getD q' undef) → ∀ nxt w', (execOp a'.eval on).run P w1 = .ok nxt w' → nxt = .skip ∧ ∀ b, b ≠ b2 → w'.heap[b]? = w1.heap[b]? := by
    intro id' hls V L U w1 hb hR
    obtain ⟨t2', q', y', ky, z, hst', hyv, hid', hsz, hcase⟩ := lateSt_spec hls
    rw [hst] at hst'
    cases hst'
    have hxy : ∀ a' : Act, (∀ q', Stab (Dof ops) ops n q' → a'.tmps.getD q' undef = (putN ops V n a0).tmps.getD q' undef) → a'.eval y = .int ky z := fun a' ha' => num hR a' ha' y ky z hyv hy
    have hT := td_ok ht (t := t2) (by omega)
    rcases hcase with ⟨ix, hq, E, k, l, hrow⟩ | ⟨off, hq, T, l, hrow, hoff⟩
    · have hq : s.slots.get q = .elt id' ix := hq
      have hqi := stab hR q hqs (by rw [hq]; simp)
      rw [hq] at hqi
      simp only [SV.Is] at hqi
      obtain ⟨b2, m, c, h1, h2, h3, h4⟩ := hqi
      rw [hnd_old hid'] at h1
      have hob : s0.ob id' = .irow E k l := by rw [← ob_old hobj hid']; exact hrow
      obtain ⟨q', hq', hoi⟩ := h.objs id' (by rw [hob]; simp)
      rw [h1] at hq'
      cases hq'
      rw [hob] at hoi
      have hoi := hoi.sub (SubW.refl _) (SubR.refl _) hb
      obtain ⟨hown, hfit⟩ := hoi
      have hlen : l.length = m := by
        obtain ⟨_, _, he, _⟩ := holds_ownM hown
        rw [kv_len] at he
        injection he with _ e2 _
        exact e2.symm
      subst hlen
      refine ⟨hid', by rw [hob]; simp, b2, _, h1, rfl, fun a' ha' nxt w' hr => ?_⟩
      have hi : ix.toNat < l.length := by omega
      have hcell := hown.cellAt ix.toNat (by rw [Nat.mul_one]; exact hi)
      rw [kv_getD k l ix.toNat hi] at hcell
      have hav : a'.eval (.tmp q) = .pointer (some ⟨b2, ix.toNat, none⟩) := by
        show a'.tmps.getD q undef = _
        rw [ha' q hqs]; exact h4
      have hxv : a'.eval y = .int ky z := hxy a' ha'
      have hrun : (execOp a'.eval on).run P w1 = .ok .skip (w1.setCell ⟨b2, ix.toNat, none⟩ (.int ky z)) := by
        have hs := run_store P w1 ⟨b2, ix.toNat, none⟩ (.int ky z) .plain rfl
        rw [hcell, hown.thawed (by rw [Nat.mul_one]; exact hi)] at hs
        simp only [Bool.false_eq_true, if_false] at hs
        simp [execOp, hst, Instr.storeAt, Instr.sureAddr, hav, storeVar, hT.sizeOf, hsz, hxv, Value.cells, storeCells, Addr.add_lit, hs]
      rw [hrun] at hr
      cases hr
      exact ⟨rfl, fun b hbne => Below.heap_setCell _ _ _ _ hbne⟩
    · have hq : s.slots.get q = .ptr id' off := hq
      have hqi := stab hR q hqs (by rw [hq]; simp)
      rw [hq] at hqi
      simp only [SV.Is] at hqi
      obtain ⟨hv, b2, h1, h2, h4⟩ := hqi
      rw [hnd_old hid'] at h1
      have hob : s0.ob id' = .cells T l := by rw [← ob_old hobj hid']; exact hrow
      obtain ⟨q', hq', hoi⟩ := h.objs id' (by rw [hob]; simp)
      rw [h1] at hq'
      cases hq'
      rw [hob] at hoi
      obtain ⟨b', cs, hb1, _, hb2, hls2⟩ := hoi.sub (SubW.refl _) (SubR.refl _) hb
      rw [h2] at hb1
      cases hb1
      refine ⟨hid', by rw [hob]; simp, b2, hv, h1, h2, fun a' ha' nxt w' hr => ?_⟩
      have hcl := lsIs_len hls2
      obtain ⟨v0, hv0⟩ : ∃ v0, cs.toList[off]? = some v0 := ⟨_, List.getElem?_eq_getElem (by omega)⟩
      have hcell := cell_at hb2 (show cs[off]? = some v0 by rw [← Array.getElem?_toList]; exact hv0)
      have hav : a'.eval (.tmp q) = .pointer (some ⟨b2, off, none⟩) := by
        show a'.tmps.getD q undef = _
        rw [ha' q hqs]; exact h4
      have hxv : a'.eval y = .int ky z := hxy a' ha'
      have hrun : (execOp a'.eval on).run P w1 = .ok .skip (w1.setCell ⟨b2, off, none⟩ (.int ky z)) := by
        have hs := run_store P w1 ⟨b2, off, none⟩ (.int ky z) .plain rfl
        rw [hcell, free_at hb2] at hs
        simp only [Bool.false_eq_true, if_false] at hs
        simp [execOp, hst, Instr.storeAt, Instr.sureAddr, hav, storeVar, hT.sizeOf, hsz, hxv, Value.cells, storeCells, Addr.add_lit, hs]
      rw [hrun] at hr
      cases hr
      exact ⟨rfl, fun b hbne => Below.heap_setCell _ _ _ _ hbne⟩
  have at_i : ∀ {V : Nat → Value} {L U : Nat → Nat} {w1 : World}, (∀ j, j < n → Dof ops i j = true ∨ Dof ops n j = true → Rr w0.g r0 s0.objs.length ops ps n j V (L j) (U j) w1) → ∀ p, slotB (Dof ops) ops n i p = true → s.slots.get p ≠ .any → (s.slots.get p).Is w0.g (hnd r0 s0.objs.length ps n V fun _ => true) ((putN ops V i a0).tmps.getD p undef) := by
    intro V L U w1 hR p hp hne
    refine slot_now h hgb hkn (Nat.le_of_lt hi) (w1 := w1) (L := L) (U := U) ?_ hne
    rcases slotB_spec hp with ⟨k, h1, h2, h3⟩ | hno
    · exact .inl ⟨k, h1, h2, hR k (by omega) (.inl h3)⟩
    · exact .inr hno
  have fin : ∀ {id' : Nat}, lateSt C s s0.objs.length on.op = some id' → ∀ (V : Nat → Value) (L U : Nat → Nat) (w1 : World), Below w.heap.size w w1 → (∀ j, j < n → Dof ops i j = true ∨ Dof ops n j = true → Rr w0.g r0 s0.objs.length ops ps n j V (L j) (U j) w1) → (∃ v, ∀ w', (execOp (putN ops V i a0).eval o).run P w' = .ok (.value v) w') →
      ∃ (v : Value) (S : World → Prop), S w1 ∧ (∀ w', S w' → (execOp (putN ops V i a0).eval o).run P w' = .ok (.value v) w') ∧
        (∀ a' : Act, (∀ q, Stab (Dof ops) ops n q → a'.tmps.getD q undef = (putN ops V n a0).tmps.getD q undef) → ∀ nxt w', (execOp a'.eval on).run P w1 = .ok nxt w' → nxt = .skip ∧ S w') := by
    intro id' hls V L U w1 hb hR ⟨v, hv⟩
    obtain ⟨_, _, b2, hv2, hr2, hk2, hstore⟩ := store id' hls hb fun j hj hd => hR j hj (.inr hd)
    exact ⟨v, fun _ => True, trivial, fun w' _ => hv w', fun a' ha' nxt w' hr => ⟨(hstore a' ha' nxt w' hr).1, trivial⟩⟩
  unfold kindB at hkind
  split at hkind
  · rename_i t p hop
    rw [hop] at hc
    simp only [lateChk] at hc
    refine ⟨hgu, fun V L U w1 hb hR => (still_load hop).at _, hap, hwt, on, hon, hnod, fun V L U w1 hb hR => ?_⟩
    split at hc
    · rename_i id' hls
      split at hc
      · rename_i id off e1
        have e1 : s.slots.get p = .ptr id off := e1
        simp only [Bool.and_eq_true, Bool.not_eq_true'] at hc
        obtain ⟨c1, c3, c4⟩ := hc
        have hid : id < s0.objs.length := nble c1
        have hne : id ≠ id' := fun e => by rw [e, Nat.beq_refl] at c3; cases c3
        split at c4
        · rename_i T l hob
          simp only [Bool.and_eq_true] at c4
          have hs := nble c4.1
          have hf := nble c4.2
          obtain ⟨hid', hg2, b2, hv2, hr2, hk2, hstore⟩ := store id' hls hb fun j hj hd => hR j hj (.inr hd)
          have hpi := at_i hR p hkind (by rw [e1]; simp)
          rw [e1] at hpi
          simp only [SV.Is] at hpi
          obtain ⟨hq0, b, h1, h2, h3⟩ := hpi
          rw [hnd_old hid] at h1
          have hob0 : s0.ob id = .cells T l := by rw [← ob_old hobj hid]; exact hob
          obtain ⟨q', hq', hoi⟩ := h.objs id (by rw [hob0]; simp)
          rw [h1] at hq'
          cases hq'
          rw [hob0] at hoi
          obtain ⟨b', cs, hb1, _, hb2, hls2⟩ := hoi.sub (SubW.refl _) (SubR.refl _) hb
          rw [h2] at hb1
          cases hb1
          have hbne : b ≠ b2 := by
            intro e
            subst e
            exact h.apart id id' _ _ b hne (by rw [hob0]; simp) hg2 h1 hr2 h2 hk2
          have hT := td_ok ht hs
          have hlen : ((cs.toList.drop off).take (C.td t).size).length = (C.td t).size := by
            have := lsIs_len hls2
            rw [List.length_take, List.length_drop]
            omega
          refine ⟨if (C.td t).agg = true then .agg ((cs.toList.drop off).take (C.td t).size).toArray else ((cs.toList.drop off).take (C.td t).size).headD undef, fun w' => w'.heap[b]? = some (.cells cs T (0, 0)), hb2, fun w' hw' => ?_, fun a' ha' nxt w' hr => ?_⟩
          · have hrun := run_loadAt (P := P) (w := w') hT (a := ⟨b, off, none⟩) hlen hs (fun j v hj => by
              rw [Addr.add_lit]
              refine cell_at hw' ?_
              rw [List.getElem?_take] at hj
              split at hj
              · rw [List.getElem?_drop] at hj
                simpa using hj
              · cases hj)
            have hav : (putN ops V i a0).eval (.tmp p) = .pointer (some ⟨b, off, none⟩) := h3
            simp only [execOp, hop, hav]
            rw [Sem.run_bind, hrun]
            rfl
          · obtain ⟨g1, g2⟩ := hstore a' ha' nxt w' hr
            exact ⟨g1, (g2 b hbne).trans hb2⟩
        · cases c4
      · cases hc
    · cases hc
  · rename_i t p f hop
    rw [hop] at hc
    simp only [lateChk] at hc
    refine ⟨hgu, fun V L U w1 hb hR => (still_field hop).at _, hap, hwt, on, hon, hnod, fun V L U w1 hb hR => ?_⟩
    split at hc
    · rename_i id' hls
      refine fin hls V L U w1 hb hR ?_
      split at hc
      · rename_i id off e1
        have e1 : s.slots.get p = .ptr id off := e1
        simp only [Bool.and_eq_true] at hc
        have hpi := at_i hR p hkind (by rw [e1]; simp)
        rw [e1] at hpi
        simp only [SV.Is] at hpi
        obtain ⟨hq0, b, h1, h2, h3⟩ := hpi
        have c4 := hc.2
        split at c4
        · rename_i fs hu
          split at c4
          · rename_i off' ft hf
            obtain ⟨fa, hP, hfs⟩ := under_struct ht hu
            obtain ⟨fld, hfa, hfe⟩ : ∃ fld, fa[f]? = some fld ∧ (fld.offset, fld.type) = (off', ft) := by
              rw [← hfs, List.getElem?_map] at hf
              obtain ⟨fld, g1, g2⟩ := Option.map_eq_some_iff.1 hf
              exact ⟨fld, by simpa using g1, g2⟩
            simp only [Prod.mk.injEq] at hfe
            obtain ⟨rfl, rfl⟩ := hfe
            have hs := nble c4
            have hT := td_ok ht hs
            have hz : ¬ (C.td fld.type).size = 0 := by omega
            have hav : (putN ops V i a0).eval (.tmp p) = .pointer (some ⟨b, off, none⟩) := h3
            refine ⟨.pointer (some ⟨b, off + fld.offset, none⟩), fun w' => ?_⟩
            simp [execOp, hop, hav, Instr.fieldAt, run_underlying hP, hfa, Instr.sureAddr, fieldPlace, hT.sizeOf, hz, Addr.add_lit]
          · cases c4
        · cases c4
      · cases hc
    · cases hc
  · rename_i c hop
    rw [hop] at hc
    simp only [lateChk] at hc
    simp only [Bool.and_eq_true, List.all_eq_true] at hkind
    obtain ⟨hmm, hargs⟩ := hkind
    split at hc
    · rename_i id' hls
      simp only [Bool.and_eq_true, List.all_eq_true] at hc
      obtain ⟨c1, c2⟩ := hc
      have c1 := nble c1
      have hint : ∀ x ∈ c.args.toList, ∃ ky z, s.ev x = .v (.int ky z) := by
        intro x hx
        have := c2 x hx
        split at this
        · rename_i ky z e; exact ⟨ky, z, e⟩
        · cases this
      refine ⟨hgu, fun V L U w1 hb hR a' ha' w2 nxt w' hrun => ?_, hap, hwt, on, hon, hnod, fun V L U w1 hb hR => fin hls V L U w1 hb hR ?_⟩
      · obtain ⟨v, hv⟩ := mm_run (P := P) hop hmm c1 (ρ := a'.eval) (fun x hx => by
          obtain ⟨ky, z, e⟩ := hint x hx
          refine ⟨ky, z, num hR a' ha' x ky z e ?_⟩
          have := hargs x hx
          split at this
          · rename_i yt
            simp only [Bool.and_eq_true] at this
            exact .inl ⟨yt, rfl, stabB_spec this.2⟩
          · exact .inr ⟨_, rfl⟩
          · cases this)
        rw [hv w2] at hrun
        cases hrun
        exact ⟨rfl, v, rfl⟩
      · refine mm_run (P := P) hop hmm c1 (ρ := (putN ops V i a0).eval) fun x hx => ?_
        obtain ⟨ky, z, e⟩ := hint x hx
        refine ⟨ky, z, ?_⟩
        have := hargs x hx
        split at this
        · rename_i yt
          simp only [Bool.and_eq_true] at this
          have e' : s.slots.get yt = .v (.int ky z) := e
          have hyi := at_i hR yt this.1 (by rw [e']; simp)
          rw [e'] at hyi
          simp only [SV.Is] at hyi
          exact hyi.1
        · exact ofLit_int e
        · cases this
    · cases hc
  · cases hkind
def drawOk0 {α : Type} (I : List (FuncId × α)) (ops : Array Oper) : Bool := Region.noSelect ops && (growB ops (nGrow I ops.toList) && (Nat.beq (nGrow I ops.toList) ops.size || (Nat.blt (nGrow I ops.toList) ops.size && (Region.sinkB .any ops (nGrow I ops.toList) && (Region.chainB .any ops (nGrow I ops.toList) && Region.seqB .any ops (ops.size - nGrow I ops.toList) (nGrow I ops.toList) (firstN ops (nGrow I ops.toList)))))))
theorem nGrow_le {α : Type} (I : List (FuncId × α)) : ∀ l : List Oper, nGrow I l ≤ l.length
  | [] => Nat.le_refl _
  | o :: l => by
    unfold nGrow
    cases isEff I o.op with
    | true => simp
    | false => simp only [cond_false, List.length_cons]; have := nGrow_le I l; omega
/-- A REGION THAT DRAWS ITS ORDER. -/
theorem draw_wp0 (ht : ttOk P C.tt) (hA : C.A = std) (hG : GOk P C.G) (hI : IOk P C.fz C.I) (hm : P.follows .mixedOrders = true) (hd : drawOk0 C.I ops = true) (h : Sat w0 r0 s0 a0 w) {K : AS → Prop} {Q : Exit → Act → World → Prop} {id : Nat}
    {KK : AS → Prop} (hKK : ∀ s, KK s → vcOps C ops.toList (ops.toList.drop (nGrow C.I ops.toList)) K s) (hv : vcD C ops.toList (clAll ops.toList []) s0.objs.length 0 (ops.toList.take (nGrow C.I ops.toList)) [] KK s0) (hQ : ∀ w1 r' s' a' w', Fr.le C.fz w0 w1 → Sat w1 r' s' a' w' → K s' → Q .normal a' w') : (Code.region id ops true).wp P Q a0 w := by
  unfold drawOk0 at hd
  simp only [Bool.and_eq_true, Bool.or_eq_true] at hd
  obtain ⟨hsel, hgb, hrest⟩ := hd
  obtain ⟨ps, hps⟩ := facts_of _ _ _ _ hv
  have hnl : nGrow C.I ops.toList ≤ ops.size := by simpa using nGrow_le C.I ops.toList
  have htl : (ops.toList.take (nGrow C.I ops.toList)).length = nGrow C.I ops.toList := by rw [List.length_take, Array.length_toList]; exact Nat.min_eq_left hnl
  have hk0 : Know ops s0 ps 0 s0 := ⟨⟨fun _ => rfl, rfl⟩, fun t g r u hu => hu⟩
  obtain ⟨hfacts, s', hK0, hkn, hobjn⟩ := opFacts (s0 := s0) (pall := ps) _ 0 s0 ps (fun k hk => by
    rw [htl] at hk
    rw [Nat.zero_add, List.getElem?_take, if_pos hk]
    simp) (fun k => by rw [Nat.zero_add]) hps hk0 (by simp [flatP])
  have hK' := hKK _ hK0
  rw [htl, Nat.zero_add] at hkn hobjn
  have hop : opsOk P (Dof ops) ops (fun i V L U w => Rr w0.g r0 s0.objs.length ops ps (nGrow C.I ops.toList) i V L U w) a0 w (ops.toList.take (nGrow C.I ops.toList)) 0 := by
    have : ∀ (l : List Oper) (k : Nat), (∀ i o, l[i]? = some o → k + i < nGrow C.I ops.toList ∧ ops[k + i]? = some o) → opsOk P (Dof ops) ops (fun i V L U w => Rr w0.g r0 s0.objs.length ops ps (nGrow C.I ops.toList) i V L U w) a0 w l k := by
      intro l
      induction l with
      | nil => intro k _; trivial
      | cons o l ih =>
        intro k hl
        have h0 := hl 0 o rfl
        rw [Nat.add_zero] at h0
        have hf := hfacts k o (by rw [htl]; exact h0.1) (by rw [Nat.zero_add]; exact h0.2)
        rw [Nat.zero_add] at hf
        exact ⟨op_ok ht hA hG h hgb h0.1 h0.2 hf, ih (k + 1) fun i q hq => by have := hl (i + 1) q (by simpa using hq); rwa [show k + 1 + i = k + (i + 1) from by omega]⟩
    refine this _ 0 fun i o hi => ?_
    rw [List.getElem?_take] at hi
    split at hi
    · rename_i hlt
      exact ⟨by omega, by rw [Nat.zero_add]; simpa using hi⟩
    · cases hi
  rcases hrest with heq | ⟨hlt, hs, hc, hq⟩
  · have heq := Nat.eq_of_beq_eq_true heq
    have hdrop : ops.toList.drop (nGrow C.I ops.toList) = [] := by rw [heq]; simp
    rw [hdrop] at hK'
    rw [heq] at hgb hop hkn hobjn
    refine wp_region_grow_all _ hm hsel hgb (rr_stable s0.objs.length) (Dof_closed ops) (rr_apart s0.objs.length) hop ?_
    intro V L U w1 hb hR hsep
    exact hQ _ _ _ _ _ (Fr.le.refl _ _) (all_sat h hgb hb hR hsep hkn hobjn) hK'
  · have hlt : nGrow C.I ops.toList < ops.size := nble hlt
    refine wp_region_grow _ _ hm hsel hgb hlt hs hc hq (rr_stable s0.objs.length) (Dof_closed ops) (rr_apart s0.objs.length) hop ?_
    intro V L U w1 hb hR hsep
    exact vcOps_wp ht hA hG hI _ _ _ _ _ _ (all_sat h hgb hb hR hsep hkn hobjn) hK' hQ
theorem gateB_spec {b : Bool} {X : Prop} (h : gateB b X) : b = true ∧ X := by
  cases b with
  | true => exact ⟨rfl, h⟩
  | false => exact h.elim
theorem late_all (ht : ttOk P C.tt) (hA : C.A = std) (h : Sat w0 r0 s0 a0 w) (hgb : growB ops n = true) {s : AS} (hkn : Know ops s0 ps n s) (hobj : s.objs = s0.objs ++ (flatP ps n).map (·.2.2)) {i : Nat} (hi : i < n) {o : Oper} (ho : ops[i]? = some o)
    (hl : lateS (Dof ops) ops n i = true) (hc : lateAll C ops.toList n s0.objs.length s = true) : LateOk P (Dof ops) ops n (fun i V L U w => Rr w0.g r0 s0.objs.length ops ps n i V L U w) a0 w i o := by
  unfold lateS at hl
  simp only [Bool.and_eq_true, Bool.not_eq_true'] at hl
  obtain ⟨hD, hl⟩ := hl
  obtain ⟨o', on, t2, q, y, ho', hon, hkind, _⟩ := lateS0_spec hl
  rw [ho] at ho'; cases ho'
  refine late_ok ht hA h hgb hkn hobj hi ho hon hl ?_
  unfold lateAll at hc
  have hon2 : ops.toList[n]? = some on := by simpa using hon
  rw [hon2] at hc
  refine (List.all_eq_true.1 hc) o (lateGo_mem _ 0 i ?_ ?_ ?_)
  · rw [List.getElem?_take, if_pos hi]; simpa using ho
  · unfold kindB at hkind
    split at hkind
    · rename_i hop; rw [hop]; rfl
    · rename_i hop; rw [hop]; rfl
    · rename_i c hop
      rw [hop]
      simp only [Bool.and_eq_true] at hkind
      exact hkind.1
    · cases hkind
  · rw [Nat.zero_add]; exact hD
def drawOk1 {α : Type} (I : List (FuncId × α)) (ops' : Array Oper) : Bool := Region.noSelect ops' && (growB ops' (nGrow I ops'.toList) && (sinkD2 (Dof ops') ops' (nGrow I ops'.toList) && Region.seqB .any ops' (ops'.size - nGrow I ops'.toList) (nGrow I ops'.toList) (firstN ops' (nGrow I ops'.toList))))
/-- The same, numbered anew. -/
theorem draw_wp1 (ht : ttOk P C.tt) (hA : C.A = std) (hG : GOk P C.G) (hI : IOk P C.fz C.I) (hm : P.follows .mixedOrders = true) {f b : Nat → Nat} {ops' : Array Oper} (hN : Renum f b ops ops') (hg : ∀ (i : Nat) (o : Oper) (g : Nat × Bool), ops[i]? = some o → o.guard = some g → g.1 < ops.size) (hd : drawOk1 C.I ops' = true) (h : Sat w0 r0 s0 a0 w) {K : AS → Prop} {Q : Exit → Act → World → Prop} {id : Nat}
    (hv : vcReg C ops'.toList K s0) (hQ : ∀ w1 r' s' a' w', Fr.le C.fz w0 w1 → Sat w1 r' s' a' w' → K s' → Q .normal a' w') : (Code.region id ops true).wp P Q a0 w := by
  unfold vcReg at hv
  unfold drawOk1 at hd
  simp only [Bool.and_eq_true] at hd
  obtain ⟨hsel, hgb, hs, hq⟩ := hd
  obtain ⟨ps, hps⟩ := facts_of _ _ _ _ hv
  have hnl : nGrow C.I ops'.toList ≤ ops'.size := by simpa using nGrow_le C.I ops'.toList
  have htl : (ops'.toList.take (nGrow C.I ops'.toList)).length = nGrow C.I ops'.toList := by rw [List.length_take, Array.length_toList]; exact Nat.min_eq_left hnl
  have hk0 : Know ops' s0 ps 0 s0 := ⟨⟨fun _ => rfl, rfl⟩, fun t g r u hu => hu⟩
  obtain ⟨hfacts, s', hK0, hkn, hobjn⟩ := opFacts (s0 := s0) (pall := ps) _ 0 s0 ps (fun k hk => by
    rw [htl] at hk
    rw [Nat.zero_add, List.getElem?_take, if_pos hk]
    simp) (fun k => by rw [Nat.zero_add]) hps hk0 (by simp [flatP])
  obtain ⟨hlate, hK'⟩ := gateB_spec hK0
  rw [htl, Nat.zero_add] at hkn hobjn
  have hop : opsOk P (Dof ops') ops' (fun i V L U w => Rr w0.g r0 s0.objs.length ops' ps (nGrow C.I ops'.toList) i V L U w) a0 w (ops'.toList.take (nGrow C.I ops'.toList)) 0 := by
    have : ∀ (l : List Oper) (k : Nat), (∀ i o, l[i]? = some o → k + i < nGrow C.I ops'.toList ∧ ops'[k + i]? = some o) → opsOk P (Dof ops') ops' (fun i V L U w => Rr w0.g r0 s0.objs.length ops' ps (nGrow C.I ops'.toList) i V L U w) a0 w l k := by
      intro l
      induction l with
      | nil => intro k _; trivial
      | cons o l ih =>
        intro k hl
        have h0 := hl 0 o rfl
        rw [Nat.add_zero] at h0
        have hf := hfacts k o (by rw [htl]; exact h0.1) (by rw [Nat.zero_add]; exact h0.2)
        rw [Nat.zero_add] at hf
        exact ⟨op_ok ht hA hG h hgb h0.1 h0.2 hf, ih (k + 1) fun i q hq => by have := hl (i + 1) q (by simpa using hq); rwa [show k + 1 + i = k + (i + 1) from by omega]⟩
    refine this _ 0 fun i o hi => ?_
    rw [List.getElem?_take] at hi
    split at hi
    · rename_i hlt
      exact ⟨by omega, by rw [Nat.zero_add]; simpa using hi⟩
    · cases hi
  refine wp_region_mix2 _ _ hm hN hg hsel hgb hnl hs (fun i hi hl o ho => late_all ht hA h hgb hkn hobjn hi ho hl hlate) hq (rr_stable s0.objs.length) (Dof_closed ops') (rr_apart s0.objs.length) hop ?_
  intro V L U w1 hb hR hsep
  exact vcOps_wp ht hA hG hI _ _ _ _ _ _ (all_sat h hgb hb hR hsep hkn hobjn) hK' fun w1 r' s' a' w' hl h' hk => ⟨rfl, hQ w1 r' s' a' w' hl h' hk⟩
def drawOk {α : Type} (I : List (FuncId × α)) (ops : Array Oper) : Bool := match natsEq (ordOf I ops) (List.range ops.size) with
  | true => drawOk0 I ops || (edgB ops && drawOk1 I ops)
  | false => renB (ordOf I ops) ops && drawOk1 I (renOps (ordOf I ops) ops)
theorem draw_wp (ht : ttOk P C.tt) (hA : C.A = std) (hG : GOk P C.G) (hI : IOk P C.fz C.I) (hm : P.follows .mixedOrders = true) (hd : drawOk C.I ops = true) (h : Sat w0 r0 s0 a0 w) {K : AS → Prop} {Q : Exit → Act → World → Prop} {id : Nat}
    (hv : vcReg C (reckd C.I ops).toList K s0) (hQ : ∀ w1 r' s' a' w', Fr.le C.fz w0 w1 → Sat w1 r' s' a' w' → K s' → Q .normal a' w') : (Code.region id ops true).wp P Q a0 w := by
  unfold drawOk at hd
  unfold reckd at hv
  cases hn : natsEq (ordOf C.I ops) (List.range ops.size) with
  | true =>
    rw [hn] at hd hv
    simp only [Bool.or_eq_true, Bool.and_eq_true] at hd
    rcases hd with hd | hd
    · exact draw_wp0 ht hA hG hI hm hd h (fun s hs => (gateB_spec hs).2) hv hQ
    · exact draw_wp1 ht hA hG hI hm (ren_id hd.1).1 (ren_id hd.1).2 hd.2 h hv hQ
  | false =>
    rw [hn] at hd hv
    simp only [Bool.and_eq_true] at hd
    exact draw_wp1 ht hA hG hI hm (ren_of hd.1).1 (ren_of hd.1).2 hd.2 h hv hQ
end
end Go.Proofs.Ytekokhlldcmjfaa
