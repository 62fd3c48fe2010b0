/- The operations that make memory at most, further ones. No program in sight. -/
import Derived.Test.YtekokhlldcmjfaaSnd2
namespace Go.Proofs.Ytekokhlldcmjfaa
open Go.RowKit Go.ChangeShapes Go.WideShapes Go.Deep
set_option linter.unusedVariables false
set_option linter.unusedSimpArgs false
section
variable {P : Program} {ρ : Operand → Value} {g : World} {r : Nat → Option Value} {n base : Nat} {w : World} {o : Oper} {C : Cx} {ob : Nat → SO}
theorem size_strOf (l : List Int) : (strOfNums l).size = l.length := by simp [strOfNums, ByteArray.size]
theorem row_reads {E : TypeId} {v : Value} {k : IntKind} {l : List Int} {b : Nat} (h : OwnM w b E 1 v l.length (kv k l)) (hf : Fits k l) : Reads k w v l := by
  refine ⟨holds_ownM h, hf, ?_⟩
  obtain ⟨_, _, _, h1, h2, _⟩ := row_len h
  omega
theorem sub_holds {v : Value} {k : IntKind} {l : List Int} {ao : Option Addr} {m c : Nat} (h : Reads k w (.slice ao m c) l) {lo len : Nat} (hle : lo + len ≤ l.length) {a' : Option Addr} {c' : Nat} (h1 : len ≤ c') (h2 : c' ≤ maxLen)
    (hh : len = 0 ∨ ∃ b off, ao = some ⟨b, off, none⟩ ∧ a' = some ⟨b, off + lo, none⟩) : Reads k w (.slice a' len c') ((l.drop lo).take len) := by
  have hl : ((l.drop lo).take len).length = len := by rw [List.length_take, List.length_drop]; omega
  refine ⟨⟨a', c', by rw [kv_len, hl], by rw [kv_len, hl]; exact h1, h2, ?_⟩, fun x hx => h.2.1 x (List.mem_of_mem_drop (List.mem_of_mem_take hx)), by omega⟩
  rcases hh with rfl | ⟨b, off, rfl, rfl⟩
  · left; simp
  · by_cases h0 : len = 0
    · subst h0; left; simp
    right
    refine ⟨b, off + lo, rfl, fun i u hu => ?_⟩
    obtain ⟨a, cc, he, _, _, hc⟩ := h.1
    injection he with e1 e2 e3
    rcases hc with hc | ⟨b', o', hb, hc⟩
    · have : l = [] := by simpa [kv] using hc
      subst this
      simp at hle
      omega
    · rw [← e1] at hb
      cases hb
      have hi : i < len := by
        have := (List.getElem?_eq_some_iff.1 hu).1
        rw [kv_len, hl] at this
        exact this
      rw [List.getElem?_map, List.getElem?_take, if_pos hi, List.getElem?_drop, ← List.getElem?_map] at hu
      have := hc (lo + i) u hu
      rwa [show off + lo + i = off + (lo + i) from by omega]
theorem allIntsP_is {k : IntKind} : ∀ {l : List SV} {zs : List Int} {us : List Value}, allIntsP k l = some zs → LsIs g r l us → us = kv k zs ∧ Fits k zs
  | [], zs, us, h, hl => by
    simp only [allIntsP, Option.some.injEq] at h
    subst h
    simp only [LsIs] at hl
    subst hl
    exact ⟨rfl, fun x hx => by cases hx⟩
  | x :: l, zs, us, h, hl => by
    unfold allIntsP at h
    split at h
    · rename_i k' z
      cases hk : IntKind.same k k' with
      | false => rw [hk] at h; cases h
      | true =>
        rw [hk] at h
        obtain rfl := same_eq hk
        obtain ⟨zs', h1, h2⟩ := Option.bind_eq_some_iff.1 h
        cases h2
        simp only [LsIs, SV.Is] at hl
        obtain ⟨u, us', rfl, ⟨rfl, hw⟩, h3⟩ := hl
        obtain ⟨rfl, h5⟩ := allIntsP_is h1 h3
        refine ⟨rfl, fun x hx => ?_⟩
        rcases List.mem_cons.1 hx with rfl | hx
        · exact hw
        · exact h5 x hx
    · cases h
/-- A slice of numbers, read. -/
theorem ints_is (E : Env P C g r n base w ob) {k : IntKind} {a : SV} {l : List Int} {v : Value} (h : intsOf std ob k a = some l) (ha : a.Is g r v) : Reads k w v l := by
  unfold intsOf at h
  split at h
  · rename_i k' l'
    cases hk : IntKind.same k k' with
    | false => rw [hk] at h; cases h
    | true =>
      rw [hk] at h
      cases h
      obtain rfl := same_eq hk
      simp only [SV.Is] at ha
      exact reads_sub E.gw ha
  · rename_i id
    split at h
    · rename_i E' k' l' hob
      cases hk : IntKind.same k k' with
      | false => rw [hk] at h; cases h
      | true =>
        rw [hk] at h
        cases h
        obtain rfl := same_eq hk
        simp only [SV.Is] at ha
        obtain ⟨h, hr1, hoi⟩ := E.obs id (by rw [hob]; simp)
        rw [hob] at hoi
        rw [ha] at hr1
        cases hr1
        exact row_reads hoi.1 hoi.2
    · cases h
  · rename_i id lo len
    split at h
    · rename_i E' k' l' hob
      cases hk : IntKind.same k k' with
      | false => rw [hk] at h; cases h
      | true =>
        rw [hk] at h
        cases h
        obtain rfl := same_eq hk
        simp only [SV.Is] at ha
        obtain ⟨h, hr1, hoi⟩ := E.obs id (by rw [hob]; simp)
        rw [hob] at hoi
        obtain ⟨ao, m, c, hr2, hlo, hln, hle, a', c', hx, h3, h4, hh⟩ := ha
        rw [hr1] at hr2
        cases hr2
        subst hx
        have hrd := row_reads hoi.1 hoi.2
        have hlen : l'.length = m := (reads_len hrd).1
        refine sub_holds (v := .nilFunc) hrd (by omega) h3 h4 ?_
        rcases hh with rfl | ⟨b, rfl, rfl⟩
        · left; rfl
        · right; exact ⟨b, 0, rfl, by rw [Nat.zero_add]⟩
    · cases h
  · rename_i id off m
    split at h
    · rename_i t l' hob
      cases h1 : Nat.ble m 16777216 with
      | false => rw [h1] at h; cases h
      | true =>
      cases h2 : Nat.ble (off + m) l'.length with
      | false => rw [h1, h2] at h; cases h
      | true =>
        rw [h1, h2] at h
        simp only [Bool.and_self, cond_true] at h
        have h1 := nble h1
        have h2 := nble h2
        simp only [SV.Is] at ha
        obtain ⟨hh, b, hr1, hb, rfl⟩ := ha
        obtain ⟨hh', hr2, hoi⟩ := E.obs id (by rw [hob]; simp)
        rw [hob] at hoi
        rw [hr1] at hr2
        cases hr2
        obtain ⟨b', cs, hb', _, hhp, hl⟩ := hoi
        rw [hb] at hb'
        cases hb'
        obtain ⟨e1, e2⟩ := allIntsP_is h (lsIs_take (lsIs_drop hl off) m)
        have hlen : l.length = m := by
          have := congrArg List.length e1
          rw [kv_len, List.length_take, List.length_drop, lsIs_len hl] at this
          omega
        refine ⟨⟨some ⟨b, off, none⟩, m, by rw [kv_len, hlen], by rw [kv_len, hlen]; exact Nat.le_refl _, by unfold maxLen; omega, .inr ⟨b, off, rfl, fun i u hu => ?_⟩⟩, e2, by unfold maxLen; omega⟩
        rw [← e1, List.getElem?_take] at hu
        split at hu
        · rw [List.getElem?_drop] at hu
          exact cell_at hhp (by simpa using hu)
        · cases hu
    · cases h
  · cases h
    simp only [SV.Is] at ha
    obtain ⟨rfl, _⟩ := ha
    exact ⟨holds_nil w, fun x hx => (by cases hx), by simp⟩
  · cases h
theorem run_len_slice {t e : TypeId} {x : Operand} {a : Option Addr} {m c : Nat} {ts : Array TypeId} (hu : P.underlying t = some (.slice e)) (hts : ts[0]? = some t) (ho : o.op = .call { callee := .builtin .len, args := #[x], argTypes := ts }) (hx : ρ x = .slice a m c) :
    (execOp ρ o).run P w = .ok (.value (.int .i64 m)) w := by
  simp [execOp, ho, resolve, invoke, builtin, Builtin.len_, hts, run_underlying hu, hx, goInt]
theorem wf_i64 {m : Int} (h1 : -9223372036854775808 ≤ m) (h : m ≤ 9223372036854775807) : (Lit.int .i64 m).wf = true := by
  rw [wf_iff]; simp [IntKind.min, IntKind.max, IntKind.signed, IntKind.bits]; omega
theorem wf_len {m : Nat} (h : m ≤ maxLen) : (Lit.int .i64 (m : Int)).wf = true := by
  unfold maxLen at h
  exact wf_i64 (by omega) (by omega)
theorem ex_len (E : Env P C g r n base w ob) {t : TypeId} {x : Operand} {a : SV} (ho : o.op = .call { callee := .builtin .len, args := #[x], argTypes := #[t] }) (ha : a.Is g r (ρ x)) : Okk P ρ g r n w o (exLen C ob t a) := by
  unfold exLen
  have hv : ∀ {m : Nat}, m ≤ maxLen → (SV.v (.int .i64 (m : Int))).Is g r (.int .i64 (m : Int)) := fun h => by
    simp only [SV.Is]; exact ⟨trivial, wf_len h⟩
  split
  · rename_i e hu
    have hP := under_slice E.tt hu
    split
    · rename_i k l
      simp only [SV.Is] at ha
      obtain ⟨ao, cap, hx, h1, h2, _⟩ := ha.1
      rw [kv_len] at hx h1
      rw [E.A]
      exact okk_one E.rn (run_len_slice hP rfl ho hx) (hv (by omega))
    · rename_i id
      split
      · rename_i E' k l hob
        simp only [SV.Is] at ha
        obtain ⟨h, hr1, hoi⟩ := E.obs id (by rw [hob]; simp)
        rw [hob] at hoi
        rw [ha] at hr1
        cases hr1
        obtain ⟨ao, cap, hx, h1, h2, _⟩ := row_len hoi.1
        rw [E.A]
        exact okk_one E.rn (run_len_slice hP rfl ho hx) (hv (by omega))
      · rename_i E' T d hob
        simp only [SV.Is] at ha
        obtain ⟨h, hr1, hoi⟩ := E.obs id (by rw [hob]; simp)
        rw [hob] at hoi
        obtain ⟨hsz, ds, cl, rfl, hown, hrd⟩ := hoi
        rw [ha] at hr1
        cases hr1
        rw [E.A]
        show Okk P ρ g r n w o (Er.one (SV.v (.int .i64 (ds.length : Int))))
        rcases hown.2 with ⟨hx, e0⟩ | ⟨b, cap, cur, hx, _, _, h1, h2, _⟩
        · rw [e0]; exact okk_one E.rn (run_len_slice hP rfl ho hx) (hv (Nat.zero_le _))
        · exact okk_one E.rn (run_len_slice hP rfl ho hx) (hv (by omega))
      · exact okk_none
    · rename_i id lo len
      simp only [SV.Is] at ha
      obtain ⟨ao, m, c, hr2, hlo, hln, hle, a', c', hx, h3, h4, hh⟩ := ha
      have hrun := run_len_slice (P := P) (w := w) hP rfl ho hx
      have e : ((len.toNat : Nat) : Int) = len := by omega
      have := hv (m := len.toNat) (by omega)
      rw [e] at hrun this
      exact okk_one E.rn hrun this
    · rename_i T d
      simp only [SV.Is] at ha
      rw [Rd] at ha
      obtain ⟨ao, cap, ds, he, rfl, h1, h2, _⟩ := ha
      simp only [List.cons.injEq, and_true] at he
      rw [E.A]
      exact okk_one E.rn (run_len_slice hP rfl ho he) (hv (by show ds.length ≤ maxLen; omega))
    · rename_i id m
      cases hm : Nat.ble m 16777216 with
      | false => exact okk_none
      | true =>
        have hm := nble hm
        simp only [cond_true]
        simp only [SV.Is] at ha
        obtain ⟨_, b, hx⟩ := ha
        exact okk_one E.rn (run_len_slice hP rfl ho hx) (hv (by unfold maxLen; omega))
    · simp only [SV.Is] at ha
      exact okk_one E.rn (v := .int .i64 0) (by have := run_len_slice (P := P) (w := w) hP rfl ho ha.1; simpa using this) (by simp only [SV.Is]; exact ⟨trivial, rfl⟩)
    · exact okk_none
  · rename_i hu
    have hP := under_str E.tt hu
    split
    · rename_i s
      rw [E.A]
      simp only [SV.Is] at ha
      have hp : s.size ≤ maxLen := ha.2
      refine okk_one E.rn (v := .int .i64 (s.size : Int)) ?_ (hv hp)
      simp [execOp, ho, resolve, invoke, builtin, Builtin.len_, run_underlying hP, ha.1, goInt]
    · exact okk_none
  · exact okk_none
/-- The greatest, the least of some. -/
theorem fold_is {f2 : Value → Value → Sem Value} {f : Int → Int → Int} {k : IntKind} (hf : ∀ x y (k' : IntKind), (f2 (.int k x) (.int k' y)).run P w = .ok (.int k (f x y)) w) (hw : ∀ x y, f x y = x ∨ f x y = y) :
    ∀ (l : List SV) (us : List Value) (z : Int) (c : Option Prop) (rt : Out), (Lit.int k z).wf = true → LsIs g r l us → foldInts f k z l = some (c, rt) → ∃ q, (us.foldlM f2 (.int k z)).run P w = .ok (.int k q) w ∧ c = none ∧ rt = .ret (.v (.int k q)) [] ∧ (Lit.int k q).wf = true
  | [], us, z, c, rt, hz, hl, he => by
    simp only [LsIs] at hl
    subst hl
    simp only [foldInts, Er.one, Option.some.injEq, Prod.mk.injEq] at he
    exact ⟨z, by simp, he.1.symm, he.2.symm, hz⟩
  | x :: l, us, z, c, rt, hz, hl, he => by
    simp only [LsIs] at hl
    obtain ⟨u, us', rfl, hx, hl⟩ := hl
    cases x with
    | v q0 =>
      cases q0 with
      | int k' y =>
        simp only [foldInts] at he
        cases hk : IntKind.same k k' with
        | false => rw [hk] at he; cases he
        | true =>
          rw [hk] at he
          obtain rfl := same_eq hk
          simp only [SV.Is] at hx
          obtain ⟨rfl, hy⟩ := hx
          have hq : (Lit.int k (f z y)).wf = true := by rcases hw z y with h | h <;> rw [h] <;> assumption
          obtain ⟨q, h1, h2⟩ := fold_is hf hw l us' _ c rt hq hl he
          exact ⟨q, by simp [List.foldlM_cons, hf, h1], h2⟩
      | _ => simp [foldInts] at he
    | _ => simp [foldInts] at he
theorem ex_max (E : Env P C g r n base w ob) {x : Operand} {xs : List Operand} {as : List SV} {ts : Array TypeId} {k : IntKind} {z : Int} (ho : o.op = .call { callee := .builtin .max, args := (x :: xs).toArray, argTypes := ts }) (hx : (SV.v (.int k z)).Is g r (ρ x)) (hl : LsIs g r as (xs.map ρ)) : Okk P ρ g r n w o (foldInts std.max k z as) := by
  intro c rt he hc
  simp only [SV.Is] at hx
  obtain ⟨q, h1, rfl, rfl, h4⟩ := fold_is (P := P) (w := w) (f2 := Builtin.max2) (f := std.max) (k := k) (fun x y k' => by simp [Builtin.max2, std]) (fun x y => by simp only [std]; split <;> simp) as (xs.map ρ) z c rt hx.2 hl he
  refine ⟨.int k q, w, ?_, Gv.pure E.rn (by simp only [SV.Is]; exact ⟨trivial, h4⟩), fun _ => rfl⟩
  simp [execOp, ho, resolve, invoke, builtin, Builtin.max_, hx.1, h1]
theorem ex_min (E : Env P C g r n base w ob) {x : Operand} {xs : List Operand} {as : List SV} {ts : Array TypeId} {k : IntKind} {z : Int} (ho : o.op = .call { callee := .builtin .min, args := (x :: xs).toArray, argTypes := ts }) (hx : (SV.v (.int k z)).Is g r (ρ x)) (hl : LsIs g r as (xs.map ρ)) : Okk P ρ g r n w o (foldInts std.min k z as) := by
  intro c rt he hc
  simp only [SV.Is] at hx
  obtain ⟨q, h1, rfl, rfl, h4⟩ := fold_is (P := P) (w := w) (f2 := Builtin.min2) (f := std.min) (k := k) (fun x y k' => by simp [Builtin.min2, std]) (fun x y => by simp only [std]; split <;> simp) as (xs.map ρ) z c rt hx.2 hl he
  refine ⟨.int k q, w, ?_, Gv.pure E.rn (by simp only [SV.Is]; exact ⟨trivial, h4⟩), fun _ => rfl⟩
  simp [execOp, ho, resolve, invoke, builtin, Builtin.min_, hx.1, h1]
end
end Go.Proofs.Ytekokhlldcmjfaa
