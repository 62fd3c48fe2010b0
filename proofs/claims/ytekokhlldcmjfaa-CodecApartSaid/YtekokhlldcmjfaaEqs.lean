/- Structs and arrays of numbers and truth values, compared. No program in sight. -/
import Derived.Test.YtekokhlldcmjfaaLate
import Derived.DeepKeys
import Derived.Laws.StructEq
namespace Go.Proofs.Ytekokhlldcmjfaa
/-- A cell's kind. -/
inductive CK where
  | int (k : IntKind)
  | bool
deriving DecidableEq
def ksFs (P : Program) (F : TypeId → Option (List CK)) : Nat → List Field → Option (List CK)
  | _, [] => some []
  | off, f :: fs => if f.offset = off then (F f.type).bind fun ks => if ks.length = P.cellsOf f.type then (ksFs P F (off + ks.length) fs).map (ks ++ ·) else none else none
/-- The cells' kinds of a type. -/
def ksOf (P : Program) : Nat → TypeId → Option (List CK)
  | 0, _ => none
  | d + 1, t => match P.underlying t with
    | some .bool => some [.bool]
    | some (.int q) => some [.int q]
    | some (.array n e) => (ksOf P d e).bind fun ks => if ks.length = P.cellsOf e ∧ P.cellsOf t = n * ks.length then some (List.replicate n ks).flatten else none
    | some (.struct fs) => if fs.all (·.name != "_") = true then (ksFs P (ksOf P d) 0 fs.toList).bind fun ks => if ks.length = P.cellsOf t then some ks else none else none
    | _ => none
def Cks : List CK → List Value → Prop
  | [], [] => True
  | .int q :: ks, v :: vs => (∃ n, v = .int q n ∧ (Lit.int q n).wf = true) ∧ Cks ks vs
  | .bool :: ks, v :: vs => (∃ b, v = .bool b) ∧ Cks ks vs
  | _, _ => False
def lit1 : Value → Lit
  | .int q n => .int q n
  | .bool b => .bool b
  | _ => .bool false
theorem cks_len : ∀ {ks : List CK} {cs : List Value}, Cks ks cs → cs.length = ks.length
  | [], [], _ => rfl
  | .int q :: ks, v :: vs, h => by
    simp only [Cks] at h
    simp [cks_len h.2]
  | .bool :: ks, v :: vs, h => by
    simp only [Cks] at h
    simp [cks_len h.2]
  | [], _ :: _, h => by simp [Cks] at h
  | .int _ :: _, [], h => by simp [Cks] at h
  | .bool :: _, [], h => by simp [Cks] at h
theorem cks_append : ∀ {ks ls : List CK} {cs : List Value}, Cks (ks ++ ls) cs → Cks ks (cs.take ks.length) ∧ Cks ls (cs.drop ks.length)
  | [], ls, cs, h => by simpa [Cks] using h
  | .int q :: ks, ls, [], h => by simp [Cks] at h
  | .bool :: ks, ls, [], h => by simp [Cks] at h
  | .int q :: ks, ls, v :: vs, h => by
    simp only [List.cons_append, Cks] at h
    have := cks_append h.2
    simp only [List.length_cons, List.take_succ_cons, List.drop_succ_cons, Cks]
    exact ⟨⟨h.1, this.1⟩, this.2⟩
  | .bool :: ks, ls, v :: vs, h => by
    simp only [List.cons_append, Cks] at h
    have := cks_append h.2
    simp only [List.length_cons, List.take_succ_cons, List.drop_succ_cons, Cks]
    exact ⟨⟨h.1, this.1⟩, this.2⟩
theorem key_fields {P : Program} {d : Nat} (ih : ∀ (t : TypeId) (ks : List CK) (cs : List Value), ksOf P d t = some ks → Cks ks cs → P.keyLits d t cs = some (cs.map lit1)) (all : List Value) :
    ∀ (fs : List Field) (off : Nat) (ks : List CK), ksFs P (ksOf P d) off fs = some ks → Cks ks (all.drop off) → ∃ L : List (List Lit), fs.mapM (fun f => P.keyLits d f.type ((all.drop f.offset).take (P.cellsOf f.type))) = some L ∧ L.flatten = (all.drop off).map lit1
  | [], off, ks, hk, hc => by
    simp only [ksFs, Option.some.injEq] at hk
    subst hk
    have : all.drop off = [] := by
      cases h : all.drop off with
      | nil => rfl
      | cons a l => rw [h] at hc; simp [Cks] at hc
    exact ⟨[], by simp, by simp [this]⟩
  | f :: fs, off, ks, hk, hc => by
    simp only [ksFs] at hk
    split at hk
    · rename_i ho
      obtain ⟨k1, h1, h2⟩ := Option.bind_eq_some_iff.1 hk
      split at h2
      · rename_i hl
        obtain ⟨k2, h3, rfl⟩ := Option.map_eq_some_iff.1 h2
        obtain ⟨c1, c2⟩ := cks_append hc
        rw [List.drop_drop] at c2
        obtain ⟨L, hL, hf⟩ := key_fields ih all fs _ k2 h3 c2
        have h4 := ih _ _ _ h1 c1
        rw [hl, ← ho] at h4
        refine ⟨List.map lit1 (List.take (P.cellsOf f.type) (List.drop f.offset all)) :: L, by rw [List.mapM_cons, h4, hL]; rfl, ?_⟩
        rw [List.flatten_cons, hf, ← List.map_append, ho, ← hl, ← List.drop_drop, List.take_append_drop]
      · cases h2
    · cases hk
theorem key_items {P : Program} {d : Nat} (ih : ∀ (t : TypeId) (ks : List CK) (cs : List Value), ksOf P d t = some ks → Cks ks cs → P.keyLits d t cs = some (cs.map lit1)) (all : List Value) {e : TypeId} {ks : List CK} (hk : ksOf P d e = some ks) (hl : ks.length = P.cellsOf e) :
    ∀ (n s : Nat), Cks (List.replicate n ks).flatten (all.drop (s * P.cellsOf e)) → ∃ L : List (List Lit), (List.range' s n).mapM (fun i => P.keyLits d e ((all.drop (i * P.cellsOf e)).take (P.cellsOf e))) = some L ∧ L.flatten = (all.drop (s * P.cellsOf e)).map lit1
  | 0, s, hc => by
    have : all.drop (s * P.cellsOf e) = [] := by
      cases h : all.drop (s * P.cellsOf e) with
      | nil => rfl
      | cons a l => rw [h] at hc; simp [Cks] at hc
    exact ⟨[], by simp, by simp [this]⟩
  | n + 1, s, hc => by
    rw [List.replicate_succ, List.flatten_cons] at hc
    obtain ⟨c1, c2⟩ := cks_append hc
    rw [List.drop_drop, hl, ← Nat.succ_mul] at c2
    obtain ⟨L, hL, hf⟩ := key_items ih all hk hl n (s + 1) c2
    have h4 := ih _ _ _ hk c1
    rw [hl] at h4
    refine ⟨List.map lit1 (List.take (P.cellsOf e) (List.drop (s * P.cellsOf e) all)) :: L, by rw [List.range'_succ, List.mapM_cons, h4, hL]; rfl, ?_⟩
    rw [List.flatten_cons, hf, ← List.map_append, Nat.succ_mul, ← List.drop_drop, List.take_append_drop]
theorem key_lits {P : Program} : ∀ (d : Nat) (t : TypeId) (ks : List CK) (cs : List Value), ksOf P d t = some ks → Cks ks cs → P.keyLits d t cs = some (cs.map lit1)
  | 0, t, ks, cs, hk, _ => by simp [ksOf] at hk
  | d + 1, t, ks, cs, hk, hc => by
    have hlen := cks_len hc
    unfold ksOf at hk
    unfold Program.keyLits
    split at hk
    · rename_i hu
      simp only [Option.some.injEq] at hk
      subst hk
      cases cs with
      | nil => simp [Cks] at hc
      | cons v vs =>
        simp only [Cks] at hc
        obtain ⟨⟨b, rfl⟩, h2⟩ := hc
        cases vs with
        | nil => simp [hu, lit1]
        | cons a l => simp [Cks] at h2
    · rename_i q hu
      simp only [Option.some.injEq] at hk
      subst hk
      cases cs with
      | nil => simp [Cks] at hc
      | cons v vs =>
        simp only [Cks] at hc
        obtain ⟨⟨b, rfl, hw⟩, h2⟩ := hc
        cases vs with
        | nil => simp [hu, lit1, hw]
        | cons a l => simp [Cks] at h2
    · rename_i n e hu
      obtain ⟨k1, h1, h2⟩ := Option.bind_eq_some_iff.1 hk
      split at h2
      · rename_i hl
        simp only [Option.some.injEq] at h2
        subst h2
        obtain ⟨L, hL, hf⟩ := key_items (key_lits d) cs h1 hl.1 n 0 (by simpa using hc)
        have hlen2 : cs.length = P.cellsOf t := by rw [hlen, hl.2]; simp
        rw [← List.range_eq_range'] at hL
        simp only [hu, hlen2, if_true, hL, Option.map_some, hf, Nat.zero_mul, List.drop_zero]
      · cases h2
    · rename_i fs hu
      split at hk
      · rename_i hnm
        obtain ⟨k1, h1, h2⟩ := Option.bind_eq_some_iff.1 hk
        split at h2
        · rename_i hl
          simp only [Option.some.injEq] at h2
          subst h2
          obtain ⟨L, hL, hf⟩ := key_fields (key_lits d) cs fs.toList 0 k1 h1 (by simpa using hc)
          have hlen2 : cs.length = P.cellsOf t := by rw [hlen, hl]
          simp only [hu, hlen2, hnm, and_self, if_true, hL, Option.map_some, hf, List.drop_zero]
        · cases h2
      · cases hk
    · cases hk
/-- What is asked of a type whose values are compared. -/
def eqB (P : Program) (t : TypeId) (ks : List CK) : Bool := P.keyTypeAt 6 t && (decide (ksOf P 6 t = some ks) && !P.eqGuardType P.depth t)
def eqV : List CK → List Value → List Value → Bool
  | .int _ :: ks, .int _ a :: l, .int _ b :: m => (a == b) && eqV ks l m
  | .bool :: ks, .bool a :: l, .bool b :: m => (a == b) && eqV ks l m
  | _, _, _ => true
theorem eqV_iff : ∀ {ks : List CK} {l m : List Value}, Cks ks l → Cks ks m → (eqV ks l m = true ↔ l.map lit1 = m.map lit1)
  | [], [], [], _, _ => by simp [eqV]
  | .int q :: ks, v :: l, u :: m, hx, hy => by
    simp only [Cks] at hx hy
    obtain ⟨⟨a, rfl, _⟩, hx⟩ := hx
    obtain ⟨⟨b, rfl, _⟩, hy⟩ := hy
    simp only [eqV, Bool.and_eq_true, beq_iff_eq, eqV_iff hx hy, List.map_cons, lit1, List.cons.injEq, Lit.int.injEq, true_and]
  | .bool :: ks, v :: l, u :: m, hx, hy => by
    simp only [Cks] at hx hy
    obtain ⟨⟨a, rfl⟩, hx⟩ := hx
    obtain ⟨⟨b, rfl⟩, hy⟩ := hy
    simp only [eqV, Bool.and_eq_true, beq_iff_eq, eqV_iff hx hy, List.map_cons, lit1, List.cons.injEq, Lit.bool.injEq]
  | [], _ :: _, _, hx, _ => by simp [Cks] at hx
  | [], [], _ :: _, _, hy => by simp [Cks] at hy
  | .int _ :: _, [], _, hx, _ => by simp [Cks] at hx
  | .int _ :: _, _ :: _, [], _, hy => by simp [Cks] at hy
  | .bool :: _, [], _, hx, _ => by simp [Cks] at hx
  | .bool :: _, _ :: _, [], _, hy => by simp [Cks] at hy
def isAgg2 (P : Program) (t : TypeId) : Bool := match P.underlying t with
  | some (.struct _) => true
  | some (.array _ _) => true
  | _ => false
theorem ks_size {P : Program} {d : Nat} {t : TypeId} {ks : List CK} (hk : ksOf P d t = some ks) (ha : isAgg2 P t = true) : ks.length = P.cellsOf t := by
  cases d with
  | zero => simp [ksOf] at hk
  | succ d =>
    unfold ksOf at hk
    unfold isAgg2 at ha
    split at ha
    · rename_i fs hu
      simp only [hu] at hk
      split at hk
      · obtain ⟨k1, h1, h2⟩ := Option.bind_eq_some_iff.1 hk
        split at h2
        · rename_i hl
          cases h2
          exact hl
        · cases h2
      · cases hk
    · rename_i n e hu
      simp only [hu] at hk
      obtain ⟨k1, h1, h2⟩ := Option.bind_eq_some_iff.1 hk
      split at h2
      · rename_i hl
        cases h2
        rw [hl.2]; simp
      · cases h2
    · cases ha
theorem formed_of {P : Program} {t : TypeId} {zs : Array Value} (ha : isAgg2 P t = true) (hl : zs.size = P.cellsOf t) : (Value.agg zs).formed P t = true := by
  unfold isAgg2 at ha
  unfold Value.formed
  split at ha
  · rename_i hu; simp [hu, hl]
  · rename_i hu; simp [hu, hl]
  · cases ha
/-- Two structs, two arrays, compared. -/
theorem eq_run {P : Program} {t : TypeId} {ks : List CK} (h : eqB P t ks = true) {xs ys : Array Value} (hx : Cks ks xs.toList) (hy : Cks ks ys.toList) (ha : isAgg2 P t = true) (w : World) :
    (Op.equalIn 10000 t (.agg xs) (.agg ys)).run P w = .ok (eqV ks xs.toList ys.toList) w := by
  unfold eqB at h
  simp only [Bool.and_eq_true, decide_eq_true_eq, Bool.not_eq_true'] at h
  obtain ⟨h1, h2, h3⟩ := h
  have kx := key_lits 6 t ks xs.toList h2 hx
  have ky := key_lits 6 t ks ys.toList h2 hy
  have hs := ks_size h2 ha
  have fx := formed_of (zs := xs) ha (by rw [← hs, ← cks_len hx]; simp)
  have fy := formed_of (zs := ys) ha (by rw [← hs, ← cks_len hy]; simp)
  obtain ⟨r, hr, hiff⟩ := run_equalIn_deep 9994 6 t h1 w 6 6 (.agg xs) (.agg ys) _ _ fx fy kx ky
  have hr : (Op.equalIn 10000 t (.agg xs) (.agg ys)).run P w = .ok r w := hr
  rw [hr]
  congr 1
  rw [Bool.eq_iff_iff, hiff, eqV_iff hx hy]
theorem eql_agg {P : Program} {t : TypeId} {ks : List CK} (h : eqB P t ks = true) {xs ys : Array Value} (hx : Cks ks xs.toList) (hy : Cks ks ys.toList) (ha : isAgg2 P t = true) (w : World) :
    (binOp .eql t (.agg xs) (.agg ys)).run P w = .ok (.bool (eqV ks xs.toList ys.toList)) w ∧ (binOp .neq t (.agg xs) (.agg ys)).run P w = .ok (.bool (!eqV ks xs.toList ys.toList)) w := by
  rw [run_eql_struct, run_neq_struct, eq_run h hx hy ha]
  exact ⟨rfl, rfl⟩
theorem eq_guard {P : Program} {t : TypeId} {ks : List CK} (h : eqB P t ks = true) (op : BinOp) (x y : Operand) (xs ys : Array Value) (w : World) : (eqGuard op t x y (.agg xs) (.agg ys)).run P w = .ok () w := by
  unfold eqB at h
  simp only [Bool.and_eq_true, decide_eq_true_eq, Bool.not_eq_true'] at h
  exact run_eqGuard_agg w op t x y xs ys h.2.2
end Go.Proofs.Ytekokhlldcmjfaa
