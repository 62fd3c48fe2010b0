/- Contracts of memory that nobody writes: slices that were written out are handed over as rows. No program in sight. -/
import Derived.Test.YthklcldmoakbfaaTt
namespace Go.Proofs.Ythklcldmoakbfaa
open Go.RowKit
set_option linter.unusedVariables false
/-- Slices that were written out, among cells. -/
def cslL : List Ty → List SV → List (Nat × Nat × Ty)
  | [], _ => []
  | t :: ts, l => (match t with
    | .sl e => match l with
      | .csl id n :: _ => [(id, n, e)]
      | _ => []
    | _ => []) ++ cslL ts (l.drop t.size)
/-- A struct's fields, without the structs in it. -/
def flatTs : List Ty → List Ty
  | [] => []
  | t :: ts => (match t with
    | .st fs => fs
    | t => [t]) ++ flatTs ts
def cslArgs : List Ty → List SV → List (Nat × Nat × Ty)
  | t :: ts, x :: xs => (match t with
    | .sl e => match x with
      | .csl id n => [(id, n, e)]
      | _ => []
    | .st fs => match x with
      | .agg l => cslL (flatTs fs) l
      | _ => []
    | _ => []) ++ cslArgs ts xs
  | _, _ => []
def stepR (A : Sy) (ts : List Ty) (p : AS × List SV) : AS × List SV := match cslArgs ts p.2 with
  | [] => p
  | (id, n, T) :: _ => (p.1.toRow A id n T, rowL id p.2)
/-- A call of such a contract. -/
def frzRunR (A : Sy) (c : FCtr) (args : List SV) (s : AS) (K : SV → AS → Prop) : Prop := match stepR A c.tys (stepR A c.tys (stepR A c.tys (stepR A c.tys (s, args)))) with
  | (s1, xs) => frzRun A c xs s1 K
theorem cslL_mem : ∀ (ts : List Ty) (l : List SV) {id n : Nat} {T : Ty}, (id, n, T) ∈ cslL ts l → SV.csl id n ∈ l
  | [], l, _, _, _, h => by simp [cslL] at h
  | t :: ts, l, id, n, T, h => by
    simp only [cslL, List.mem_append] at h
    rcases h with h | h
    · split at h
      · split at h
        · simp only [List.mem_singleton, Prod.mk.injEq] at h
          obtain ⟨rfl, rfl, _⟩ := h
          exact List.mem_cons_self
        · simp at h
      · simp at h
    · exact List.mem_of_mem_drop (cslL_mem ts _ h)
theorem lsIs_mem {g : World} {r : Nat → Option Value} : ∀ {l : List SV} {us : List Value} {x : SV}, LsIs g r l us → x ∈ l → (∃ u, x.Is g r u)
  | [], _, _, _, h => by simp at h
  | y :: l, us, x, h, hx => by
    simp only [LsIs] at h
    obtain ⟨u, us', _, h2, h3⟩ := h
    rcases List.mem_cons.1 hx with rfl | hx
    · exact ⟨u, h2⟩
    · exact lsIs_mem h3 hx
theorem cslArgs_is {g : World} {r : Nat → Option Value} : ∀ (ts : List Ty) (xs : List SV) (us : List Value) {id n : Nat} {T : Ty}, LsIs g r xs us → (id, n, T) ∈ cslArgs ts xs → ∃ u, (SV.csl id n).Is g r u
  | [], xs, us, _, _, _, _, h => by simp [cslArgs] at h
  | t :: ts, [], us, _, _, _, _, h => by simp [cslArgs] at h
  | t :: ts, x :: xs, us, id, n, T, hl, h => by
    simp only [LsIs] at hl
    obtain ⟨u, us', _, h2, h3⟩ := hl
    simp only [cslArgs, List.mem_append] at h
    rcases h with h | h
    · split at h
      · split at h
        · simp only [List.mem_singleton, Prod.mk.injEq] at h
          obtain ⟨rfl, rfl, _⟩ := h
          exact ⟨u, h2⟩
        · simp at h
      · split at h
        · simp only [SV.Is] at h2
          obtain ⟨cs, _, h4⟩ := h2
          exact lsIs_mem h4 (cslL_mem _ _ h)
        · simp at h
      · simp at h
    · exact cslArgs_is ts xs us' h3 h
section
variable {P : Program} {C : Cx} {r : Nat → Option Value} {a : Act} {w : World}
theorem Sat.stepR {w0 : Fr} {s : AS} {xs : List SV} {us : List Value} (ht : ttOk P C.tt) (hA : C.A = std) (ts : List Ty) (h : Sat w0 r s a w) (hx : LsIs w0.g r xs us) :
    ∃ w1, Fr.le true w0 w1 ∧ Sat w1 r (Go.Proofs.Ythklcldmoakbfaa.stepR std ts (s, xs)).1 a w ∧ LsIs w1.g r (Go.Proofs.Ythklcldmoakbfaa.stepR std ts (s, xs)).2 us := by
  unfold Go.Proofs.Ythklcldmoakbfaa.stepR
  split
  · exact ⟨w0, Fr.le.refl _ _, h, hx⟩
  · rename_i id n T rest he
    obtain ⟨u, hu⟩ := cslArgs_is ts xs us (id := id) (n := n) (T := T) hx (by simp only at he; rw [he]; exact List.mem_cons_self)
    obtain ⟨w1, hle, h1⟩ := h.toRow ht hA (T := T) hu
    exact ⟨w1, hle, h1, rowL_is _ _ (lsIs_sub hle.sub (fun _ _ h => h) _ _ hx)⟩
end
theorem frz_runR {P : Program} {f : FuncId} {c : FCtr} {tt : List (TypeId × TD)} (ht : ttOk P tt) (hn : FnOk P f) (h : FOk P f c) : RunOk P true f (frzRunR std c) := by
  refine ⟨hn, fun w0 r s a w args us K Q hs hargs hv hQ => ?_⟩
  have ht' : ttOk P (⟨std, tt, [], true, true, [], true⟩ : Cx).tt := ht
  obtain ⟨w1, l1, h1, x1⟩ := Sat.stepR ht' rfl c.tys hs hargs
  obtain ⟨w2, l2, h2, x2⟩ := Sat.stepR ht' rfl c.tys h1 x1
  obtain ⟨w3, l3, h3, x3⟩ := Sat.stepR ht' rfl c.tys h2 x2
  obtain ⟨w4, l4, h4, x4⟩ := Sat.stepR ht' rfl c.tys h3 x3
  refine (frz_run ht hn h).ok w4 r _ a w _ us K Q h4 x4 hv ?_
  intro w5 r' s' x v w' l5
  exact hQ w5 r' s' x v w' ((((l1.trans l2).trans l3).trans l4).trans l5)
def frzsR (A : Sy) (l : List (FuncId × FCtr)) : List (FuncId × (List SV → AS → (SV → AS → Prop) → Prop)) := l.map fun x => (x.1, frzRunR A x.2)
theorem frzsR_ok {P : Program} {tt : List (TypeId × TD)} (ht : ttOk P tt) : ∀ {l : List (FuncId × FCtr)}, FOks P l → IOk P true (frzsR std l)
  | [], _ => fun f run h => by simp [frzsR] at h
  | (f0, c) :: l, ⟨⟨h1, h2⟩, h3⟩ => by
    intro f run h
    unfold frzsR at h
    rw [List.map_cons] at h
    rcases List.mem_cons.1 h with h | h
    · cases h
      exact frz_runR ht h1 h2
    · exact frzsR_ok ht h3 f run h
theorem hasI_inls3 (C : Cx) {fl : List (FuncId × FCtr)} (hC : C.I = frzsR std fl) (f : FuncId) : ∀ l : List (FuncId × Func), hasI (inls C l) f = hasI (ids l fl) f
  | [] => by
    rw [hasI_ids]
    unfold inls
    rw [hC]
    exact hasI_map fl (frzRunR std) f
  | (g, fn) :: l => by
    have ih := hasI_inls3 C hC f l
    have e : inls C ((g, fn) :: l) = (g, inlRun (C.inl (inls C l)) fn) :: inls C l := rfl
    have e2 : ids ((g, fn) :: l) fl = (g, ()) :: ids l fl := rfl
    rw [e, e2, hasI_cons, hasI_cons, ih]
theorem inls3_ok {P : Program} {C : Cx} {fl : List (FuncId × FCtr)} (hC : C.I = frzsR std fl) (hz : C.fz = true) (ht : ttOk P C.tt) (hA : C.A = std) (hG : GOk P C.G) (hF : FOks P fl) (hm : P.follows .mixedOrders = true) : ∀ {l : List (FuncId × Func)}, InlOk2 P fl l → IOk P C.fz (inls C l)
  | [], _ => by
    unfold inls
    rw [hC, hz]
    exact frzsR_ok ht hF
  | (f, fn) :: l, ⟨⟨h1, h2, h3⟩, h4⟩ => by
    have ih := inls3_ok hC hz ht hA hG hF hm h4
    intro f' run h
    unfold inls at h
    rcases List.mem_cons.1 h with h | h
    · cases h
      cases hb : fn.body with
      | none => rw [hb] at h3; cases h3
      | some c0 =>
        rw [hb] at h3
        refine inl_ok (C := C.inl (inls C l)) h1 hb h2 ht hA hG ih hm ?_
        show Code.drawsOk (inls C l) c0 = true
        rw [draws_ids (hasI_inls3 C hC · l)]
        simpa using h3
    · exact ih f' run h
theorem fn_inl3 {P : Program} {ck : Bool} {f : FuncId} {fn : Func} {c0 : Code} {tt : List (TypeId × TD)} {c : Ctr} (hal : c.al = false) {G : List (FuncId × Ctr)} (fl : List (FuncId × FCtr)) (hF : FOks P fl) (l : List (FuncId × Func)) (hl : InlOk2 P fl l) (hf : P.funcs[f]? = some fn) (hb : fn.body = some c0) (ht : ttOk P tt) (hG : GOk P G) (hm : P.follows .mixedOrders = true) (hd : Code.drawsOk (ids l fl) c0 = true)
    (hv : ∀ bs xs, svArgs c.tys bs = some xs → (∀ x ∈ xs, SVf x) → (∀ p, c.pre bs = some p → p) → vcFn ⟨std, tt, G, ck, false, inls ⟨std, tt, G, ck, false, frzsR std fl, true⟩ l, true⟩ fn xs (c.res bs)) : CtrOk P f c := by
  refine fn_okI (ck := ck) (I := inls ⟨std, tt, G, ck, false, frzsR std fl, true⟩ l) hf hb ht hG ?_ hm ?_ ?_
  · rw [hal]
    exact inls3_ok (C := ⟨std, tt, G, ck, false, frzsR std fl, true⟩) rfl rfl ht rfl hG hF hm hl
  · rw [draws_ids (hasI_inls3 ⟨std, tt, G, ck, false, frzsR std fl, true⟩ rfl · l)]
    exact hd
  · rw [hal]
    exact hv
theorem fn_inlF3 {P : Program} {ck : Bool} {f : FuncId} {fn : Func} {c0 : Code} {tt : List (TypeId × TD)} {c : FCtr} {G : List (FuncId × Ctr)} (fl : List (FuncId × FCtr)) (hF : FOks P fl) (l : List (FuncId × Func)) (hl : InlOk2 P fl l) (hf : P.funcs[f]? = some fn) (hb : fn.body = some c0) (ht : ttOk P tt) (hG : GOk P G) (hm : P.follows .mixedOrders = true) (hd : Code.drawsOk (ids l fl) c0 = true)
    (hv : ∀ bs xs, svArgs c.tys bs = some xs → (∀ x ∈ xs, SVf x) → (∀ p, c.pre bs = some p → p) → vcFnF ⟨std, tt, G, ck, true, inls ⟨std, tt, G, ck, true, frzsR std fl, true⟩ l, true⟩ fn xs c.fr (c.res bs)) : FOk P f c := by
  refine fn_okF (ck := ck) (I := inls ⟨std, tt, G, ck, true, frzsR std fl, true⟩ l) hf hb ht hG ?_ hm ?_ hv
  · exact inls3_ok (C := ⟨std, tt, G, ck, true, frzsR std fl, true⟩) rfl rfl ht rfl hG hF hm hl
  · rw [draws_ids (hasI_inls3 ⟨std, tt, G, ck, true, frzsR std fl, true⟩ rfl · l)]
    exact hd
end Go.Proofs.Ythklcldmoakbfaa
