/- Contracts of memory that nobody writes: slices that were written out are handed over as rows. No program in sight. -/
import Derived.Test.YtekokhlldcmjfaaTt
namespace Go.Proofs.Ytekokhlldcmjfaa
open Go.RowKit
set_option linter.unusedVariables false
/-- Slices that were written out, among cells. -/
def cslL : List Ty → List SV → List (Nat × Nat × Ty)
  | [], _ => []
  | t :: ts, l => (match t with
    | .sl e => match l with
      | .csl id n :: _ => [(id, n, e)]
      | _ => []
    | _ => []) ++ cslL ts (l.drop t.size)
/-- A struct's fields, without the structs in it. -/
def flatTs : List Ty → List Ty
  | [] => []
  | t :: ts => (match t with
    | .st fs => fs
    | t => [t]) ++ flatTs ts
def cslArgs : List Ty → List SV → List (Nat × Nat × Ty)
  | t :: ts, x :: xs => (match t with
    | .sl e => match x with
      | .csl id n => [(id, n, e)]
      | _ => []
    | .st fs => match x with
      | .agg l => cslL (flatTs fs) l
      | _ => []
    | _ => []) ++ cslArgs ts xs
  | _, _ => []
def stepR (A : Sy) (ts : List Ty) (p : AS × List SV) : AS × List SV := match cslArgs ts p.2 with
  | [] => p
  | (id, n, T) :: _ => (p.1.toRow A id n T, rowL id p.2)
/-- A call of such a contract. -/
def frzRunR (A : Sy) (c : FCtr) (args : List SV) (s : AS) (K : SV → AS → Prop) : Prop := match stepR A c.tys (stepR A c.tys (stepR A c.tys (stepR A c.tys (s, args)))) with
  | (s1, xs) => frzRun A c xs s1 K
theorem cslL_mem : ∀ (ts : List Ty) (l : List SV) {id n : Nat} {T : Ty}, (id, n, T) ∈ cslL ts l → SV.csl id n ∈ l
  | [], l, _, _, _, h => by simp [cslL] at h
  | t :: ts, l, id, n, T, h => by
    simp only [cslL, List.mem_append] at h
    rcases h with h | h
    · split at h
      · split at h
        · simp only [List.mem_singleton, Prod.mk.injEq] at h
          obtain ⟨rfl, rfl, _⟩ := h
          exact List.mem_cons_self
        · simp at h
      · simp at h
    · exact List.mem_of_mem_drop (cslL_mem ts _ h)
theorem lsIs_mem {g : World} {r : Nat → Option Value} : ∀ {l : List SV} {us : List Value} {x : SV}, LsIs g r l us → x ∈ l → (∃ u, x.Is g r u)
  | [], _, _, _, h => by simp at h
  | y :: l, us, x, h, hx => by
    simp only [LsIs] at h
    obtain ⟨u, us', _, h2, h3⟩ := h
    rcases List.mem_cons.1 hx with rfl | hx
    · exact ⟨u, h2⟩
    · exact lsIs_mem h3 hx
theorem cslArgs_is {g : World} {r : Nat → Option Value} : ∀ (ts : List Ty) (xs : List SV) (us : List Value) {id n : Nat} {T : Ty}, LsIs g r xs us → (id, n, T) ∈ cslArgs ts xs → ∃ u, (SV.csl id n).Is g r u
  | [], xs, us, _, _, _, _, h => by simp [cslArgs] at h
  | t :: ts, [], us, _, _, _, _, h => by simp [cslArgs] at h
  | t :: ts, x :: xs, us, id, n, T, hl, h => by
    simp only [LsIs] at hl
    obtain ⟨u, us', _, h2, h3⟩ := hl
    simp only [cslArgs, List.mem_append] at h
    rcases h with h | h
    · split at h
      · split at h
        · simp only [List.mem_singleton, Prod.mk.injEq] at h
          obtain ⟨rfl, rfl, _⟩ := h
          exact ⟨u, h2⟩
        · simp at h
      · split at h
        · simp only [SV.Is] at h2
          obtain ⟨cs, _, h4⟩ := h2
          exact lsIs_mem h4 (cslL_mem _ _ h)
        · simp at h
      · simp at h
    · exact cslArgs_is ts xs us' h3 h
section
variable {P : Program} {C : Cx} {r : Nat → Option Value} {a : Act} {w : World}
theorem Sat.stepR {w0 : Fr} {s : AS} {xs : List SV} {us : List Value} (ht : ttOk P C.tt) (hA : C.A = std) (ts : List Ty) (h : Sat w0 r s a w) (hx : LsIs w0.g r xs us) :
    ∃ w1, Fr.le true w0 w1 ∧ Sat w1 r (Go.Proofs.Ytekokhlldcmjfaa.stepR std ts (s, xs)).1 a w ∧ LsIs w1.g r (Go.Proofs.Ytekokhlldcmjfaa.stepR std ts (s, xs)).2 us := by
  unfold Go.Proofs.Ytekokhlldcmjfaa.stepR
  split
  · exact ⟨w0, Fr.le.refl _ _, h, hx⟩
  · rename_i id n T rest he
    obtain ⟨u, hu⟩ := cslArgs_is ts xs us (id := id) (n := n) (T := T) hx (by simp only at he; rw [he]; exact List.mem_cons_self)
    obtain ⟨w1, hle, h1⟩ := h.toRow ht hA (T := T) hu
    exact ⟨w1, hle, h1, rowL_is _ _ (lsIs_sub hle.sub (fun _ _ h => h) _ _ hx)⟩
end
theorem frz_runR {P : Program} {f : FuncId} {c : FCtr} {tt : List (TypeId × TD)} (ht : ttOk P tt) (hn : FnOk P f) (h : FOk P f c) : RunOk P true f (frzRunR std c) := by
  refine ⟨hn, fun w0 r s a w args us K Q hs hargs hv hQ => ?_⟩
  have ht' : ttOk P (⟨std, tt, [], true, true, [], true⟩ : Cx).tt := ht
  obtain ⟨w1, l1, h1, x1⟩ := Sat.stepR ht' rfl c.tys hs hargs
  obtain ⟨w2, l2, h2, x2⟩ := Sat.stepR ht' rfl c.tys h1 x1
  obtain ⟨w3, l3, h3, x3⟩ := Sat.stepR ht' rfl c.tys h2 x2
  obtain ⟨w4, l4, h4, x4⟩ := Sat.stepR ht' rfl c.tys h3 x3
  refine (frz_run ht hn h).ok w4 r _ a w _ us K Q h4 x4 hv ?_
  intro w5 r' s' x v w' l5
  exact hQ w5 r' s' x v w' ((((l1.trans l2).trans l3).trans l4).trans l5)
def frzsR (A : Sy) (l : List (FuncId × FCtr)) : List (FuncId × (List SV → AS → (SV → AS → Prop) → Prop)) := l.map fun x => (x.1, frzRunR A x.2)
theorem frzsR_ok {P : Program} {tt : List (TypeId × TD)} (ht : ttOk P tt) : ∀ {l : List (FuncId × FCtr)}, FOks P l → IOk P true (frzsR std l)
  | [], _ => fun f run h => by simp [frzsR] at h
  | (f0, c) :: l, ⟨⟨h1, h2⟩, h3⟩ => by
    intro f run h
    unfold frzsR at h
    rw [List.map_cons] at h
    rcases List.mem_cons.1 h with h | h
    · cases h
      exact frz_runR ht h1 h2
    · exact frzsR_ok ht h3 f run h
theorem hasI_inls3 (C : Cx) {fl : List (FuncId × FCtr)} (hC : C.I = frzsR std fl) (f : FuncId) : ∀ l : List (FuncId × Func), hasI (inls C l) f = hasI (ids l fl) f
  | [] => by
    rw [hasI_ids]
    unfold inls
    rw [hC]
    exact hasI_map fl (frzRunR std) f
  | (g, fn) :: l => by
    have ih := hasI_inls3 C hC f l
    have e : inls C ((g, fn) :: l) = (g, inlRun (C.inl (inls C l)) fn) :: inls C l := rfl
    have e2 : ids ((g, fn) :: l) fl = (g, ()) :: ids l fl := rfl
    rw [e, e2, hasI_cons, hasI_cons, ih]
theorem inls3_ok {P : Program} {C : Cx} {fl : List (FuncId × FCtr)} (hC : C.I = frzsR std fl) (hz : C.fz = true) (ht : ttOk P C.tt) (hA : C.A = std) (hG : GOk P C.G) (hF : FOks P fl) (hm : P.follows .mixedOrders = true) : ∀ {l : List (FuncId × Func)}, InlOk2 P fl l → IOk P C.fz (inls C l)
  | [], _ => by
    unfold inls
    rw [hC, hz]
    exact frzsR_ok ht hF
  | (f, fn) :: l, ⟨⟨h1, h2, h3⟩, h4⟩ => by
    have ih := inls3_ok hC hz ht hA hG hF hm h4
    intro f' run h
    unfold inls at h
    rcases List.mem_cons.1 h with h | h
    · cases h
      cases hb : fn.body with
      | none => rw [hb] at h3; cases h3
      | some c0 =>
        rw [hb] at h3
        refine inl_ok (C := C.inl (inls C l)) h1 hb h2 ht hA hG ih hm ?_
        show Code.drawsOk (inls C l) c0 = true
        rw [draws_ids (hasI_inls3 C hC · l)]
        simpa using h3
    · exact ih f' run h
theorem fn_inl3 {P : Program} {ck : Bool} {f : FuncId} {fn : Func} {c0 : Code} {tt : List (TypeId × TD)} {c : Ctr} (hal : c.al = false) {G : List (FuncId × Ctr)} (fl : List (FuncId × FCtr)) (hF : FOks P fl) (l : List (FuncId × Func)) (hl : InlOk2 P fl l) (hf : P.funcs[f]? = some fn) (hb : fn.body = some c0) (ht : ttOk P tt) (hG : GOk P G) (hm : P.follows .mixedOrders = true) (hd : Code.drawsOk (ids l fl) c0 = true)
    (hv : ∀ bs xs, svArgs c.tys bs = some xs → (∀ x ∈ xs, SVf x) → (∀ p, c.pre bs = some p → p) → vcFn ⟨std, tt, G, ck, false, inls ⟨std, tt, G, ck, false, frzsR std fl, true⟩ l, true⟩ fn xs (c.res bs)) : CtrOk P f c := by
  refine fn_okI (ck := ck) (I := inls ⟨std, tt, G, ck, false, frzsR std fl, true⟩ l) hf hb ht hG ?_ hm ?_ ?_
  · rw [hal]
    exact inls3_ok (C := ⟨std, tt, G, ck, false, frzsR std fl, true⟩) rfl rfl ht rfl hG hF hm hl
  · rw [draws_ids (hasI_inls3 ⟨std, tt, G, ck, false, frzsR std fl, true⟩ rfl · l)]
    exact hd
  · rw [hal]
    exact hv
theorem fn_inlF3 {P : Program} {ck : Bool} {f : FuncId} {fn : Func} {c0 : Code} {tt : List (TypeId × TD)} {c : FCtr} {G : List (FuncId × Ctr)} (fl : List (FuncId × FCtr)) (hF : FOks P fl) (l : List (FuncId × Func)) (hl : InlOk2 P fl l) (hf : P.funcs[f]? = some fn) (hb : fn.body = some c0) (ht : ttOk P tt) (hG : GOk P G) (hm : P.follows .mixedOrders = true) (hd : Code.drawsOk (ids l fl) c0 = true)
    (hv : ∀ bs xs, svArgs c.tys bs = some xs → (∀ x ∈ xs, SVf x) → (∀ p, c.pre bs = some p → p) → vcFnF ⟨std, tt, G, ck, true, inls ⟨std, tt, G, ck, true, frzsR std fl, true⟩ l, true⟩ fn xs c.fr (c.res bs)) : FOk P f c := by
  refine fn_okF (ck := ck) (I := inls ⟨std, tt, G, ck, true, frzsR std fl, true⟩ l) hf hb ht hG ?_ hm ?_ hv
  · exact inls3_ok (C := ⟨std, tt, G, ck, true, frzsR std fl, true⟩) rfl rfl ht rfl hG hF hm hl
  · rw [draws_ids (hasI_inls3 ⟨std, tt, G, ck, true, frzsR std fl, true⟩ rfl · l)]
    exact hd
end Go.Proofs.Ytekokhlldcmjfaa
/- Methods: contracts of functions that change memory which is handed to them. No program in sight. -/
namespace Go.Proofs.Ytekokhlldcmjfaa
open Go.RowKit Go.ChangeShapes Go.WideShapes Go.Deep
set_option linter.unusedVariables false
set_option linter.unusedSimpArgs false
/-! ### Other names for memory -/
mutual
def SV.ren (m : Nat → Nat) : SV → SV
  | .v x => .v x
  | .lit b => .lit b
  | .iimm k l => .iimm k l
  | .imm e d => .imm e d
  | .ip l => .ip (rens m l)
  | .ptr i o => .ptr (m i) o
  | .elt i z => .elt (m i) z
  | .hdl i => .hdl (m i)
  | .sub i a b => .sub (m i) a b
  | .csl i n => .csl (m i) n
  | .sel i z s o => .sel (m i) z s o
  | .psl i o n => .psl (m i) o n
  | .clo f l => .clo f (rens m l)
  | .agg l => .agg (rens m l)
  | .tup l => .tup (rens m l)
  | .any => .any
def rens (m : Nat → Nat) : List SV → List SV
  | [] => []
  | x :: l => x.ren m :: rens m l
end
def SO.ren (m : Nat → Nat) : SO → SO
  | .cells t l => .cells t (rens m l)
  | .irow E k l => .irow E k l
  | .srow E T d => .srow E T d
  | .gone => .gone
mutual
theorem ren_is {g : World} {r : Nat → Option Value} {m : Nat → Nat} : ∀ (x : SV) (u : Value), (x.ren m).Is g r u ↔ x.Is g (fun i => r (m i)) u
  | .v _, _ => by simp only [SV.ren, SV.Is]
  | .lit _, _ => by simp only [SV.ren, SV.Is]
  | .iimm _ _, _ => by simp only [SV.ren, SV.Is]
  | .imm _ _, _ => by simp only [SV.ren, SV.Is]
  | .ip l, u => by
    simp only [SV.ren, SV.Is]
    exact ⟨fun ⟨b, o, h1, h2⟩ => ⟨b, o, h1, (renAt_is l b o).1 h2⟩, fun ⟨b, o, h1, h2⟩ => ⟨b, o, h1, (renAt_is l b o).2 h2⟩⟩
  | .ptr _ _, _ => by simp only [SV.ren, SV.Is]
  | .elt _ _, _ => by simp only [SV.ren, SV.Is]
  | .hdl _, _ => by simp only [SV.ren, SV.Is]
  | .sub _ _ _, _ => by simp only [SV.ren, SV.Is]
  | .csl _ _, _ => by simp only [SV.ren, SV.Is]
  | .sel _ _ _ _, _ => by simp only [SV.ren, SV.Is]
  | .psl _ _ _, _ => by simp only [SV.ren, SV.Is]
  | .clo _ l, u => by
    simp only [SV.ren, SV.Is]
    exact ⟨fun ⟨cs, h1, h2⟩ => ⟨cs, h1, (rens_is l _).1 h2⟩, fun ⟨cs, h1, h2⟩ => ⟨cs, h1, (rens_is l _).2 h2⟩⟩
  | .agg l, u => by
    simp only [SV.ren, SV.Is]
    exact ⟨fun ⟨cs, h1, h2⟩ => ⟨cs, h1, (rens_is l _).1 h2⟩, fun ⟨cs, h1, h2⟩ => ⟨cs, h1, (rens_is l _).2 h2⟩⟩
  | .tup l, u => by
    simp only [SV.ren, SV.Is]
    exact ⟨fun ⟨cs, h1, h2⟩ => ⟨cs, h1, (rens_is l _).1 h2⟩, fun ⟨cs, h1, h2⟩ => ⟨cs, h1, (rens_is l _).2 h2⟩⟩
  | .any, _ => by simp only [SV.ren, SV.Is]
theorem renAt_is {g : World} {r : Nat → Option Value} {m : Nat → Nat} : ∀ (l : List SV) (b o : Nat), IsAt g r (rens m l) b o ↔ IsAt g (fun i => r (m i)) l b o
  | [], _, _ => by simp only [rens, IsAt]
  | x :: l, b, o => by
    simp only [rens, IsAt]
    exact ⟨fun ⟨⟨u, h1, h2⟩, h3⟩ => ⟨⟨u, h1, (ren_is x u).1 h2⟩, (renAt_is l b (o + 1)).1 h3⟩, fun ⟨⟨u, h1, h2⟩, h3⟩ => ⟨⟨u, h1, (ren_is x u).2 h2⟩, (renAt_is l b (o + 1)).2 h3⟩⟩
theorem rens_is {g : World} {r : Nat → Option Value} {m : Nat → Nat} : ∀ (l : List SV) (us : List Value), LsIs g r (rens m l) us ↔ LsIs g (fun i => r (m i)) l us
  | [], us => by simp only [rens, LsIs]
  | x :: l, us => by
    simp only [rens, LsIs]
    exact ⟨fun ⟨u, us', h1, h2, h3⟩ => ⟨u, us', h1, (ren_is x u).1 h2, (rens_is l us').1 h3⟩, fun ⟨u, us', h1, h2, h3⟩ => ⟨u, us', h1, (ren_is x u).2 h2, (rens_is l us').2 h3⟩⟩
end
theorem so_ren {g : World} {r : Nat → Option Value} {m : Nat → Nat} {w : World} {base : Nat} {h : Value} : ∀ {o : SO}, (o.ren m).Is g r w base h ↔ o.Is g (fun i => r (m i)) w base h
  | .cells t l => ⟨fun ⟨b, cs, h1, h2, h3, h4⟩ => ⟨b, cs, h1, h2, h3, (rens_is l _).1 h4⟩, fun ⟨b, cs, h1, h2, h3, h4⟩ => ⟨b, cs, h1, h2, h3, (rens_is l _).2 h4⟩⟩
  | .irow E k l => Iff.rfl
  | .srow E T d => Iff.rfl
  | .gone => Iff.rfl
theorem ren_gone {m : Nat → Nat} {o : SO} : o.ren m ≠ .gone ↔ o ≠ .gone := by
  cases o <;> simp [SO.ren]
/-! ### What is forgotten -/
def killsV : List Nat → SV → SV
  | [], x => x
  | i :: l, x => killsV l (x.kill i)
def killsO : List Nat → SO → SO
  | [], x => x
  | i :: l, x => killsO l (x.kill i)
theorem killsV_is {g : World} {r' : Nat → Option Value} : ∀ (ks : List Nat) {r : Nat → Option Value}, (∀ i, i ∉ ks → r' i = r i) → ∀ (x : SV) (u : Value), x.Is g r u → (killsV ks x).Is g r' u
  | [], r, hr, x, u, h => by
    have : r' = r := funext fun i => hr i (by simp)
    subst this
    exact h
  | k :: ks, r, hr, x, u, h => by
    have h1 : (x.kill k).Is g (fun i => if i = k then r' i else r i) u := kill_is (fun i hi => by simp [hi]) x u h
    refine killsV_is ks (fun i hi => ?_) _ u h1
    by_cases e : i = k
    · simp [e]
    · simp only [e, if_false]
      exact hr i (by simp [e, hi])
theorem killsO_is {g : World} {r' : Nat → Option Value} {w : World} {base : Nat} {h : Value} : ∀ (ks : List Nat) {r : Nat → Option Value}, (∀ i, i ∉ ks → r' i = r i) → ∀ {o : SO}, o.Is g r w base h → (killsO ks o).Is g r' w base h
  | [], r, hr, o, ho => by
    have : r' = r := funext fun i => hr i (by simp)
    subst this
    exact ho
  | k :: ks, r, hr, o, ho => by
    have h1 : (o.kill k).Is g (fun i => if i = k then r' i else r i) w base h := kill_obj (fun i hi => by simp [hi]) ho
    refine killsO_is ks (fun i hi => ?_) h1
    by_cases e : i = k
    · simp [e]
    · simp only [e, if_false]
      exact hr i (by simp [e, hi])
theorem killsV_any : ∀ ks, killsV ks .any = .any
  | [] => rfl
  | k :: ks => by simp only [killsV, SV.kill]; exact killsV_any ks
theorem killsO_gone : ∀ (ks : List Nat) {o : SO}, killsO ks o ≠ .gone → o ≠ .gone
  | [], o, h => h
  | k :: ks, o, h => by
    have := killsO_gone ks h
    intro e
    subst e
    exact this rfl
/-- A frame, with what is forgotten. -/
theorem killsF_is {g g' : World} {r r1 r' : Nat → Option Value} {ks : List Nat} (hg : SubW g g') (h1 : ∀ i, i ∉ ks → r1 i = r i) (h2 : SubR r1 r') {x : Fm} {u : Array Value} (h : FmIs g r x u) : FmIs g' r' (x.map (killsV ks)) u :=
  ⟨fun i => by rw [Fm.get_map _ (killsV_any ks)]; exact SV.Is.sub hg h2 _ _ (killsV_is ks h1 _ _ (h.get i)), fun i hi => h.lt i (by simpa only [Fm.has_map] using hi)⟩
/-! ### Where what is handed over stands -/
def lookI : List Nat → Nat → Nat → Option Nat
  | [], _, _ => none
  | a :: l, k, i => match Nat.beq a i with
    | true => some k
    | false => lookI l (k + 1) i
theorem lookI_some : ∀ {l : List Nat} {k i j : Nat}, lookI l k i = some j → k ≤ j ∧ j < k + l.length ∧ l.getD (j - k) 0 = i
  | [], k, i, j, h => by cases h
  | a :: l, k, i, j, h => by
    unfold lookI at h
    cases hb : Nat.beq a i with
    | true =>
      rw [hb] at h
      cases h
      exact ⟨Nat.le_refl _, by simp, by simpa using Nat.eq_of_beq_eq_true hb⟩
    | false =>
      rw [hb] at h
      obtain ⟨h1, h2, h3⟩ := lookI_some h
      refine ⟨by omega, by simp only [List.length_cons]; omega, ?_⟩
      have : j - k = (j - (k + 1)) + 1 := by omega
      rw [this, List.getD_cons_succ]
      exact h3
theorem lookI_mem {l : List Nat} {k i j : Nat} (h : lookI l k i = some j) : i ∈ l := by
  obtain ⟨h1, h2, h3⟩ := lookI_some h
  have h4 : j - k < l.length := by omega
  rw [List.getD_eq_getElem?_getD, List.getElem?_eq_getElem h4] at h3
  simp only [Option.getD_some] at h3
  rw [← h3]
  exact List.getElem_mem h4
theorem getD_appL {l l' : List SO} {i : Nat} (h : i < l.length) : (l ++ l').getD i .gone = l.getD i .gone := by
  simp only [List.getD_eq_getElem?_getD]
  rw [List.getElem?_append, if_pos h]
theorem getD_appR {l l' : List SO} {i : Nat} (h : l.length ≤ i) : (l ++ l').getD i .gone = l'.getD (i - l.length) .gone := by
  simp only [List.getD_eq_getElem?_getD]
  rw [List.getElem?_append, if_neg (by omega)]
theorem lookI_none : ∀ {l : List Nat} {k i : Nat}, lookI l k i = none → i ∉ l
  | [], k, i, _ => by simp
  | a :: l, k, i, h => by
    unfold lookI at h
    cases hb : Nat.beq a i with
    | true => rw [hb] at h; cases h
    | false =>
      rw [hb] at h
      have h1 := Nat.ne_of_beq_eq_false hb
      have h2 := lookI_none h
      simp only [List.mem_cons, not_or]
      exact ⟨fun e => h1 e.symm, h2⟩
def mx (ms : List Nat) (n i : Nat) : Nat := match Nat.ble (i + 1) ms.length with
  | true => ms.getD i 0
  | false => n + (i - ms.length)
theorem mx_lt {ms : List Nat} {n i : Nat} (h : i < ms.length) : mx ms n i = ms.getD i 0 := by
  unfold mx
  rw [Nat.ble_eq_true_of_le (by omega)]
theorem mx_ge {ms : List Nat} {n i : Nat} (h : ms.length ≤ i) : mx ms n i = n + (i - ms.length) := by
  unfold mx
  have : Nat.ble (i + 1) ms.length = false := by
    cases hb : Nat.ble (i + 1) ms.length with
    | false => rfl
    | true => have := Nat.le_of_ble_eq_true hb; omega
  rw [this]
def updObjs (ms : List Nat) (m : Nat → Nat) (ks : List Nat) (os : List SO) : Nat → List SO → List SO
  | _, [] => []
  | i, o :: l => (match lookI ms 0 i with
    | some k => (os.getD k .gone).ren m
    | none => killsO ks o) :: updObjs ms m ks os (i + 1) l
theorem updObjs_len {ms : List Nat} {m : Nat → Nat} {ks : List Nat} {os : List SO} : ∀ (l : List SO) (i : Nat), (updObjs ms m ks os i l).length = l.length
  | [], _ => rfl
  | o :: l, i => by simp only [updObjs, List.length_cons, updObjs_len l]
theorem updObjs_get {ms : List Nat} {m : Nat → Nat} {ks : List Nat} {os : List SO} : ∀ (l : List SO) (i j : Nat), j < l.length → (updObjs ms m ks os i l).getD j .gone = match lookI ms 0 (i + j) with
    | some k => (os.getD k .gone).ren m
    | none => killsO ks (l.getD j .gone)
  | [], i, j, h => by cases h
  | o :: l, i, 0, h => by simp only [updObjs, List.getD_cons_zero, Nat.add_zero]
  | o :: l, i, j + 1, h => by
    simp only [updObjs, List.getD_cons_succ]
    rw [updObjs_get l (i + 1) j (by simpa using h)]
    have : i + 1 + j = i + (j + 1) := by omega
    rw [this]
def AS.upd (s : AS) (ms ks : List Nat) (os : List SO) : AS := ⟨s.slots.map (killsV ks), updObjs ms (mx ms s.objs.length) ks os 0 s.objs ++ (os.drop ms.length).map (SO.ren (mx ms s.objs.length)), s.sav.map (Fm.map (killsV ks))⟩
/-- Witnesses: what is handed over, by its places, but for what may be another behind it. -/
def hdlsK (ks : List Nat) : Nat → Nat → List SV
  | _, 0 => []
  | i, n + 1 => (match lookI ks 0 i with
    | some _ => .any
    | none => .hdl i) :: hdlsK ks (i + 1) n
theorem hdlsK_get {ks : List Nat} : ∀ (n i j : Nat), j < n → lookI ks 0 (i + j) = none → (hdlsK ks i n).getD j .any = .hdl (i + j)
  | 0, i, j, h, _ => by cases h
  | n + 1, i, 0, h, hk => by
    simp only [Nat.add_zero] at hk
    simp only [hdlsK, hk, List.getD_cons_zero, Nat.add_zero]
  | n + 1, i, j + 1, h, hk => by
    simp only [hdlsK, List.getD_cons_succ]
    rw [hdlsK_get n (i + 1) j (by omega) (by rw [← hk]; congr 1; omega)]
    congr 1
    omega
theorem hdlsK_len {ks : List Nat} : ∀ (n i : Nat), (hdlsK ks i n).length = n
  | 0, _ => rfl
  | n + 1, i => by simp only [hdlsK, List.length_cons, hdlsK_len n]
/-! ### No slice, seen as a piece of nothing -/
inductive ZAt where
  | sub (i off j : Nat)
  | imm (i off : Nat) (k : IntKind)
  | resT (off j : Nat)
  | piece (i off : Nat)
def isRowO : SO → Bool
  | .irow _ _ _ => true
  | _ => false
def AS.z1 (A : Sy) (s : AS) : ZAt → AS
  | .sub i off j => match s.ob i with
    | .cells t l => match isNilS (l.getD off .any) with
      | true => match isRowO (s.ob j) with
        | true => s.setObj i (.cells t (l.set off (.sub j 0 0)))
        | false => s
      | false => s
    | _ => s
  | .imm i off k => match s.ob i with
    | .cells t l => match isNilS (l.getD off .any) with
      | true => s.setObj i (.cells t (l.set off (.iimm k [])))
      | false => s
    | _ => s
  | .resT off j => match s.slots.get 0 with
    | .tup l => match isNilS (l.getD off .any) with
      | true => match isRowO (s.ob j) with
        | true => ⟨s.slots.set 0 (.tup (l.set off (.sub j 0 0))), s.objs, s.sav⟩
        | false => s
      | false => s
    | _ => s
  | .piece i off => match s.ob i with
    | .cells t l => match l.getD off .any with
      | .hdl j => match s.ob j with
        | .irow _ _ m => s.setObj i (.cells t (l.set off (.sub j 0 (A.llen m))))
        | _ => s
      | _ => s
    | _ => s
def AS.zs (A : Sy) (s : AS) : List ZAt → AS
  | [] => s
  | z :: l => (s.z1 A z).zs A l
section
variable {w0 : Fr} {r : Nat → Option Value} {s : AS} {a : Act} {w : World}
theorem isNilS_eq {x : SV} (h : isNilS x = true) : x = .v (.slice none 0 0) := by
  unfold isNilS at h
  split at h
  · rfl
  · cases h
theorem list_set_self {α : Type} : ∀ (l : List α) (i : Nat) (x : α), l[i]? = some x → l.set i x = l
  | [], i, x, h => by simp at h
  | y :: l, 0, x, h => by simp at h; simp [h]
  | y :: l, i + 1, x, h => by
    simp only [List.getElem?_cons_succ] at h
    simp only [List.set_cons_succ, list_set_self l i x h]
theorem lsIs_nilAt {g : World} {l : List SV} {us : List Value} {off : Nat} {y : SV} (h : LsIs g r l us) (hn : isNilS (l.getD off .any) = true) (hy : y.Is g r (.slice none 0 0)) : LsIs g r (l.set off y) us := by
  have h1 := isNilS_eq hn
  rw [List.getD_eq_getElem?_getD] at h1
  cases hx : l[off]? with
  | none => rw [hx] at h1; cases h1
  | some x =>
    rw [hx] at h1
    simp only [Option.getD_some] at h1
    subst h1
    obtain ⟨u, h2, h3⟩ := lsIs_get h hx
    simp only [SV.Is] at h3
    obtain ⟨rfl, _⟩ := h3
    have := lsIs_set off h hy
    rwa [list_set_self us off _ h2] at this
theorem Sat.subNil (h : Sat w0 r s a w) {j : Nat} (hj : isRowO (s.ob j) = true) : (SV.sub j 0 0).Is w0.g r (.slice none 0 0) := by
  unfold isRowO at hj
  split at hj
  · rename_i E k l hob
    obtain ⟨q, h1, h2⟩ := h.objs j (by rw [hob]; simp)
    rw [hob] at h2
    obtain ⟨hown, _⟩ := h2
    simp only [SV.Is]
    rcases hown.2 with ⟨e1, _⟩ | ⟨g, cap, cur, e1, _⟩
    · exact ⟨_, _, _, by rw [h1, e1], Int.le_refl _, Int.le_refl _, by omega, none, 0, rfl, Nat.le_refl _, Nat.zero_le _, .inl trivial⟩
    · exact ⟨_, _, _, by rw [h1, e1], Int.le_refl _, Int.le_refl _, by omega, none, 0, rfl, Nat.le_refl _, Nat.zero_le _, .inl trivial⟩
  · cases hj
theorem lsIs_cellAt {g : World} {l : List SV} {us : List Value} {off : Nat} {x y : SV} (h : LsIs g r l us) (hn : l[off]? = some x) (hy : ∀ u, x.Is g r u → y.Is g r u) : LsIs g r (l.set off y) us := by
  obtain ⟨u, h2, h3⟩ := lsIs_get h hn
  have := lsIs_set off h (hy u h3)
  rwa [list_set_self us off _ h2] at this
theorem Sat.cellZ (h : Sat w0 r s a w) {i off : Nat} {t : TypeId} {l : List SV} {x y : SV} (hob : s.ob i = .cells t l) (hn : l[off]? = some x) (hy : ∀ u, x.Is w0.g r u → y.Is w0.g r u) : Sat w0 r (s.setObj i (.cells t (l.set off y))) a w := by
  have hi : i < s.objs.length := ob_lt i (by rw [hob]; simp)
  have hobk : ∀ k, (s.setObj i (.cells t (l.set off y))).ob k = if k = i then .cells t (l.set off y) else s.ob k := by
    intro k
    unfold AS.ob AS.setObj
    simp only [List.getD_eq_getElem?_getD, List.getElem?_set]
    by_cases e : i = k
    · subst e; rw [if_pos rfl, if_pos hi, if_pos rfl]; rfl
    · rw [if_neg e, if_neg (fun e' => e e'.symm)]
  have hne : ∀ k, (s.setObj i (.cells t (l.set off y))).ob k ≠ .gone → s.ob k ≠ .gone := by
    intro k hk
    rw [hobk] at hk
    by_cases e : k = i
    · rw [e, hob]; simp
    · rw [if_neg e] at hk; exact hk
  refine ⟨h.slots, h.defs, h.below, h.gw, fun id hid => h.rn id (by simpa [AS.setObj] using hid), h.r1, fun k hk => ?_, fun k q b hk => h.mine k q b (hne k hk), fun i' j' qi qj b hij hgi hgj => h.apart i' j' qi qj b hij (hne i' hgi) (hne j' hgj), h.sav⟩
  obtain ⟨q, h1, h2⟩ := h.objs k (hne k hk)
  refine ⟨q, h1, ?_⟩
  rw [hobk]
  by_cases e : k = i
  · subst e
    rw [if_pos rfl]
    rw [hob] at h2
    obtain ⟨b, cs, h3, h4, h5, h6⟩ := h2
    exact ⟨b, cs, h3, h4, h5, lsIs_cellAt h6 hn hy⟩
  · rw [if_neg e]; exact h2
theorem Sat.pieceOf (h : Sat w0 r s a w) {j : Nat} {E : TypeId} {k : IntKind} {m : List Int} (hob : s.ob j = .irow E k m) : ∀ u, (SV.hdl j).Is w0.g r u → (SV.sub j 0 (std.llen m)).Is w0.g r u := by
  intro u hu
  simp only [SV.Is] at hu ⊢
  obtain ⟨q, h1, h2⟩ := h.objs j (by rw [hob]; simp)
  rw [hob] at h2
  rw [hu] at h1
  cases h1
  obtain ⟨ao, cap, e1, h3, h4, _⟩ := holds_ownM h2.1
  rw [kv_len] at e1 h3
  have hl : std.llen m = (m.length : Int) := rfl
  subst e1
  refine ⟨ao, m.length, cap, hu, Int.le_refl _, by rw [hl]; omega, by rw [hl]; omega, ao, cap, by rw [hl]; rfl, by rw [hl]; exact h3, h4, ?_⟩
  rcases h2.1.2 with ⟨e1, e2⟩ | ⟨g, cap', cur, e1, _⟩
  · left
    rw [hl]
    exact congrArg (fun n : Nat => (n : Int)) e2
  · right
    injection e1 with e1 _ _
    exact ⟨g, e1, e1⟩
theorem Sat.nilCellZ (h : Sat w0 r s a w) {i off : Nat} {t : TypeId} {l : List SV} {y : SV} (hob : s.ob i = .cells t l) (hn : isNilS (l.getD off .any) = true) (hy : y.Is w0.g r (.slice none 0 0)) : Sat w0 r (s.setObj i (.cells t (l.set off y))) a w := by
  have hi : i < s.objs.length := ob_lt i (by rw [hob]; simp)
  have hobk : ∀ k, (s.setObj i (.cells t (l.set off y))).ob k = if k = i then .cells t (l.set off y) else s.ob k := by
    intro k
    unfold AS.ob AS.setObj
    simp only [List.getD_eq_getElem?_getD, List.getElem?_set]
    by_cases e : i = k
    · subst e; rw [if_pos rfl, if_pos hi, if_pos rfl]; rfl
    · rw [if_neg e, if_neg (fun e' => e e'.symm)]
  have hne : ∀ k, (s.setObj i (.cells t (l.set off y))).ob k ≠ .gone → s.ob k ≠ .gone := by
    intro k hk
    rw [hobk] at hk
    by_cases e : k = i
    · rw [e, hob]; simp
    · rw [if_neg e] at hk; exact hk
  refine ⟨h.slots, h.defs, h.below, h.gw, fun id hid => h.rn id (by simpa [AS.setObj] using hid), h.r1, fun k hk => ?_, fun k q b hk => h.mine k q b (hne k hk), fun i' j' qi qj b hij hgi hgj => h.apart i' j' qi qj b hij (hne i' hgi) (hne j' hgj), h.sav⟩
  obtain ⟨q, h1, h2⟩ := h.objs k (hne k hk)
  refine ⟨q, h1, ?_⟩
  rw [hobk]
  by_cases e : k = i
  · subst e
    rw [if_pos rfl]
    rw [hob] at h2
    obtain ⟨b, cs, h3, h4, h5, h6⟩ := h2
    exact ⟨b, cs, h3, h4, h5, lsIs_nilAt h6 hn hy⟩
  · rw [if_neg e]; exact h2
theorem Sat.z1 (h : Sat w0 r s a w) : ∀ z : ZAt, Sat w0 r (s.z1 std z) a w
  | .piece i off => by
    simp only [AS.z1]
    split
    · rename_i t l hob
      split
      · rename_i j hj
        split
        · rename_i E k m hr
          refine h.cellZ hob (x := .hdl j) ?_ (h.pieceOf hr)
          rw [List.getD_eq_getElem?_getD] at hj
          cases hx : l[off]? with
          | none => rw [hx] at hj; cases hj
          | some x => rw [hx] at hj; exact congrArg some hj
        · exact h
      · exact h
    · exact h
  | .sub i off j => by
    simp only [AS.z1]
    split
    · rename_i t l hob
      split
      · rename_i hn
        split
        · rename_i hj
          exact h.nilCellZ hob hn (h.subNil hj)
        · exact h
      · exact h
    · exact h
  | .imm i off k => by
    simp only [AS.z1]
    split
    · rename_i t l hob
      split
      · rename_i hn
        refine h.nilCellZ hob hn ?_
        simp only [SV.Is]
        exact ⟨holds_nil _, (fun x hx => by cases hx), by simp⟩
      · exact h
    · exact h
  | .resT off j => by
    simp only [AS.z1]
    split
    · rename_i l hsl
      split
      · rename_i hn
        split
        · rename_i hj
          have hne : s.slots.get 0 ≠ .any := by rw [hsl]; simp
          have h1 := h.slots.at hne
          have h2 := h.slots.get 0
          rw [hsl] at h2
          simp only [SV.Is] at h2
          obtain ⟨cs, h3, h4⟩ := h2
          have h5 : (SV.tup (l.set off (.sub j 0 0))).Is w0.g r (a.tmps.getD 0 undef) := by
            simp only [SV.Is]
            exact ⟨cs, h3, lsIs_nilAt h4 hn (h.subNil hj)⟩
          refine ⟨fm_refine h.slots (u := a.tmps.getD 0 undef) ?_ h5, h.defs, h.below, h.gw, h.rn, h.r1, h.objs, h.mine, h.apart, h.sav⟩
          rw [Array.getD_eq_getD_getElem?, Array.getElem?_eq_getElem h1]
          rfl
        · exact h
      · exact h
    · exact h
theorem Sat.zs : ∀ (zs : List ZAt) {s : AS}, Sat w0 r s a w → Sat w0 r (s.zs std zs) a w
  | [], s, h => h
  | z :: l, s, h => Sat.zs l (h.z1 z)
end
/-- A run of such a function, where what is handed over stands first. -/
def vcM (C : Cx) (fn : Func) (args : List SV) (os0 : List SO) (ks : List Nat) (ns : List NilAt) (zs : List ZAt) (x : SV) (os : List SO) : Prop := match fn.body with
  | some c => vc C c (fun e t => match e with
      | .normal | .ret => match resOf C t fn.results.toList with
        | some l => AS.le ((AS.nil C.A ⟨.n (resSV l) .e .e, t.objs, t.sav⟩ ns).zs C.A zs) ⟨.n x .e .e, os, [(Fm.rep deep os0.length).sets 0 (hdlsK ks 0 os0.length)]⟩
        | none => False
      | _ => False) ⟨(Fm.rep deep fn.ntmps).sets 0 args, os0, [(Fm.rep deep os0.length).sets 0 (hdlsK ks 0 os0.length)]⟩
  | none => False
/-- A call of such a function. -/
def mrun {X : Type} (mt : List SV → (Nat → SO) → Option (X × List Nat)) (pre : X → Prop) (x : X → SV) (os : X → List SO) (ks : X → List Nat) (args : List SV) (s : AS) (K : SV → AS → Prop) : Prop := match mt args s.ob with
  | some (p, ms) => pre p ∧ K ((x p).ren (mx ms s.objs.length)) (s.upd ms ((ks p).map fun k => ms.getD k 0) (os p))
  | none => False
/-- How an argument list and memory are seen. -/
structure MtOk {X : Type} (mt : List SV → (Nat → SO) → Option (X × List Nat)) (args0 : X → List SV) (os0 : X → List SO) (args : List SV) (ob : Nat → SO) (p : X) (ms : List Nat) : Prop where
  args : ∀ n, args = rens (mx ms n) (args0 p)
  len : ms.length = (os0 p).length
  ob : ∀ n k, k < ms.length → ob (ms.getD k 0) = ((os0 p).getD k .gone).ren (mx ms n)
  no : ∀ k, k < ms.length → (os0 p).getD k .gone ≠ .gone
  one : ∀ k, k < ms.length → lookI ms 0 (ms.getD k 0) = some k
theorem lsIs_hdls {ks : List Nat} {g : World} {r : Nat → Option Value} {v : Nat → Value} : ∀ (n i : Nat), (∀ k, i ≤ k → k < i + n → r k = some (v k)) → LsIs g r (hdlsK ks i n) ((List.range' i n).map v)
  | 0, i, _ => by simp only [hdlsK, List.range'_zero, List.map_nil, LsIs]
  | n + 1, i, h => by
    simp only [hdlsK, List.range'_succ, List.map_cons, LsIs]
    refine ⟨_, _, rfl, ?_, lsIs_hdls n (i + 1) fun k h1 h2 => h k (by omega) (by omega)⟩
    split
    · simp only [SV.Is]
    · simp only [SV.Is]
      exact h i (Nat.le_refl _) (by omega)
theorem rep_has : ∀ (d : List Unit) (n i : Nat), i < n → n < 2 ^ d.length → (Fm.rep d n).has i = true
  | [], n, i, h1, h2 => by simp at h2; omega
  | u :: d, n, i, h1, h2 => by
    unfold Fm.rep
    cases hb : Nat.beq n 0 with
    | true => have := Nat.eq_of_beq_eq_true hb; omega
    | false =>
      simp only [List.length_cons, Nat.pow_succ] at h2
      unfold Fm.has
      cases hi : Nat.beq i 0 with
      | true => rfl
      | false =>
        have := Nat.ne_of_beq_eq_false hi
        cases hm : Nat.beq (i % 2) 1 with
        | true =>
          have := Nat.eq_of_beq_eq_true hm
          simp only [cond_false, cond_true]
          exact rep_has d (n / 2) (i / 2) (by omega) (by omega)
        | false =>
          have := Nat.ne_of_beq_eq_false hm
          simp only [cond_false]
          exact rep_has d ((n - 1) / 2) (i / 2 - 1) (by omega) (by omega)

/-- A FUNCTION THAT CHANGES WHAT IS HANDED TO IT DOES AS IT IS SAID, WHEREVER THAT STANDS. -/
theorem mrun_ok {P : Program} {C : Cx} {f : FuncId} {fn : Func} {c0 : Code} (hf : P.funcs[f]? = some fn) (hb : fn.body = some c0) (hn : FnOk P f) (ht : ttOk P C.tt) (hA : C.A = std) (hG : GOk P C.G) (hI : IOk P C.fz C.I) (hm : P.follows .mixedOrders = true) (hd : Code.drawsOk C.I c0 = true)
    {X : Type} {mt : List SV → (Nat → SO) → Option (X × List Nat)} {pre : X → Prop} {x : X → SV} {os : X → List SO} {ks : X → List Nat} (args0 : X → List SV) (os0 : X → List SO) (ns : List NilAt) (zs : List ZAt) (hz : okRow C.fz ns) (hK : ∀ p, (os0 p).length < 4096)
    (hmt : ∀ args ob p ms, mt args ob = some (p, ms) → MtOk mt args0 os0 args ob p ms)
    (hv : ∀ p, pre p → (∃ g r w us, LsIs g r (args0 p) us ∧ ∀ k, k < (os0 p).length → ∃ q, r k = some q ∧ ((os0 p).getD k .gone).Is g r w 0 q) → vcM C fn (args0 p) (os0 p) (ks p) ns zs (x p) (os p)) : RunOk P C.fz f (mrun mt pre x os ks) := by
  refine ⟨hn, fun w0 r s a w args us K Q h hargs hrun hQ => ?_⟩
  unfold mrun at hrun
  cases he : mt args s.ob with
  | none => rw [he] at hrun; exact hrun.elim
  | some q =>
    obtain ⟨p, ms⟩ := q
    rw [he] at hrun
    obtain ⟨hp, hk⟩ := hrun
    have hM := hmt args s.ob p ms he
    obtain ⟨n, hn0⟩ : ∃ n, n = s.objs.length := ⟨_, rfl⟩
    rw [← hn0] at hk
    obtain ⟨m, hm0⟩ : ∃ m, m = mx ms n := ⟨_, rfl⟩
    rw [← hm0] at hk
    have hargs0 : LsIs w0.g (fun i => r (m i)) (args0 p) us := by
      have h1 := hM.args n
      rw [h1, ← hm0] at hargs
      exact (rens_is _ _).1 hargs
    -- places
    have mlt : ∀ k, k < ms.length → m k = ms.getD k 0 := fun k hk => by rw [hm0]; exact mx_lt hk
    have mge : ∀ k, ms.length ≤ k → m k = n + (k - ms.length) := fun k hk => by rw [hm0]; exact mx_ge hk
    have hob : ∀ k, k < ms.length → s.ob (m k) = ((os0 p).getD k .gone).ren m := fun k hk => by rw [mlt k hk, hm0]; exact hM.ob n k hk
    have hgo : ∀ k, k < ms.length → s.ob (m k) ≠ .gone := fun k hk => by rw [hob k hk]; exact ren_gone.2 (hM.no k hk)
    have hmn : ∀ k, k < ms.length → m k < n := fun k hk => by rw [hn0]; exact ob_lt _ (hgo k hk)
    have hone : ∀ k, k < ms.length → lookI ms 0 (m k) = some k := fun k hk => by rw [mlt k hk]; exact hM.one k hk
    have hinj : ∀ i j, m i = m j → i = j := by
      intro i j hij
      by_cases h1 : i < ms.length
      · by_cases h2 : j < ms.length
        · have := hone i h1
          rw [hij, hone j h2] at this
          exact (Option.some.inj this).symm
        · have := hmn i h1
          rw [hij, mge j (by omega)] at this
          omega
      · by_cases h2 : j < ms.length
        · have := hmn j h2
          rw [← hij, mge i (by omega)] at this
          omega
        · rw [mge i (by omega), mge j (by omega)] at hij
          omega
    -- what is handed over, as it is
    have hval : ∀ k, k < ms.length → ∃ q, r (m k) = some q ∧ ((os0 p).getD k .gone).Is w0.g (fun i => r (m i)) w 0 q := by
      intro k hk
      obtain ⟨q, h1, h2⟩ := h.objs (m k) (hgo k hk)
      rw [hob k hk] at h2
      exact ⟨q, h1, so_ren.1 h2⟩
    have hvc := hv p hp ⟨w0.g, fun i => r (m i), w, us, hargs0, fun k hk => hval k (by rw [hM.len]; exact hk)⟩
    obtain ⟨v, hvv⟩ : ∃ v : Nat → Value, ∀ k, k < ms.length → r (m k) = some (v k) := by
      refine ⟨fun k => (r (m k)).getD undef, fun k hk => ?_⟩
      obtain ⟨q, h1, _⟩ := hval k hk
      show r (m k) = some ((r (m k)).getD undef)
      rw [h1]
      rfl
    obtain ⟨F, hF⟩ : ∃ F : Nat → Prop, ∀ b, F b ↔ ∃ k, k < ms.length ∧ blk (v k) = some b := ⟨_, fun _ => Iff.rfl⟩
    have hFm : ∀ b, F b → w0.mine b ∧ (∀ o, w0.g.cell? ⟨b, o, none⟩ = none) ∧ b < w.heap.size := by
      intro b hb
      obtain ⟨k, h1, h2⟩ := (hF b).1 hb
      obtain ⟨h3, h4⟩ := h.mine (m k) (v k) b (hgo k h1) (hvv k h1) h2
      obtain ⟨q, h5, h6⟩ := h.objs (m k) (hgo k h1)
      rw [hvv k h1] at h5
      cases h5
      exact ⟨h3, h4, (h6.lt (hgo k h1) b h2).2⟩
    obtain ⟨vs, hvs⟩ : ∃ vs : List Value, vs = (List.range' 0 ms.length).map v := ⟨_, rfl⟩
    have hvsl : vs.length = ms.length := by rw [hvs]; simp
    have hvsg : ∀ k, k < ms.length → vs[k]? = some (v k) := by
      intro k hk
      rw [hvs]
      simp [hk]
    have hW : LsIs w0.g (fun i => r (m i)) (hdlsK (ks p) 0 ms.length) vs := by
      rw [hvs]
      exact lsIs_hdls _ 0 fun k _ h2 => hvv k (by omega)
    have hWF := fm_init hW ms.length
    have hsv : vs.toArray ++ Array.replicate (ms.length - vs.toArray.size) undef = vs.toArray := by
      have : ms.length - vs.toArray.size = 0 := by simp [hvsl]
      rw [this]
      simp
    rw [hsv] at hWF
    unfold vcM at hvc
    rw [hb] at hvc
    simp only at hvc
    refine calls_of_wp hf hb ?_
    have hS : Sat ⟨w, F, w0.g, [vs.toArray]⟩ (fun i => r (m i)) ⟨(Fm.rep deep fn.ntmps).sets 0 (args0 p), os0 p, [(Fm.rep deep (os0 p).length).sets 0 (hdlsK (ks p) 0 (os0 p).length)]⟩ { tmps := us.toArray ++ Array.replicate (fn.ntmps - us.toArray.size) undef, defers := [] } w := by
      refine ⟨fm_init hargs0 _, rfl, Keeps.refl _, h.gw, ?_, fun i hh hi => h.r1 _ _ hi, ?_, ?_, ?_, ?_⟩
      · intro id hi
        have hi : ms.length ≤ id := by rw [hM.len]; exact hi
        show r (m id) = none
        rw [mge id hi]
        exact h.rn _ (by rw [hn0]; omega)
      · intro id hi
        have hlt : id < ms.length := by rw [hM.len]; exact ob_lt _ hi
        exact hval id hlt
      · intro id q b hi hq hbq
        have hlt : id < ms.length := by rw [hM.len]; exact ob_lt _ hi
        have hq : r (m id) = some q := hq
        rw [hvv id hlt] at hq
        cases hq
        have := hFm b ((hF b).2 ⟨id, hlt, hbq⟩)
        exact ⟨.inr ((hF b).2 ⟨id, hlt, hbq⟩), this.2.1⟩
      · intro i j qi qj b hij hgi hgj hri hrj hbi
        have hlti : i < ms.length := by rw [hM.len]; exact ob_lt _ hgi
        have hltj : j < ms.length := by rw [hM.len]; exact ob_lt _ hgj
        exact h.apart (m i) (m j) qi qj b (fun e => hij (hinj i j e)) (hgo i hlti) (hgo j hltj) hri hrj hbi
      · rw [← hM.len]
        exact ⟨hWF, trivial⟩
    refine vc_wp ht hA hG hI hm c0 hd _ _ _ _ _ _ _ hS hvc ?_
    intro e wf rf tf af w' hl h' hk1
    have fin : (match resOf C tf fn.results.toList with
        | some l => AS.le ((AS.nil C.A ⟨.n (resSV l) .e .e, tf.objs, tf.sav⟩ ns).zs C.A zs) ⟨.n (x p) .e .e, os p, [(Fm.rep deep (os0 p).length).sets 0 (hdlsK (ks p) 0 (os0 p).length)]⟩
        | none => False) → bodyPost P fn Q .normal af w' := by
      intro hk1
      cases hr : resOf C tf fn.results.toList with
      | none => rw [hr] at hk1; exact hk1.elim
      | some l =>
        rw [hr] at hk1
        simp only at hk1
        obtain ⟨u, h5, h6⟩ := run_results h' ht hA hr
        refine ⟨h'.defs, u, h5, ?_⟩
        have h7 : Sat wf rf ⟨.n (resSV l) .e .e, tf.objs, tf.sav⟩ { tmps := #[u], defers := [] } w' := by
          refine ⟨⟨fun i => ?_, fun i hi => ?_⟩, rfl, h'.below, h'.gw, h'.rn, h'.r1, h'.objs, h'.mine, h'.apart, h'.sav⟩
          · cases i with
            | zero => exact h6
            | succ i =>
              have : (Fm.n (resSV l) .e .e).get (i + 1) = .any := by
                unfold Fm.get
                simp only [Nat.beq]
                split <;> rfl
              rw [this]
              simp only [SV.Is]
          · cases i with
            | zero => simp
            | succ i =>
              unfold Fm.has at hi
              simp only [Nat.beq, cond_false] at hi
              cases hb2 : Nat.beq ((i + 1) % 2) 1 <;> rw [hb2] at hi <;> simp [Fm.has] at hi
        obtain ⟨wg, rg, hl2, h7b⟩ := h7.nilF ht hA hz
        rw [hA] at hk1
        have h8 := (h7b.zs zs).le hk1
        have hl : Fr.le C.fz _ wg := hl.trans hl2
        obtain ⟨r1, hr1⟩ : ∃ r1, r1 = restR (os p).length rg := ⟨_, rfl⟩
        rw [← hr1] at h8
        have hx : (x p).Is wg.g r1 u := h8.slots.get 0
        have hob1 : ∀ k, (AS.mk (.n (x p) .e .e) (os p) [(Fm.rep deep (os0 p).length).sets 0 (hdlsK (ks p) 0 (os0 p).length)]).ob k = (os p).getD k .gone := fun k => rfl
        -- what is as it was
        have hwit : ∀ k, k < ms.length → lookI (ks p) 0 k = none → r1 k = some (v k) := by
          intro k hk hkn
          have h9 := h8.sav
          have h10 : wg.sv = [vs.toArray] := hl.sv
          rw [h10] at h9
          have h11 := h9.1.get k
          have h12 : ((Fm.rep deep (os0 p).length).sets 0 (hdlsK (ks p) 0 (os0 p).length)).get k = .hdl k := by
            rw [Fm.sets_get _ _ _ _ (rep_has _ _ _ (by rw [← hM.len]; exact hk) (hK p))]
            have := hdlsK_get (ks := ks p) (os0 p).length 0 k (by rw [← hM.len]; exact hk) (by rw [Nat.zero_add]; exact hkn)
            rw [Nat.zero_add] at this
            rw [Nat.sub_zero, List.getD_eq_getElem?_getD]
            rw [List.getD_eq_getElem?_getD] at this
            have hlen : k < (hdlsK (ks p) 0 (os0 p).length).length := by rw [hdlsK_len, ← hM.len]; exact hk
            rw [List.getElem?_eq_getElem hlen] at this ⊢
            simpa [hlen] using this
          rw [h12] at h11
          simp only [SV.Is] at h11
          rw [h11, Array.getD_eq_getD_getElem?]
          have := hvsg k hk
          simp [this]
        -- the names behind it
        obtain ⟨kc, hkc⟩ : ∃ kc, kc = (ks p).map fun k => ms.getD k 0 := ⟨_, rfl⟩
        rw [← hkc] at hk
        obtain ⟨r', hr'⟩ : ∃ r' : Nat → Option Value, ∀ i, r' i = if n ≤ i then r1 (ms.length + (i - n)) else match lookI ms 0 i with
          | some k => r1 k
          | none => r i := ⟨_, fun _ => rfl⟩
        have hrm : ∀ k, r' (m k) = r1 k := by
          intro k
          rw [hr']
          by_cases h1 : k < ms.length
          · have := hmn k h1
            rw [if_neg (by omega), hone k h1]
          · rw [mge k (by omega), if_pos (by omega)]
            congr 1
            omega
        have hrf : (fun i => r' (m i)) = r1 := funext hrm
        have hout : ∀ i, (∃ k, i = m k ∧ (k < ms.length ∨ n ≤ i)) ∨ (i < n ∧ lookI ms 0 i = none) := by
          intro i
          by_cases h1 : n ≤ i
          · exact .inl ⟨ms.length + (i - n), by rw [mge _ (by omega)]; omega, .inr h1⟩
          · cases h2 : lookI ms 0 i with
            | none => exact .inr ⟨by omega, rfl⟩
            | some k =>
              obtain ⟨_, h3, h4⟩ := lookI_some h2
              rw [Nat.sub_zero] at h4
              exact .inl ⟨k, by rw [mlt k (by omega), h4], .inl (by omega)⟩
        have hul : (updObjs ms m kc (os p) 0 s.objs).length = n := by rw [updObjs_len, hn0]
        have hue : (s.upd ms kc (os p)).objs = updObjs ms m kc (os p) 0 s.objs ++ ((os p).drop ms.length).map (SO.ren m) := by
          rw [hm0, hn0]
          rfl
        have hobA : ∀ k, (s.upd ms kc (os p)).ob (m k) = ((os p).getD k .gone).ren m := by
          intro k
          unfold AS.ob
          rw [hue]
          by_cases h1 : k < ms.length
          · rw [getD_appL (by rw [hul]; exact hmn k h1), updObjs_get _ 0 (m k) (by rw [← hn0]; exact hmn k h1), Nat.zero_add, hone k h1]
          · rw [getD_appR (by rw [hul, mge k (by omega)]; omega), hul, mge k (by omega)]
            simp only [List.getD_eq_getElem?_getD, List.getElem?_map, List.getElem?_drop]
            have : ms.length + (n + (k - ms.length) - n) = k := by omega
            rw [this]
            cases (os p)[k]? <;> rfl
        have hobB : ∀ i, i < n → lookI ms 0 i = none → (s.upd ms kc (os p)).ob i = killsO kc (s.ob i) := by
          intro i h1 h2
          unfold AS.ob
          rw [hue, getD_appL (by rw [hul]; exact h1), updObjs_get _ 0 i (by rw [← hn0]; exact h1), Nat.zero_add, h2]
        have hmine : ∀ b, wg.mine b ↔ w.heap.size ≤ b ∨ F b := by
          intro b
          unfold Fr.mine
          rw [hl.w, hl.F]
        have hmw : ∀ b, wg.mine b → w0.mine b := by
          intro b hb
          rcases (hmine b).1 hb with h1 | h1
          · exact .inl (by have := h.below.size; omega)
          · exact (hFm b h1).1
        have hsubr : ∀ i, i ∉ kc → ∀ q, r i = some q → r' i = some q := by
          intro i hi q hq
          rcases hout i with ⟨k, rfl, h1 | h1⟩ | ⟨h1, h2⟩
          · rw [hrm]
            rw [hvv k h1] at hq
            cases hq
            refine hwit k h1 ?_
            cases h2 : lookI (ks p) 0 k with
            | none => rfl
            | some j =>
              exfalso
              apply hi
              rw [hkc, mlt k h1]
              exact List.mem_map.2 ⟨k, lookI_mem h2, rfl⟩
          · rw [h.rn _ (by rw [← hn0]; exact h1)] at hq
            cases hq
          · rw [hr', if_neg (by omega), h2]
            exact hq
        obtain ⟨rm, hrmid⟩ : ∃ rm : Nat → Option Value, ∀ i, rm i = if i ∈ kc then r' i else r i := ⟨_, fun _ => rfl⟩
        have hk2 : ∀ i, i ∉ kc → rm i = r i := fun i hi => by rw [hrmid, if_neg hi]
        have hk3 : SubR rm r' := by
          intro i q hq
          rw [hrmid] at hq
          by_cases hi : i ∈ kc
          · rw [if_pos hi] at hq; exact hq
          · rw [if_neg hi] at hq; exact hsubr i hi q hq
        have hoth : ∀ i, i < n → lookI ms 0 i = none → s.ob i ≠ .gone → ∀ q b, r i = some q → blk q = some b → b < w.heap.size ∧ ¬ F b := by
          intro i h1 h2 h3 q b h4 h5
          obtain ⟨q', h6, h9⟩ := h.objs i h3
          rw [h4] at h6
          cases h6
          refine ⟨(h9.lt h3 b h5).2, fun hb => ?_⟩
          obtain ⟨k, h10, h11⟩ := (hF b).1 hb
          have hne : m k ≠ i := by
            intro e
            rw [← e, hone k h10] at h2
            cases h2
          exact h.apart (m k) i (v k) q b hne (hgo k h10) h3 (hvv k h10) h4 h11 h5
        have hle : Fr.le C.fz w0 ⟨w0.w0, w0.F, wg.g, w0.sv⟩ := by
          refine ⟨rfl, rfl, rfl, hl.sub, fun b o q hq => ?_, hl.no⟩
          rcases hl.new b o q hq with h1 | h1
          · exact .inl h1
          · refine .inr ?_
            rcases h1 with h1 | h1
            · exact .inl (by have h1 : w.heap.size ≤ b := h1; have := h.below.size; omega)
            · exact (hFm b h1).1
        have hgn : ∀ i, i < n → lookI ms 0 i = none → s.ob i ≠ .gone → ∀ q b, r i = some q → blk q = some b → ∀ o, wg.g.cell? ⟨b, o, none⟩ = none := by
          intro i h1 h2 h3 q b h4 h5 o
          cases hc : wg.g.cell? ⟨b, o, none⟩ with
          | none => rfl
          | some u' =>
            exfalso
            have h9 := hoth i h1 h2 h3 q b h4 h5
            rcases hl.new b o u' hc with h10 | h10
            · have := (h.mine i q b h3 h4 h5).2 o
              rw [this] at h10
              cases h10
            · rcases h10 with h10 | h10
              · have h10 : w.heap.size ≤ b := h10
                omega
              · exact h9.2 h10
        have hkeep : ∀ b, b < w.heap.size → ¬ F b → w'.heap[b]? = w.heap[b]? := by
          intro b h1 h2
          have := h8.below.block b (by rw [hl.w]; exact h1) (by rw [hl.F]; exact h2)
          rw [hl.w] at this
          exact this
        have hS' : Sat ⟨w0.w0, w0.F, wg.g, w0.sv⟩ r' (s.upd ms kc (os p)) a w' := by
          refine ⟨killsF_is hl.sub hk2 hk3 h.slots, h.defs, ?_, h8.gw, ?_, ?_, ?_, ?_, ?_, ?_⟩
          · have hbl := h8.below
            refine ⟨?_, ?_, ?_, ?_, ?_⟩
            · rw [hbl.os, hl.w]; exact h.below.os
            · rw [hbl.tape, hl.w]; exact h.below.tape
            · rw [hbl.output, hl.w]; exact h.below.output
            · have := hbl.size
              rw [hl.w] at this
              exact Nat.le_trans h.below.size this
            · intro k h1 h2
              have h3 : k < w.heap.size := Nat.lt_of_lt_of_le h1 h.below.size
              rw [hkeep k h3 fun hb => ?_]
              · exact h.below.block k h1 h2
              · rcases (hFm k hb).1 with h4 | h4
                · have h1 : k < w0.w0.heap.size := h1
                  omega
                · exact h2 h4
          · intro id hi
            rw [hue, List.length_append, hul, List.length_map, List.length_drop] at hi
            rw [hr', if_pos (by omega)]
            exact h8.rn _ (show (os p).length ≤ _ by omega)
          · intro i q hq
            rw [hr'] at hq
            split at hq
            · exact h8.r1 _ _ hq
            · split at hq
              · exact h8.r1 _ _ hq
              · exact h.r1 _ _ hq
          · intro i hi
            rcases hout i with ⟨k, rfl, _⟩ | ⟨h1, h2⟩
            · rw [hobA] at hi ⊢
              obtain ⟨q, h3, h4⟩ := h8.objs k (ren_gone.1 hi)
              refine ⟨q, by rw [hrm]; exact h3, so_ren.2 ?_⟩
              rw [hrf]
              exact h4
            · rw [hobB i h1 h2] at hi ⊢
              have h3 := killsO_gone kc hi
              obtain ⟨q, h4, h9⟩ := h.objs i h3
              refine ⟨q, by rw [hr', if_neg (by omega), h2]; exact h4, ?_⟩
              have h10 : (s.ob i).Is w0.g r w' 0 q := so_same (fun b hb => by
                have := hoth i h1 h2 h3 q b h4 hb
                exact hkeep b this.1 this.2) h9
              exact SO.Is.sub hl.sub hk3 (killsO_is kc hk2 h10) (Below.refl _ _)
          · intro i q b hi hq hb
            rcases hout i with ⟨k, rfl, _⟩ | ⟨h1, h2⟩
            · rw [hobA] at hi
              rw [hrm] at hq
              obtain ⟨h3, h4⟩ := h8.mine k q b (ren_gone.1 hi) hq hb
              exact ⟨hmw b h3, h4⟩
            · rw [hobB i h1 h2] at hi
              rw [hr', if_neg (by omega), h2] at hq
              exact ⟨(h.mine i q b (killsO_gone kc hi) hq hb).1, hgn i h1 h2 (killsO_gone kc hi) q b hq hb⟩
          · intro i j qi qj b hij hgi hgj hri hrj hbi hbj
            rcases hout i with ⟨k, rfl, _⟩ | ⟨h1, h2⟩
            · rw [hobA] at hgi
              rw [hrm] at hri
              have hA1 := (hmine b).1 (h8.mine k qi b (ren_gone.1 hgi) hri hbi).1
              rcases hout j with ⟨l', rfl, _⟩ | ⟨h3, h4⟩
              · rw [hobA] at hgj
                rw [hrm] at hrj
                exact h8.apart k l' qi qj b (fun e => hij (by rw [e])) (ren_gone.1 hgi) (ren_gone.1 hgj) hri hrj hbi hbj
              · rw [hobB j h3 h4] at hgj
                rw [hr', if_neg (by omega), h4] at hrj
                have h9 := hoth j h3 h4 (killsO_gone kc hgj) qj b hrj hbj
                rcases hA1 with h10 | h10
                · omega
                · exact h9.2 h10
            · rw [hobB i h1 h2] at hgi
              rw [hr', if_neg (by omega), h2] at hri
              have h9 := hoth i h1 h2 (killsO_gone kc hgi) qi b hri hbi
              rcases hout j with ⟨l', rfl, _⟩ | ⟨h3, h4⟩
              · rw [hobA] at hgj
                rw [hrm] at hrj
                have hA1 := (hmine b).1 (h8.mine l' qj b (ren_gone.1 hgj) hrj hbj).1
                rcases hA1 with h10 | h10
                · omega
                · exact h9.2 h10
              · rw [hobB j h3 h4] at hgj
                rw [hr', if_neg (by omega), h4] at hrj
                exact h.apart i j qi qj b hij (killsO_gone kc hgi) (killsO_gone kc hgj) hri hrj hbi hbj
          · exact h.sav.imp fun y z hy => killsF_is hl.sub hk2 hk3 hy
        refine hQ _ _ _ _ _ _ hle hS' ?_ hk
        show ((x p).ren m).Is wg.g r' u
        rw [ren_is, hrf]
        exact hx
    cases e with
    | normal => exact fin hk1
    | ret => exact fin hk1
    | _ => exact hk1.elim

/-! ### Such functions, where they are called -/
theorem RunOk.up {P : Program} {z : Bool} {f : FuncId} {run : List SV → AS → (SV → AS → Prop) → Prop} (h : RunOk P false f run) : RunOk P z f run :=
  ⟨h.fn, fun w0 r s a w args us K Q hs ha hr hQ => h.ok w0 r s a w args us K Q hs ha hr fun w1 r' s' x v w' hl => hQ w1 r' s' x v w' ⟨hl.w, hl.F, hl.sv, hl.sub, hl.new, fun _ => hl.no rfl⟩⟩
theorem iok_nil {P : Program} {z : Bool} : IOk P z [] := fun f run h => by cases h
theorem iok_cons {P : Program} {z : Bool} {f : FuncId} {run : List SV → AS → (SV → AS → Prop) → Prop} {l : List (FuncId × (List SV → AS → (SV → AS → Prop) → Prop))} (h : RunOk P z f run) (hl : IOk P z l) : IOk P z ((f, run) :: l) := by
  intro f' run' h'
  rcases List.mem_cons.1 h' with e | e
  · cases e; exact h
  · exact hl f' run' e
theorem hasI_inlsB (C : Cx) (f : FuncId) : ∀ l : List (FuncId × Func), hasI (inls C l) f = hasI (ids l C.I) f
  | [] => by
    rw [hasI_ids]
    rfl
  | (g, fn) :: l => by
    have ih := hasI_inlsB C f l
    have e : inls C ((g, fn) :: l) = (g, inlRun (C.inl (inls C l)) fn) :: inls C l := rfl
    have e2 : ids ((g, fn) :: l) C.I = (g, ()) :: ids l C.I := rfl
    rw [e, e2, hasI_cons, hasI_cons, ih]
def InlOkB (P : Program) (B : List (FuncId × (List SV → AS → (SV → AS → Prop) → Prop))) : List (FuncId × Func) → Prop
  | [] => True
  | (f, fn) :: l => (P.funcs[f]? = some fn ∧ FnOk P f ∧ (fn.body.map (Code.drawsOk (ids l B))) = some true) ∧ InlOkB P B l
theorem inlsB_ok {P : Program} {C : Cx} (hB : IOk P C.fz C.I) (ht : ttOk P C.tt) (hA : C.A = std) (hG : GOk P C.G) (hm : P.follows .mixedOrders = true) : ∀ {l : List (FuncId × Func)}, InlOkB P C.I l → IOk P C.fz (inls C l)
  | [], _ => by
    unfold inls
    exact hB
  | (f, fn) :: l, ⟨⟨h1, h2, h3⟩, h4⟩ => by
    have ih := inlsB_ok hB ht hA hG hm h4
    intro f' run h
    unfold inls at h
    rcases List.mem_cons.1 h with h | h
    · cases h
      cases hb : fn.body with
      | none => rw [hb] at h3; cases h3
      | some c0 =>
        rw [hb] at h3
        refine inl_ok (C := C.inl (inls C l)) h1 hb h2 ht hA hG ih hm ?_
        show Code.drawsOk (inls C l) c0 = true
        rw [draws_ids (hasI_inlsB C · l)]
        simpa using h3
    · exact ih f' run h
/-- A function keeps its contract, with such functions and such as are reckoned where they are called. -/
theorem fn_inlB {P : Program} {ck : Bool} {f : FuncId} {fn : Func} {c0 : Code} {tt : List (TypeId × TD)} {c : Ctr} {G : List (FuncId × Ctr)} (B : List (FuncId × (List SV → AS → (SV → AS → Prop) → Prop))) (hB : IOk P (!c.al) B) (l : List (FuncId × Func)) (hl : InlOkB P B l) (hf : P.funcs[f]? = some fn) (hb : fn.body = some c0) (ht : ttOk P tt) (hG : GOk P G) (hm : P.follows .mixedOrders = true) (hd : Code.drawsOk (ids l B) c0 = true)
    (hv : ∀ bs xs, svArgs c.tys bs = some xs → (∀ x ∈ xs, SVf x) → (∀ p, c.pre bs = some p → p) → vcFn ⟨std, tt, G, ck, c.al, inls ⟨std, tt, G, ck, c.al, B, !c.al⟩ l, !c.al⟩ fn xs (c.res bs)) : CtrOk P f c := by
  refine fn_okI (ck := ck) (I := inls ⟨std, tt, G, ck, c.al, B, !c.al⟩ l) hf hb ht hG ?_ hm ?_ ?_
  · exact inlsB_ok (C := ⟨std, tt, G, ck, c.al, B, !c.al⟩) hB ht rfl hG hm hl
  · rw [draws_ids (hasI_inlsB ⟨std, tt, G, ck, c.al, B, !c.al⟩ · l)]
    exact hd
  · exact hv
theorem fn_inlFB {P : Program} {ck : Bool} {f : FuncId} {fn : Func} {c0 : Code} {tt : List (TypeId × TD)} {c : FCtr} {G : List (FuncId × Ctr)} (B : List (FuncId × (List SV → AS → (SV → AS → Prop) → Prop))) (hB : IOk P true B) (l : List (FuncId × Func)) (hl : InlOkB P B l) (hf : P.funcs[f]? = some fn) (hb : fn.body = some c0) (ht : ttOk P tt) (hG : GOk P G) (hm : P.follows .mixedOrders = true) (hd : Code.drawsOk (ids l B) c0 = true)
    (hv : ∀ bs xs, svArgs c.tys bs = some xs → (∀ x ∈ xs, SVf x) → (∀ p, c.pre bs = some p → p) → vcFnF ⟨std, tt, G, ck, true, inls ⟨std, tt, G, ck, true, B, true⟩ l, true⟩ fn xs c.fr (c.res bs)) : FOk P f c := by
  refine fn_okF (ck := ck) (I := inls ⟨std, tt, G, ck, true, B, true⟩ l) hf hb ht hG ?_ hm ?_ hv
  · exact inlsB_ok (C := ⟨std, tt, G, ck, true, B, true⟩) hB ht rfl hG hm hl
  · rw [draws_ids (hasI_inlsB ⟨std, tt, G, ck, true, B, true⟩ · l)]
    exact hd
/-- A function that changes what is handed to it, out of its text. -/
theorem mth_ok {P : Program} {ck : Bool} {f : FuncId} {fn : Func} {c0 : Code} {tt : List (TypeId × TD)} {G : List (FuncId × Ctr)} (B : List (FuncId × (List SV → AS → (SV → AS → Prop) → Prop))) (hB : IOk P false B) (l : List (FuncId × Func)) (hl : InlOkB P B l) (hn : FnOk P f) (hf : P.funcs[f]? = some fn) (hb : fn.body = some c0) (ht : ttOk P tt) (hG : GOk P G) (hm : P.follows .mixedOrders = true) (hd : Code.drawsOk (ids l B) c0 = true)
    {X : Type} {mt : List SV → (Nat → SO) → Option (X × List Nat)} {pre : X → Prop} {x : X → SV} {os : X → List SO} {ks : X → List Nat} (args0 : X → List SV) (os0 : X → List SO) (ns : List NilAt) (zs : List ZAt) (hz : noRow ns = true) (hK : ∀ p, (os0 p).length < 4096)
    (hmt : ∀ args ob p ms, mt args ob = some (p, ms) → MtOk mt args0 os0 args ob p ms)
    (hv : ∀ p, pre p → (∃ g r w us, LsIs g r (args0 p) us ∧ ∀ k, k < (os0 p).length → ∃ q, r k = some q ∧ ((os0 p).getD k .gone).Is g r w 0 q) → vcM ⟨std, tt, G, ck, true, inls ⟨std, tt, G, ck, true, B, false⟩ l, false⟩ fn (args0 p) (os0 p) (ks p) ns zs (x p) (os p)) : RunOk P false f (mrun mt pre x os ks) := by
  refine mrun_ok (C := ⟨std, tt, G, ck, true, inls ⟨std, tt, G, ck, true, B, false⟩ l, false⟩) hf hb hn ht rfl hG ?_ hm ?_ args0 os0 ns zs ?_ hK hmt hv
  · exact inlsB_ok (C := ⟨std, tt, G, ck, true, B, false⟩) hB ht rfl hG hm hl
  · rw [draws_ids (hasI_inlsB ⟨std, tt, G, ck, true, B, false⟩ · l)]
    exact hd
  · unfold okRow
    simp only [hz]
/-- One such, and another where it does not fit. -/
def mor {X : Type} (mt : List SV → (Nat → SO) → Option (X × List Nat)) (r1 r2 : List SV → AS → (SV → AS → Prop) → Prop) (args : List SV) (s : AS) (K : SV → AS → Prop) : Prop := match mt args s.ob with
  | some _ => r1 args s K
  | none => r2 args s K
theorem mor_ok {P : Program} {z : Bool} {f : FuncId} {X : Type} {mt : List SV → (Nat → SO) → Option (X × List Nat)} {r1 r2 : List SV → AS → (SV → AS → Prop) → Prop} (h1 : RunOk P z f r1) (h2 : RunOk P z f r2) : RunOk P z f (mor mt r1 r2) :=
  ⟨h1.fn, fun w0 r s a w args us K Q hs ha hr hQ => by
    unfold mor at hr
    cases he : mt args s.ob with
    | some q => rw [he] at hr; exact h1.ok w0 r s a w args us K Q hs ha hr hQ
    | none => rw [he] at hr; exact h2.ok w0 r s a w args us K Q hs ha hr hQ⟩
end Go.Proofs.Ytekokhlldcmjfaa
/- A function's text in parts; ways that lead to one state but for names. No program in sight. -/
namespace Go.Proofs.Ytekokhlldcmjfaa
open Go.RowKit Go.ChangeShapes Go.WideShapes Go.Deep
set_option linter.unusedVariables false
set_option linter.unusedSimpArgs false
/-- WHATEVER THE MEMORY THAT THE STATE SPEAKS OF, the text ends as is asked. -/
def VS (P : Program) (C : Cx) (K : Exit → AS → Prop) (c : Code) (s : AS) : Prop := ∀ (w0 : Fr) (r : Nat → Option Value) (a : Act) (w : World) (Q : Exit → Act → World → Prop), Sat w0 r s a w →
  (∀ e w1 r' s' a' w', Fr.le C.fz w0 w1 → Sat w1 r' s' a' w' → K e s' → Q e a' w') → c.wp P Q a w
theorem VS.of {P : Program} {C : Cx} (ht : ttOk P C.tt) (hA : C.A = std) (hG : GOk P C.G) (hI : IOk P C.fz C.I) (hm : P.follows .mixedOrders = true) {K : Exit → AS → Prop} {c : Code} {s : AS} (hd : Code.drawsOk C.I c = true) (h : vc C c K s) : VS P C K c s :=
  fun w0 r a w Q hS hQ => vc_wp ht hA hG hI hm c hd K w0 r s a w Q hS h hQ
/-- The first parts of a text; what is asked of the rest stands open. -/
def vcCut (C : Cx) (K : Exit → AS → Prop) (V : Code → AS → Prop) : Nat → Code → AS → Prop
  | 0, c, s => V c s
  | n + 1, .seq x y, s => vc C x (fun e t => match e with
      | .normal => vcCut C K V n y t
      | e => K e t) s
  | _ + 1, c, s => vc C c K s
def cutDraws {α : Type} (I : List (FuncId × α)) : Nat → Code → Bool
  | 0, _ => true
  | n + 1, .seq x y => Code.drawsOk I x && cutDraws I n y
  | _ + 1, c => Code.drawsOk I c
theorem VS.cut {P : Program} {C : Cx} (ht : ttOk P C.tt) (hA : C.A = std) (hG : GOk P C.G) (hI : IOk P C.fz C.I) (hm : P.follows .mixedOrders = true) {K : Exit → AS → Prop} : ∀ (n : Nat) {c : Code} {s : AS}, cutDraws C.I n c = true → vcCut C K (VS P C K) n c s → VS P C K c s
  | 0, c, s, _, h => h
  | n + 1, .seq x y, s, hd, h => by
    intro w0 r a w Q hS hQ
    simp only [cutDraws, Bool.and_eq_true] at hd
    unfold vcCut at h
    refine wp_seq (vc_wp ht hA hG hI hm x hd.1 _ w0 r s a w _ hS h ?_)
    intro e w1 r' s' a' w' hl h' hk
    cases e with
    | normal => exact VS.cut ht hA hG hI hm n hd.2 hk w1 r' a' w' Q h' fun e w2 r2 s2 a2 w3 hl2 => hQ e w2 r2 s2 a2 w3 (hl.trans hl2)
    | _ => exact hQ _ _ _ _ _ _ hl h' hk
  | n + 1, .skip, s, hd, h => VS.of ht hA hG hI hm hd h
  | n + 1, .region .., s, hd, h => VS.of ht hA hG hI hm hd h
  | n + 1, .cond .., s, hd, h => VS.of ht hA hG hI hm hd h
  | n + 1, .block .., s, hd, h => VS.of ht hA hG hI hm hd h
  | n + 1, .loop .., s, hd, h => VS.of ht hA hG hI hm hd h
  | n + 1, .exit _, s, hd, h => VS.of ht hA hG hI hm hd h
  | n + 1, .ret, s, hd, h => VS.of ht hA hG hI hm hd h
  | n + 1, .rangeFunc .., s, hd, h => VS.of ht hA hG hI hm hd h
  | n + 1, .scope _, s, hd, h => VS.of ht hA hG hI hm hd h
  | n + 1, .label _, s, hd, h => VS.of ht hA hG hI hm hd h
  | n + 1, .goto _, s, hd, h => VS.of ht hA hG hI hm hd h
  | n + 1, .refuse _, s, hd, h => VS.of ht hA hG hI hm hd h
/-! ### One state, but for names -/
def invI (ms : List Nat) (i : Nat) : Nat := match lookI ms 0 i with
  | some k => k
  | none => i
def AS.perm (s : AS) (ms : List Nat) : AS := ⟨s.slots.map (SV.ren (invI ms)), ms.map fun i => (s.ob i).ren (invI ms), s.sav.map (Fm.map (SV.ren (invI ms)))⟩
def allN (p : Nat → Bool) : Nat → Bool
  | 0 => true
  | n + 1 => p n && allN p n
theorem allN_at {p : Nat → Bool} : ∀ {n : Nat}, allN p n = true → ∀ i, i < n → p i = true
  | 0, _, i, h => by omega
  | n + 1, h, i, hi => by
    simp only [allN, Bool.and_eq_true] at h
    by_cases e : i = n
    · subst e; exact h.1
    · exact allN_at h.2 i (by omega)
/-- Each of so many once. -/
def permB (ms : List Nat) (n : Nat) : Bool := Nat.beq ms.length n && (allN (fun i => (lookI ms 0 i).isSome) n && allN (fun k => Nat.blt (ms.getD k 0) n && match lookI ms 0 (ms.getD k 0) with
  | some j => Nat.beq j k
  | none => false) n)
theorem Sat.perm {w0 : Fr} {r : Nat → Option Value} {s : AS} {a : Act} {w : World} (h : Sat w0 r s a w) {ms : List Nat} (hp : permB ms s.objs.length = true) : ∃ r', Sat w0 r' (s.perm ms) a w := by
  obtain ⟨n, hn⟩ : ∃ n, n = s.objs.length := ⟨_, rfl⟩
  rw [← hn] at hp
  simp only [permB, Bool.and_eq_true] at hp
  obtain ⟨h1, h2, h3⟩ := hp
  have h1 : ms.length = n := Nat.eq_of_beq_eq_true h1
  have hsome : ∀ i, i < n → ∃ k, lookI ms 0 i = some k := fun i hi => Option.isSome_iff_exists.1 (allN_at h2 i hi)
  have hk3 : ∀ k, k < n → ms.getD k 0 < n ∧ lookI ms 0 (ms.getD k 0) = some k := by
    intro k hk
    have := allN_at h3 k hk
    simp only [Bool.and_eq_true] at this
    refine ⟨Nat.le_of_ble_eq_true this.1, ?_⟩
    cases hh : lookI ms 0 (ms.getD k 0) with
    | none => rw [hh] at this; exact absurd this.2 (by simp)
    | some j => rw [hh] at this; rw [Nat.eq_of_beq_eq_true this.2]
  obtain ⟨r', hr'⟩ : ∃ r' : Nat → Option Value, ∀ k, r' k = if k < n then r (ms.getD k 0) else none := ⟨_, fun _ => rfl⟩
  have hinv : (fun i => r' (invI ms i)) = r := by
    funext i
    show r' (invI ms i) = r i
    unfold invI
    by_cases hi : i < n
    · obtain ⟨k, hk⟩ := hsome i hi
      rw [hk]
      obtain ⟨_, h5, h6⟩ := lookI_some hk
      rw [Nat.sub_zero] at h6
      show r' k = r i
      rw [hr', if_pos (by omega), h6]
    · have hno : lookI ms 0 i = none := by
        cases hh : lookI ms 0 i with
        | none => rfl
        | some k =>
          exfalso
          obtain ⟨_, h5, h6⟩ := lookI_some hh
          rw [Nat.sub_zero] at h6
          have := (hk3 k (by omega)).1
          omega
      rw [hno]
      show r' i = r i
      rw [hr', if_neg hi, h.rn i (by omega)]
  have hSV : ∀ (x : SV) (u : Value), x.Is w0.g r u → (x.ren (invI ms)).Is w0.g r' u := fun x u hx => by
    rw [ren_is, hinv]
    exact hx
  have hob : ∀ k, k < n → (s.perm ms).ob k = (s.ob (ms.getD k 0)).ren (invI ms) := by
    intro k hk
    unfold AS.ob AS.perm
    simp only [List.getD_eq_getElem?_getD, List.getElem?_map]
    rw [List.getElem?_eq_getElem (by omega)]
    rfl
  have hge : ∀ k, (s.perm ms).ob k ≠ .gone → k < n := by
    intro k hk
    have := ob_lt (s := s.perm ms) k hk
    simpa [AS.perm, h1] using this
  have hg : ∀ k, (s.perm ms).ob k ≠ .gone → s.ob (ms.getD k 0) ≠ .gone := by
    intro k hk
    have := hge k hk
    rw [hob k this] at hk
    exact ren_gone.1 hk
  have hFm : ∀ (x : Fm) (u : Array Value), FmIs w0.g r x u → FmIs w0.g r' (x.map (SV.ren (invI ms))) u := fun x u hx =>
    ⟨fun i => by rw [Fm.get_map _ rfl]; exact hSV _ _ (hx.get i), fun i hi => hx.lt i (by simpa only [Fm.has_map] using hi)⟩
  refine ⟨r', hFm _ _ h.slots, h.defs, h.below, h.gw, fun id hid => ?_, fun i q hq => ?_, fun k hk => ?_, fun k q b hk hq hb => ?_, fun i j qi qj b hij hgi hgj hri hrj hbi hbj => ?_, h.sav.imp hFm⟩
  · have : n ≤ id := by simpa [AS.perm, h1] using hid
    rw [hr', if_neg (by omega)]
  · rw [hr'] at hq
    split at hq
    · exact h.r1 _ _ hq
    · cases hq
  · have hlt := hge k hk
    obtain ⟨q, h5, h6⟩ := h.objs (ms.getD k 0) (hg k hk)
    refine ⟨q, by rw [hr', if_pos hlt]; exact h5, ?_⟩
    rw [hob k hlt, so_ren, hinv]
    exact h6
  · rw [hr', if_pos (hge k hk)] at hq
    exact h.mine _ q b (hg k hk) hq hb
  · rw [hr', if_pos (hge i hgi)] at hri
    rw [hr', if_pos (hge j hgj)] at hrj
    refine h.apart (ms.getD i 0) (ms.getD j 0) qi qj b (fun e => hij ?_) (hg i hgi) (hg j hgj) hri hrj hbi hbj
    have h5 := (hk3 i (hge i hgi)).2
    rw [e, (hk3 j (hge j hgj)).2] at h5
    exact (Option.some.inj h5).symm
/-- What is asked of a text in one state serves in each that is that one but for names. -/
theorem VS.join {P : Program} {C : Cx} {K : Exit → AS → Prop} {c : Code} {s t : AS} (h : VS P C K c t) (ms : List Nat) (hp : permB ms s.objs.length = true) (hl : (s.perm ms).le t) : VS P C K c s := by
  intro w0 r a w Q hS hQ
  obtain ⟨r', h1⟩ := hS.perm hp
  exact h w0 _ a w Q (h1.le hl) hQ
theorem VS.le {P : Program} {C : Cx} {K : Exit → AS → Prop} {c : Code} {s t : AS} (h : VS P C K c t) (hl : s.le t) : VS P C K c s :=
  fun w0 r a w Q hS hQ => h w0 _ a w Q (hS.le hl) hQ
def restC : Nat → Code → Code
  | 0, c => c
  | n + 1, .seq _ y => restC n y
  | _ + 1, c => c
/-- A frame of which only so much is known. -/
def fmOf (n : Nat) (l : List (Nat × SV)) : Fm := l.foldl (fun t p => t.set p.1 p.2) ((Fm.rep deep n).map fun _ => .any)
/-- What a function is asked at its end. -/
def kFn (C : Cx) (fn : Func) (rt : Out) (e : Exit) (s : AS) : Prop := match e with
  | .normal | .ret => match resOf C s fn.results.toList with
    | some l => rt.fits C.al s.ob (resSV l)
    | none => False
  | _ => False
theorem fn_okV {P : Program} {ck : Bool} {f : FuncId} {fn : Func} {c0 : Code} {tt : List (TypeId × TD)} {c : Ctr} {G : List (FuncId × Ctr)} {I : List (FuncId × (List SV → AS → (SV → AS → Prop) → Prop))} (hf : P.funcs[f]? = some fn) (hb : fn.body = some c0) (ht : ttOk P tt) (hG : GOk P G) (hI : IOk P (!c.al) I) (hm : P.follows .mixedOrders = true)
    (hv : ∀ bs xs, svArgs c.tys bs = some xs → (∀ x ∈ xs, SVf x) → (∀ p, c.pre bs = some p → p) → VS P ⟨std, tt, G, ck, c.al, I, !c.al⟩ (kFn ⟨std, tt, G, ck, c.al, I, !c.al⟩ fn (c.res bs)) c0 ⟨(Fm.rep deep fn.ntmps).sets 0 xs, [], []⟩) : CtrOk P f c := by
  intro bs w g vs hargs hga hpre
  obtain ⟨xs, h1, h2, h3⟩ := args_sv hargs
  have hvc := hv bs xs h1 h3 hpre
  refine calls_of_wp hf hb ?_
  have hlen := lsIs_len h2
  let g' : World := bif c.al then g else w
  have hg' : SubW g' w ∧ LsIs g' noR xs vs := by
    cases hal : c.al with
    | false => exact ⟨by simp only [g', hal, cond_false]; exact SubW.refl w, by simp only [g', hal, cond_false]; exact h2⟩
    | true =>
      obtain ⟨h4, h5⟩ := hga hal
      obtain ⟨xs', h6, h7, _⟩ := args_sv h5
      rw [h1] at h6
      cases h6
      exact ⟨by simp only [g', hal, cond_true]; exact h4, by simp only [g', hal, cond_true]; exact h7⟩
  have hS : Sat ⟨w, fun _ => False, g', []⟩ noR ⟨(Fm.rep deep fn.ntmps).sets 0 xs, [], []⟩ { tmps := vs.toArray ++ Array.replicate (fn.ntmps - vs.toArray.size) undef, defers := [] } w := by
    refine ⟨fm_init hg'.2 _, rfl, Keeps.refl ⟨w, fun _ => False, g', []⟩, hg'.1, fun _ _ => rfl, fun i h hi => (by cases hi), fun id hne => ?_, fun id q b hne => ?_, fun i j hi hj b _ hgi => ?_, trivial⟩
    · exact absurd (by simp [AS.ob]) hne
    · exact absurd (by simp [AS.ob]) hne
    · exact absurd (by simp [AS.ob]) hgi
  refine hvc _ _ _ _ _ hS ?_
  intro e w1 r' s' a' w' hl h' hk
  have fin : (match resOf ⟨std, tt, G, ck, c.al, I, !c.al⟩ s' fn.results.toList with
      | some l => (c.res bs).fits c.al s'.ob (resSV l)
      | none => False) → bodyPost P fn (fun e w' => ∃ v, e = .returned v ∧ Gv (bif c.al then g else gE) noR 0 w (c.res bs).pick v w') .normal a' w' := by
    intro hk
    cases hr : resOf ⟨std, tt, G, ck, c.al, I, !c.al⟩ s' fn.results.toList with
    | none => rw [hr] at hk; exact hk.elim
    | some l =>
      rw [hr] at hk
      obtain ⟨v, h5, h6⟩ := run_results (C := ⟨std, tt, G, ck, c.al, I, !c.al⟩) h' ht rfl hr
      have hF : ∀ k, ¬ w1.F k := fun k => by rw [hl.F]; exact fun h => h
      have h7 := fits_gv h' hF h6 _ hk
      refine ⟨h'.defs, v, h5, v, rfl, ?_⟩
      have e : (bif c.al then w1.g else gE) = (bif c.al then g else gE) := by
        cases hal : c.al with
        | false => rfl
        | true =>
          simp only [cond_true]
          have := hl.no (by simp [hal])
          rw [this]
          simp only [g', hal, cond_true]
      rw [e, hl.w] at h7
      exact h7
  cases e with
  | normal => exact fin hk
  | ret => exact fin hk
  | _ => exact hk.elim
theorem cut_ids {α β : Type} {I : List (FuncId × α)} {J : List (FuncId × β)} (h : ∀ f, hasI I f = hasI J f) : ∀ (n : Nat) (c : Code), cutDraws I n c = cutDraws J n c
  | 0, c => rfl
  | n + 1, .seq x y => by simp only [cutDraws, draws_ids h, cut_ids h n y]
  | n + 1, .skip => draws_ids h _
  | n + 1, .region .. => draws_ids h _
  | n + 1, .cond .. => draws_ids h _
  | n + 1, .block .. => draws_ids h _
  | n + 1, .loop .. => draws_ids h _
  | n + 1, .exit _ => draws_ids h _
  | n + 1, .ret => draws_ids h _
  | n + 1, .rangeFunc .. => draws_ids h _
  | n + 1, .scope _ => draws_ids h _
  | n + 1, .label _ => draws_ids h _
  | n + 1, .goto _ => draws_ids h _
  | n + 1, .refuse _ => draws_ids h _
/-- A FUNCTION KEEPS ITS CONTRACT: its first parts are reckoned; what is behind them is asked once. -/
theorem fn_cut {P : Program} {ck : Bool} {f : FuncId} {fn : Func} {c0 : Code} {tt : List (TypeId × TD)} {c : Ctr} {G : List (FuncId × Ctr)} (B : List (FuncId × (List SV → AS → (SV → AS → Prop) → Prop))) (hB : IOk P (!c.al) B) (l : List (FuncId × Func)) (hl : InlOkB P B l) (hf : P.funcs[f]? = some fn) (hb : fn.body = some c0) (ht : ttOk P tt) (hG : GOk P G) (hm : P.follows .mixedOrders = true) (n : Nat) (hd : cutDraws (ids l B) n c0 = true)
    (hv : ∀ bs xs, svArgs c.tys bs = some xs → (∀ x ∈ xs, SVf x) → (∀ p, c.pre bs = some p → p) → ∀ V : Code → AS → Prop,
      (∀ b s, Code.drawsOk (ids l B) b = true → vc ⟨std, tt, G, ck, c.al, inls ⟨std, tt, G, ck, c.al, B, !c.al⟩ l, !c.al⟩ b (kFn ⟨std, tt, G, ck, c.al, inls ⟨std, tt, G, ck, c.al, B, !c.al⟩ l, !c.al⟩ fn (c.res bs)) s → V b s) →
      (∀ b s t ms, permB ms s.objs.length = true → (s.perm ms).le t → V b t → V b s) →
      vcCut ⟨std, tt, G, ck, c.al, inls ⟨std, tt, G, ck, c.al, B, !c.al⟩ l, !c.al⟩ (kFn ⟨std, tt, G, ck, c.al, inls ⟨std, tt, G, ck, c.al, B, !c.al⟩ l, !c.al⟩ fn (c.res bs)) V n c0 ⟨(Fm.rep deep fn.ntmps).sets 0 xs, [], []⟩) : CtrOk P f c := by
  have hI : IOk P (!c.al) (inls ⟨std, tt, G, ck, c.al, B, !c.al⟩ l) := inlsB_ok (C := ⟨std, tt, G, ck, c.al, B, !c.al⟩) hB ht rfl hG hm hl
  have hids := fun f => hasI_inlsB ⟨std, tt, G, ck, c.al, B, !c.al⟩ f l
  refine fn_okV (ck := ck) (I := inls ⟨std, tt, G, ck, c.al, B, !c.al⟩ l) hf hb ht hG hI hm fun bs xs h1 h2 h3 => ?_
  refine VS.cut ht rfl hG hI hm n (by rw [cut_ids hids]; exact hd) (hv bs xs h1 h2 h3 _ ?_ ?_)
  · intro b s hb hvc
    exact VS.of ht rfl hG hI hm (by rw [draws_ids hids]; exact hb) hvc
  · intro b s t ms hp hle h
    exact VS.join h ms hp hle
end Go.Proofs.Ytekokhlldcmjfaa
