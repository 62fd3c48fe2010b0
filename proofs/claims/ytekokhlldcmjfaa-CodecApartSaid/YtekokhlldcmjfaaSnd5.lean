/- Arguments, contracts, an operation whatever it is. No program in sight. -/
import Derived.Test.YtekokhlldcmjfaaSnd4
namespace Go.Proofs.Ytekokhlldcmjfaa
open Go.RowKit Go.ChangeShapes Go.WideShapes Go.Deep
set_option linter.unusedVariables false
set_option linter.unusedSimpArgs false
def noR : Nat → Option Value := fun _ => none
def gE : World := { heap := #[], tape := fun _ _ => 0, drawn := 0, os := default, output := #[] }
theorem noR_sub (r : Nat → Option Value) : SubR noR r := fun _ _ h => by cases h
theorem gE_sub (g : World) : SubW gE g := fun b o v h => by simp [gE, World.cell?] at h
/-- An argument of a type, as what is known of its value. -/
def argSV : Ty → AV → Option SV
  | .st fs, a => (svAV (.st fs) a).bind fun l => some (.agg l)
  | T, a => match svAV T a with
    | some [x] => some x
    | _ => none
def ArgIs (w : World) (T : Ty) (a : AV) (v : Value) : Prop := ∃ x, argSV T a = some x ∧ x.Is w noR v
def ArgsIs (w : World) : List Ty → List AV → List Value → Prop
  | [], [], vs => vs = []
  | t :: ts, a :: as, vs => ∃ v vs', vs = v :: vs' ∧ ArgIs w t a v ∧ ArgsIs w ts as vs'
  | _, _, _ => False
def CellsIs (w : World) (T : Ty) (a : AV) (us : List Value) : Prop := ∃ l, svAV T a = some l ∧ LsIs w noR l us
/-- What a contract promises. -/
def CtrOk (P : Program) (f : FuncId) (c : Ctr) : Prop := ∀ (as : List AV) (w g : World) (vs : List Value), ArgsIs w c.tys as vs → (c.al = true → SubW g w ∧ ArgsIs g c.tys as vs) → (∀ p, c.pre as = some p → p) →
  Calls P f vs.toArray w fun e w' => ∃ v, e = .returned v ∧ Gv (bif c.al then g else gE) noR 0 w (c.res as).pick v w'
/-- It has a body. -/
def FnOk (P : Program) (f : FuncId) : Prop := (P.funcs[f]?).map (fun fn => fn.body.isSome && fn.name != "runtime.NumGoroutine") = some true
def GOk (P : Program) : List (FuncId × Ctr) → Prop
  | [] => True
  | x :: l => (CtrOk P x.1 x.2 ∧ FnOk P x.1) ∧ GOk P l
theorem gOk_mem {P : Program} : ∀ {l : List (FuncId × Ctr)} {f : FuncId} {c : Ctr}, GOk P l → (f, c) ∈ l → CtrOk P f c ∧ FnOk P f
  | [], _, _, _, h => by cases h
  | x :: l, f, c, h, hm => by
    rcases List.mem_cons.1 hm with rfl | hm
    · exact h.1
    · exact gOk_mem h.2 hm
mutual
theorem Ty.same_eq : ∀ (a b : Ty), a.same b = true → a = b
  | .int k, b, h => by cases b <;> simp [Ty.same] at h; rw [Go.Proofs.Ytekokhlldcmjfaa.same_eq h]
  | .bool, b, h => by cases b <;> first | rfl | simp [Ty.same] at h
  | .str, b, h => by cases b <;> first | rfl | simp [Ty.same] at h
  | .sl e, b, h => by
    cases b <;> simp [Ty.same] at h
    rw [Ty.same_eq e _ h]
  | .st fs, b, h => by
    cases b <;> simp [Ty.same] at h
    rw [sames_eq fs _ h]
theorem sames_eq : ∀ (a b : List Ty), sames a b = true → a = b
  | [], b, h => by cases b <;> first | rfl | simp [sames] at h
  | t :: ts, b, h => by
    cases b with
    | nil => simp [sames] at h
    | cons u us =>
      simp [sames] at h
      rw [Ty.same_eq t u h.1, sames_eq ts us h.2]
end
section
variable {P : Program} {g : World} {r : Nat → Option Value} {n base : Nat} {w : World} {C : Cx} {ob : Nat → SO}
theorem rd_of_reads {k : IntKind} {w : World} {v : Value} {l : List Int} (h : Reads k w v l) : Rd maxLen w (.sl (.int k)) [v] (.list (l.map Dat.int)) := by
  obtain ⟨ao, cap, rfl, h1, h2, hh⟩ := h.1
  rw [kv_len] at *
  rw [Rd]
  refine ⟨ao, cap, l.map Dat.int, by simp, rfl, by simpa using h1, h2, ?_⟩
  rcases hh with hh | ⟨b, off, rfl, hh⟩
  · left; simp [kv] at hh; subst hh; rfl
  · refine .inr ⟨b, off, rfl, fun i u hu => ?_⟩
    rw [List.getElem?_map] at hu
    obtain ⟨z, hz, rfl⟩ := Option.map_eq_some_iff.1 hu
    refine ⟨[.int k z], rfl, fun j v hj => ?_, ?_⟩
    · cases j with
      | succ j => simp at hj
      | zero =>
        simp at hj
        subst hj
        have := hh i (.int k z) (by rw [List.getElem?_map, hz]; rfl)
        simpa [Ty.size] using this
    · rw [Rd]
      exact ⟨z, rfl, rfl, h.2.1 z (List.mem_of_getElem? hz)⟩
theorem cInt_is {k : IntKind} {l : List SV} {z : Int} (h : cInt k l = some z) : l = [.v (.int k z)] := by
  unfold cInt at h
  split at h
  · split at h
    · split at h
      · rename_i k' z'
        cases hk : IntKind.same k k' with
        | false => rw [hk] at h; cases h
        | true =>
          rw [hk] at h
          cases h
          rw [Go.Proofs.Ytekokhlldcmjfaa.same_eq hk]
      · cases h
    · cases h
  · cases h
theorem cBool_is {l : List SV} {b : Bool} (h : cBool l = some b) : l = [.v (.bool b)] ∨ l = [.lit b] := by
  unfold cBool at h
  split at h
  · split at h
    · split at h
      · cases h; exact .inl rfl
      · cases h; exact .inr rfl
      · cases h
    · cases h
  · cases h
theorem cStr_is {l : List SV} {s : ByteArray} (h : cStr l = some s) : l = [.v (.string s)] := by
  unfold cStr at h
  split at h
  · split at h
    · split at h
      · cases h; rfl
      · cases h
    · cases h
  · cases h
theorem ls1 {x : SV} {us : List Value} (h : LsIs g r [x] us) : ∃ u, us = [u] ∧ x.Is g r u := by
  simp only [LsIs] at h
  obtain ⟨u, us', rfl, h1, rfl⟩ := h
  exact ⟨u, rfl, h1⟩
/-- A row of the call's own, read as data. -/
theorem srow_rd {g w : World} {r : Nat → Option Value} {base : Nat} {E' : TypeId} {T : Ty} {d : Dat} {u : Value} (hg : SubW g w) (h : (SO.srow E' T d).Is g r w base u) : Rd maxLen w (.sl T) [u] d := by
  obtain ⟨hsz, ds, cl, rfl, hown, hrd⟩ := h
  rw [Rd]
  rcases hown.2 with ⟨hx, e0⟩ | ⟨b, cap, cur, hx, _, hb, h1, h2, h3, h4⟩
  · obtain rfl := List.eq_nil_of_length_eq_zero e0
    exact ⟨none, 0, [], by rw [hx]; rfl, rfl, Nat.le_refl _, Nat.zero_le _, .inl rfl⟩
  · refine ⟨_, cap, ds, by rw [hx], rfl, h1, h2, .inr ⟨b, 0, rfl, fun i q hq => ?_⟩⟩
    have hi := (List.getElem?_eq_some_iff.1 hq).1
    have hlen : ((cl.drop (i * T.size)).take T.size).length = T.size := by
      have := hown.1
      have h5 := Nat.mul_le_mul_right T.size (show i + 1 ≤ ds.length from hi)
      rw [Nat.succ_mul] at h5
      rw [List.length_take, List.length_drop]
      omega
    refine ⟨_, hlen, fun j v hj => ?_, rd_sub hg _ _ _ (hrd i q hq)⟩
    rw [List.getElem?_take] at hj
    split at hj
    · rw [List.getElem?_drop] at hj
      have := hown.cells (g := b) (by rw [hx]; rfl) _ _ hj
      rw [Addr.add_lit] at this
      exact this
    · cases hj
theorem datSl_is (E : Env P C g r n base w ob) {e : Ty} {x : SV} {u : Value} {d : Dat} (h : datSl std ob e x = some d) (hx : x.Is g r u) : Rd maxLen w (.sl e) [u] d := by
  unfold datSl at h
  split at h
  · rename_i k
    obtain ⟨l, h1, h2⟩ := Option.bind_eq_some_iff.1 h
    cases h2
    exact rd_of_reads (ints_is E h1 hx)
  · split at h
    · rename_i e' d'
      cases hk : e.same e' with
      | false => rw [hk] at h; cases h
      | true =>
        rw [hk] at h
        cases h
        rw [Ty.same_eq _ _ hk]
        simp only [SV.Is] at hx
        exact rd_sub E.gw _ _ _ hx
    · rename_i id
      split at h
      · rename_i E' e' d' hob
        cases hk : e.same e' with
        | false => rw [hk] at h; cases h
        | true =>
          rw [hk] at h
          cases h
          rw [Ty.same_eq _ _ hk]
          simp only [SV.Is] at hx
          obtain ⟨hh, hr1, hoi⟩ := E.obs id (by rw [hob]; simp)
          rw [hob] at hoi
          rw [hx] at hr1
          cases hr1
          exact srow_rd E.gw hoi
      · cases h
    · cases h
      simp only [SV.Is] at hx
      rw [hx.1, Rd]
      exact ⟨none, 0, [], rfl, rfl, Nat.le_refl _, Nat.zero_le _, .inl rfl⟩
    · cases h
mutual
/-- Cells that are data. -/
theorem datOf_is (E : Env P C g r n base w ob) : ∀ (T : Ty) (l : List SV) (us : List Value) (d : Dat), datOf std ob T l = some d → LsIs g r l us → Rd maxLen w T us d ∧ l.length = T.size
  | .int k, l, us, d, h, hl => by
    unfold datOf at h
    obtain ⟨z, h1, h2⟩ := Option.bind_eq_some_iff.1 h
    cases h2
    rw [cInt_is h1] at hl ⊢
    obtain ⟨u, rfl, hu⟩ := ls1 hl
    simp only [SV.Is] at hu
    rw [Rd]
    exact ⟨⟨z, by rw [hu.1], rfl, hu.2⟩, rfl⟩
  | .bool, l, us, d, h, hl => by
    unfold datOf at h
    obtain ⟨z, h1, h2⟩ := Option.bind_eq_some_iff.1 h
    cases h2
    rcases cBool_is h1 with rfl | rfl
    · obtain ⟨u, rfl, hu⟩ := ls1 hl
      simp only [SV.Is] at hu
      rw [Rd]
      exact ⟨⟨z, by rw [hu.1], rfl⟩, rfl⟩
    · obtain ⟨u, rfl, hu⟩ := ls1 hl
      simp only [SV.Is] at hu
      rw [Rd]
      exact ⟨⟨z, by rw [hu], rfl⟩, rfl⟩
  | .str, l, us, d, h, hl => by
    unfold datOf at h
    obtain ⟨z, h1, h2⟩ := Option.bind_eq_some_iff.1 h
    cases h2
    rw [cStr_is h1] at hl ⊢
    obtain ⟨u, rfl, hu⟩ := ls1 hl
    simp only [SV.Is] at hu
    rw [Rd]
    exact ⟨⟨z, by rw [hu.1], rfl, hu.2⟩, rfl⟩
  | .sl e, l, us, d, h, hl => by
    unfold datOf at h
    split at h
    · obtain ⟨u, rfl, hu⟩ := ls1 hl
      exact ⟨datSl_is E h hu, rfl⟩
    · cases h
  | .st fs, l, us, d, h, hl => by
    unfold datOf at h
    obtain ⟨ds, h1, h2⟩ := Option.bind_eq_some_iff.1 h
    cases h2
    obtain ⟨h3, h4⟩ := datOfs_is E fs l us ds h1 hl
    rw [Rd]
    exact ⟨⟨ds, rfl, h3⟩, by rw [h4]; rfl⟩
theorem datOfs_is (E : Env P C g r n base w ob) : ∀ (Ts : List Ty) (l : List SV) (us : List Value) (ds : List Dat), datOfs std ob Ts l = some ds → LsIs g r l us → RdL maxLen w Ts us ds ∧ l.length = sizes Ts
  | [], l, us, ds, h, hl => by
    unfold datOfs at h
    split at h
    · cases h
      simp only [LsIs] at hl
      rw [RdL]
      exact ⟨⟨hl, rfl⟩, rfl⟩
    · cases h
  | t :: ts, l, us, ds, h, hl => by
    unfold datOfs at h
    obtain ⟨d, h1, h2⟩ := Option.bind_eq_some_iff.1 h
    obtain ⟨ds', h3, h4⟩ := Option.bind_eq_some_iff.1 h2
    cases h4
    obtain ⟨h5, h6⟩ := datOf_is E t _ _ d h1 (lsIs_take hl t.size)
    obtain ⟨h7, h8⟩ := datOfs_is E ts _ _ ds' h3 (lsIs_drop hl t.size)
    rw [RdL]
    refine ⟨⟨us.take t.size, us.drop t.size, d, ds', by rw [List.take_append_drop], ?_, rfl, h5, h7⟩, ?_⟩
    · rw [List.length_take, lsIs_len hl]
      rw [List.length_take] at h6
      exact h6
    · rw [List.length_take] at h6
      rw [List.length_drop] at h8
      simp only [sizes]
      omega
end
theorem datRows_is (E : Env P C g r n base w ob) (e : Ty) : ∀ (m : Nat) (l : List SV) (us : List Value) (ds : List Dat), datRows std ob e m l = some ds → LsIs g r l us → ds.length = m ∧ ∀ (i : Nat) (u : Dat), ds[i]? = some u → Rd maxLen w e ((us.drop (i * e.size)).take e.size) u ∧ ((us.drop (i * e.size)).take e.size).length = e.size
  | 0, l, us, ds, h, hl => by
    simp only [datRows, Option.some.injEq] at h
    subst h
    exact ⟨rfl, fun i u hu => by simp at hu⟩
  | m + 1, l, us, ds, h, hl => by
    unfold datRows at h
    obtain ⟨d, h1, h2⟩ := Option.bind_eq_some_iff.1 h
    obtain ⟨ds', h3, h4⟩ := Option.bind_eq_some_iff.1 h2
    cases h4
    obtain ⟨h5, h6⟩ := datOf_is E e _ _ d h1 (lsIs_take hl e.size)
    obtain ⟨h7, h8⟩ := datRows_is E e m _ _ ds' h3 (lsIs_drop hl e.size)
    refine ⟨by simp [h7], fun i u hu => ?_⟩
    cases i with
    | zero =>
      simp at hu
      subst hu
      simp only [Nat.zero_mul, List.drop_zero]
      refine ⟨h5, ?_⟩
      rw [List.length_take] at h6 ⊢
      rw [lsIs_len hl]
      exact h6
    | succ i =>
      have := h8 i u (by simpa using hu)
      rw [List.drop_drop] at this
      rwa [show (i + 1) * e.size = e.size + i * e.size from by rw [Nat.add_mul, Nat.one_mul, Nat.add_comm]]
theorem avSl_is (E : Env P C g r n base w ob) {e : Ty} {x : SV} {u : Value} {a : AV} (h : avSl std ob e x = some a) (hx : x.Is g r u) : CellsIs w (.sl e) a [u] := by
  have one : ∀ {y : SV}, y.Is w noR u → LsIs w noR [y] [u] := fun hy => by simp only [LsIs]; exact ⟨u, [], rfl, hy, rfl⟩
  unfold avSl at h
  split at h
  · rename_i k
    obtain ⟨l, h1, h2⟩ := Option.bind_eq_some_iff.1 h
    cases h2
    have := ints_is E h1 hx
    exact ⟨_, by unfold svAV; rfl, one (by simp only [SV.Is]; exact this)⟩
  · rename_i hni
    have himm : ∀ d, Rd maxLen w (.sl e) [u] d → CellsIs w (.sl e) (.d d) [u] := by
      intro d hd
      refine ⟨[.imm e d], ?_, one (by simp only [SV.Is]; exact hd)⟩
      unfold svAV
      split
      · rename_i k; exact absurd rfl (hni k)
      · rfl
    split at h
    · rename_i e' d'
      cases hk : e.same e' with
      | false => rw [hk] at h; cases h
      | true =>
        rw [hk] at h
        cases h
        simp only [SV.Is] at hx
        refine himm _ ?_
        rw [Ty.same_eq _ _ hk]
        exact rd_sub E.gw _ _ _ hx
    · rename_i id
      split at h
      · rename_i E' e' d' hob
        cases hk : e.same e' with
        | false => rw [hk] at h; cases h
        | true =>
          rw [hk] at h
          cases h
          simp only [SV.Is] at hx
          refine himm _ ?_
          rw [Ty.same_eq _ _ hk]
          obtain ⟨hh, hr1, hoi⟩ := E.obs id (by rw [hob]; simp)
          rw [hob] at hoi
          rw [hx] at hr1
          cases hr1
          exact srow_rd E.gw hoi
      · cases h
    · rename_i id m
      split at h
      · rename_i t l hob
        cases hb1 : Nat.ble m 16777216 with
        | false => rw [hb1] at h; cases h
        | true =>
        cases hb2 : Nat.beq l.length (m * e.size) with
        | false => rw [hb1, hb2] at h; cases h
        | true =>
          rw [hb1, hb2] at h
          have hb1 := nble hb1
          have hb2 := Nat.eq_of_beq_eq_true hb2
          simp only [Bool.and_self, cond_true] at h
          obtain ⟨ds, h1, h2⟩ := Option.bind_eq_some_iff.1 h
          cases h2
          obtain ⟨hh, hr1, hoi⟩ := E.obs id (by rw [hob]; simp)
          rw [hob] at hoi
          simp only [SV.Is] at hx
          obtain ⟨hr2, b, hv⟩ := hx
          rw [hr1] at hr2
          cases hr2
          obtain ⟨b', cs, hb, _, hhp, hl⟩ := hoi
          rw [hv] at hb
          cases hb
          obtain ⟨h3, h4⟩ := datRows_is E e m l _ ds h1 hl
          refine himm _ ?_
          rw [Rd]
          refine ⟨some ⟨b, 0, none⟩, m, ds, by rw [hv, h3], rfl, by omega, by unfold maxLen; omega, .inr ⟨b, 0, rfl, fun i q hq => ?_⟩⟩
          obtain ⟨h5, h6⟩ := h4 i q hq
          refine ⟨_, h6, fun j v hj => ?_, h5⟩
          rw [Nat.zero_add]
          refine cell_at hhp ?_
          rw [List.getElem?_take] at hj
          split at hj
          · rw [List.getElem?_drop] at hj
            simpa using hj
          · cases hj
      · cases h
    · cases h
      simp only [SV.Is] at hx
      refine himm _ ?_
      rw [hx.1, Rd]
      exact ⟨none, 0, [], rfl, rfl, Nat.le_refl _, Nat.zero_le _, .inl rfl⟩
    · cases h
mutual
theorem avOf_is (E : Env P C g r n base w ob) : ∀ (T : Ty) (l : List SV) (us : List Value) (a : AV), avOf std ob T l = some a → LsIs g r l us → CellsIs w T a us
  | .int k, l, us, d, h, hl => by
    unfold avOf at h
    obtain ⟨z, h1, h2⟩ := Option.bind_eq_some_iff.1 h
    cases h2
    rw [cInt_is h1] at hl
    obtain ⟨u, rfl, hu⟩ := ls1 hl
    simp only [SV.Is] at hu
    exact ⟨_, by unfold svAV; rfl, by simp only [LsIs, SV.Is]; exact ⟨u, [], rfl, hu, rfl⟩⟩
  | .bool, l, us, d, h, hl => by
    unfold avOf at h
    obtain ⟨z, h1, h2⟩ := Option.bind_eq_some_iff.1 h
    cases h2
    refine ⟨_, by unfold svAV; rfl, ?_⟩
    rcases cBool_is h1 with rfl | rfl
    · obtain ⟨u, rfl, hu⟩ := ls1 hl
      simp only [SV.Is] at hu
      simp only [LsIs, SV.Is]
      exact ⟨u, [], rfl, hu, rfl⟩
    · obtain ⟨u, rfl, hu⟩ := ls1 hl
      simp only [SV.Is] at hu
      simp only [LsIs, SV.Is]
      exact ⟨u, [], rfl, ⟨hu, trivial⟩, rfl⟩
  | .str, l, us, d, h, hl => by
    unfold avOf at h
    obtain ⟨z, h1, h2⟩ := Option.bind_eq_some_iff.1 h
    cases h2
    rw [cStr_is h1] at hl
    obtain ⟨u, rfl, hu⟩ := ls1 hl
    simp only [SV.Is] at hu
    exact ⟨_, by unfold svAV; rfl, by simp only [LsIs, SV.Is]; exact ⟨u, [], rfl, hu, rfl⟩⟩
  | .sl e, l, us, d, h, hl => by
    unfold avOf at h
    split at h
    · obtain ⟨u, rfl, hu⟩ := ls1 hl
      exact avSl_is E h hu
    · cases h
  | .st fs, l, us, d, h, hl => by
    unfold avOf at h
    obtain ⟨ds, h1, h2⟩ := Option.bind_eq_some_iff.1 h
    cases h2
    obtain ⟨m, h3, h4⟩ := avOfs_is E fs l us ds h1 hl
    exact ⟨m, by unfold svAV; exact h3, h4⟩
theorem avOfs_is (E : Env P C g r n base w ob) : ∀ (Ts : List Ty) (l : List SV) (us : List Value) (as : List AV), avOfs std ob Ts l = some as → LsIs g r l us → ∃ m, svAVs Ts as = some m ∧ LsIs w noR m us
  | [], l, us, ds, h, hl => by
    unfold avOfs at h
    split at h
    · cases h
      simp only [LsIs] at hl
      exact ⟨[], by unfold svAVs; rfl, by simp only [LsIs]; exact hl⟩
    · cases h
  | t :: ts, l, us, ds, h, hl => by
    unfold avOfs at h
    obtain ⟨d, h1, h2⟩ := Option.bind_eq_some_iff.1 h
    obtain ⟨ds', h3, h4⟩ := Option.bind_eq_some_iff.1 h2
    cases h4
    obtain ⟨m1, h5, h6⟩ := avOf_is E t _ _ d h1 (lsIs_take hl t.size)
    obtain ⟨m2, h7, h8⟩ := avOfs_is E ts _ _ ds' h3 (lsIs_drop hl t.size)
    refine ⟨m1 ++ m2, by unfold svAVs; rw [h5, h7]; rfl, ?_⟩
    have := lsIs_append h6 h8
    rwa [List.take_append_drop] at this
end
theorem avArg_is (E : Env P C g r n base w ob) {T : Ty} {x : SV} {u : Value} {a : AV} (h : avArg std ob T x = some a) (hx : x.Is g r u) : ArgIs w T a u := by
  unfold avArg at h
  split at h
  · rename_i fs
    split at h
    · rename_i l
      obtain ⟨as, h1, h2⟩ := Option.bind_eq_some_iff.1 h
      cases h2
      simp only [SV.Is] at hx
      obtain ⟨cs, rfl, hl⟩ := hx
      obtain ⟨m, h3, h4⟩ := avOfs_is E fs l _ as h1 hl
      refine ⟨.agg m, by simp only [argSV, svAV, h3, Option.bind_some], ?_⟩
      simp only [SV.Is]
      exact ⟨cs, rfl, h4⟩
    · cases h
  · rename_i hns
    obtain ⟨m, h3, h4⟩ := avOf_is E T [x] [u] a h (by simp only [LsIs]; exact ⟨u, [], rfl, hx, rfl⟩)
    have hml := lsIs_len h4
    cases m with
    | nil => simp at hml
    | cons y m =>
      cases m with
      | cons z m => simp at hml
      | nil =>
        obtain ⟨u', he, hy⟩ := ls1 h4
        simp only [List.cons.injEq, and_true] at he
        subst he
        refine ⟨y, ?_, hy⟩
        unfold argSV
        cases T with
        | st fs => exact absurd rfl (hns fs)
        | _ => simp only [h3]
theorem avArgs_is (E : Env P C g r n base w ob) : ∀ (Ts : List Ty) (xs : List SV) (us : List Value) (as : List AV), avArgs std ob Ts xs = some as → LsIs g r xs us → ArgsIs w Ts as us
  | [], [], us, as, h, hl => by
    simp only [avArgs, Option.some.injEq] at h
    subst h
    simp only [LsIs] at hl
    exact hl
  | [], x :: xs, us, as, h, hl => by simp [avArgs] at h
  | t :: ts, [], us, as, h, hl => by simp [avArgs] at h
  | t :: ts, x :: xs, us, as, h, hl => by
    unfold avArgs at h
    obtain ⟨a, h1, h2⟩ := Option.bind_eq_some_iff.1 h
    obtain ⟨as', h3, h4⟩ := Option.bind_eq_some_iff.1 h2
    cases h4
    simp only [LsIs] at hl
    obtain ⟨u, us', rfl, hx, hl⟩ := hl
    exact ⟨u, us', rfl, avArg_is E h1 hx, avArgs_is E ts xs us' as' h3 hl⟩
end
end Go.Proofs.Ytekokhlldcmjfaa
