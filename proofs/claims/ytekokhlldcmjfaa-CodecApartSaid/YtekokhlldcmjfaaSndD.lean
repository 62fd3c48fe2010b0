/- A function keeps its contract if what its text asks is so. No program in sight. -/
import Derived.Test.YtekokhlldcmjfaaSndC
namespace Go.Proofs.Ytekokhlldcmjfaa
open Go.RowKit Go.ChangeShapes Go.WideShapes Go.Deep
set_option linter.unusedVariables false
set_option linter.unusedSimpArgs false
section
variable {P : Program} {C : Cx} {w0 : Fr} {r : Nat → Option Value} {s : AS} {a : Act} {w : World}
theorem run_of_okk {t : TypeId} {x : Operand} {ad v : Value} (had : a.eval x = ad) (h : (execOp a.eval ⟨none, .load t x, 0, "", #[], none⟩).run P w = .ok (.value v) w) : (Instr.loadAt t ad).run P w = .ok v w := by
  have : (execOp a.eval ⟨none, .load t x, 0, "", #[], none⟩) = (do pure (.value (← Instr.loadAt t ad))) := by rw [← had]; rfl
  rw [this] at h
  simp only [Sem.run_bind, Sem.run_pure] at h
  cases hr : (Instr.loadAt t ad).run P w with
  | ok u w' => rw [hr] at h; simp only [Result.andThen_ok] at h; cases h; rfl
  | halt hh w' => rw [hr] at h; cases h
def resF (tmps : Array Value) : ResultVar → Sem Value
  | .tmp t => pure (tmps.getD t undef)
  | .cell p t => do loadVar t (← asAddr (tmps.getD p undef))
/-- The results' cells. -/
theorem res_is (h : Sat w0 r s a w) (ht : ttOk P C.tt) (hA : C.A = std) : ∀ (l : List ResultVar) (m : List SV), resOf C s l = some m → ∃ us, (l.mapM (resF a.tmps)).run P w = .ok us w ∧ LsIs w0.g r m us
  | [], m, hm => by
    simp only [resOf, Option.some.injEq] at hm
    subst hm
    exact ⟨[], rfl, by simp only [LsIs]⟩
  | .tmp t :: l, m, hm => by
    simp only [resOf] at hm
    obtain ⟨m', h1, h2⟩ := Option.bind_eq_some_iff.1 hm
    cases h2
    obtain ⟨us, h3, h4⟩ := res_is h ht hA l m' h1
    refine ⟨a.tmps.getD t undef :: us, ?_, by simp only [LsIs]; exact ⟨_, us, rfl, h.slots.get t, h4⟩⟩
    simp only [List.mapM_cons, resF, Sem.run_bind, Sem.run_pure, Result.andThen_ok]
    rw [h3]
    rfl
  | .cell p t :: l, m, hm => by
    simp only [resOf] at hm
    split at hm
    · rename_i x he
      obtain ⟨m', h1, h2⟩ := Option.bind_eq_some_iff.1 hm
      cases h2
      obtain ⟨us, h3, h4⟩ := res_is h ht hA l m' h1
      have hE := h.env ht hA (P := P)
      have hok := ex_load (ρ := a.eval) (o := ⟨none, .load t (.tmp p), 0, "", #[], none⟩) hE rfl (h.ev (.tmp p)) none (.ret x []) he (fun q hq => by cases hq)
      obtain ⟨v, w', h5, h6, h7⟩ := hok
      obtain rfl := h7 rfl
      have hx : x.Is w0.g r v := by
        have hsv := h6.sv
        rw [Out.pick, ext_nil h.rn] at hsv
        exact hsv
      have hl := run_of_okk (P := P) (t := t) (x := .tmp p) rfl h5
      have hl2 : (do loadVar t (← asAddr (a.tmps.getD p undef)) : Sem Value).run P w' = .ok v w' := by
        have e : a.eval (.tmp p) = a.tmps.getD p undef := rfl
        rw [e] at hl
        generalize a.tmps.getD p undef = ad at hl
        cases ad <;> first | (simp [Instr.loadAt, Instr.sureAddr] at hl; done) | skip
        rename_i o
        cases o with
        | none => simp [Instr.loadAt, Instr.sureAddr] at hl
        | some x => simpa [Instr.loadAt, Instr.sureAddr, asAddr] using hl
      refine ⟨v :: us, ?_, by simp only [LsIs]; exact ⟨v, us, rfl, hx, h4⟩⟩
      have hl3 : (resF a.tmps (.cell p t)).run P w' = .ok v w' := hl2
      simp only [List.mapM_cons, Sem.run_bind, Sem.run_pure]
      rw [hl3]
      simp only [Result.andThen_ok]
      rw [h3]
      rfl
    · cases hm
theorem run_results {fn : Func} {m : List SV} (h : Sat w0 r s a w) (ht : ttOk P C.tt) (hA : C.A = std) (hm : resOf C s fn.results.toList = some m) : ∃ v, (results fn a.tmps).run P w = .ok v w ∧ (resSV m).Is w0.g r v := by
  obtain ⟨us, h1, h2⟩ := res_is h ht hA _ m hm
  have hlen := lsIs_len h2
  have hr : (results fn a.tmps).run P w = .ok (if h : us.toArray.size = 1 then us.toArray[0] else .tuple us.toArray) w := by
    have e : results fn a.tmps = (do let vs ← fn.results.mapM (resF a.tmps); pure (if h : vs.size = 1 then vs[0] else .tuple vs)) := by
      unfold results
      have hf : (fun (q : ResultVar) => match q with
          | .tmp t => (pure (a.tmps.getD t undef) : Sem Value)
          | .cell p t => do loadVar t (← asAddr (a.tmps.getD p undef))) = resF a.tmps := by
        funext q
        cases q <;> rfl
      rw [← hf]
      rfl
    rw [e, Array.mapM_eq_mapM_toList]
    simp only [Sem.run_bind, Sem.run_map]
    rw [h1]
    rfl
  refine ⟨_, hr, ?_⟩
  cases m with
  | nil =>
    have : us = [] := List.eq_nil_of_length_eq_zero hlen
    subst this
    simp only [resSV, SV.Is]
    exact ⟨#[], rfl, h2⟩
  | cons x m =>
    cases m with
    | nil =>
      obtain ⟨u, rfl, hu⟩ := ls1 h2
      exact hu
    | cons y m =>
      have : ¬ us.toArray.size = 1 := by simp [hlen]
      rw [dif_neg this]
      simp only [resSV, SV.Is]
      exact ⟨_, rfl, by simpa using h2⟩
theorem one_vdeep {u : Value} (h : one1 u) : vdeep u = [u] := by
  cases u <;> first | rfl | skip
  · obtain ⟨_, h2⟩ := h; cases h2
  · obtain ⟨_, h2⟩ := h; cases h2
theorem one_flat {u : Value} (h : one1 u) : vflat1 u = [u] := by
  cases u <;> first | rfl | skip
  obtain ⟨_, h2⟩ := h; cases h2
theorem flatT_is {g : World} (hr1 : ∀ i h, r i = some h → one1 h) : ∀ (l d : List SV) (us : List Value), flatT l = some d → LsIs g r l us → LsIs g r d (us.flatMap vflat1)
  | [], d, us, h, hl => by
    simp only [flatT, Option.some.injEq] at h
    subst h
    simp only [LsIs] at hl
    subst hl
    simp [LsIs]
  | x :: l, d, us, h, hl => by
    simp only [LsIs] at hl
    obtain ⟨u, us', rfl, hx, hl⟩ := hl
    rw [List.flatMap_cons]
    have single : ∀ d', flatT l = some d' → (∀ q, x ≠ .agg q) → (∀ q, x ≠ .tup q) → x ≠ .any → LsIs g r (x :: d') (vflat1 u ++ us'.flatMap vflat1) := by
      intro d' hd' h1 h2 h3
      rw [one_flat (is_one hr1 hx h1 h2 h3)]
      simp only [List.singleton_append, LsIs]
      exact ⟨u, _, rfl, hx, flatT_is hr1 l d' us' hd' hl⟩
    cases x with
    | agg m =>
      simp only [flatT] at h
      obtain ⟨d', h1, h2⟩ := Option.bind_eq_some_iff.1 h
      cases h2
      simp only [SV.Is] at hx
      obtain ⟨cs, rfl, hm⟩ := hx
      exact lsIs_append hm (flatT_is hr1 l d' us' h1 hl)
    | any => simp [flatT] at h
    | tup m => simp [flatT] at h
    | _ =>
      simp only [flatT] at h
      obtain ⟨d', h1, h2⟩ := Option.bind_eq_some_iff.1 h
      cases h2
      exact single d' h1 (by simp) (by simp) (by simp)
theorem deep_is {g : World} (hr1 : ∀ i h, r i = some h → one1 h) {x : SV} {d : List SV} {u : Value} (h : x.deep = some d) (hx : x.Is g r u) : LsIs g r d (vdeep u) := by
  have single : (∀ q, x ≠ .agg q) → (∀ q, x ≠ .tup q) → x ≠ .any → LsIs g r [x] (vdeep u) := by
    intro h1 h2 h3
    rw [one_vdeep (is_one hr1 hx h1 h2 h3)]
    simp only [LsIs]
    exact ⟨u, [], rfl, hx, rfl⟩
  cases x with
  | agg m =>
    simp only [SV.deep, Option.some.injEq] at h
    subst h
    simp only [SV.Is] at hx
    obtain ⟨cs, rfl, hm⟩ := hx
    exact hm
  | any => simp [SV.deep] at h
  | tup m =>
    simp only [SV.deep] at h
    simp only [SV.Is] at hx
    obtain ⟨cs, rfl, hm⟩ := hx
    exact flatT_is hr1 m d _ h hm
  | _ =>
    simp only [SV.deep, Option.some.injEq] at h
    subst h
    exact single (by simp) (by simp) (by simp)
def AtIs (r : Nat → Option Value) (u : Value) : At → Prop
  | .hdl j => r j = some u
  | .ptr j => ∃ h b, r j = some h ∧ blk h = some b ∧ u = .pointer (some ⟨b, 0, none⟩)
  | .nil => u = .slice none 0 0
  | .no => False
theorem at_is {g : World} {d : List SV} {us : List Value} (hd : LsIs g r d us) {p : Nat} {q : At} (h : atOf d p = q) (hq : q ≠ .no) : ∃ u, us[p]? = some u ∧ AtIs r u q := by
  unfold atOf at h
  cases hp : d[p]? with
  | none => rw [hp] at h; exact absurd h.symm hq
  | some x =>
    rw [hp] at h
    obtain ⟨u, h1, h2⟩ := lsIs_get hd hp
    refine ⟨u, h1, ?_⟩
    simp only at h
    split at h
    · subst h
      simp only [SV.Is] at h2
      exact h2
    · subst h
      simp only [SV.Is] at h2
      exact h2
    · subst h
      simp only [SV.Is] at h2
      exact h2.1
    · exact absurd h.symm hq
mutual
theorem fits_is {al : Bool} {g : World} {e : Nat → Option Value} {m : List At} (hm : ∀ i q, m[i]? = some q → q ≠ .no → ∃ u, e i = some u ∧ AtIs r u q) : ∀ (x y : SV) (u : Value), x.fits al m y → y.Is g r u → x.Is (bif al then g else gE) e u
  | .any, y, u, _, _ => by simp only [SV.Is]
  | .v x, y, u, h, hy => by
    cases y <;> simp only [SV.fits] at h
    · subst h
      simp only [SV.Is] at hy ⊢
      exact hy
    · subst h
      simp only [SV.Is] at hy ⊢
      exact ⟨hy, trivial⟩
  | .lit b, y, u, h, hy => by
    cases y <;> simp only [SV.fits] at h
    · subst h
      simp only [SV.Is] at hy ⊢
      exact hy.1
    · subst h
      simp only [SV.Is] at hy ⊢
      exact hy
  | .hdl i, y, u, h, hy => by
    have hH : ∀ j, isH m i j = true → r j = some u → (SV.hdl i).Is (bif al then g else gE) e u := by
      intro j hj hu
      unfold isH at hj
      split at hj
      · rename_i j' hmi
        obtain rfl := Nat.eq_of_beq_eq_true hj
        obtain ⟨u', h1, h2⟩ := hm i _ hmi (by simp)
        have h2 : r j = some u' := h2
        rw [hu] at h2
        cases h2
        simp only [SV.Is]
        exact h1
      · cases hj
    have hN : isN m i = true → u = .slice none 0 0 → (SV.hdl i).Is (bif al then g else gE) e u := by
      intro hj hu
      unfold isN at hj
      split at hj
      · rename_i hmi
        obtain ⟨u', h1, h2⟩ := hm i _ hmi (by simp)
        have h2 : u' = .slice none 0 0 := h2
        simp only [SV.Is]
        rw [h1, h2, hu]
      · cases hj
    cases y with
    | hdl j =>
      simp only [SV.fits] at h
      simp only [SV.Is] at hy
      cases hj : isH m i j with
      | false => rw [hj] at h; exact h.elim
      | true => exact hH j hj hy
    | v q =>
      cases q with
      | slice ao n c =>
        cases ao with
        | none =>
          cases n with
          | succ n => simp only [SV.fits] at h
          | zero =>
            cases c with
            | succ c => simp only [SV.fits] at h
            | zero =>
              simp only [SV.fits] at h
              simp only [SV.Is] at hy
              cases hj : isN m i with
              | false => rw [hj] at h; exact h.elim
              | true => exact hN hj hy.1
        | some ad => simp only [SV.fits] at h
      | _ => simp only [SV.fits] at h
    | _ => simp only [SV.fits] at h
  | .ptr i o, y, u, h, hy => by
    cases y <;> simp only [SV.fits] at h
    rename_i j o'
    cases hj : isP m i j with
    | false => rw [hj] at h; exact h.elim
    | true =>
    cases ho : Nat.beq o o' with
    | false => rw [hj, ho] at h; exact h.elim
    | true =>
      obtain rfl := Nat.eq_of_beq_eq_true ho
      unfold isP at hj
      split at hj
      · rename_i j' hmi
        obtain rfl := Nat.eq_of_beq_eq_true hj
        obtain ⟨u', h1, q, b, h2, h3, rfl⟩ := hm i _ hmi (by simp)
        simp only [SV.Is] at hy ⊢
        obtain ⟨q', b', h4, h5, rfl⟩ := hy
        rw [h2] at h4
        cases h4
        rw [h3] at h5
        cases h5
        exact ⟨_, b, h1, rfl, rfl⟩
      · cases hj
  | .agg l, y, u, h, hy => by
    cases y <;> simp only [SV.fits] at h
    simp only [SV.Is] at hy ⊢
    obtain ⟨cs, h1, h2⟩ := hy
    exact ⟨cs, h1, fitss_is hm l _ _ h h2⟩
  | .tup l, y, u, h, hy => by
    cases y <;> simp only [SV.fits] at h
    simp only [SV.Is] at hy ⊢
    obtain ⟨cs, h1, h2⟩ := hy
    exact ⟨cs, h1, fitss_is hm l _ _ h h2⟩
  | .iimm k l, y, u, h, hy => by
    cases y with
    | iimm k' l' =>
      simp only [SV.fits] at h
      cases al with
      | false => exact h.elim
      | true =>
      cases hk : IntKind.same k k' with
      | false => rw [hk] at h; exact h.elim
      | true =>
        rw [hk] at h
        simp only [Bool.and_self, cond_true] at h ⊢
        obtain rfl := same_eq hk
        subst h
        simp only [SV.Is] at hy ⊢
        exact hy
    | v q =>
      cases q with
      | slice ao n c =>
        cases ao with
        | none =>
          cases n with
          | succ n => simp only [SV.fits] at h
          | zero =>
            cases c with
            | succ c => simp only [SV.fits] at h
            | zero =>
              simp only [SV.fits] at h
              simp only [SV.Is] at hy ⊢
              subst h
              rw [hy.1]
              exact ⟨holds_nil _, fun x hx => (by cases hx), by decide⟩
        | some ad => simp only [SV.fits] at h
      | _ => simp only [SV.fits] at h
    | _ => simp only [SV.fits] at h
  | .imm T d, y, u, h, hy => by
    cases y <;> simp only [SV.fits] at h
    rename_i T' d'
    cases al with
    | false => exact h.elim
    | true =>
    cases hk : T.same T' with
    | false => rw [hk] at h; exact h.elim
    | true =>
      rw [hk] at h
      simp only [Bool.and_self, cond_true] at h ⊢
      have := Ty.same_eq _ _ hk
      subst this
      subst h
      simp only [SV.Is] at hy ⊢
      exact hy
  | .ip _, y, u, h, _ => by cases y <;> simp only [SV.fits] at h
  | .elt _ _, y, u, h, _ => by cases y <;> simp only [SV.fits] at h
  | .sub _ _ _, y, u, h, _ => by cases y <;> simp only [SV.fits] at h
  | .csl _ _, y, u, h, _ => by cases y <;> simp only [SV.fits] at h
theorem fitss_is {al : Bool} {g : World} {e : Nat → Option Value} {m : List At} (hm : ∀ i q, m[i]? = some q → q ≠ .no → ∃ u, e i = some u ∧ AtIs r u q) : ∀ (l l' : List SV) (us : List Value), fitss al m l l' → LsIs g r l' us → LsIs (bif al then g else gE) e l us
  | [], [], us, _, h => by simp only [LsIs] at h ⊢; exact h
  | x :: l, y :: l', us, h, hy => by
    simp only [fitss] at h
    simp only [LsIs] at hy ⊢
    obtain ⟨u, us', h1, h2, h3⟩ := hy
    exact ⟨u, us', h1, fits_is hm x y u h.1 h2, fitss_is hm l l' us' h.2 h3⟩
  | [], _ :: _, _, h, _ => by simp only [fitss] at h
  | _ :: _, [], _, h, _ => by simp only [fitss] at h
end
theorem distinct_at : ∀ {l : List (Option Nat)}, distinct l = true → ∀ {j k a b : Nat}, l[j]? = some (some a) → l[k]? = some (some b) → j ≠ k → a ≠ b
  | [], _, j, k, a, b, h, _, _ => by simp at h
  | none :: l, hd, j, k, a, b, hj, hk, hne => by
    simp only [distinct] at hd
    cases j with
    | zero => simp at hj
    | succ j =>
      cases k with
      | zero => simp at hk
      | succ k => exact distinct_at hd (by simpa using hj) (by simpa using hk) (by omega)
  | some i :: l, hd, j, k, a, b, hj, hk, hne => by
    simp only [distinct, Bool.and_eq_true] at hd
    have hall : ∀ (q c : Nat), l[q]? = some (some c) → i ≠ c := by
      intro q c hq
      have := List.all_eq_true.1 hd.1 (some c) (List.mem_of_getElem? hq)
      simp only [Bool.not_eq_true'] at this
      exact Nat.ne_of_beq_eq_false this
    cases j with
    | zero =>
      simp at hj
      subst hj
      cases k with
      | zero => exact absurd rfl hne
      | succ k => exact hall k b (by simpa using hk)
    | succ j =>
      cases k with
      | zero =>
        simp at hk
        subst hk
        exact fun e => hall j a (by simpa using hj) e.symm
      | succ k => exact distinct_at hd.2 (by simpa using hj) (by simpa using hk) (by omega)
theorem fitObjs_at {al : Bool} {m : List At} {ob : Nat → SO} : ∀ {js : List At} {os : List (Nat × SO)}, fitObjs al m ob js os → ∀ {k : Nat} {o : Nat × SO}, os[k]? = some o → ∃ q, js[k]? = some q ∧ o.2.fits al m ob q
  | [], [], _, k, o, h => by simp at h
  | j :: js, p :: os, h, k, o, hk => by
    simp only [fitObjs] at h
    cases k with
    | zero => simp at hk; subst hk; exact ⟨j, rfl, h.1⟩
    | succ k => simpa using fitObjs_at h.2 (by simpa using hk)
  | [], _ :: _, h, _, _, _ => by simp only [fitObjs] at h
  | _ :: _, [], h, _, _, _ => by simp only [fitObjs] at h
mutual
theorem plain_rd {g g' : World} {M : Nat} : ∀ (T : Ty) (cs : List Value) (d : Dat), plainT T = true → Rd M g T cs d → Rd M g' T cs d
  | .int _, _, _, _, h => by simp only [Rd] at h ⊢; exact h
  | .bool, _, _, _, h => by simp only [Rd] at h ⊢; exact h
  | .str, _, _, _, h => by simp only [Rd] at h ⊢; exact h
  | .sl _, _, _, hp, _ => by simp only [plainT] at hp; cases hp
  | .st fs, cs, d, hp, h => by
    simp only [plainT] at hp
    simp only [Rd] at h ⊢
    obtain ⟨ds, h1, h2⟩ := h
    exact ⟨ds, h1, plains_rd fs cs ds hp h2⟩
theorem plains_rd {g g' : World} {M : Nat} : ∀ (Ts : List Ty) (cs : List Value) (ds : List Dat), plainTs Ts = true → RdL M g Ts cs ds → RdL M g' Ts cs ds
  | [], _, _, _, h => by simp only [RdL] at h ⊢; exact h
  | t :: ts, cs, ds, hp, h => by
    simp only [plainTs, Bool.and_eq_true] at hp
    simp only [RdL] at h ⊢
    obtain ⟨c1, c2, u, us, h1, h2, h3, h4, h5⟩ := h
    exact ⟨c1, c2, u, us, h1, h2, h3, plain_rd t c1 u hp.1 h4, plains_rd ts c2 us hp.2 h5⟩
end
theorem rowRd_al {al : Bool} {g : World} {T : Ty} {cl : List Value} {ds : List Dat} (h : (al || plainT T) = true) (hr : RowRd g T cl ds) : RowRd (bif al then g else gE) T cl ds := by
  cases al with
  | true => exact hr
  | false => exact fun i u hu => plain_rd T _ _ (by simpa using h) (hr i u hu)
/-- What came fits what was to come. -/
theorem fits_gv {al : Bool} (h : Sat w0 r s a w) (hF : ∀ k, ¬ w0.F k) {sv : SV} {v : Value} (hv : sv.Is w0.g r v) : ∀ (rt : Out), rt.fits al s.ob sv → Gv (bif al then w0.g else gE) noR 0 w0.w0 rt.pick v w
  | .ite c x y, hf => by
    unfold Out.pick
    by_cases hc : c
    · rw [if_pos hc]; exact fits_gv h hF hv x (hf.1 hc)
    · rw [if_neg hc]; exact fits_gv h hF hv y (hf.2 hc)
  | .ret x os, hf => by
    simp only [Out.fits] at hf
    cases hd : sv.deep with
    | none => rw [hd] at hf; exact hf.elim
    | some d =>
      rw [hd] at hf
      simp only at hf
      cases hds : distinct ((os.map fun o => atOf d o.1).map At.id) with
      | false => rw [hds] at hf; exact hf.elim
      | true =>
        rw [hds] at hf
        obtain ⟨hf1, hf2⟩ := hf
        have hdv := deep_is h.r1 hd hv
        have hm : ∀ i q, (os.map fun o => atOf d o.1)[i]? = some q → q ≠ .no → ∃ u, ext noR 0 os v i = some u ∧ AtIs r u q := by
          intro i q hi hq
          rw [List.getElem?_map] at hi
          obtain ⟨o, ho, he⟩ := Option.map_eq_some_iff.1 hi
          obtain ⟨u, h1, h2⟩ := at_is hdv he hq
          refine ⟨u, ?_, h2⟩
          unfold ext
          rw [if_neg (by omega), Nat.sub_zero, ho]
          exact h1
        -- each new piece of memory
        have hobj : ∀ (k : Nat) (o : Nat × SO), os[k]? = some o → ∃ q u, (os.map fun o => atOf d o.1)[k]? = some q ∧ q ≠ .no ∧ (vdeep v)[o.1]? = some u ∧ AtIs r u q ∧ o.2.fits al (os.map fun o => atOf d o.1) s.ob q := by
          intro k o ho
          obtain ⟨q, h1, h2⟩ := fitObjs_at hf2 ho
          have hq : q ≠ .no := by
            intro e
            subst e
            cases ho2 : o.2 <;> rw [ho2] at h2 <;> simp only [SO.fits] at h2
          rw [List.getElem?_map, ho] at h1
          simp only [Option.map_some, Option.some.injEq] at h1
          obtain ⟨u, h3, h4⟩ := at_is hdv h1 hq
          exact ⟨q, u, by rw [List.getElem?_map, ho, Option.map_some, h1], hq, h3, h4, h2⟩
        have hup : ∀ id q, s.ob id ≠ .gone → r id = some q → (s.ob id).Is w0.g r w 0 q → (s.ob id).Is w0.g r w w0.w0.heap.size q := fun id q hne hq ho => ho.up fun b hb => by
          rcases (h.mine id q b hne hq hb).1 with h1 | h1
          · exact h1
          · exact absurd h1 (hF b)
        refine ⟨h.below.all hF, fits_is hm x sv v hf1 hv, ?_, ?_⟩
        · intro k o ho
          obtain ⟨q, u, h1, hq, h3, h4, h5⟩ := hobj k o ho
          refine ⟨u, h3, ?_⟩
          cases q with
          | no => exact absurd rfl hq
          | nil =>
            have h4 : u = .slice none 0 0 := h4
            subst h4
            refine ⟨⟨rfl, rfl⟩, ?_⟩
            cases ho2 : o.2 <;> rw [ho2] at h5 <;> simp only [SO.fits] at h5
            · subst h5
              exact ⟨OwnM.nil _ _ _ _, fun x hx => by cases hx⟩
            · rename_i E' T d'
              cases hT : Nat.ble 1 T.size with
              | false => rw [hT] at h5; exact h5.elim
              | true =>
                rw [hT] at h5
                simp only [cond_true] at h5
                subst h5
                exact ⟨nble hT, [], [], rfl, OwnM.nil _ _ _ _, fun i u hu => by simp at hu⟩
          | hdl j =>
            have h4 : r j = some u := h4
            refine ⟨h.r1 j u h4, ?_⟩
            cases ho2 : o.2 <;> rw [ho2] at h5 <;> simp only [SO.fits] at h5
            case irow =>
             rename_i E k' l
             split at h5
             · rename_i E' k'' l' hob
               cases hE : Nat.beq E E' with
               | false => rw [hE] at h5; exact h5.elim
               | true =>
               cases hk : IntKind.same k' k'' with
               | false => rw [hE, hk] at h5; exact h5.elim
               | true =>
                 rw [hE, hk] at h5
                 simp only [Bool.and_self, cond_true] at h5
                 obtain rfl := Nat.eq_of_beq_eq_true hE
                 obtain rfl := same_eq hk
                 subst h5
                 obtain ⟨q', h6, h7⟩ := h.objs j (by rw [hob]; simp)
                 rw [h4] at h6
                 cases h6
                 have h7 := hup j _ (by rw [hob]; simp) h4 h7
                 rw [hob] at h7
                 exact h7
             · exact h5.elim
            case srow =>
              rename_i E' T d'
              split at h5
              · rename_i E2 T2 d2 hob
                cases hpl : (al || plainT T) with
                | false => rw [hpl] at h5; exact h5.elim
                | true =>
                cases hE : Nat.beq E' E2 with
                | false => rw [hpl, hE] at h5; exact h5.elim
                | true =>
                cases hk : T.same T2 with
                | false => rw [hpl, hE, hk] at h5; exact h5.elim
                | true =>
                  rw [hpl, hE, hk] at h5
                  simp only [Bool.and_self, cond_true] at h5
                  obtain rfl := Nat.eq_of_beq_eq_true hE
                  obtain rfl := Ty.same_eq _ _ hk
                  subst h5
                  obtain ⟨q', h6, h7⟩ := h.objs j (by rw [hob]; simp)
                  rw [h4] at h6
                  cases h6
                  have h7 := hup j _ (by rw [hob]; simp) h4 h7
                  rw [hob] at h7
                  obtain ⟨z1, ds, cl, z2, z3, z4⟩ := h7
                  exact ⟨z1, ds, cl, z2, z3, rowRd_al hpl z4⟩
              · exact h5.elim
          | ptr j =>
            obtain ⟨hh, b, h6, h7, rfl⟩ := h4
            refine ⟨⟨rfl, rfl⟩, ?_⟩
            cases ho2 : o.2 <;> rw [ho2] at h5 <;> simp only [SO.fits] at h5
            rename_i t l
            split at h5
            · rename_i t' l' hob
              cases ht : Nat.beq t t' with
              | false => rw [ht] at h5; exact h5.elim
              | true =>
                rw [ht] at h5
                simp only [cond_true] at h5
                obtain rfl := Nat.eq_of_beq_eq_true ht
                obtain ⟨q', h8, h9⟩ := h.objs j (by rw [hob]; simp)
                rw [h6] at h8
                cases h8
                have h9 := hup j _ (by rw [hob]; simp) h6 h9
                rw [hob] at h9
                obtain ⟨b', cs, h10, h11, h12, h13⟩ := h9
                rw [h7] at h10
                cases h10
                exact ⟨b, cs, rfl, h11, h12, fitss_is hm l l' _ h5 h13⟩
            · exact h5.elim
        · intro j k o p x1 x2 c ho hp hne hx1 hx2 hb1 hb2
          obtain ⟨q1, u1, g1, gq1, g3, g4, g5⟩ := hobj j o ho
          obtain ⟨q2, u2, k1, kq1, k3, k4, k5⟩ := hobj k p hp
          rw [hx1] at g3
          cases g3
          rw [hx2] at k3
          cases k3
          -- who they are
          have who : ∀ (q : At) (u : Value) (so : SO) (b : Nat), AtIs r u q → so.fits al (os.map fun o => atOf d o.1) s.ob q → blk u = some b → ∃ i hh, q.id = some i ∧ r i = some hh ∧ blk hh = some b ∧ s.ob i ≠ .gone := by
            intro q u so b hu hso hb
            cases q with
            | no => exact hu.elim
            | nil =>
              have hu : u = .slice none 0 0 := hu
              subst hu
              cases hb
            | hdl i =>
              refine ⟨i, u, rfl, hu, hb, ?_⟩
              intro e
              cases so <;> simp only [SO.fits] at hso
              all_goals (rw [e] at hso; exact hso)
            | ptr i =>
              obtain ⟨hh, b', h6, h7, rfl⟩ := hu
              cases hb
              refine ⟨i, hh, rfl, h6, h7, ?_⟩
              intro e
              cases so <;> simp only [SO.fits] at hso
              all_goals (rw [e] at hso; exact hso)
          obtain ⟨i1, hh1, e1, e2, e3, e4⟩ := who q1 _ o.2 c g4 g5 hb1
          obtain ⟨i2, hh2, e5, e6, e7, e8⟩ := who q2 _ p.2 c k4 k5 hb2
          have hi : i1 ≠ i2 := distinct_at hds (j := j) (k := k) (by rw [List.getElem?_map, g1, Option.map_some, e1]) (by rw [List.getElem?_map, k1, Option.map_some, e5]) hne
          exact h.apart i1 i2 hh1 hh2 c hi e4 e8 e2 e6 e3 e7
theorem fits_sep {al : Bool} (h : Sat w0 r s a w) {sv : SV} {v : Value} (hv : sv.Is w0.g r v) : ∀ (rt : Out), rt.fits al s.ob sv → ∀ (k : Nat) (o : Nat × SO) (u : Value) (b : Nat), rt.pick.2[k]? = some o → o.2 ≠ .gone → (vdeep v)[o.1]? = some u → blk u = some b → ∀ o', w0.g.cell? ⟨b, o', none⟩ = none
  | .ite c x y, hf => by
    unfold Out.pick
    by_cases hc : c
    · rw [if_pos hc]; exact fits_sep h hv x (hf.1 hc)
    · rw [if_neg hc]; exact fits_sep h hv y (hf.2 hc)
  | .ret x os, hf => by
    intro k o u b hk hne hu hb o'
    simp only [Out.fits] at hf
    cases hd : sv.deep with
    | none => rw [hd] at hf; exact hf.elim
    | some d =>
      rw [hd] at hf
      simp only at hf
      cases hds : distinct ((os.map fun o => atOf d o.1).map At.id) with
      | false => rw [hds] at hf; exact hf.elim
      | true =>
        rw [hds] at hf
        obtain ⟨hf1, hf2⟩ := hf
        have hdv := deep_is h.r1 hd hv
        have hk : os[k]? = some o := hk
        obtain ⟨q, h1, h2⟩ := fitObjs_at hf2 hk
        have hq : q ≠ .no := by
          intro e
          subst e
          cases ho2 : o.2 <;> rw [ho2] at h2 <;> simp only [SO.fits] at h2
        rw [List.getElem?_map, hk] at h1
        simp only [Option.map_some, Option.some.injEq] at h1
        obtain ⟨u', h3, h4⟩ := at_is hdv h1 hq
        rw [hu] at h3
        cases h3
        cases q with
        | no => exact absurd rfl hq
        | nil =>
          have h4 : u = .slice none 0 0 := h4
          subst h4
          cases hb
        | hdl j =>
          have h4 : r j = some u := h4
          refine (h.mine j u b ?_ h4 hb).2 o'
          intro e
          cases ho2 : o.2 <;> rw [ho2] at h2 <;> simp only [SO.fits] at h2
          all_goals (rw [e] at h2; exact h2)
        | ptr j =>
          obtain ⟨hh, b', h6, h7, rfl⟩ := h4
          cases hb
          refine (h.mine j hh b' ?_ h6 h7).2 o'
          intro e
          cases ho2 : o.2 <;> rw [ho2] at h2 <;> simp only [SO.fits] at h2
          all_goals (rw [e] at h2; exact h2)
end
/-! ### Arguments -/
def svArgs : List Ty → List AV → Option (List SV)
  | [], [] => some []
  | t :: ts, a :: as => (argSV t a).bind fun x => (svArgs ts as).bind fun xs => some (x :: xs)
  | _, _ => none
mutual
/-- Data of a type: its numbers fit. -/
def Wt : Ty → Dat → Prop
  | .int k, d => ∃ z, d = .int z ∧ (Lit.int k z).wf = true
  | .bool, d => ∃ b, d = .bool b
  | .str, d => ∃ s, d = .str s ∧ s.size ≤ maxLen
  | .sl e, d => ∃ ds, d = .list ds ∧ ds.length ≤ maxLen ∧ ∀ u ∈ ds, Wt e u
  | .st fs, d => ∃ ds, d = .agg ds ∧ WtL fs ds
def WtL : List Ty → List Dat → Prop
  | [], ds => ds = []
  | t :: ts, ds => ∃ u us, ds = u :: us ∧ Wt t u ∧ WtL ts us
end
mutual
theorem rd_wt {w : World} : ∀ (T : Ty) (cs : List Value) (d : Dat), Rd maxLen w T cs d → Wt T d
  | .int k, cs, d, h => by
    simp only [Rd] at h
    obtain ⟨z, _, h2, h3⟩ := h
    simp only [Wt]
    exact ⟨z, h2, h3⟩
  | .bool, cs, d, h => by
    simp only [Rd] at h
    obtain ⟨z, _, h2⟩ := h
    simp only [Wt]
    exact ⟨z, h2⟩
  | .str, cs, d, h => by
    simp only [Rd] at h
    obtain ⟨z, _, h2, h3⟩ := h
    simp only [Wt]
    exact ⟨z, h2, h3⟩
  | .sl e, cs, d, h => by
    simp only [Rd] at h
    obtain ⟨ao, cap, ds, _, h2, h3, h4, h5⟩ := h
    simp only [Wt]
    refine ⟨ds, h2, by omega, fun u hu => ?_⟩
    rcases h5 with rfl | ⟨b, o, _, h6⟩
    · cases hu
    · obtain ⟨i, hi, he⟩ := List.getElem_of_mem hu
      obtain ⟨es, _, _, h7⟩ := h6 i u (by rw [List.getElem?_eq_getElem hi, he])
      exact rd_wt e es u h7
  | .st fs, cs, d, h => by
    simp only [Rd] at h
    obtain ⟨ds, h1, h2⟩ := h
    simp only [Wt]
    exact ⟨ds, h1, rdL_wt fs cs ds h2⟩
theorem rdL_wt {w : World} : ∀ (Ts : List Ty) (cs : List Value) (ds : List Dat), RdL maxLen w Ts cs ds → WtL Ts ds
  | [], _, _, h => by simp only [RdL] at h; simp only [WtL]; exact h.2
  | t :: ts, cs, ds, h => by
    simp only [RdL] at h
    obtain ⟨c1, c2, u, us, _, _, h3, h4, h5⟩ := h
    simp only [WtL]
    exact ⟨u, us, h3, rd_wt t c1 u h4, rdL_wt ts c2 us h5⟩
end
/-- What is known of a number or a text. -/
def SVfV : Value → Prop
  | .int k z => (Lit.int k z).wf = true
  | .string s => s.size ≤ maxLen
  | _ => True
/-- What is known of a piece. -/
def SVf1 : SV → Prop
  | .v q => SVfV q
  | .iimm k l => Fits k l ∧ l.length ≤ maxLen
  | .imm e d => Wt (.sl e) d
  | _ => True
/-- What is known of a piece of an argument. -/
def SVf : SV → Prop
  | .agg l => ∀ x ∈ l, SVf1 x
  | x => SVf1 x
theorem svf_of {w : World} {r : Nat → Option Value} {x : SV} {u : Value} (h : x.Is w r u) : SVf1 x := by
  cases x with
  | v q =>
    cases q with
    | int k z => simp only [SV.Is] at h; exact h.2
    | string s => simp only [SV.Is] at h; exact h.2
    | _ => trivial
  | iimm k l => simp only [SV.Is] at h; exact h.2
  | imm e d => simp only [SV.Is] at h; exact rd_wt _ _ _ h
  | _ => trivial
theorem svf_is {w : World} {r : Nat → Option Value} {x : SV} {u : Value} (h : x.Is w r u) : SVf x := by
  cases x with
  | agg l =>
    intro x hx
    simp only [SV.Is] at h
    obtain ⟨cs, _, h⟩ := h
    obtain ⟨i, hi⟩ := List.getElem?_of_mem hx
    obtain ⟨u', _, h2⟩ := lsIs_get h hi
    exact svf_of h2
  | _ => exact svf_of h
theorem args_sv {w : World} : ∀ {ts : List Ty} {as : List AV} {vs : List Value}, ArgsIs w ts as vs → ∃ xs, svArgs ts as = some xs ∧ LsIs w noR xs vs ∧ ∀ x ∈ xs, SVf x
  | [], [], vs, h => ⟨[], rfl, by simp only [LsIs]; exact h, fun x hx => by cases hx⟩
  | t :: ts, a :: as, vs, h => by
    obtain ⟨v, vs', rfl, ⟨x, h1, h2⟩, h3⟩ := h
    obtain ⟨xs, h4, h5, h6⟩ := args_sv h3
    refine ⟨x :: xs, by simp only [svArgs, h1, h4, Option.bind_some], by simp only [LsIs]; exact ⟨v, vs', rfl, h2, h5⟩, fun y hy => ?_⟩
    rcases List.mem_cons.1 hy with rfl | hy
    · exact svf_is h2
    · exact h6 y hy
  | [], _ :: _, vs, h => h.elim
  | _ :: _, [], vs, h => h.elim
/-- A frame at a call's beginning. -/
theorem fm_init {g : World} {r : Nat → Option Value} {xs : List SV} {vs : List Value} (h : LsIs g r xs vs) (n : Nat) : FmIs g r ((Fm.rep deep n).sets 0 xs) (vs.toArray ++ Array.replicate (n - vs.toArray.size) undef) := by
  have hlen := lsIs_len h
  refine ⟨fun i => ?_, fun i hi => ?_⟩
  · cases hh : (Fm.rep deep n).has i with
    | false => rw [Fm.get_none (by rw [Fm.sets_has]; exact hh)]; simp only [SV.Is]
    | true =>
      obtain ⟨h5, h4⟩ := Fm.rep_get _ _ _ hh
      rw [Fm.sets_get _ _ _ _ hh, h4, Array.getD_eq_getD_getElem?, Array.getElem?_append]
      cases hx : xs[i]? with
      | some x =>
        obtain ⟨u, h6, h7⟩ := lsIs_get h hx
        have h8 := (List.getElem?_eq_some_iff.1 h6).1
        have h9 := (List.getElem?_eq_some_iff.1 hx).1
        rw [if_pos (by omega), if_pos (by simpa using h8)]
        have : vs.toArray[i]? = some u := by simpa using h6
        rw [this, Nat.sub_zero, List.getD_eq_getElem?_getD, hx]
        exact h7
      | none =>
        have h8 := List.getElem?_eq_none_iff.1 hx
        rw [if_neg (by omega), if_neg (by simp; omega)]
        have : (Array.replicate (n - vs.toArray.size) undef)[i - vs.toArray.size]? = some undef := by
          rw [Array.getElem?_replicate, if_pos (by simp; omega)]
        rw [this]
        exact undef_is g
  · have h4 := (Fm.rep_get _ _ _ (by rwa [Fm.sets_has] at hi)).1
    simp
    omega
/-- A FUNCTION THAT IS RECKONED WHERE IT IS CALLED. -/
theorem inl_ok {P : Program} {C : Cx} {f : FuncId} {fn : Func} {c0 : Code} (hf : P.funcs[f]? = some fn) (hb : fn.body = some c0) (hn : FnOk P f) (ht : ttOk P C.tt) (hA : C.A = std) (hG : GOk P C.G) (hI : IOk P C.fz C.I) (hm : P.follows .mixedOrders = true) (hd : Code.drawsOk C.I c0 = true) : RunOk P C.fz f (inlRun C fn) := by
  refine ⟨hn, fun w0 r s a w args us K Q h hargs hv hQ => ?_⟩
  unfold inlRun at hv
  rw [hb] at hv
  simp only at hv
  refine calls_of_wp hf hb ?_
  have hS : Sat ⟨w0.w0, w0.F, w0.g, a.tmps :: w0.sv⟩ r ⟨(Fm.rep deep fn.ntmps).sets 0 args, s.objs, s.slots :: s.sav⟩ { tmps := us.toArray ++ Array.replicate (fn.ntmps - us.toArray.size) undef, defers := [] } w :=
    ⟨fm_init hargs _, rfl, ⟨h.below.os, h.below.tape, h.below.output, h.below.size, h.below.block⟩, h.gw, h.rn, h.r1, h.objs, h.mine, h.apart, ⟨h.slots, h.sav⟩⟩
  refine vc_wp ht hA hG hI hm c0 hd _ _ _ _ _ _ _ hS hv ?_
  intro e w1 r' s' a' w' hl h' hk
  have fin : (match resOf C s' fn.results.toList with
      | some l => match s'.sav with
        | sl :: sav => K (resSV l) ⟨sl, s'.objs, sav⟩
        | [] => False
      | none => False) → bodyPost P fn Q .normal a' w' := by
    intro hk
    cases hr : resOf C s' fn.results.toList with
    | none => rw [hr] at hk; exact hk.elim
    | some l =>
      rw [hr] at hk
      obtain ⟨v, h5, h6⟩ := run_results h' ht hA hr
      have hsv := h'.sav
      cases hs : s'.sav with
      | nil => rw [hs] at hk; exact hk.elim
      | cons sl sav =>
        rw [hs] at hk hsv
        simp only at hk
        have hlw : w1.sv = a.tmps :: w0.sv := hl.sv
        rw [hlw] at hsv
        have hS' : Sat ⟨w1.w0, w1.F, w1.g, w0.sv⟩ r' ⟨sl, s'.objs, sav⟩ a w' := ⟨hsv.1, h.defs, ⟨h'.below.os, h'.below.tape, h'.below.output, h'.below.size, h'.below.block⟩, h'.gw, h'.rn, h'.r1, h'.objs, h'.mine, h'.apart, hsv.2⟩
        exact ⟨h'.defs, v, h5, hQ ⟨w1.w0, w1.F, w1.g, w0.sv⟩ _ _ _ _ _ ⟨hl.w, hl.F, rfl, hl.sub, hl.new, hl.no⟩ hS' h6 hk⟩
  cases e with
  | normal => exact fin hk
  | ret => exact fin hk
  | _ => exact hk.elim
/-- The functions' texts, and that they may be reckoned so. -/
def InlOk (P : Program) : List (FuncId × Func) → Prop
  | [] => True
  | (f, fn) :: l => (P.funcs[f]? = some fn ∧ FnOk P f ∧ (fn.body.map (Code.drawsOk l)) = some true) ∧ InlOk P l
theorem hasI_eq (C : Cx) (hC : C.I = []) (f : FuncId) : ∀ l : List (FuncId × Func), hasI (inls C l) f = hasI l f
  | [] => by unfold inls; rw [hC]; rfl
  | (g, fn) :: l => by
    have ih := hasI_eq C hC f l
    have e : inls C ((g, fn) :: l) = (g, inlRun (C.inl (inls C l)) fn) :: inls C l := rfl
    rw [e]
    unfold hasI
    simp only [assoc]
    cases Nat.beq g f with
    | true => rfl
    | false => exact ih
theorem isEff_eq (C : Cx) (hC : C.I = []) (l : List (FuncId × Func)) (op : Op) : isEff (inls C l) op = isEff l op := by
  unfold isEff
  split
  · rfl
  · rfl
  · split
    · rfl
    · rfl
    · exact hasI_eq C hC _ l
    · rfl
    · rfl
  · rfl
theorem nGrow_eq (C : Cx) (hC : C.I = []) (l : List (FuncId × Func)) : ∀ ops, nGrow (inls C l) ops = nGrow l ops
  | [] => rfl
  | o :: ops => by unfold nGrow; rw [isEff_eq C hC, nGrow_eq C hC l ops]
theorem taint_eq (C : Cx) (hC : C.I = []) (l : List (FuncId × Func)) : ∀ (ops : List Oper) (acc : List Bool), taint (inls C l) ops acc = taint l ops acc
  | [], _ => rfl
  | o :: ops, acc => by unfold taint; rw [isEff_eq C hC, taint_eq C hC l ops]
theorem ord_eq (C : Cx) (hC : C.I = []) (l : List (FuncId × Func)) (ops : Array Oper) : ordOf (inls C l) ops = ordOf l ops := by
  unfold ordOf
  rw [taint_eq C hC]
theorem tree_eq (C : Cx) (hC : C.I = []) (l : List (FuncId × Func)) (ops : List Oper) : treeB (inls C l) ops = treeB l ops := by
  unfold treeB
  rw [taint_eq C hC]
theorem draws_eq (C : Cx) (hC : C.I = []) (l : List (FuncId × Func)) : ∀ c : Code, Code.drawsOk (inls C l) c = Code.drawsOk l c
  | .region _ ops d => by simp only [Code.drawsOk, drawOk, drawOk0, drawOk1, nGrow_eq C hC l, ord_eq C hC l, tree_eq C hC l]
  | .seq a b => by simp only [Code.drawsOk, draws_eq C hC l a, draws_eq C hC l b]
  | .cond _ a b => by simp only [Code.drawsOk, draws_eq C hC l a, draws_eq C hC l b]
  | .block _ b => by simp only [Code.drawsOk, draws_eq C hC l b]
  | .loop b => by simp only [Code.drawsOk, draws_eq C hC l b]
  | .skip => rfl
  | .exit _ => rfl
  | .ret => rfl
  | .rangeFunc .. => rfl
  | .scope _ => rfl
  | .label _ => rfl
  | .goto _ => rfl
  | .refuse _ => rfl
theorem inls_ok {P : Program} {C : Cx} (hC : C.I = []) (ht : ttOk P C.tt) (hA : C.A = std) (hG : GOk P C.G) (hm : P.follows .mixedOrders = true) : ∀ {l : List (FuncId × Func)}, InlOk P l → IOk P C.fz (inls C l)
  | [], _ => by
    intro f run h
    unfold inls at h
    rw [hC] at h
    cases h
  | (f, fn) :: l, ⟨⟨h1, h2, h3⟩, h4⟩ => by
    have ih := inls_ok hC ht hA hG hm h4
    intro f' run h
    unfold inls at h
    rcases List.mem_cons.1 h with h | h
    · cases h
      cases hb : fn.body with
      | none => rw [hb] at h3; cases h3
      | some c0 =>
        rw [hb] at h3
        refine inl_ok (C := C.inl (inls C l)) h1 hb h2 ht hA hG ih hm ?_
        show Code.drawsOk (inls C l) c0 = true
        rw [draws_eq C hC]
        simpa using h3
    · exact ih f' run h
/-- A FUNCTION KEEPS ITS CONTRACT. -/
theorem fn_okI {P : Program} {ck : Bool} {f : FuncId} {fn : Func} {c0 : Code} {tt : List (TypeId × TD)} {c : Ctr} {G : List (FuncId × Ctr)} {I : List (FuncId × (List SV → AS → (SV → AS → Prop) → Prop))} (hf : P.funcs[f]? = some fn) (hb : fn.body = some c0) (ht : ttOk P tt) (hG : GOk P G) (hI : IOk P (!c.al) I) (hm : P.follows .mixedOrders = true) (hd : Code.drawsOk I c0 = true)
    (hv : ∀ as xs, svArgs c.tys as = some xs → (∀ x ∈ xs, SVf x) → (∀ p, c.pre as = some p → p) → vcFn ⟨std, tt, G, ck, c.al, I, !c.al⟩ fn xs (c.res as)) : CtrOk P f c := by
  intro as w g vs hargs hga hpre
  obtain ⟨xs, h1, h2, h3⟩ := args_sv hargs
  have hvc := hv as xs h1 h3 hpre
  unfold vcFn at hvc
  rw [hb] at hvc
  simp only at hvc
  refine calls_of_wp hf hb ?_
  have hlen := lsIs_len h2
  let g' : World := bif c.al then g else w
  have hg' : SubW g' w ∧ LsIs g' noR xs vs := by
    cases hal : c.al with
    | false => exact ⟨by simp only [g', hal, cond_false]; exact SubW.refl w, by simp only [g', hal, cond_false]; exact h2⟩
    | true =>
      obtain ⟨h4, h5⟩ := hga hal
      obtain ⟨xs', h6, h7, _⟩ := args_sv h5
      rw [h1] at h6
      cases h6
      exact ⟨by simp only [g', hal, cond_true]; exact h4, by simp only [g', hal, cond_true]; exact h7⟩
  have hS : Sat ⟨w, fun _ => False, g', []⟩ noR ⟨(Fm.rep deep fn.ntmps).sets 0 xs, [], []⟩ { tmps := vs.toArray ++ Array.replicate (fn.ntmps - vs.toArray.size) undef, defers := [] } w := by
    refine ⟨fm_init hg'.2 _, rfl, Keeps.refl ⟨w, fun _ => False, g', []⟩, hg'.1, fun _ _ => rfl, fun i h hi => (by cases hi), fun id hne => ?_, fun id q b hne => ?_, fun i j hi hj b _ hgi => ?_, trivial⟩
    · exact absurd (by simp [AS.ob]) hne
    · exact absurd (by simp [AS.ob]) hne
    · exact absurd (by simp [AS.ob]) hgi
  refine vc_wp (C := ⟨std, tt, G, ck, c.al, I, !c.al⟩) ht rfl hG hI hm c0 hd _ _ _ _ _ _ _ hS hvc ?_
  intro e w1 r' s' a' w' hl h' hk
  have fin : (match resOf ⟨std, tt, G, ck, c.al, I, !c.al⟩ s' fn.results.toList with
      | some l => (c.res as).fits c.al s'.ob (resSV l)
      | none => False) → bodyPost P fn (fun e w' => ∃ v, e = .returned v ∧ Gv (bif c.al then g else gE) noR 0 w (c.res as).pick v w') .normal a' w' := by
    intro hk
    cases hr : resOf ⟨std, tt, G, ck, c.al, I, !c.al⟩ s' fn.results.toList with
    | none => rw [hr] at hk; exact hk.elim
    | some l =>
      rw [hr] at hk
      obtain ⟨v, h5, h6⟩ := run_results (C := ⟨std, tt, G, ck, c.al, I, !c.al⟩) h' ht rfl hr
      have hF : ∀ k, ¬ w1.F k := fun k => by rw [hl.F]; exact fun h => h
      have h7 := fits_gv h' hF h6 _ hk
      refine ⟨h'.defs, v, h5, v, rfl, ?_⟩
      have e : (bif c.al then w1.g else gE) = (bif c.al then g else gE) := by
        cases hal : c.al with
        | false => rfl
        | true =>
          simp only [cond_true]
          have := hl.no (by simp [hal])
          rw [this]
          simp only [g', hal, cond_true]
      rw [e, hl.w] at h7
      exact h7
  cases e with
  | normal => exact fin hk
  | ret => exact fin hk
  | _ => exact hk.elim
theorem fn_ok {P : Program} {ck : Bool} {f : FuncId} {fn : Func} {c0 : Code} {tt : List (TypeId × TD)} {G : List (FuncId × Ctr)} (hf : P.funcs[f]? = some fn) (hb : fn.body = some c0) (ht : ttOk P tt) (hG : GOk P G) (hm : P.follows .mixedOrders = true) (hd : Code.drawsOk ([] : List (FuncId × Func)) c0 = true) {c : Ctr}
    (hv : ∀ as xs, svArgs c.tys as = some xs → (∀ x ∈ xs, SVf x) → (∀ p, c.pre as = some p → p) → vcFn ⟨std, tt, G, ck, c.al, [], !c.al⟩ fn xs (c.res as)) : CtrOk P f c :=
  fn_okI hf hb ht hG (fun _ _ h => by cases h) hm (by rw [← hd]; exact draws_eq ⟨std, tt, G, ck, c.al, [], !c.al⟩ rfl [] c0) hv
/-- The same, with functions that are reckoned where they are called. -/
theorem fn_inl {P : Program} {ck : Bool} {f : FuncId} {fn : Func} {c0 : Code} {tt : List (TypeId × TD)} {G : List (FuncId × Ctr)} (l : List (FuncId × Func)) (hl : InlOk P l) (hf : P.funcs[f]? = some fn) (hb : fn.body = some c0) (ht : ttOk P tt) (hG : GOk P G) (hm : P.follows .mixedOrders = true) (hd : Code.drawsOk l c0 = true) {c : Ctr}
    (hv : ∀ as xs, svArgs c.tys as = some xs → (∀ x ∈ xs, SVf x) → (∀ p, c.pre as = some p → p) → vcFn ⟨std, tt, G, ck, c.al, inls ⟨std, tt, G, ck, c.al, [], !c.al⟩ l, !c.al⟩ fn xs (c.res as)) : CtrOk P f c :=
  fn_okI hf hb ht hG (inls_ok (C := ⟨std, tt, G, ck, c.al, [], !c.al⟩) rfl ht rfl hG hm hl) hm (by rw [draws_eq ⟨std, tt, G, ck, c.al, [], !c.al⟩ rfl]; exact hd) hv
/-! ### Contracts of memory that nobody writes any more -/
def FOk (P : Program) (f : FuncId) (c : FCtr) : Prop := ∀ (as : List AV) (w g : World) (vs : List Value), SubW g w → ArgsIs g c.tys as vs → (∀ p, c.pre as = some p → p) →
  Calls P f vs.toArray w fun e w' => ∃ v g', e = .returned v ∧ GvF g g' w (c.res as).pick v w'
/-- Such a contract, where it is called. -/
theorem frz_run {P : Program} {f : FuncId} {c : FCtr} {tt : List (TypeId × TD)} (ht : ttOk P tt) (hn : FnOk P f) (h : FOk P f c) : RunOk P true f (frzRun std c) := by
  refine ⟨hn, fun w0 r s a w args us K Q hs hargs hv hQ => ?_⟩
  unfold frzRun at hv
  obtain ⟨w1, hle, h1, h2⟩ := Sat.frz2 (argIds args) hs hargs
  split at hv
  rename_i s1 xs he
  rw [he] at h1 h2
  simp only at h1 h2
  split at hv
  · rename_i as has
    obtain ⟨hp, hv⟩ := hv
    have E2 : Env P ⟨std, tt, [], true, true, [], true⟩ w1.g r s1.objs.length 0 w1.g (fun _ => .gone) := ⟨ht, rfl, h1.r1, h1.rn, SubW.refl _, fun id hh => absurd rfl hh⟩
    have ha := avArgs_is E2 _ _ _ as has h2
    refine (h as w w1.g us h1.gw ha fun p hpp => ?_).mono ?_
    · rw [hpp] at hp; exact hp
    · rintro e w' ⟨v, g', rfl, hgv⟩
      obtain ⟨l2, h3, h4⟩ := h1.gvF hgv
      have hk := Out.vc_pick hv
      rw [shift_pick] at hk
      exact hQ _ _ _ _ _ _ (hle.trans l2) h3 h4 hk
  · exact hv.elim
/-- A function keeps such a contract. -/
theorem fn_okF {P : Program} {ck : Bool} {f : FuncId} {fn : Func} {c0 : Code} {tt : List (TypeId × TD)} {c : FCtr} {G : List (FuncId × Ctr)} {I : List (FuncId × (List SV → AS → (SV → AS → Prop) → Prop))} (hf : P.funcs[f]? = some fn) (hb : fn.body = some c0) (ht : ttOk P tt) (hG : GOk P G) (hI : IOk P true I) (hm : P.follows .mixedOrders = true) (hd : Code.drawsOk I c0 = true)
    (hv : ∀ as xs, svArgs c.tys as = some xs → (∀ x ∈ xs, SVf x) → (∀ p, c.pre as = some p → p) → vcFnF ⟨std, tt, G, ck, true, I, true⟩ fn xs c.fr (c.res as)) : FOk P f c := by
  intro as w g vs hg hargs hpre
  obtain ⟨xs, h1, h2, h3⟩ := args_sv hargs
  have hvc := hv as xs h1 h3 hpre
  unfold vcFnF at hvc
  rw [hb] at hvc
  simp only at hvc
  refine calls_of_wp hf hb ?_
  have hlen := lsIs_len h2
  have hS : Sat ⟨w, fun _ => False, g, []⟩ noR ⟨(Fm.rep deep fn.ntmps).sets 0 xs, [], []⟩ { tmps := vs.toArray ++ Array.replicate (fn.ntmps - vs.toArray.size) undef, defers := [] } w := by
    refine ⟨fm_init h2 _, rfl, Keeps.refl ⟨w, fun _ => False, g, []⟩, hg, fun _ _ => rfl, fun i h hi => (by cases hi), fun id hne => ?_, fun id q b hne => ?_, fun i j hi hj b _ hgi => ?_, trivial⟩
    · exact absurd (by simp [AS.ob]) hne
    · exact absurd (by simp [AS.ob]) hne
    · exact absurd (by simp [AS.ob]) hgi
  refine vc_wp (C := ⟨std, tt, G, ck, true, I, true⟩) ht rfl hG hI hm c0 hd _ _ _ _ _ _ _ hS hvc ?_
  intro e w1 r' s' a' w' hl h' hk
  have last : ∀ {w2 : Fr} {s2 : AS} {x : SV} {v : Value}, Fr.le true ⟨w, fun _ => False, g, []⟩ w2 → Sat w2 r' s2 a' w' → x.Is w2.g r' v → (c.res as).fits true s2.ob x → GvF g w2.g w (c.res as).pick v w' := by
    intro w2 s2 x v hl2 h2 hx hfit
    have hF : ∀ k, ¬ w2.F k := fun k => by rw [hl2.F]; exact fun h => h
    have h7 := fits_gv h2 hF hx _ hfit
    rw [hl2.w] at h7
    refine ⟨hl2.sub, h2.gw, fun b o u hu => ?_, h7, ?_⟩
    · rcases hl2.new b o u hu with h8 | h8
      · exact .inl h8
      · rcases h8 with h8 | h8
        · exact .inr h8
        · exact h8.elim
    · intro k o u b hk hne hu hb o'
      exact fits_sep h2 hx _ hfit k o u b hk hne hu hb o'
  have fin : (match resOf ⟨std, tt, G, ck, true, I, true⟩ s' fn.results.toList with
      | some l => match c.fr with
        | true => match frz2 std (argIds l) (s', [resSV l]) with
          | (s1, [x]) => (c.res as).fits true s1.ob x
          | _ => False
        | false => (c.res as).fits true s'.ob (resSV l)
      | none => False) → bodyPost P fn (fun e w' => ∃ v g', e = .returned v ∧ GvF g g' w (c.res as).pick v w') .normal a' w' := by
    intro hk
    cases hr : resOf ⟨std, tt, G, ck, true, I, true⟩ s' fn.results.toList with
    | none => rw [hr] at hk; exact hk.elim
    | some l =>
      rw [hr] at hk
      obtain ⟨v, h5, h6⟩ := run_results (C := ⟨std, tt, G, ck, true, I, true⟩) h' ht rfl hr
      cases hfr : c.fr with
      | false =>
        rw [hfr] at hk
        exact ⟨h'.defs, v, h5, v, w1.g, rfl, last hl h' h6 hk⟩
      | true =>
        rw [hfr] at hk
        simp only at hk
        obtain ⟨w2, hl2, h8, h9⟩ := Sat.frz2 (argIds l) h' (xs := [resSV l]) (us := [v]) (by simp only [LsIs]; exact ⟨_, _, rfl, h6, rfl⟩)
        split at hk
        · rename_i s1 x he
          rw [he] at h8 h9
          simp only at h8 h9
          obtain ⟨u, hu, hx⟩ := ls1 h9
          cases hu
          exact ⟨h'.defs, v, h5, v, w2.g, rfl, last (hl.trans hl2) h8 hx hk⟩
        · exact hk.elim
  cases e with
  | normal => exact fin hk
  | ret => exact fin hk
  | _ => exact hk.elim
/-- The contracts that are used so. -/
def FOks (P : Program) : List (FuncId × FCtr) → Prop
  | [] => True
  | x :: l => (FnOk P x.1 ∧ FOk P x.1 x.2) ∧ FOks P l
def frzs (A : Sy) (l : List (FuncId × FCtr)) : List (FuncId × (List SV → AS → (SV → AS → Prop) → Prop)) := l.map fun x => (x.1, frzRun A x.2)
theorem frzs_ok {P : Program} {tt : List (TypeId × TD)} (ht : ttOk P tt) : ∀ {l : List (FuncId × FCtr)}, FOks P l → IOk P true (frzs std l)
  | [], _ => fun f run h => by cases h
  | x :: l, ⟨⟨h1, h2⟩, h3⟩ => by
    intro f run h
    rcases List.mem_cons.1 h with h | h
    · cases h
      exact frz_run ht h1 h2
    · exact frzs_ok ht h3 f run h
/-! ### Both: functions that are reckoned where they are called, such contracts -/
def ids {α β : Type} (l : List (FuncId × α)) (m : List (FuncId × β)) : List (FuncId × Unit) := l.map (fun x => (x.1, ())) ++ m.map (fun x => (x.1, ()))
theorem hasI_cons {α : Type} (g : FuncId) (x : α) (l : List (FuncId × α)) (f : FuncId) : hasI ((g, x) :: l) f = (Nat.beq g f || hasI l f) := by
  unfold hasI
  simp only [assoc]
  cases Nat.beq g f <;> rfl
theorem hasI_map {α β : Type} (m : List (FuncId × β)) (g : β → α) (f : FuncId) : hasI (m.map fun x => (x.1, g x.2)) f = hasI m f := by
  induction m with
  | nil => rfl
  | cons x m ih =>
    obtain ⟨k, x⟩ := x
    rw [List.map_cons, hasI_cons, hasI_cons, ih]
theorem hasI_ids {α β : Type} (l : List (FuncId × α)) (m : List (FuncId × β)) (f : FuncId) : hasI (ids l m) f = (hasI l f || hasI m f) := by
  induction l with
  | nil =>
    unfold ids
    rw [List.map_nil, List.nil_append, hasI_map m (fun _ => ()) f]
    rfl
  | cons x l ih =>
    obtain ⟨k, x⟩ := x
    have e : ids ((k, x) :: l) m = (k, ()) :: ids l m := rfl
    rw [e, hasI_cons, hasI_cons, ih, Bool.or_assoc]
theorem isEff_ids {α β : Type} {I : List (FuncId × α)} {J : List (FuncId × β)} (h : ∀ f, hasI I f = hasI J f) (op : Op) : isEff I op = isEff J op := by
  unfold isEff
  split
  · rfl
  · rfl
  · split
    · rfl
    · rfl
    · exact h _
    · rfl
    · rfl
  · rfl
theorem nGrow_ids {α β : Type} {I : List (FuncId × α)} {J : List (FuncId × β)} (h : ∀ f, hasI I f = hasI J f) : ∀ ops, nGrow I ops = nGrow J ops
  | [] => rfl
  | o :: ops => by unfold nGrow; rw [isEff_ids h, nGrow_ids h ops]
theorem taint_ids {α β : Type} {I : List (FuncId × α)} {J : List (FuncId × β)} (h : ∀ f, hasI I f = hasI J f) : ∀ (ops : List Oper) (acc : List Bool), taint I ops acc = taint J ops acc
  | [], _ => rfl
  | o :: ops, acc => by unfold taint; rw [isEff_ids h, taint_ids h ops]
theorem ord_ids {α β : Type} {I : List (FuncId × α)} {J : List (FuncId × β)} (h : ∀ f, hasI I f = hasI J f) (ops : Array Oper) : ordOf I ops = ordOf J ops := by
  unfold ordOf
  rw [taint_ids h]
theorem tree_ids {α β : Type} {I : List (FuncId × α)} {J : List (FuncId × β)} (h : ∀ f, hasI I f = hasI J f) (ops : List Oper) : treeB I ops = treeB J ops := by
  unfold treeB
  rw [taint_ids h]
theorem draws_ids {α β : Type} {I : List (FuncId × α)} {J : List (FuncId × β)} (h : ∀ f, hasI I f = hasI J f) : ∀ c : Code, Code.drawsOk I c = Code.drawsOk J c
  | .region _ ops d => by simp only [Code.drawsOk, drawOk, drawOk0, drawOk1, nGrow_ids h, ord_ids h, tree_ids h]
  | .seq a b => by simp only [Code.drawsOk, draws_ids h a, draws_ids h b]
  | .cond _ a b => by simp only [Code.drawsOk, draws_ids h a, draws_ids h b]
  | .block _ b => by simp only [Code.drawsOk, draws_ids h b]
  | .loop b => by simp only [Code.drawsOk, draws_ids h b]
  | .skip => rfl
  | .exit _ => rfl
  | .ret => rfl
  | .rangeFunc .. => rfl
  | .scope _ => rfl
  | .label _ => rfl
  | .goto _ => rfl
  | .refuse _ => rfl
theorem hasI_inls2 (C : Cx) {fl : List (FuncId × FCtr)} (hC : C.I = frzs std fl) (f : FuncId) : ∀ l : List (FuncId × Func), hasI (inls C l) f = hasI (ids l fl) f
  | [] => by
    rw [hasI_ids]
    unfold inls
    rw [hC]
    exact hasI_map fl (frzRun std) f
  | (g, fn) :: l => by
    have ih := hasI_inls2 C hC f l
    have e : inls C ((g, fn) :: l) = (g, inlRun (C.inl (inls C l)) fn) :: inls C l := rfl
    have e2 : ids ((g, fn) :: l) fl = (g, ()) :: ids l fl := rfl
    rw [e, e2, hasI_cons, hasI_cons, ih]
def InlOk2 (P : Program) (fl : List (FuncId × FCtr)) : List (FuncId × Func) → Prop
  | [] => True
  | (f, fn) :: l => (P.funcs[f]? = some fn ∧ FnOk P f ∧ (fn.body.map (Code.drawsOk (ids l fl))) = some true) ∧ InlOk2 P fl l
theorem inls2_ok {P : Program} {C : Cx} {fl : List (FuncId × FCtr)} (hC : C.I = frzs std fl) (hz : C.fz = true) (ht : ttOk P C.tt) (hA : C.A = std) (hG : GOk P C.G) (hF : FOks P fl) (hm : P.follows .mixedOrders = true) : ∀ {l : List (FuncId × Func)}, InlOk2 P fl l → IOk P C.fz (inls C l)
  | [], _ => by
    unfold inls
    rw [hC, hz]
    exact frzs_ok ht hF
  | (f, fn) :: l, ⟨⟨h1, h2, h3⟩, h4⟩ => by
    have ih := inls2_ok hC hz ht hA hG hF hm h4
    intro f' run h
    unfold inls at h
    rcases List.mem_cons.1 h with h | h
    · cases h
      cases hb : fn.body with
      | none => rw [hb] at h3; cases h3
      | some c0 =>
        rw [hb] at h3
        refine inl_ok (C := C.inl (inls C l)) h1 hb h2 ht hA hG ih hm ?_
        show Code.drawsOk (inls C l) c0 = true
        rw [draws_ids (hasI_inls2 C hC · l)]
        simpa using h3
    · exact ih f' run h
/-- A contract of any kind, with both. -/
theorem fn_inl2 {P : Program} {ck : Bool} {f : FuncId} {fn : Func} {c0 : Code} {tt : List (TypeId × TD)} {c : Ctr} (hal : c.al = false) {G : List (FuncId × Ctr)} (fl : List (FuncId × FCtr)) (hF : FOks P fl) (l : List (FuncId × Func)) (hl : InlOk2 P fl l) (hf : P.funcs[f]? = some fn) (hb : fn.body = some c0) (ht : ttOk P tt) (hG : GOk P G) (hm : P.follows .mixedOrders = true) (hd : Code.drawsOk (ids l fl) c0 = true)
    (hv : ∀ as xs, svArgs c.tys as = some xs → (∀ x ∈ xs, SVf x) → (∀ p, c.pre as = some p → p) → vcFn ⟨std, tt, G, ck, false, inls ⟨std, tt, G, ck, false, frzs std fl, true⟩ l, true⟩ fn xs (c.res as)) : CtrOk P f c := by
  refine fn_okI (ck := ck) (I := inls ⟨std, tt, G, ck, false, frzs std fl, true⟩ l) hf hb ht hG ?_ hm ?_ ?_
  · rw [hal]
    exact inls2_ok (C := ⟨std, tt, G, ck, false, frzs std fl, true⟩) rfl rfl ht rfl hG hF hm hl
  · rw [draws_ids (hasI_inls2 ⟨std, tt, G, ck, false, frzs std fl, true⟩ rfl · l)]
    exact hd
  · rw [hal]
    exact hv
theorem fn_inlF {P : Program} {ck : Bool} {f : FuncId} {fn : Func} {c0 : Code} {tt : List (TypeId × TD)} {c : FCtr} {G : List (FuncId × Ctr)} (fl : List (FuncId × FCtr)) (hF : FOks P fl) (l : List (FuncId × Func)) (hl : InlOk2 P fl l) (hf : P.funcs[f]? = some fn) (hb : fn.body = some c0) (ht : ttOk P tt) (hG : GOk P G) (hm : P.follows .mixedOrders = true) (hd : Code.drawsOk (ids l fl) c0 = true)
    (hv : ∀ as xs, svArgs c.tys as = some xs → (∀ x ∈ xs, SVf x) → (∀ p, c.pre as = some p → p) → vcFnF ⟨std, tt, G, ck, true, inls ⟨std, tt, G, ck, true, frzs std fl, true⟩ l, true⟩ fn xs c.fr (c.res as)) : FOk P f c := by
  refine fn_okF (ck := ck) (I := inls ⟨std, tt, G, ck, true, frzs std fl, true⟩ l) hf hb ht hG ?_ hm ?_ hv
  · exact inls2_ok (C := ⟨std, tt, G, ck, true, frzs std fl, true⟩) rfl rfl ht rfl hG hF hm hl
  · rw [draws_ids (hasI_inls2 ⟨std, tt, G, ck, true, frzs std fl, true⟩ rfl · l)]
    exact hd
end Go.Proofs.Ytekokhlldcmjfaa
