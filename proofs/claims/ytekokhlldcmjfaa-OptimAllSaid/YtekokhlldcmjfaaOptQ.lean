/- How many bytes each row of numbers in an argument has, at most. No program in sight. -/
import Derived.Test.YtekokhlldcmjfaaOpen
import Derived.Test.YtekokhlldcmjfaaOptE
import Derived.Test.YtekokhlldcmjfaaOptP
namespace Go.Proofs.Ytekokhlldcmjfaa
open Go.RowKit Go.ChangeShapes Go.WideShapes Go.Deep
set_option linter.unusedVariables false
def kB : IntKind → Nat
  | .i8 => 1
  | .u8 => 1
  | .i16 => 2
  | .u16 => 2
  | .i32 => 4
  | .u32 => 4
  | _ => 8
mutual
def Sz (M : Nat) : Ty → Dat → Prop
  | .sl e, d => match d with
    | .list ds => (∀ k, e = .int k → ds.length * kB k ≤ M) ∧ ∀ u ∈ ds, Sz M e u
    | _ => True
  | .st fs, d => match d with
    | .agg ds => SzL M fs ds
    | _ => True
  | _, _ => True
def SzL (M : Nat) : List Ty → List Dat → Prop
  | t :: ts, ds => match ds with
    | d :: ds => Sz M t d ∧ SzL M ts ds
    | [] => True
  | [], _ => True
end
/-- Numbers have as many bytes as their kind. -/
def bOk (P : Program) : Nat → TypeId → Bool
  | 0, _ => false
  | n + 1, t => match P.underlying t with
    | some (.slice e) => (match P.underlying e with | some (.int k) => Nat.beq (P.bytesOf e) (kB k) | _ => true) && bOk P n e
    | some (.struct fs) => fs.toList.all fun f => bOk P n f.type
    | some (.array _ e) => bOk P n e
    | _ => true
section
variable {M : Nat} {H : Type} {enc : TypeId × Value → H} {P : Program} {w : World} {base : Nat} {held : Bool}
def SzAt (M : Nat) (enc : TypeId × Value → H) (P : Program) (w : World) (base : Nat) (held : Bool) (n : Nat) : Prop :=
  ∀ (t : TypeId) (T : Ty) (fuel : Nat) (cs : List Value) (x : DataW H × List MemPlace) (d : Dat), tyOf P n t = some T → bOk P n t = true →
    DataW.trod enc P w base (fun _ => true) held fuel t cs = some x → (∀ m ∈ x.1.weights P t, m ≤ M) → Rd M w T cs d → Sz M T d
theorem sz_fields {n : Nat} (ih : SzAt M enc P w base held n) (cs : List Value) (m : Nat) :
    ∀ (fs : List Field) (off : Nat) (Ts : List Ty) (xs : List (DataW H × List MemPlace)) (ds : List Dat), fieldsOf P (tyOf P n) off fs = some Ts → (fs.all fun f => bOk P n f.type) = true → xs.length = fs.length →
      (∀ (i : Nat) (f : Field), fs[i]? = some f → DataW.trod enc P w base (fun _ => true) held m f.type ((cs.drop f.offset).take (P.cellsOf f.type)) = xs[i]?) →
      (∀ k ∈ DataW.weightsEach P (fs.map (·.type)) (xs.map (·.1)), k ≤ M) → RdL M w Ts (cs.drop off) ds → SzL M Ts ds := by
  intro fs
  induction fs with
  | nil =>
    intro off Ts xs ds hT _ hl _ _ hd
    simp only [fieldsOf, Option.some.injEq] at hT
    subst hT
    cases ds <;> simp [SzL]
  | cons f fs ihf =>
    intro off Ts xs ds hT hb hl hx hw hd
    simp only [fieldsOf] at hT
    simp only [List.all_cons, Bool.and_eq_true] at hb
    obtain ⟨T, hT1, hT2⟩ := Option.bind_eq_some_iff.1 hT
    split at hT2
    · rename_i hc
      obtain ⟨Ts', hT3, rfl⟩ := Option.map_eq_some_iff.1 hT2
      cases xs with
      | nil => simp at hl
      | cons x xs =>
        have h0 := hx 0 f rfl
        simp only [List.getElem?_cons_zero] at h0
        simp only [List.map_cons, DataW.weightsEach, List.mem_append] at hw
        rw [RdL] at hd
        obtain ⟨c1, c2, u, us, e1, e2, rfl, h1, h2⟩ := hd
        rw [hc.1, hc.2, e1, ← e2, List.take_left] at h0
        have e3 : cs.drop (off + T.size) = c2 := by rw [← List.drop_drop, e1, ← e2, List.drop_left]
        simp only [SzL]
        refine ⟨ih f.type T m _ x u hT1 hb.1 h0 (fun k hk => hw k (.inl hk)) h1, ?_⟩
        exact ihf (off + T.size) Ts' xs us hT3 hb.2 (by simpa using hl) (fun i g hg => by have := hx (i + 1) g (by simpa using hg); simpa using this) (fun k hk => hw k (.inr hk)) (by rw [e3]; exact h2)
    · cases hT2
theorem sz_elems {n : Nat} (ih : SzAt M enc P w base held n) (cs : List Value) (m : Nat) (e : TypeId) (T : Ty) (hT : tyOf P n e = some T) (hb : bOk P n e = true) (hc : P.cellsOf e = T.size) :
    ∀ (k off : Nat) (xs : List (DataW H × List MemPlace)) (ds : List Dat), xs.length = k →
      (∀ i, i < k → DataW.trod enc P w base (fun _ => true) held m e ((cs.drop ((off + i) * P.cellsOf e)).take (P.cellsOf e)) = xs[i]?) →
      (∀ q ∈ DataW.weightsAll P e (xs.map (·.1)), q ≤ M) → RdL M w (List.replicate k T) (cs.drop (off * P.cellsOf e)) ds → SzL M (List.replicate k T) ds := by
  intro k
  induction k with
  | zero =>
    intro off xs ds _ _ _ _
    rw [List.replicate_zero]
    cases ds <;> simp [SzL]
  | succ k ihk =>
    intro off xs ds hl hx hw hd
    cases xs with
    | nil => simp at hl
    | cons x xs =>
      have h0 := hx 0 (by omega)
      simp only [List.getElem?_cons_zero, Nat.add_zero] at h0
      simp only [List.map_cons, DataW.weightsAll, List.mem_append] at hw
      rw [List.replicate_succ, RdL] at hd
      obtain ⟨c1, c2, u, us, e1, e2, rfl, h1, h2⟩ := hd
      rw [e1, hc, ← e2, List.take_left] at h0
      have e3 : cs.drop ((off + 1) * P.cellsOf e) = c2 := by rw [Nat.add_mul, Nat.one_mul, ← List.drop_drop, e1, hc, ← e2, List.drop_left]
      rw [List.replicate_succ]
      simp only [SzL]
      refine ⟨ih e T m _ x u hT hb h0 (fun q hq => hw q (.inl hq)) h1, ?_⟩
      exact ihk (off + 1) xs us (by simpa using hl) (fun i hi => by have := hx (i + 1) (by omega); rw [show off + (i + 1) = off + 1 + i from by omega] at this; simpa using this) (fun q hq => hw q (.inr hq)) (by rw [e3]; exact h2)
theorem sz_at (n : Nat) : SzAt M enc P w base held n := by
  induction n with
  | zero => intro t T fuel cs x d hT; simp [tyOf] at hT
  | succ n ih =>
    intro t T fuel cs x d hT hB h hw hd
    unfold tyOf at hT
    split at hT
    · cases hT; simp [Sz]
    · cases hT; simp [Sz]
    · cases hT; simp [Sz]
    · rename_i e hu
      obtain ⟨E, hE, hT2⟩ := Option.bind_eq_some_iff.1 hT
      split at hT2
      · rename_i hc
        cases hT2
        rw [Rd] at hd
        obtain ⟨ao, cp, ds, ecs, rfl, hlc, hcM, hcell⟩ := hd
        simp only [bOk, hu, Bool.and_eq_true] at hB
        rcases open_slice hu h with ⟨e1, e2⟩ | ⟨a, len, cap, m, q, D, Pl, e1, hb, hl, hm, hmm, e2, hi⟩
        · rw [ecs] at e1
          simp only [List.cons.injEq, and_true] at e1
          injection e1 with _ e3 _
          have : ds = [] := List.eq_nil_of_length_eq_zero e3
          subst this
          simp [Sz]
        · rw [ecs] at e1
          simp only [List.cons.injEq, and_true] at e1
          injection e1 with e5 e3 e4
          subst e2
          simp only [if_true] at hmm
          simp only [DataW.weights, hu, List.mem_cons, List.mem_append, List.length_map, List.length_range] at hw
          simp only [Sz]
          constructor
          · intro k hk
            subst hk
            have hbe : P.bytesOf e = kB k := by
              have hB1 := hB.1
              have : P.underlying e = some (.int k) := by
                cases n with
                | zero => simp [tyOf] at hE
                | succ n =>
                  unfold tyOf at hE
                  split at hE <;> try (cases hE; done)
                  · cases hE; assumption
                  · obtain ⟨E', _, hE2⟩ := Option.bind_eq_some_iff.1 hE
                    split at hE2 <;> cases hE2
                  · obtain ⟨E', _, hE2⟩ := Option.bind_eq_some_iff.1 hE
                    split at hE2 <;> cases hE2
                  · obtain ⟨E', _, hE2⟩ := Option.bind_eq_some_iff.1 hE
                    split at hE2 <;> cases hE2
              rw [this] at hB1
              exact Nat.eq_of_beq_eq_true hB1
            have h4 := hw _ (.inl rfl)
            rw [← hbe, e3]
            exact Nat.le_trans (Nat.mul_le_mul_right _ (by omega)) h4
          · intro u hu2
            obtain ⟨i, hi1, hi2⟩ := List.getElem_of_mem hu2
            rcases hcell with rfl | ⟨b, o, hao, hcell⟩
            · simp at hi1
            · have hil : i < len := by omega
              have hgi : ds[i]? = some u := by rw [List.getElem?_eq_getElem hi1, hi2]
              obtain ⟨es, he1, he2, he3⟩ := hcell i u hgi
              obtain ⟨es', hf1, hf2⟩ := hi i (by omega)
              obtain ⟨_, hf3, hf4⟩ := World.cells?_some hf1
              rw [hao] at e5
              injection e5 with e5
              subst e5
              have hes : es' = es := by
                apply List.ext_getElem (by rw [he1]; have := hc.1; omega)
                intro j h1 h2
                have g1 := he2 j _ (List.getElem?_eq_getElem h2)
                have g2 := hf4 j (by omega)
                rw [List.getElem?_eq_getElem h1, Addr.add_lit, Addr.add_lit, hc.1] at g2
                rw [show o + (i * E.size + j) = o + i * E.size + j from by omega] at g1
                rw [g1] at g2
                exact (Option.some.inj g2).symm
              subst hes
              have hwi : ∀ m ∈ (D i).weights P e, m ≤ M := fun m hm => hw m (.inr (.inl (mem_weightsAll (List.mem_map.2 ⟨i, List.mem_range.2 hil, rfl⟩) m hm)))
              exact ih e E q es' _ u hE hB.2 hf2 hwi he3
      · cases hT2
    · rename_i fs hu
      obtain ⟨Ts, hTs, hT2⟩ := Option.bind_eq_some_iff.1 hT
      split at hT2
      · rename_i hc
        cases hT2
        obtain ⟨xs, m, _, rfl, hlen, hxl, hx⟩ := DataW.trod_struct hu h
        simp only [DataW.weights, hu] at hw
        rw [Rd] at hd
        obtain ⟨ds, rfl, hds⟩ := hd
        simp only [bOk, hu] at hB
        simp only [Sz]
        exact sz_fields ih cs m fs.toList 0 Ts xs ds hTs hB (by simpa using hxl) (fun i f hf => hx i f (by simpa using hf)) hw (by rw [List.drop_zero]; exact hds)
      · cases hT2
    · rename_i k e hu
      obtain ⟨E, hE, hT2⟩ := Option.bind_eq_some_iff.1 hT
      split at hT2
      · rename_i hc
        cases hT2
        obtain ⟨xs, m, _, rfl, hlen, hxl, hx⟩ := DataW.trod_array hu h
        simp only [DataW.weights, hu] at hw
        rw [Rd] at hd
        obtain ⟨ds, rfl, hds⟩ := hd
        simp only [bOk, hu] at hB
        simp only [Sz]
        exact sz_elems ih cs m e E hE hB hc.1 k 0 xs ds hxl (fun i hi => by rw [Nat.zero_add]; exact hx i hi) hw (by rw [Nat.zero_mul, List.drop_zero]; exact hds)
      · cases hT2
    · cases hT
/-- AN ARGUMENT's ROWS OF NUMBERS ARE NOT LONG. -/
theorem sz_rdv {n : Nat} {t : TypeId} {T : Ty} {v : Value} {d : DataW H} {p : List MemPlace} {u : Dat} (hT : tyOf P n t = some T) (hB : bOk P n t = true)
    (h : DataW.Trod enc P w base (fun _ => true) held t v d p) (hw : ∀ m ∈ d.weights P t, m ≤ M) (hr : RdV M w T v u) : Sz M T u := by
  obtain ⟨fuel, hf⟩ := h
  refine sz_at n t T fuel _ _ u hT hB hf hw ?_
  unfold RdV at hr
  have one : ∀ {T : Ty}, Rd M w T [v] u → (∀ fs, T ≠ .st fs) → Rd M w T v.cells.toList u := by
    intro T h hne
    have hv : v.cells.toList = [v] := by
      cases T with
      | st fs => exact absurd rfl (hne fs)
      | int k => rw [Rd] at h; obtain ⟨z, h, _⟩ := h; cases h; rfl
      | bool => rw [Rd] at h; obtain ⟨z, h, _⟩ := h; cases h; rfl
      | str => rw [Rd] at h; obtain ⟨z, h, _⟩ := h; cases h; rfl
      | sl e => rw [Rd] at h; obtain ⟨a, b, ds, h, _⟩ := h; cases h; rfl
    rw [hv]
    exact h
  cases T with
  | st fs =>
    obtain ⟨cs, rfl, h⟩ := hr
    exact h
  | int k => exact one hr (by simp)
  | bool => exact one hr (by simp)
  | str => exact one hr (by simp)
  | sl e => exact one hr (by simp)
end
end Go.Proofs.Ytekokhlldcmjfaa
/- Layer 21: what may be handed over has rows that are not long. -/
namespace Go.Proofs.Ytekokhlldcmjfaa
open Go.RowKit
set_option maxRecDepth 1000000
set_option linter.unusedSimpArgs false
set_option linter.unusedVariables false
/-- The rows of a layer's weights are not long. -/
def szPD (u : Dat) : Prop := ((((u.fld 0).fld 0).ints.length : Int) * 8 ≤ 140737488355328 ∧ (((u.fld 0).fld 2).ints.length : Int) * 1 ≤ 140737488355328) ∧ ((u.fld 1).ints.length : Int) * 4 ≤ 140737488355328 ∧ (((u.fld 2).fld 0).ints.length : Int) * 8 ≤ 140737488355328 ∧ (((u.fld 2).fld 2).ints.length : Int) * 1 ≤ 140737488355328
theorem ints_len (ds : List Dat) : (Dat.list ds).ints.length = ds.length := by simp [Dat.ints, Dat.ls]
theorem sz_prm {M : Nat} {w : World} {cs : List Value} {u : Dat} (hr : Rd M w prmTy cs u) (hs : Sz M prmTy u) (hM : M ≤ 140737488355328) : szPD u := by
  simp only [prmTy, Rd, RdL] at hr
  obtain ⟨ds, rfl, c1, c2, u1, us1, e1, l1, rfl, ⟨ds1, rfl, a1, a2, v1, vs1, q1, m1, rfl, ⟨_, _, x1, _, rfl, _⟩, b1, b2, v2, vs2, q2, m2, rfl, ⟨z2, _, rfl, _⟩, f1, f2, v3, vs3, q3, m3, rfl, ⟨_, _, x3, _, rfl, _⟩, _, rfl⟩, c3, c4, u2, us2, e2, l2, rfl, ⟨_, _, x4, _, rfl, _⟩, c5, c6, u3, us3, e3, l3, rfl, ⟨ds3, rfl, g1, g2, w1, ws1, p1, n1, rfl, ⟨_, _, x5, _, rfl, _⟩, g3, g4, w2, ws2, p2, n2, rfl, ⟨z5, _, rfl, _⟩, g5, g6, w3, ws3, p3, n3, rfl, ⟨_, _, x6, _, rfl, _⟩, _, rfl⟩, _, rfl⟩ := hr
  simp only [prmTy, Sz, SzL] at hs
  obtain ⟨⟨s1, _, s3, _⟩, s4, ⟨s5, _, s6, _⟩, _⟩ := hs
  have t1 := s1.1 .i64 rfl
  have t3 := s3.1 .i8 rfl
  have t4 := s4.1 .i32 rfl
  have t5 := s5.1 .i64 rfl
  have t6 := s6.1 .i8 rfl
  simp only [kB] at t1 t3 t4 t5 t6
  show (((Dat.list x1).ints.length : Int) * 8 ≤ _ ∧ ((Dat.list x3).ints.length : Int) * 1 ≤ _) ∧ ((Dat.list x4).ints.length : Int) * 4 ≤ _ ∧ ((Dat.list x5).ints.length : Int) * 8 ≤ _ ∧ ((Dat.list x6).ints.length : Int) * 1 ≤ _
  simp only [ints_len]
  omega
theorem st_sz {M : Nat} {w : World} {v : Value} {u : Dat} (hr : RdV M w prmTy v u) (hs : Sz M prmTy u) (hM : M ≤ 140737488355328) (a b c d e : AV) : stP [avD prmTy u, a, b, c, d, e] := by
  have hr2 : ∃ cs : Array Value, v = .agg cs ∧ Rd M w prmTy cs.toList u := hr
  obtain ⟨cs, _, h⟩ := hr2
  have h2 := sz_prm h hs hM
  simp only [prmTy, avD, avDs]
  exact h2
end Go.Proofs.Ytekokhlldcmjfaa
/- Layer 21: any weights, any Grad, any hypers: the step. -/
namespace Go.Proofs.Ytekokhlldcmjfaa
open Go.RowKit
set_option maxRecDepth 1000000
set_option linter.unusedSimpArgs false
set_option linter.unusedVariables false
set_option maxHeartbeats 16000000
set_option cbv.maxSteps 10000000
def yesQ (ts : List Ty) (p : List AV → Prop) : Ctr := ⟨ts, fun xa => some (p xa), fun _ => .ret (.v (.bool true)) [], false⟩
theorem steps21_ok : CtrOk Try.prog 3 (yesQ [prmTy, grdTy, hyTy, .int .u64, .int .i64, .int .i64] stP) := by
  obtain ⟨G, hG⟩ : ∃ G : List (FuncId × Ctr), G = [(14, boolC [prmTy, grdTy] lg21F), (16, prmC [prmTy, grdTy, hyTy, .int .u64, .int .i64, .int .i64] 3 52 21 stP stE stR), (17, prmV [prmTy, grdTy, hyTy, .int .u64, .int .i64, .int .i64] 3 52 21 stP stE stV), (18, boolC [.sl prmTy, .sl prmTy] sprF), (20, boolC [hyTy] hyF), (21, boolC [hyTy] hyF), (15, boolC [] yes21)] := ⟨_, rfl⟩
  refine fn_inl (ck := true) [(19, Try.f19)] ⟨⟨Try.func19, by unfold FnOk; kernel_rfl, by kernel_rfl⟩, trivial⟩ Try.func3 rfl tt_ok (G := G) (by rw [hG]; exact ⟨⟨light21_ok, by unfold FnOk; kernel_rfl⟩, ⟨step_ok, by unfold FnOk; kernel_rfl⟩, ⟨rstep21_ok, by unfold FnOk; kernel_rfl⟩, ⟨rspr_ok, by unfold FnOk; kernel_rfl⟩, ⟨omay_ok, by unfold FnOk; kernel_rfl⟩, ⟨rmh_ok, by unfold FnOk; kernel_rfl⟩, ⟨awake21_ok, by unfold FnOk; kernel_rfl⟩, trivial⟩) mixed (by kernel_rfl) ?_
  intro xa xs h hx hp
  obtain ⟨a0, as0, x0, xs0, rfl, rfl, h0, H1⟩ := svArgs_cons h
  obtain ⟨a1, as1, x1, xs1, rfl, rfl, h1, H2⟩ := svArgs_cons H1
  obtain ⟨a2, as2, x2, xs2, rfl, rfl, h2, H3⟩ := svArgs_cons H2
  obtain ⟨a3, as3, x3, xs3, rfl, rfl, h3, H4⟩ := svArgs_cons H3
  obtain ⟨a4, as4, x4, xs4, rfl, rfl, h4, H5⟩ := svArgs_cons H4
  obtain ⟨a5, as5, x5, xs5, rfl, rfl, h5, H6⟩ := svArgs_cons H5
  obtain ⟨rfl, rfl⟩ := svArgs_nil H6
  obtain ⟨pD, pE, pL, pM, pF, pG, pH, rfl, rfl⟩ := argSV_prm h0
  obtain ⟨gh, gD, gE, gL, gF, gG, gH, rfl, rfl⟩ := argSV_grd h1
  obtain ⟨hBa, hWi, hRa, hMo, hDe, hEv, rfl, rfl⟩ := argSV_hy h2
  obtain ⟨s, rfl, rfl⟩ := argSV_int h3
  obtain ⟨t, rfl, rfl⟩ := argSV_int h4
  obtain ⟨y, rfl, rfl⟩ := argSV_int h5
  have sp : (Fits .i64 pD ∧ ci pD.length ≤ 9223372036854775807) ∧ (-9223372036854775808 ≤ pE ∧ pE ≤ 9223372036854775807) ∧ (Fits .i8 pL ∧ ci pL.length ≤ 9223372036854775807) ∧ (Fits .i32 pM ∧ ci pM.length ≤ 9223372036854775807) ∧ (Fits .i64 pF ∧ ci pF.length ≤ 9223372036854775807) ∧ (-9223372036854775808 ≤ pG ∧ pG ≤ 9223372036854775807) ∧ (Fits .i8 pH ∧ ci pH.length ≤ 9223372036854775807) := svf_prm (hx (.agg [.iimm .i64 pD, .v (.int .i64 pE), .iimm .i8 pL, .iimm .i32 pM, .iimm .i64 pF, .v (.int .i64 pG), .iimm .i8 pH]) (List.mem_of_getElem? (i := 0) rfl))
  have sg : (Fits .i64 gD ∧ ci gD.length ≤ 9223372036854775807) ∧ (-9223372036854775808 ≤ gE ∧ gE ≤ 9223372036854775807) ∧ (Fits .i32 gL ∧ ci gL.length ≤ 9223372036854775807) ∧ (Fits .i64 gF ∧ ci gF.length ≤ 9223372036854775807) ∧ (-9223372036854775808 ≤ gG ∧ gG ≤ 9223372036854775807) ∧ (Fits .i32 gH ∧ ci gH.length ≤ 9223372036854775807) := svf_grd (hx (.agg [.v (.bool gh), .iimm .i64 gD, .v (.int .i64 gE), .iimm .i32 gL, .iimm .i64 gF, .v (.int .i64 gG), .iimm .i32 gH]) (List.mem_of_getElem? (i := 1) rfl))
  have sh : (-9223372036854775808 ≤ hBa ∧ hBa ≤ 9223372036854775807) ∧ (-9223372036854775808 ≤ hWi ∧ hWi ≤ 9223372036854775807) ∧ (-9223372036854775808 ≤ hRa ∧ hRa ≤ 9223372036854775807) ∧ (-9223372036854775808 ≤ hMo ∧ hMo ≤ 9223372036854775807) ∧ (-9223372036854775808 ≤ hDe ∧ hDe ≤ 9223372036854775807) ∧ (-9223372036854775808 ≤ hEv ∧ hEv ≤ 9223372036854775807) := svf_hy (hx (.agg [.v (.int .i64 hBa), .v (.int .i64 hWi), .v (.int .i64 hRa), .v (.int .i64 hMo), .v (.int .i64 hDe), .v (.int .i64 hEv)]) (List.mem_of_getElem? (i := 2) rfl))
  have ss : (Lit.int .u64 s).wf = true := (hx (.v (.int .u64 s)) (by simp))
  have st := of_i64 (hx (.v (.int .i64 t)) (by simp))
  have sy := of_i64 (hx (.v (.int .i64 y)) (by simp))
  have SP := Lib.hid sp
  clear sp
  have SG := Lib.hid sg
  clear sg
  have SH := Lib.hid sh
  clear sh
  have SS := Lib.hid ss
  clear ss
  have ST := Lib.hid st
  clear st
  have SY := Lib.hid sy
  clear sy
  have HP := Lib.hid (hp _ rfl)
  clear hx hp h h0 H1 h1 H2 h2 H3 h3 H4 h4 H5 h5 H6
  generalize hA : std = A
  subst hG
  generalize h_c : ci = c
  generalize h_fl : lg21F = fl
  generalize h_fh : hyF = fh
  generalize h_fV : stV = fV
  generalize h_fE : stE = fE
  generalize h_fR : stR = fR
  generalize h_fP : stP = fP
  generalize h_fs : sprF = fs
  generalize h_fY : yes21 = fY
  cbv
  (repeat' (first | apply And.intro | apply BrB.mk | apply BrP.mk | intro _))
  all_goals (subst hA; subst h_c; subst h_fl; subst h_fh; subst h_fV; subst h_fE; subst h_fR; subst h_fP; subst h_fs; subst h_fY)
  all_goals (have f_sp := SP.out; have f_sg := SG.out; have f_sh := SH.out; have f_ss := SS.out; have f_st := ST.out; have f_sy := SY.out; have f_hp := HP.out)
  all_goals (try simp only [std, stdBin, stdCmp, stdUna, stdIn, ci, beq_iff_eq, bne_iff_ne, beq_eq_false_iff_ne, bne_eq_false_iff_eq, decide_eq_true_eq, decide_eq_false_iff_not, Bool.not_true, Bool.not_false, Bool.not_eq_true', Bool.not_eq_false', Bool.not_not, tn0, tn1, tn2, tn3, lg21F, hyF, spr_one, Int.toNat_natCast] at *)
  all_goals first
    | exact True.intro
    | exact f_hp
    | contradiction
    | (have h0 : stE [AV.st [AV.st [AV.l pD, AV.z pE, AV.l pL], AV.l pM, AV.st [AV.l pF, AV.z pG, AV.l pH]], AV.st [AV.b gh, AV.st [AV.l gD, AV.z gE, AV.l gL], AV.st [AV.l gF, AV.z gG, AV.l gH]], AV.st [AV.z hBa, AV.z hWi, AV.z hRa, AV.z hMo, AV.z hDe, AV.z hEv], AV.z s, AV.z t, AV.z y] = 0 := (by assumption)
       have hv : stV [AV.st [AV.st [AV.l pD, AV.z pE, AV.l pL], AV.l pM, AV.st [AV.l pF, AV.z pG, AV.l pH]], AV.st [AV.b gh, AV.st [AV.l gD, AV.z gE, AV.l gL], AV.st [AV.l gF, AV.z gG, AV.l gH]], AV.st [AV.z hBa, AV.z hWi, AV.z hRa, AV.z hMo, AV.z hDe, AV.z hEv], AV.z s, AV.z t, AV.z y] = stR [AV.st [AV.st [AV.l pD, AV.z pE, AV.l pL], AV.l pM, AV.st [AV.l pF, AV.z pG, AV.l pH]], AV.st [AV.b gh, AV.st [AV.l gD, AV.z gE, AV.l gL], AV.st [AV.l gF, AV.z gG, AV.l gH]], AV.st [AV.z hBa, AV.z hWi, AV.z hRa, AV.z hMo, AV.z hDe, AV.z hEv], AV.z s, AV.z t, AV.z y] := if_pos h0
       simp only [hv, h0, sameTn_self, decide_true, Bool.and_true, Bool.true_and, Bool.and_self] at *
       first | rfl | contradiction | (simp at *; done))
    | (have h0 : ¬ stE [AV.st [AV.st [AV.l pD, AV.z pE, AV.l pL], AV.l pM, AV.st [AV.l pF, AV.z pG, AV.l pH]], AV.st [AV.b gh, AV.st [AV.l gD, AV.z gE, AV.l gL], AV.st [AV.l gF, AV.z gG, AV.l gH]], AV.st [AV.z hBa, AV.z hWi, AV.z hRa, AV.z hMo, AV.z hDe, AV.z hEv], AV.z s, AV.z t, AV.z y] = 0 := (by assumption)
       have hv : stV [AV.st [AV.st [AV.l pD, AV.z pE, AV.l pL], AV.l pM, AV.st [AV.l pF, AV.z pG, AV.l pH]], AV.st [AV.b gh, AV.st [AV.l gD, AV.z gE, AV.l gL], AV.st [AV.l gF, AV.z gG, AV.l gH]], AV.st [AV.z hBa, AV.z hWi, AV.z hRa, AV.z hMo, AV.z hDe, AV.z hEv], AV.z s, AV.z t, AV.z y] = noP := if_neg h0
       simp only [hv, noP, sameTn_self, decide_true, Bool.and_true, Bool.true_and, Bool.and_self] at *
       first | rfl | contradiction | (simp at *; done))
    | rfl
    | trace_state
end Go.Proofs.Ytekokhlldcmjfaa
/- Layer 21: all layers' steps down. -/
namespace Go.Proofs.Ytekokhlldcmjfaa
open Go.RowKit
set_option maxRecDepth 1000000
set_option linter.unusedSimpArgs false
set_option linter.unusedVariables false
set_option maxHeartbeats 16000000
set_option cbv.maxSteps 10000000
/-- The first that is not 0, with its number. -/
def lowX (g : Nat → Int) : Nat → Nat → Int × Int
  | _, 0 => (0, 0)
  | i, f + 1 => if g i = 0 then lowX g (i + 1) f else ((i : Int) + 1, g i)
theorem lowX_skip {g : Nat → Int} {n : Nat} : ∀ k, k ≤ n → (∀ i, i < k → g i = 0) → lowX g 0 n = lowX g k (n - k)
  | 0, _, _ => rfl
  | k + 1, hk, h => by
    rw [lowX_skip k (by omega) fun i hi => h i (by omega), show n - k = (n - (k + 1)) + 1 by omega, lowX, if_pos (h k (by omega))]
theorem lowX_hit {g : Nat → Int} {n k : Nat} (hk : k < n) (h : ∀ i, i < k → g i = 0) (hg : g k ≠ 0) : lowX g 0 n = ((k : Int) + 1, g k) := by
  rw [lowX_skip k (by omega) h, show n - k = (n - (k + 1)) + 1 by omega, lowX, if_neg hg]
theorem lowX_none {g : Nat → Int} {n : Nat} (h : ∀ i, i < n → g i = 0) : lowX g 0 n = (0, 0) := by
  rw [lowX_skip n (Nat.le_refl _) h, Nat.sub_self, lowX]
def pmDat (p : Pm) : Dat := .agg [.agg [std.ofInts p.d, .int p.e, std.ofInts p.l], std.ofInts p.m, .agg [std.ofInts p.f, .int p.g, std.ofInts p.h]]
def argP (p : Dat) : AV := .st [.st [.l ((p.fld 0).fld 0).ints, .z ((p.fld 0).fld 1).z, .l ((p.fld 0).fld 2).ints], .l (p.fld 1).ints, .st [.l ((p.fld 2).fld 0).ints, .z ((p.fld 2).fld 1).z, .l ((p.fld 2).fld 2).ints]]
def argG (g : Dat) : AV := .st [.b (g.fld 0).bo, .st [.l ((g.fld 1).fld 0).ints, .z ((g.fld 1).fld 1).z, .l ((g.fld 1).fld 2).ints], .st [.l ((g.fld 2).fld 0).ints, .z ((g.fld 2).fld 1).z, .l ((g.fld 2).fld 2).ints]]
def stI (p g : Dat) (a b c d e f s t : Int) (i : Nat) : List AV := [argP (p.at i), argG (g.at i), .st [.z a, .z b, .z c, .z d, .z e, .z f], .z s, .z t, .z ((i : Int) + 1)]
def allR (p g : Dat) (a b c d e f s t : Int) : Int × Int := if hyB a b c d e f = true ∧ p.ls.length = g.ls.length then lowX (fun i => stE (stI p g a b c d e f s t i)) 0 p.ls.length else (0, 1)
def allMix (p g : Dat) (a b c d e f s t : Int) (k : Nat) : Dat := .list ((List.range p.ls.length).map fun i => if i < k then pmDat (stR (stI p g a b c d e f s t i)) else zeroD prmTy)
def allE (xa : List AV) : Int := match xa with
  | [.d p, .d g, .st [.z a, .z b, .z c, .z d, .z e, .z f], .z s, .z t] => (allR p g a b c d e f s t).2
  | _ => 0
def allN (xa : List AV) : Int := match xa with
  | [.d p, .d g, .st [.z a, .z b, .z c, .z d, .z e, .z f], .z s, .z t] => (allR p g a b c d e f s t).1
  | _ => 0
def allD (xa : List AV) : Dat := match xa with
  | [.d p, .d g, .st [.z a, .z b, .z c, .z d, .z e, .z f], .z s, .z t] => allMix p g a b c d e f s t p.ls.length
  | _ => .list []
def allP (xa : List AV) : Prop := match xa with
  | [.d p, .d g, .st [.z a, .z b, .z c, .z d, .z e, .z f], .z s, .z t] => (p.ls.length : Int) * 136 ≤ 140737488355328 ∧ ∀ i, i < p.ls.length → szPD (p.at i)
  | _ => False
def allC (p : List AV → Prop) (e n : List AV → Int) (d : List AV → Dat) : FCtr := ⟨[.sl prmTy, .sl grdTy, hyTy, .int .u64, .int .i64], fun xa => some (p xa), fun xa => .ite (e xa = 0) (.ret (.tup [.imm prmTy (d xa), .v (.int .i64 0), .v (.int .i64 0)]) []) (.ret (.tup [.v (.slice none 0 0), .v (.int .i64 (n xa)), .v (.int .i64 (e xa))]) []), true⟩
section
variable {p g : Dat} {a b c d e f s t : Int}
theorem allMix_len (k : Nat) : (allMix p g a b c d e f s t k).ls.length = p.ls.length := by simp [allMix, Dat.ls]
theorem allMix_zero : std.drep (zeroD prmTy) p.ls.length = allMix p g a b c d e f s t 0 := by
  show Dat.list (List.replicate (p.ls.length : Int).toNat _) = _
  unfold allMix
  rw [Int.toNat_natCast]
  congr 1
  apply List.ext_getElem
  · simp
  · intro i h1 h2
    simp
theorem allMix_set {k : Nat} {u : Dat} (hk : k < p.ls.length) (hu : u = pmDat (stR (stI p g a b c d e f s t k))) : std.dset (allMix p g a b c d e f s t k) k u = allMix p g a b c d e f s t (k + 1) := by
  show Dat.list ((allMix p g a b c d e f s t k).ls.set (k : Int).toNat u) = _
  unfold allMix
  congr 1
  simp only [Dat.ls, Int.toNat_natCast]
  apply List.ext_getElem
  · simp
  · intro i h1 h2
    rw [List.getElem_set]
    by_cases e : k = i
    · subst e; simp [hu]
    · rw [if_neg e]
      simp only [List.getElem_map, List.getElem_range]
      by_cases h3 : i < k
      · rw [if_pos h3, if_pos (by omega)]
      · rw [if_neg h3, if_neg (by omega)]
theorem allR_bad (h : ¬ (hyB a b c d e f = true ∧ p.ls.length = g.ls.length)) : allR p g a b c d e f s t = (0, 1) := if_neg h
theorem allR_hit (h : hyB a b c d e f = true ∧ p.ls.length = g.ls.length) {k : Nat} (hk : k < p.ls.length) (h1 : ∀ i, i < k → stE (stI p g a b c d e f s t i) = 0) (h2 : ¬ stE (stI p g a b c d e f s t k) = 0) : allR p g a b c d e f s t = ((k : Int) + 1, stE (stI p g a b c d e f s t k)) := by
  unfold allR
  rw [if_pos h, lowX_hit hk h1 h2]
theorem allR_ok (h : hyB a b c d e f = true ∧ p.ls.length = g.ls.length) (h1 : ∀ i, i < p.ls.length → stE (stI p g a b c d e f s t i) = 0) : allR p g a b c d e f s t = (0, 0) := by
  unfold allR
  rw [if_pos h, lowX_none h1]
end
theorem all21_ok : FOk Try.prog 22 (allC allP allE allN allD) := by
  obtain ⟨G, hG⟩ : ∃ G : List (FuncId × Ctr), G = [(20, boolC [hyTy] hyF), (16, prmC [prmTy, grdTy, hyTy, .int .u64, .int .i64, .int .i64] 3 52 21 stP stE stR)] := ⟨_, rfl⟩
  refine fn_inlF (ck := true) [] trivial [] trivial Try.func22 rfl tt_ok (G := G) (by rw [hG]; exact ⟨⟨omay_ok, by unfold FnOk; kernel_rfl⟩, ⟨step_ok, by unfold FnOk; kernel_rfl⟩, trivial⟩) mixed (by kernel_rfl) ?_
  intro xa xs h hx hp
  obtain ⟨a0, as0, x0, xs0, rfl, rfl, h0, H1⟩ := svArgs_cons h
  obtain ⟨a1, as1, x1, xs1, rfl, rfl, h1, H2⟩ := svArgs_cons H1
  obtain ⟨a2, as2, x2, xs2, rfl, rfl, h2, H3⟩ := svArgs_cons H2
  obtain ⟨a3, as3, x3, xs3, rfl, rfl, h3, H4⟩ := svArgs_cons H3
  obtain ⟨a4, as4, x4, xs4, rfl, rfl, h4, H5⟩ := svArgs_cons H4
  obtain ⟨rfl, rfl⟩ := svArgs_nil H5
  obtain ⟨p, rfl, rfl⟩ := argSV_rows h0
  obtain ⟨g, rfl, rfl⟩ := argSV_rows h1
  obtain ⟨hBa, hWi, hRa, hMo, hDe, hEv, rfl, rfl⟩ := argSV_hy h2
  obtain ⟨s, rfl, rfl⟩ := argSV_int h3
  obtain ⟨t, rfl, rfl⟩ := argSV_int h4
  have sp : ci p.ls.length ≤ 9223372036854775807 ∧ Wt (.sl prmTy) p := ⟨wtl_len (hx (.imm prmTy p) (List.mem_of_getElem? (i := 0) rfl)), hx (.imm prmTy p) (List.mem_of_getElem? (i := 0) rfl)⟩
  have sg : ci g.ls.length ≤ 9223372036854775807 ∧ Wt (.sl grdTy) g := ⟨wtl_len (hx (.imm grdTy g) (List.mem_of_getElem? (i := 1) rfl)), hx (.imm grdTy g) (List.mem_of_getElem? (i := 1) rfl)⟩
  have sh : (-9223372036854775808 ≤ hBa ∧ hBa ≤ 9223372036854775807) ∧ (-9223372036854775808 ≤ hWi ∧ hWi ≤ 9223372036854775807) ∧ (-9223372036854775808 ≤ hRa ∧ hRa ≤ 9223372036854775807) ∧ (-9223372036854775808 ≤ hMo ∧ hMo ≤ 9223372036854775807) ∧ (-9223372036854775808 ≤ hDe ∧ hDe ≤ 9223372036854775807) ∧ (-9223372036854775808 ≤ hEv ∧ hEv ≤ 9223372036854775807) := svf_hy (hx (.agg [.v (.int .i64 hBa), .v (.int .i64 hWi), .v (.int .i64 hRa), .v (.int .i64 hMo), .v (.int .i64 hDe), .v (.int .i64 hEv)]) (List.mem_of_getElem? (i := 2) rfl))
  have ss : (Lit.int .u64 s).wf = true := (hx (.v (.int .u64 s)) (by simp))
  have st := of_i64 (hx (.v (.int .i64 t)) (by simp))
  have SP := Lib.hid sp
  clear sp
  have SG := Lib.hid sg
  clear sg
  have SH := Lib.hid sh
  clear sh
  have SS := Lib.hid ss
  clear ss
  have ST := Lib.hid st
  clear st
  have HP := Lib.hid (hp _ rfl)
  clear hx hp h h0 H1 h1 H2 h2 H3 h3 H4 h4 H5
  generalize hA : std = A
  subst hG
  generalize h_c : ci = c
  generalize h_fh : hyF = fh
  generalize h_fE : stE = fE
  generalize h_fR : stR = fR
  generalize h_fP : stP = fP
  generalize h_gP : allP = gP
  generalize h_gE : allE = gE
  generalize h_gN : allN = gN
  generalize h_gD : allD = gD
  obtain ⟨P, hP⟩ : ∃ P : Nat → Dat, ∀ k, P k = allMix p g hBa hWi hRa hMo hDe hEv s t k := ⟨_, fun _ => rfl⟩
  have HP2 := Lib.hid hP
  clear hP
  cbv
  (repeat' (first | apply And.intro | apply BrB.mk | apply BrP.mk | intro _))
  (all_goals try (exfalso; (subst hA; subst h_c; subst h_fh; subst h_fE; subst h_fR; subst h_fP; subst h_gP; subst h_gE; subst h_gN; subst h_gD); (try simp only [std, stdBin, stdCmp, stdUna, stdIn, ci, beq_iff_eq, bne_iff_ne, beq_eq_false_iff_ne, bne_eq_false_iff_eq, decide_eq_true_eq, decide_eq_false_iff_not, Bool.not_true, Bool.not_false, Bool.not_eq_true', Bool.not_eq_false', Bool.not_not, tn0, tn1, tn2, tn3] at *); first | omega | contradiction))
  all_goals try (refine loop_at Nat 31 (fun k => [(10, .v (.slice none 0 0)), (11, .v (.int .i64 0)), (12, .v (.int .i64 0)), (14, .any), (15, .any), (31, .v (.int .i64 (c k)))]) (fun k o => o.set 1 (.srow 28 prmTy (P k))) (fun k => k ≤ p.ls.length ∧ ∀ i, i < k → stE (stI p g hBa hWi hRa hMo hDe hEv s t i) = 0) (fun k => p.ls.length - k) 0 ⟨Nat.zero_le _, fun i hi => absurd hi (Nat.not_lt_zero _)⟩ ?_ ?_
                 focus
                   show AS.le _ _
                   cbv
                   (repeat' (first | apply And.intro | apply BrB.mk | apply BrP.mk | intro _))
                   all_goals (subst hA; subst h_c; subst h_fh; subst h_fE; subst h_fR; subst h_fP; subst h_gP; subst h_gE; subst h_gN; subst h_gD)
                   all_goals (have f_sp := SP.out; have f_sg := SG.out; have f_sh := SH.out; have f_ss := SS.out; have f_st := ST.out; have f_hp := HP.out)
                   all_goals (try simp only [std, stdBin, stdCmp, stdUna, stdIn, ci, beq_iff_eq, bne_iff_ne, beq_eq_false_iff_ne, bne_eq_false_iff_eq, decide_eq_true_eq, decide_eq_false_iff_not, Bool.not_true, Bool.not_false, Bool.not_eq_true', Bool.not_eq_false', Bool.not_not, tn0, tn1, tn2, tn3] at *)
                   all_goals first | exact True.intro | rfl | (rw [HP2.out]; exact allMix_zero) | trace_state
                   done)
  all_goals try (rintro k ⟨hk, hE⟩; cbv; refine BrB.mk (fun gx => ?_) (fun gx => ?_))
  all_goals (repeat' (first | apply And.intro | apply BrB.mk | apply BrP.mk | intro _))
  all_goals try (refine ⟨k + 1, ?_, ?_, ?_⟩)
  all_goals try (show AS.le _ _; cbv; (repeat' (first | apply And.intro | apply BrB.mk | apply BrP.mk | intro _)))
  all_goals (subst hA; subst h_c; subst h_fh; subst h_fE; subst h_fR; subst h_fP; subst h_gP; subst h_gE; subst h_gN; subst h_gD)
  all_goals (have f_sp := SP.out; have f_sg := SG.out; have f_sh := SH.out; have f_ss := SS.out; have f_st := ST.out; have f_hp := HP.out)
  all_goals (try simp only [std, stdBin, stdCmp, stdUna, stdIn, ci, beq_iff_eq, bne_iff_ne, beq_eq_false_iff_ne, bne_eq_false_iff_eq, decide_eq_true_eq, decide_eq_false_iff_not, Bool.not_true, Bool.not_false, Bool.not_eq_true', Bool.not_eq_false', Bool.not_not, tn0, tn1, tn2, tn3, hyF, allE, allN, allD, HP2.out, allMix_len, Int.toNat_natCast] at *)
  all_goals (try first | exact True.intro | exact congrArg (Value.int .i64) (Int.natCast_succ _).symm)
  all_goals first
    | (have hb : allR p g hBa hWi hRa hMo hDe hEv s t = (0, 1) := allR_bad (by
         rintro ⟨q1, q2⟩
         first
           | (have q3 : hyB hBa hWi hRa hMo hDe hEv = false := (by assumption); rw [q1] at q3; cases q3)
           | (have q3 : (p.ls.length : Int) ≠ (g.ls.length : Int) := (by assumption); omega))
       first | (rw [hb]; done) | (exfalso; have h0 : (allR p g hBa hWi hRa hMo hDe hEv s t).2 = 0 := (by assumption); rw [hb] at h0; cases h0))
    | (have hc : hyB hBa hWi hRa hMo hDe hEv = true ∧ p.ls.length = g.ls.length := ⟨by assumption, by omega⟩
       obtain ⟨hq1, hq2⟩ := f_hp
       first
         | omega
         | (have hkn : k < p.ls.length := (by omega)
            have hs : [AV.st [AV.st [AV.l (((p.at k).fld 0).fld 0).ints, AV.z (((p.at k).fld 0).fld 1).z, AV.l (((p.at k).fld 0).fld 2).ints], AV.l ((p.at k).fld 1).ints, AV.st [AV.l (((p.at k).fld 2).fld 0).ints, AV.z (((p.at k).fld 2).fld 1).z, AV.l (((p.at k).fld 2).fld 2).ints]], AV.st [AV.b ((g.at k).fld 0).bo, AV.st [AV.l (((g.at k).fld 1).fld 0).ints, AV.z (((g.at k).fld 1).fld 1).z, AV.l (((g.at k).fld 1).fld 2).ints], AV.st [AV.l (((g.at k).fld 2).fld 0).ints, AV.z (((g.at k).fld 2).fld 1).z, AV.l (((g.at k).fld 2).fld 2).ints]], AV.st [AV.z hBa, AV.z hWi, AV.z hRa, AV.z hMo, AV.z hDe, AV.z hEv], AV.z s, AV.z t, AV.z ((k : Int) + 1)] = stI p g hBa hWi hRa hMo hDe hEv s t k := rfl
            simp only [hs] at *
            first
              | exact hq2 k hkn
              | omega
              | (have he : stE (stI p g hBa hWi hRa hMo hDe hEv s t k) = 0 := (by assumption)
                 first
                   | contradiction
                   | (refine ⟨by omega, fun i hi => ?_⟩
                      by_cases e : i = k
                      · subst e; exact he
                      · exact hE i (by omega))
                   | exact allMix_set hkn rfl
                   | (exfalso; have h1 : stE (stI p g hBa hWi hRa hMo hDe hEv s t k) ≠ 0 := (by assumption); exact h1 he))
              | (have he : ¬ stE (stI p g hBa hWi hRa hMo hDe hEv s t k) = 0 := (by assumption)
                 have hv := allR_hit hc hkn hE he
                 first | contradiction | (rw [hv]; done) | (exfalso; have h0 : (allR p g hBa hWi hRa hMo hDe hEv s t).2 = 0 := (by assumption); rw [hv] at h0; exact he h0))
              | trace "P")
         | (have e : k = p.ls.length := (by omega)
            subst e
            have hv := allR_ok hc hE
            first | rfl | (rw [hv]; done) | (exfalso; have h0 : ¬ (allR p g hBa hWi hRa hMo hDe hEv s t).2 = 0 := (by assumption); rw [hv] at h0; exact h0 rfl) | trace "Q")
         | trace "R")
    | trace_state
end Go.Proofs.Ytekokhlldcmjfaa
/- Layer 21: all layers' steps down: the counterpart; the laws. -/
namespace Go.Proofs.Ytekokhlldcmjfaa
open Go.RowKit
set_option maxRecDepth 1000000
set_option linter.unusedSimpArgs false
set_option linter.unusedVariables false
set_option maxHeartbeats 16000000
set_option cbv.maxSteps 10000000
def allRow (p g : Dat) (a b c d e f s t : Int) (k : Nat) : Dat := .list ((List.range k).map fun i => pmDat (stR (stI p g a b c d e f s t i)))
theorem allRow_app (p g : Dat) (a b c d e f s t : Int) (k : Nat) : Dat.list ((allRow p g a b c d e f s t k).ls ++ [pmDat (stR (stI p g a b c d e f s t k))]) = allRow p g a b c d e f s t (k + 1) := by
  unfold allRow
  simp only [Dat.ls, List.range_succ, List.map_append, List.map_cons, List.map_nil]
theorem allRow_all (p g : Dat) (a b c d e f s t : Int) : allRow p g a b c d e f s t p.ls.length = allMix p g a b c d e f s t p.ls.length := by
  unfold allRow allMix
  congr 1
  apply List.map_congr_left
  intro i hi
  rw [if_pos (List.mem_range.1 hi)]
theorem allRow_len (p g : Dat) (a b c d e f s t : Int) (k : Nat) : (allRow p g a b c d e f s t k).ls.length = k := by simp [allRow, Dat.ls]
theorem rall21_ok : FOk Try.prog 23 (allC allP allE allN allD) := by
  obtain ⟨G, hG⟩ : ∃ G : List (FuncId × Ctr), G = [(21, boolC [hyTy] hyF), (17, prmV [prmTy, grdTy, hyTy, .int .u64, .int .i64, .int .i64] 3 52 21 stP stE stV)] := ⟨_, rfl⟩
  refine fn_inlF (ck := true) [] trivial [] trivial Try.func23 rfl tt_ok (G := G) (by rw [hG]; exact ⟨⟨rmh_ok, by unfold FnOk; kernel_rfl⟩, ⟨rstep21_ok, by unfold FnOk; kernel_rfl⟩, trivial⟩) mixed (by kernel_rfl) ?_
  intro xa xs h hx hp
  obtain ⟨a0, as0, x0, xs0, rfl, rfl, h0, H1⟩ := svArgs_cons h
  obtain ⟨a1, as1, x1, xs1, rfl, rfl, h1, H2⟩ := svArgs_cons H1
  obtain ⟨a2, as2, x2, xs2, rfl, rfl, h2, H3⟩ := svArgs_cons H2
  obtain ⟨a3, as3, x3, xs3, rfl, rfl, h3, H4⟩ := svArgs_cons H3
  obtain ⟨a4, as4, x4, xs4, rfl, rfl, h4, H5⟩ := svArgs_cons H4
  obtain ⟨rfl, rfl⟩ := svArgs_nil H5
  obtain ⟨p, rfl, rfl⟩ := argSV_rows h0
  obtain ⟨g, rfl, rfl⟩ := argSV_rows h1
  obtain ⟨hBa, hWi, hRa, hMo, hDe, hEv, rfl, rfl⟩ := argSV_hy h2
  obtain ⟨s, rfl, rfl⟩ := argSV_int h3
  obtain ⟨t, rfl, rfl⟩ := argSV_int h4
  have sp : ci p.ls.length ≤ 9223372036854775807 ∧ Wt (.sl prmTy) p := ⟨wtl_len (hx (.imm prmTy p) (List.mem_of_getElem? (i := 0) rfl)), hx (.imm prmTy p) (List.mem_of_getElem? (i := 0) rfl)⟩
  have sg : ci g.ls.length ≤ 9223372036854775807 ∧ Wt (.sl grdTy) g := ⟨wtl_len (hx (.imm grdTy g) (List.mem_of_getElem? (i := 1) rfl)), hx (.imm grdTy g) (List.mem_of_getElem? (i := 1) rfl)⟩
  have sh : (-9223372036854775808 ≤ hBa ∧ hBa ≤ 9223372036854775807) ∧ (-9223372036854775808 ≤ hWi ∧ hWi ≤ 9223372036854775807) ∧ (-9223372036854775808 ≤ hRa ∧ hRa ≤ 9223372036854775807) ∧ (-9223372036854775808 ≤ hMo ∧ hMo ≤ 9223372036854775807) ∧ (-9223372036854775808 ≤ hDe ∧ hDe ≤ 9223372036854775807) ∧ (-9223372036854775808 ≤ hEv ∧ hEv ≤ 9223372036854775807) := svf_hy (hx (.agg [.v (.int .i64 hBa), .v (.int .i64 hWi), .v (.int .i64 hRa), .v (.int .i64 hMo), .v (.int .i64 hDe), .v (.int .i64 hEv)]) (List.mem_of_getElem? (i := 2) rfl))
  have ss : (Lit.int .u64 s).wf = true := (hx (.v (.int .u64 s)) (by simp))
  have st := of_i64 (hx (.v (.int .i64 t)) (by simp))
  have SP := Lib.hid sp
  clear sp
  have SG := Lib.hid sg
  clear sg
  have SH := Lib.hid sh
  clear sh
  have SS := Lib.hid ss
  clear ss
  have ST := Lib.hid st
  clear st
  have HP := Lib.hid (hp _ rfl)
  clear hx hp h h0 H1 h1 H2 h2 H3 h3 H4 h4 H5
  generalize hA : std = A
  subst hG
  generalize h_c : ci = c
  generalize h_fh : hyF = fh
  generalize h_fV : stV = fV
  generalize h_fE : stE = fE
  generalize h_fP : stP = fP
  generalize h_gP : allP = gP
  generalize h_gE : allE = gE
  generalize h_gN : allN = gN
  generalize h_gD : allD = gD
  obtain ⟨R, hR⟩ : ∃ R : Nat → Dat, ∀ k, R k = allRow p g hBa hWi hRa hMo hDe hEv s t k := ⟨_, fun _ => rfl⟩
  have HR := Lib.hid hR
  clear hR
  cbv
  (repeat' (first | apply And.intro | apply BrB.mk | apply BrP.mk | intro _))
  (all_goals try (exfalso; (subst hA; subst h_c; subst h_fh; subst h_fV; subst h_fE; subst h_fP; subst h_gP; subst h_gE; subst h_gN; subst h_gD); (try simp only [std, stdBin, stdCmp, stdUna, stdIn, ci, beq_iff_eq, bne_iff_ne, beq_eq_false_iff_ne, bne_eq_false_iff_eq, decide_eq_true_eq, decide_eq_false_iff_not, Bool.not_true, Bool.not_false, Bool.not_eq_true', Bool.not_eq_false', Bool.not_not, tn0, tn1, tn2, tn3] at *); first | omega | contradiction))
  all_goals try (refine loop_nil (hR := ?hR) [.slotR 13 28 prmTy] Nat 29 (fun k => [(10, .v (.slice none 0 0)), (11, .v (.int .i64 0)), (12, .v (.int .i64 0)), (14, .any), (15, .any), (16, .any), (29, .v (.int .i64 (c k)))]) (fun k o => o.set 1 (.srow 28 prmTy (R k))) (fun k => k ≤ p.ls.length ∧ ∀ i, i < k → stE (stI p g hBa hWi hRa hMo hDe hEv s t i) = 0) (fun k => p.ls.length - k) 0 ?h0 ?hle ?round)
  case hR => exact True.intro
  case h0 => exact ⟨Nat.zero_le _, fun i hi => absurd hi (Nat.not_lt_zero _)⟩
  case hle =>
    cbv
    (repeat' (first | apply And.intro | apply BrB.mk | apply BrP.mk | intro _))
    all_goals (subst hA; subst h_c; subst h_fh; subst h_fV; subst h_fE; subst h_fP; subst h_gP; subst h_gE; subst h_gN; subst h_gD)
    all_goals (have f_sp := SP.out; have f_sg := SG.out; have f_sh := SH.out; have f_ss := SS.out; have f_st := ST.out; have f_hp := HP.out)
    all_goals (try simp only [std, stdBin, stdCmp, stdUna, stdIn, ci, beq_iff_eq, bne_iff_ne, beq_eq_false_iff_ne, bne_eq_false_iff_eq, decide_eq_true_eq, decide_eq_false_iff_not, Bool.not_true, Bool.not_false, Bool.not_eq_true', Bool.not_eq_false', Bool.not_not, tn0, tn1, tn2, tn3] at *)
    all_goals first | exact True.intro | rfl | (rw [HR.out]; rfl) | trace_state
  case round =>
    rintro k ⟨hk, hE⟩
    cbv
    refine BrB.mk (fun gx => ?_) (fun gx => ?_)
    all_goals (repeat' (first | apply And.intro | apply BrB.mk | apply BrP.mk | intro _))
    all_goals try (refine ⟨k + 1, ?_, ?_, ?_⟩)
    all_goals try (show AS.le _ _; cbv; (repeat' (first | apply And.intro | apply BrB.mk | apply BrP.mk | intro _)))
    all_goals (subst hA; subst h_c; subst h_fh; subst h_fV; subst h_fE; subst h_fP; subst h_gP; subst h_gE; subst h_gN; subst h_gD)
    all_goals (have f_sp := SP.out; have f_sg := SG.out; have f_sh := SH.out; have f_ss := SS.out; have f_st := ST.out; have f_hp := HP.out)
    all_goals (try simp only [std, stdBin, stdCmp, stdUna, stdIn, ci, beq_iff_eq, bne_iff_ne, beq_eq_false_iff_ne, bne_eq_false_iff_eq, decide_eq_true_eq, decide_eq_false_iff_not, Bool.not_true, Bool.not_false, Bool.not_eq_true', Bool.not_eq_false', Bool.not_not, tn0, tn1, tn2, tn3, hyF, stV, allE, allN, allD, HR.out, allRow_len, Int.toNat_natCast] at *)
    all_goals (try first | exact True.intro | exact congrArg (Value.int .i64) (Int.natCast_succ _).symm)
    all_goals first
      | (have hb : allR p g hBa hWi hRa hMo hDe hEv s t = (0, 1) := allR_bad (by
           rintro ⟨q1, q2⟩
           first
             | (have q3 : hyB hBa hWi hRa hMo hDe hEv = false := (by assumption); rw [q1] at q3; cases q3)
             | (have q3 : (p.ls.length : Int) ≠ (g.ls.length : Int) := (by assumption); omega))
         first | (rw [hb]; done) | (exfalso; have h0 : (allR p g hBa hWi hRa hMo hDe hEv s t).2 = 0 := (by assumption); rw [hb] at h0; cases h0))
      | (have hc : hyB hBa hWi hRa hMo hDe hEv = true ∧ p.ls.length = g.ls.length := ⟨by assumption, by omega⟩
         obtain ⟨hq1, hq2⟩ := f_hp
         first
           | omega
           | (have hkn : k < p.ls.length := (by omega)
              have hs : [AV.st [AV.st [AV.l (((p.at k).fld 0).fld 0).ints, AV.z (((p.at k).fld 0).fld 1).z, AV.l (((p.at k).fld 0).fld 2).ints], AV.l ((p.at k).fld 1).ints, AV.st [AV.l (((p.at k).fld 2).fld 0).ints, AV.z (((p.at k).fld 2).fld 1).z, AV.l (((p.at k).fld 2).fld 2).ints]], AV.st [AV.b ((g.at k).fld 0).bo, AV.st [AV.l (((g.at k).fld 1).fld 0).ints, AV.z (((g.at k).fld 1).fld 1).z, AV.l (((g.at k).fld 1).fld 2).ints], AV.st [AV.l (((g.at k).fld 2).fld 0).ints, AV.z (((g.at k).fld 2).fld 1).z, AV.l (((g.at k).fld 2).fld 2).ints]], AV.st [AV.z hBa, AV.z hWi, AV.z hRa, AV.z hMo, AV.z hDe, AV.z hEv], AV.z s, AV.z t, AV.z ((k : Int) + 1)] = stI p g hBa hWi hRa hMo hDe hEv s t k := rfl
              simp only [hs] at *
              first
                | exact hq2 k hkn
                | omega
                | (have he : stE (stI p g hBa hWi hRa hMo hDe hEv s t k) = 0 := (by assumption)
                   first
                     | contradiction
                     | (refine ⟨by omega, fun i hi => ?_⟩
                        by_cases e : i = k
                        · subst e; exact he
                        · exact hE i (by omega))
                     | (simp only [he, if_true]; exact allRow_app p g hBa hWi hRa hMo hDe hEv s t k)
                     | (simp only [he, if_true, Dat.ls, List.length_cons, List.length_nil]; omega)
                     | (exfalso; have h1 : stE (stI p g hBa hWi hRa hMo hDe hEv s t k) ≠ 0 := (by assumption); exact h1 he))
                | (have he : ¬ stE (stI p g hBa hWi hRa hMo hDe hEv s t k) = 0 := (by assumption)
                   have hv := allR_hit hc hkn hE he
                   first | contradiction | (rw [hv]; done) | (exfalso; have h0 : (allR p g hBa hWi hRa hMo hDe hEv s t).2 = 0 := (by assumption); rw [hv] at h0; exact he h0))
                | trace "P")
           | (have e : k = p.ls.length := (by omega)
              subst e
              have hv := allR_ok hc hE
              first | (rw [hv]; done) | exact allRow_all p g hBa hWi hRa hMo hDe hEv s t | rfl | (exfalso; have h0 : ¬ (allR p g hBa hWi hRa hMo hDe hEv s t).2 = 0 := (by assumption); rw [hv] at h0; exact h0 rfl) | trace "Q")
           | trace "R")
      | trace_state
  all_goals (subst hA; subst h_c; subst h_fh; subst h_fV; subst h_fE; subst h_fP; subst h_gP; subst h_gE; subst h_gN; subst h_gD)
  all_goals (have f_sp := SP.out; have f_sg := SG.out; have f_sh := SH.out; have f_ss := SS.out; have f_st := ST.out; have f_hp := HP.out)
  all_goals (try simp only [std, stdBin, stdCmp, stdUna, stdIn, ci, beq_iff_eq, bne_iff_ne, beq_eq_false_iff_ne, bne_eq_false_iff_eq, decide_eq_true_eq, decide_eq_false_iff_not, Bool.not_true, Bool.not_false, Bool.not_eq_true', Bool.not_eq_false', Bool.not_not, tn0, tn1, tn2, tn3, hyF, allE, allN, allD] at *)
  all_goals (try first | exact True.intro)
  all_goals first
    | (have hb : allR p g hBa hWi hRa hMo hDe hEv s t = (0, 1) := allR_bad (by
         rintro ⟨q1, q2⟩
         first
           | (have q3 : hyB hBa hWi hRa hMo hDe hEv = false := (by assumption); rw [q1] at q3; cases q3)
           | (have q3 : (p.ls.length : Int) ≠ (g.ls.length : Int) := (by assumption); omega))
       first | (rw [hb]; done) | (exfalso; have h0 : (allR p g hBa hWi hRa hMo hDe hEv s t).2 = 0 := (by assumption); rw [hb] at h0; cases h0))
    | (have hc : hyB hBa hWi hRa hMo hDe hEv = true ∧ p.ls.length = g.ls.length := ⟨by assumption, by omega⟩
       obtain ⟨hq1, hq2⟩ := f_hp
       first
         | omega
         | (have hkn : k < p.ls.length := (by omega)
            have hs : [AV.st [AV.st [AV.l (((p.at k).fld 0).fld 0).ints, AV.z (((p.at k).fld 0).fld 1).z, AV.l (((p.at k).fld 0).fld 2).ints], AV.l ((p.at k).fld 1).ints, AV.st [AV.l (((p.at k).fld 2).fld 0).ints, AV.z (((p.at k).fld 2).fld 1).z, AV.l (((p.at k).fld 2).fld 2).ints]], AV.st [AV.b ((g.at k).fld 0).bo, AV.st [AV.l (((g.at k).fld 1).fld 0).ints, AV.z (((g.at k).fld 1).fld 1).z, AV.l (((g.at k).fld 1).fld 2).ints], AV.st [AV.l (((g.at k).fld 2).fld 0).ints, AV.z (((g.at k).fld 2).fld 1).z, AV.l (((g.at k).fld 2).fld 2).ints]], AV.st [AV.z hBa, AV.z hWi, AV.z hRa, AV.z hMo, AV.z hDe, AV.z hEv], AV.z s, AV.z t, AV.z ((k : Int) + 1)] = stI p g hBa hWi hRa hMo hDe hEv s t k := rfl
            simp only [hs] at *
            first
              | exact hq2 k hkn
              | omega
              | (have he : stE (stI p g hBa hWi hRa hMo hDe hEv s t k) = 0 := (by assumption)
                 first
                   | contradiction
                   | (refine ⟨by omega, fun i hi => ?_⟩
                      by_cases e : i = k
                      · subst e; exact he
                      · exact hE i (by omega))
                   | (simp only [he, if_true]; exact allRow_app p g hBa hWi hRa hMo hDe hEv s t k)
                   | (simp only [he, if_true, Dat.ls, List.length_cons, List.length_nil]; omega)
                   | (exfalso; have h1 : stE (stI p g hBa hWi hRa hMo hDe hEv s t k) ≠ 0 := (by assumption); exact h1 he))
              | (have he : ¬ stE (stI p g hBa hWi hRa hMo hDe hEv s t k) = 0 := (by assumption)
                 have hv := allR_hit hc hkn hE he
                 first | contradiction | (rw [hv]; done) | (exfalso; have h0 : (allR p g hBa hWi hRa hMo hDe hEv s t).2 = 0 := (by assumption); rw [hv] at h0; exact he h0))
              | trace "P")
         | (have e : k = p.ls.length := (by omega)
            subst e
            have hv := allR_ok hc hE
            first | (rw [hv]; done) | exact allRow_all p g hBa hWi hRa hMo hDe hEv s t | rfl | (exfalso; have h0 : ¬ (allR p g hBa hWi hRa hMo hDe hEv s t).2 = 0 := (by assumption); rw [hv] at h0; exact h0 rfl) | trace "Q")
         | trace "R")
    | trace_state
end Go.Proofs.Ytekokhlldcmjfaa
/- Layer 21: any layers, one behind the other: all of them, or the first that cannot be. -/
namespace Go.Proofs.Ytekokhlldcmjfaa
open Go.RowKit
set_option maxRecDepth 1000000
set_option linter.unusedSimpArgs false
set_option linter.unusedVariables false
set_option maxHeartbeats 16000000
set_option cbv.maxSteps 10000000
theorem allTo_all {g : Nat → Bool} : ∀ {n : Nat}, (∀ i, g i = true) → allTo g n = true
  | 0, _ => rfl
  | n + 1, h => by
    show (allTo g n && g n) = true
    rw [allTo_all h, h n]; rfl
theorem spr_self (d : Dat) : sprF [.d d, .d d] = true := by
  show (decide (d.ls.length = d.ls.length) && allTo (fun i => samePD (d.at i) (d.at i)) d.ls.length) = true
  rw [decide_eq_true rfl, allTo_all (fun i => by unfold samePD; rw [sameTn_self, sameTn_self]; simp)]
  rfl
def rowsP (xa : List AV) : Prop := match xa with
  | [.d p, .d g, .st [.z a, .z b, .z c, .z d, .z e, .z f], .z s, .z t] => ∀ i, i < p.ls.length → szPD (p.at i)
  | _ => False
theorem rows_sz {M : Nat} {w : World} {v : Value} {u : Dat} (hr : RdV M w (.sl prmTy) v u) (hs : Sz M (.sl prmTy) u) (hM : M ≤ 140737488355328) : ∀ i, i < u.ls.length → szPD (u.at i) := by
  have hr2 : Rd M w (.sl prmTy) [v] u := hr
  rw [Rd] at hr2
  obtain ⟨ao, cap, ds, _, rfl, _, _, h⟩ := hr2
  intro i hi
  simp only [Dat.ls] at hi
  rw [Sz] at hs
  have hm : (Dat.list ds).at i = ds[i] := by
    unfold Dat.at
    simp only [Dat.ls, List.getD_eq_getElem?_getD, List.getElem?_eq_getElem hi]
    rfl
  rw [hm]
  rcases h with rfl | ⟨b, o, _, h⟩
  · simp at hi
  · obtain ⟨es, _, _, h3⟩ := h i ds[i] (List.getElem?_eq_getElem hi)
    exact sz_prm h3 (hs.2 _ (List.getElem_mem hi)) hM
theorem alls21_ok : CtrOk Try.prog 4 (yesQ [.sl prmTy, .sl grdTy, hyTy, .int .u64, .int .i64] rowsP) := by
  obtain ⟨G, hG⟩ : ∃ G : List (FuncId × Ctr), G = [(14, boolC [prmTy, grdTy] lg21F), (18, boolC [.sl prmTy, .sl prmTy] sprF), (15, boolC [] yes21)] := ⟨_, rfl⟩
  refine fn_inl2 (ck := true) rfl [(22, allC allP allE allN allD), (23, allC allP allE allN allD)] ⟨⟨by unfold FnOk; kernel_rfl, all21_ok⟩, ⟨by unfold FnOk; kernel_rfl, rall21_ok⟩, trivial⟩ [] trivial Try.func4 rfl tt_ok (G := G) (by rw [hG]; exact ⟨⟨light21_ok, by unfold FnOk; kernel_rfl⟩, ⟨rspr_ok, by unfold FnOk; kernel_rfl⟩, ⟨awake21_ok, by unfold FnOk; kernel_rfl⟩, trivial⟩) mixed (by kernel_rfl) ?_
  intro xa xs h hx hp
  obtain ⟨a0, as0, x0, xs0, rfl, rfl, h0, H1⟩ := svArgs_cons h
  obtain ⟨a1, as1, x1, xs1, rfl, rfl, h1, H2⟩ := svArgs_cons H1
  obtain ⟨a2, as2, x2, xs2, rfl, rfl, h2, H3⟩ := svArgs_cons H2
  obtain ⟨a3, as3, x3, xs3, rfl, rfl, h3, H4⟩ := svArgs_cons H3
  obtain ⟨a4, as4, x4, xs4, rfl, rfl, h4, H5⟩ := svArgs_cons H4
  obtain ⟨rfl, rfl⟩ := svArgs_nil H5
  obtain ⟨p, rfl, rfl⟩ := argSV_rows h0
  obtain ⟨g, rfl, rfl⟩ := argSV_rows h1
  obtain ⟨hBa, hWi, hRa, hMo, hDe, hEv, rfl, rfl⟩ := argSV_hy h2
  obtain ⟨s, rfl, rfl⟩ := argSV_int h3
  obtain ⟨t, rfl, rfl⟩ := argSV_int h4
  have sp : ci p.ls.length ≤ 9223372036854775807 ∧ Wt (.sl prmTy) p := ⟨wtl_len (hx (.imm prmTy p) (List.mem_of_getElem? (i := 0) rfl)), hx (.imm prmTy p) (List.mem_of_getElem? (i := 0) rfl)⟩
  have sg : ci g.ls.length ≤ 9223372036854775807 ∧ Wt (.sl grdTy) g := ⟨wtl_len (hx (.imm grdTy g) (List.mem_of_getElem? (i := 1) rfl)), hx (.imm grdTy g) (List.mem_of_getElem? (i := 1) rfl)⟩
  have sh : (-9223372036854775808 ≤ hBa ∧ hBa ≤ 9223372036854775807) ∧ (-9223372036854775808 ≤ hWi ∧ hWi ≤ 9223372036854775807) ∧ (-9223372036854775808 ≤ hRa ∧ hRa ≤ 9223372036854775807) ∧ (-9223372036854775808 ≤ hMo ∧ hMo ≤ 9223372036854775807) ∧ (-9223372036854775808 ≤ hDe ∧ hDe ≤ 9223372036854775807) ∧ (-9223372036854775808 ≤ hEv ∧ hEv ≤ 9223372036854775807) := svf_hy (hx (.agg [.v (.int .i64 hBa), .v (.int .i64 hWi), .v (.int .i64 hRa), .v (.int .i64 hMo), .v (.int .i64 hDe), .v (.int .i64 hEv)]) (List.mem_of_getElem? (i := 2) rfl))
  have ss : (Lit.int .u64 s).wf = true := (hx (.v (.int .u64 s)) (by simp))
  have st := of_i64 (hx (.v (.int .i64 t)) (by simp))
  have SP := Lib.hid sp
  clear sp
  have SG := Lib.hid sg
  clear sg
  have SH := Lib.hid sh
  clear sh
  have SS := Lib.hid ss
  clear ss
  have ST := Lib.hid st
  clear st
  have HP := Lib.hid (hp _ rfl)
  clear hx hp h h0 H1 h1 H2 h2 H3 h3 H4 h4 H5
  generalize hA : std = A
  subst hG
  generalize h_c : ci = c
  generalize h_fl : lg21F = fl
  generalize h_fs : sprF = fs
  generalize h_fY : yes21 = fY
  generalize h_gP : allP = gP
  generalize h_gE : allE = gE
  generalize h_gN : allN = gN
  generalize h_gD : allD = gD
  generalize h_fp : rowsP = fp
  cbv
  (repeat' (first | apply And.intro | apply BrB.mk | apply BrP.mk | intro _))
  all_goals try (refine loop_at Nat 30 (fun k => [(10, .any), (11, .any), (12, .any), (30, .v (.int .i64 (c k)))]) (fun k o => o) (fun k => k ≤ p.ls.length) (fun k => p.ls.length - k) 0 (Nat.zero_le _) ?_ ?_
                 focus
                   show AS.le _ _
                   cbv
                   (repeat' (first | apply And.intro | apply BrB.mk | apply BrP.mk | intro _))
                   (all_goals (subst hA; subst h_c; subst h_fl; subst h_fs; subst h_fY; subst h_gP; subst h_gE; subst h_gN; subst h_gD; subst h_fp); all_goals (have f_sp := SP.out; have f_sg := SG.out; have f_sh := SH.out; have f_ss := SS.out; have f_st := ST.out; have f_hp := HP.out); all_goals (try simp only [std, stdBin, stdCmp, stdUna, stdIn, ci, beq_iff_eq, bne_iff_ne, beq_eq_false_iff_ne, bne_eq_false_iff_eq, decide_eq_true_eq, decide_eq_false_iff_not, Bool.not_true, Bool.not_false, Bool.not_eq_true', Bool.not_eq_false', Bool.not_not, tn0, tn1, tn2, tn3] at *); all_goals (try omega))
                   all_goals first | exact True.intro | rfl
                   done)
  all_goals try (intro k hk; cbv; refine BrB.mk (fun gx => ?_) (fun gx => ?_))
  all_goals (repeat' (first | apply And.intro | apply BrB.mk | apply BrP.mk | intro _))
  all_goals try (refine ⟨k + 1, ?_, ?_, ?_⟩)
  all_goals try (show AS.le _ _; cbv; (repeat' (first | apply And.intro | apply BrB.mk | apply BrP.mk | intro _)))
  (all_goals (subst hA; subst h_c; subst h_fl; subst h_fs; subst h_fY; subst h_gP; subst h_gE; subst h_gN; subst h_gD; subst h_fp); all_goals (have f_sp := SP.out; have f_sg := SG.out; have f_sh := SH.out; have f_ss := SS.out; have f_st := ST.out; have f_hp := HP.out); all_goals (try simp only [std, stdBin, stdCmp, stdUna, stdIn, ci, beq_iff_eq, bne_iff_ne, beq_eq_false_iff_ne, bne_eq_false_iff_eq, decide_eq_true_eq, decide_eq_false_iff_not, Bool.not_true, Bool.not_false, Bool.not_eq_true', Bool.not_eq_false', Bool.not_not, tn0, tn1, tn2, tn3, spr_self, Int.toNat_natCast] at *); all_goals (try omega))
  all_goals first
    | exact True.intro
    | exact congrArg (Value.int .i64) (Int.natCast_succ _).symm
    | (exact ⟨by omega, f_hp⟩)
    | omega
    | contradiction
    | rfl
    | (exfalso; simp at *; done)
    | trace_state
end Go.Proofs.Ytekokhlldcmjfaa
