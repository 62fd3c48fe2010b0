/- A function's text: what is reckoned of it is so, further. No program in sight. -/
import Derived.Test.YtmlfiphpcjkadaaSndB
namespace Go.Proofs.Ytmlfiphpcjkadaa
open Go.RowKit Go.ChangeShapes Go.WideShapes Go.Deep
set_option linter.unusedVariables false
set_option linter.unusedSimpArgs false
def restR (n : Nat) (r : Nat → Option Value) : Nat → Option Value := fun i => if i < n then r i else none
theorem blt_lt {a b : Nat} (h : Nat.blt a b = true) : a < b := nble h
mutual
theorem idB_is {g : World} {r : Nat → Option Value} {n : Nat} : ∀ (x : SV) (u : Value), x.idB n = true → x.Is g r u → x.Is g (restR n r) u
  | .v _, _, _, h => by simp only [SV.Is] at h ⊢; exact h
  | .lit _, _, _, h => by simp only [SV.Is] at h ⊢; exact h
  | .iimm _ _, _, _, h => by simp only [SV.Is] at h ⊢; exact h
  | .imm _ _, _, _, h => by simp only [SV.Is] at h ⊢; exact h
  | .ip l, u, hb, h => by
    simp only [SV.idB] at hb
    simp only [SV.Is] at h ⊢
    obtain ⟨b, o, h1, h2⟩ := h
    exact ⟨b, o, h1, idBAt_is l b o hb h2⟩
  | .ptr i _, _, hb, h => by
    simp only [SV.idB] at hb
    simp only [SV.Is, restR, if_pos (blt_lt hb)] at h ⊢
    exact h
  | .elt i _, _, hb, h => by
    simp only [SV.idB] at hb
    simp only [SV.Is, restR, if_pos (blt_lt hb)] at h ⊢
    exact h
  | .hdl i, _, hb, h => by
    simp only [SV.idB] at hb
    simp only [SV.Is, restR, if_pos (blt_lt hb)] at h ⊢
    exact h
  | .sub i _ _, _, hb, h => by
    simp only [SV.idB] at hb
    simp only [SV.Is, restR, if_pos (blt_lt hb)] at h ⊢
    exact h
  | .csl i _, _, hb, h => by
    simp only [SV.idB] at hb
    simp only [SV.Is, restR, if_pos (blt_lt hb)] at h ⊢
    exact h
  | .agg l, u, hb, h => by
    simp only [SV.idB] at hb
    simp only [SV.Is] at h ⊢
    obtain ⟨cs, h1, h2⟩ := h
    exact ⟨cs, h1, idBs_is l _ hb h2⟩
  | .tup l, u, hb, h => by
    simp only [SV.idB] at hb
    simp only [SV.Is] at h ⊢
    obtain ⟨cs, h1, h2⟩ := h
    exact ⟨cs, h1, idBs_is l _ hb h2⟩
  | .any, _, _, _ => by simp only [SV.Is]
theorem idBAt_is {g : World} {r : Nat → Option Value} {n : Nat} : ∀ (l : List SV) (b o : Nat), idBs n l = true → IsAt g r l b o → IsAt g (restR n r) l b o
  | [], _, _, _, _ => by simp only [IsAt]
  | x :: l, b, o, hb, h => by
    simp only [idBs, Bool.and_eq_true] at hb
    simp only [IsAt] at h ⊢
    obtain ⟨⟨u, h1, h2⟩, h3⟩ := h
    exact ⟨⟨u, h1, idB_is x u hb.1 h2⟩, idBAt_is l b (o + 1) hb.2 h3⟩
theorem idBs_is {g : World} {r : Nat → Option Value} {n : Nat} : ∀ (l : List SV) (us : List Value), idBs n l = true → LsIs g r l us → LsIs g (restR n r) l us
  | [], _, _, h => by simp only [LsIs] at h ⊢; exact h
  | x :: l, us, hb, h => by
    simp only [idBs, Bool.and_eq_true] at hb
    simp only [LsIs] at h ⊢
    obtain ⟨u, us', h1, h2, h3⟩ := h
    exact ⟨u, us', h1, idB_is x u hb.1 h2, idBs_is l us' hb.2 h3⟩
end
theorem leObjs_at : ∀ {l m : List SO}, leObjs l m → ∀ id, (m.getD id .gone) ≠ .gone → (l.getD id .gone).le (m.getD id .gone)
  | _, [], _, id, h => by simp at h
  | [], _ :: _, h, _, _ => by simp only [leObjs] at h
  | x :: l, y :: m, h, id, hne => by
    simp only [leObjs] at h
    cases id with
    | zero => simpa using h.1
    | succ id => simpa using leObjs_at h.2 id (by simpa using hne)
theorem leObjs_len : ∀ {l m : List SO}, leObjs l m → m.length ≤ l.length
  | _, [], _ => Nat.zero_le _
  | [], _ :: _, h => by simp only [leObjs] at h
  | x :: l, y :: m, h => by
    simp only [leObjs] at h
    have := leObjs_len h.2
    simp only [List.length_cons]
    omega
theorem so_le {x y : SO} (h : x.le y) (hy : y ≠ .gone) : x ≠ .gone := by
  intro e
  subst e
  cases y <;> simp only [SO.le] at h
  exact hy rfl
theorem so_le_is {g : World} {r : Nat → Option Value} {w : World} {base : Nat} {q : Value} {n : Nat} : ∀ {x y : SO}, x.le y → y.idB n = true → x.Is g r w base q → y.Is g (restR n r) w base q
  | _, .gone, _, _, _ => trivial
  | .cells t l, .cells t' l', h, hb, ⟨b, cs, h1, h2, h3, h4⟩ => by
    simp only [SO.le] at h
    cases ht : Nat.beq t t' with
    | false => rw [ht] at h; exact h.elim
    | true =>
      rw [ht] at h
      obtain rfl := Nat.eq_of_beq_eq_true ht
      exact ⟨b, cs, h1, h2, h3, idBs_is l' _ hb (les_is l l' _ h h4)⟩
  | .irow E k l, .irow E' k' l', h, _, hx => by
    simp only [SO.le] at h
    cases h1 : Nat.beq E E' with
    | false => rw [h1] at h; exact h.elim
    | true =>
    cases h2 : IntKind.same k k' with
    | false => rw [h1, h2] at h; exact h.elim
    | true =>
      rw [h1, h2] at h
      obtain rfl := Nat.eq_of_beq_eq_true h1
      obtain rfl := same_eq h2
      simp only [Bool.and_self, cond_true] at h
      subst h
      exact hx
  | .cells _ _, .irow _ _ _, h, _, _ => by simp only [SO.le] at h
  | .irow _ _ _, .cells _ _, h, _, _ => by simp only [SO.le] at h
  | .gone, .cells _ _, h, _, _ => by simp only [SO.le] at h
  | .gone, .irow _ _ _, h, _, _ => by simp only [SO.le] at h
section
variable {P : Program} {C : Cx} {w0 : Fr} {r : Nat → Option Value} {s t : AS} {a : Act} {w : World}
theorem Sat.le (h : Sat w0 r s a w) (hl : s.le t) : Sat w0 (restR t.objs.length r) t a w := by
  unfold AS.le at hl
  cases hb : t.slots.all (SV.idB t.objs.length) && (t.objs.all (SO.idB t.objs.length) && t.sav.all (Fm.all (SV.idB t.objs.length))) with
  | false => rw [hb] at hl; exact hl.elim
  | true =>
    rw [hb] at hl
    obtain ⟨h1, h2, h3⟩ := hl
    simp only [Bool.and_eq_true] at hb
    obtain ⟨hb1, hb2, hb3⟩ := hb
    have hb : t.slots.all (SV.idB t.objs.length) = true ∧ t.objs.all (SO.idB t.objs.length) = true := ⟨hb1, hb2⟩
    have hlt : ∀ id, t.ob id ≠ .gone → id < t.objs.length := fun id hne => ob_lt id hne
    have hrr : ∀ id, id < t.objs.length → restR t.objs.length r id = r id := fun id hid => by unfold restR; rw [if_pos hid]
    have hobj : ∀ id, t.ob id ≠ .gone → s.ob id ≠ .gone ∧ (s.ob id).le (t.ob id) := fun id hne => by
      have := leObjs_at h2 id hne
      exact ⟨so_le this hne, this⟩
    have hbid : ∀ id, t.ob id ≠ .gone → (t.ob id).idB t.objs.length = true := by
      intro id hne
      have hid := hlt id hne
      have : t.ob id = t.objs[id] := by unfold AS.ob; rw [List.getD_eq_getElem?_getD, List.getElem?_eq_getElem hid]; rfl
      rw [this]
      exact List.all_eq_true.1 hb.2 _ (List.getElem_mem hid)
    refine ⟨⟨fun i => idB_is _ _ (Fm.all_get rfl i hb.1) (le_is _ _ _ (Fm.le_get i h1).1 (h.slots.get i)), fun i hi => h.slots.lt i ((Fm.le_get i h1).2 hi)⟩, h.defs, h.below, h.gw, ?_, ?_, ?_, ?_, ?_, ?_⟩
    · intro id hid
      unfold restR
      rw [if_neg (by omega)]
    · intro i q hq
      unfold restR at hq
      by_cases hi : i < t.objs.length
      · rw [if_pos hi] at hq; exact h.r1 i q hq
      · rw [if_neg hi] at hq; cases hq
    · intro id hne
      obtain ⟨h3, h4⟩ := hobj id hne
      obtain ⟨q, h5, h6⟩ := h.objs id h3
      exact ⟨q, by rw [hrr id (hlt id hne)]; exact h5, so_le_is h4 (hbid id hne) h6⟩
    · intro i q b hi hri hbi
      rw [hrr i (hlt i hi)] at hri
      exact h.mine i q b (hobj i hi).1 hri hbi
    · intro i j hi hj b hne hgi hgj hri hrj hbi
      rw [hrr i (hlt i hgi)] at hri
      rw [hrr j (hlt j hgj)] at hrj
      exact h.apart i j hi hj b hne (hobj i hgi).1 (hobj j hgj).1 hri hrj hbi
    · have hs := h.sav
      rw [h3] at hs
      generalize w0.sv = us at hs
      revert hs
      generalize t.sav = l at hb3
      induction l generalizing us with
      | nil => cases us with
        | nil => intro _; trivial
        | cons u us => exact fun e => e
      | cons x l ih => cases us with
        | nil => exact fun e => e
        | cons u us =>
          intro hs
          simp only [List.all_cons, Bool.and_eq_true] at hb3
          exact ⟨⟨fun i => idB_is _ _ (Fm.all_get rfl i hb3.1) (hs.1.get i), hs.1.lt⟩, ih us hb3.2 hs.2⟩
/-! ### Slices that are none -/
theorem isNilS_is {x : SV} (h : isNilS x = true) : x = .v (.slice none 0 0) := by
  unfold isNilS at h
  split at h
  · rfl
  · cases h
theorem nil_gv (h : Sat w0 r s a w) (E : TypeId) (k : IntKind) : Sat w0 (ext r s.objs.length [(0, .irow E k [])] (.slice none 0 0)) (s.new [(0, .irow E k [])]) a w := by
  have hv : Gv w0.g r s.objs.length w (.hdl s.objs.length, [(0, .irow E k [])]) (.slice none 0 0) w := by
    refine ⟨Below.refl _ _, ?_, ?_, ?_⟩
    · simp only [SV.Is]
      exact ext_new _ rfl
    · intro i o hi
      match i, hi with
      | 0, hi => cases hi; exact ⟨_, rfl, ⟨rfl, rfl⟩, World.ownsRow_nil _ _ _ _, fun x hx => by cases hx⟩
      | i + 1, hi => simp at hi
    · intro i j o p a b c hi hj hne ha hb hc
      match i, hi with
      | 0, hi => cases hi; cases ha; cases hc
      | i + 1, hi => simp at hi
  exact h.gv hv none
theorem nil_new (h : Sat w0 r s a w) (E : TypeId) (k : IntKind) : ext r s.objs.length [(0, SO.irow E k [])] (.slice none 0 0) s.objs.length = some (.slice none 0 0) := ext_new _ rfl
theorem Sat.nil1 (h : Sat w0 r s a w) (p : NilAt) : ∃ r', Sat w0 r' (s.nil1 p) a w := by
  cases p with
  | slot t E k =>
    simp only [AS.nil1]
    cases hn : isNilS (s.slots.get t) with
    | false => exact ⟨r, h⟩
    | true =>
      obtain ⟨u, h1, h2⟩ := slot_at h (isNilS_is hn) (by simp)
      simp only [SV.Is] at h2
      obtain ⟨rfl, _⟩ := h2
      exact ⟨_, (nil_gv h E k).refine (x := .hdl s.objs.length) h1 (by simp only [SV.Is]; exact nil_new h E k)⟩
  | cell id off E k =>
    simp only [AS.nil1]
    split
    · rename_i T l hob
      cases hn : isNilS (l.getD off .any) with
      | false => exact ⟨r, h⟩
      | true =>
        have hx := isNilS_is hn
        have hne : s.ob id ≠ .gone := by rw [hob]; simp
        have hid := ob_lt id hne
        have hoff : off < l.length := by
          rcases Nat.lt_or_ge off l.length with hlt | hge
          · exact hlt
          · rw [List.getD_eq_getElem?_getD, List.getElem?_eq_none hge] at hx; cases hx
        have hl : l[off]? = some (.v (.slice none 0 0)) := by
          rw [List.getD_eq_getElem?_getD, List.getElem?_eq_getElem hoff] at hx
          rw [List.getElem?_eq_getElem hoff]
          exact congrArg some hx
        have h' := nil_gv h E k
        have hob' : (s.new [(0, .irow E k [])]).ob id = .cells T l := by
          rw [ob_new, if_pos hid]; exact hob
        have hne' : (s.new [(0, .irow E k [])]).ob id ≠ .gone := by rw [hob']; simp
        obtain ⟨q, hq, ho⟩ := h'.objs id hne'
        rw [hob'] at ho
        obtain ⟨b, cs, hb, hbase, hh, hls⟩ := ho
        obtain ⟨u, hu, hui⟩ := lsIs_get hls hl
        simp only [SV.Is] at hui
        obtain ⟨rfl, _⟩ := hui
        have hset := lsIs_set (x := .hdl s.objs.length) (u := .slice none 0 0) off hls (by simp only [SV.Is]; exact nil_new h E k)
        have hcs : cs.toList.set off (.slice none 0 0) = cs.toList := by
          apply List.ext_getElem?
          intro j
          rw [List.getElem?_set]
          by_cases e : off = j
          · subst e
            rw [if_pos rfl, hu]
            have := (List.getElem?_eq_some_iff.1 hu).1
            rw [if_pos this]
          · rw [if_neg e]
        rw [hcs] at hset
        have hc := h'.change (o' := .cells T (l.set off (.hdl s.objs.length))) (w' := w) hq hb ⟨rfl, rfl, rfl, Nat.le_refl _, fun _ _ _ => rfl⟩ hne' ⟨b, cs, hb, hbase, hh, hset⟩ (by simp [AS.new]; omega)
        have he : (s.new [(0, .irow E k [])]).setObj id (.cells T (l.set off (.hdl s.objs.length))) = ⟨s.slots, s.objs.set id (.cells T (l.set off (.hdl s.objs.length))) ++ [.irow E k []], s.sav⟩ := by
          unfold AS.setObj AS.new
          simp only [List.map_cons, List.map_nil]
          rw [List.set_append_left _ _ hid]
        rw [he] at hc
        exact ⟨_, hc⟩
    · exact ⟨r, h⟩
theorem Sat.nil : ∀ (ns : List NilAt) {r : Nat → Option Value} {s : AS}, Sat w0 r s a w → ∃ r', Sat w0 r' (s.nil ns) a w
  | [], r, s, h => ⟨r, h⟩
  | p :: l, r, s, h => by
    obtain ⟨r1, h1⟩ := h.nil1 p
    exact Sat.nil l h1
/-! ### A text -/
def Code.drawsOk {α : Type} (I : List (FuncId × α)) : Code → Bool
  | .region _ ops d => !d || drawOk I ops
  | .seq a b => drawsOk I a && drawsOk I b
  | .cond _ a b => drawsOk I a && drawsOk I b
  | .block _ b => drawsOk I b
  | .loop b => drawsOk I b
  | _ => true
theorem least (p : Nat → Prop) : ∀ n, p n → ∃ m, p m ∧ ∀ k, k < m → ¬ p k := by
  intro n
  induction n using Nat.strongRecOn with
  | _ n ih =>
    intro hn
    by_cases h : ∃ k, k < n ∧ p k
    · obtain ⟨k, hk, hp⟩ := h
      exact ih k hk hp
    · exact ⟨n, hn, fun k hk hp => h ⟨k, hk, hp⟩⟩
open Classical in
/-- A TEXT. -/
theorem vc_wp (ht : ttOk P C.tt) (hA : C.A = std) (hG : GOk P C.G) (hI : IOk P C.I) (hm : P.follows .mixedOrders = true) : ∀ (c : Code), Code.drawsOk C.I c = true → ∀ (K : Exit → AS → Prop) (r : Nat → Option Value) (s : AS) (a : Act) (w : World) (Q : Exit → Act → World → Prop), Sat w0 r s a w → vc C c K s →
    (∀ e r' s' a' w', Sat w0 r' s' a' w' → K e s' → Q e a' w') → c.wp P Q a w := by
  intro c
  induction c with
  | skip => intro _ K r s a w Q h hv hQ; exact wp_skip (hQ _ _ _ _ _ h hv)
  | region id ops d =>
    intro hd K r s a w Q h hv hQ
    unfold vc at hv
    cases d with
    | true =>
      simp only [Code.drawsOk, Bool.not_true, Bool.false_or] at hd
      exact draw_wp ht hA hG hI hm hd h hv fun r' s' a' w' h' hk => hQ _ _ _ _ _ h' hk
    | false =>
      exact wp_region_list (vcOps_wp ht hA hG hI _ _ _ _ _ h hv fun r' s' a' w' h' hk => hQ _ _ _ _ _ h' hk)
  | seq x y ihx ihy =>
    intro hd K r s a w Q h hv hQ
    simp only [Code.drawsOk, Bool.and_eq_true] at hd
    unfold vc at hv
    refine wp_seq (ihx hd.1 _ r s a w _ h hv ?_)
    intro e r' s' a' w' h' hk
    cases e with
    | normal => exact ihy hd.2 _ r' s' a' w' _ h' hk hQ
    | _ => exact hQ _ _ _ _ _ h' hk
  | cond c x y ihx ihy =>
    intro hd K r s a w Q h hv hQ
    simp only [Code.drawsOk, Bool.and_eq_true] at hd
    unfold vc at hv
    have hc := h.ev c
    split at hv
    · rename_i b hb
      rw [hb] at hc
      simp only [SV.Is] at hc
      cases b with
      | true => exact wp_cond_true hc (ihx hd.1 _ r s a w _ h hv hQ)
      | false => exact wp_cond_false hc (ihy hd.2 _ r s a w _ h hv hQ)
    · rename_i b hb
      rw [hb] at hc
      simp only [SV.Is] at hc
      cases b with
      | true => exact wp_cond_true hc.1 (ihx hd.1 _ r s a w _ h (hv.1 rfl) hQ)
      | false => exact wp_cond_false hc.1 (ihy hd.2 _ r s a w _ h (hv.2 rfl) hQ)
    · exact hv.elim
  | block id b ih =>
    intro hd K r s a w Q h hv hQ
    unfold vc at hv
    refine wp_block (ih hd _ r s a w _ h hv ?_)
    intro e r' s' a' w' h' hk
    cases e with
    | exit i =>
      simp only [Exit.inBlock]
      simp only at hk
      cases hi : Nat.beq i id with
      | true =>
        rw [hi] at hk
        rw [if_pos (Nat.eq_of_beq_eq_true hi)]
        exact hQ _ _ _ _ _ h' hk
      | false =>
        rw [hi] at hk
        rw [if_neg (Nat.ne_of_beq_eq_false hi)]
        exact hQ _ _ _ _ _ h' hk
    | _ => exact hQ _ _ _ _ _ h' hk
  | loop b ih =>
    intro hd K r s a w Q h hv hQ
    unfold vc at hv
    obtain ⟨α, S, I, μ, x0, ns, hI0, hle, hround⟩ := hv
    obtain ⟨r0, h0⟩ := Sat.nil ns h
    let p : Act → World → Nat → Prop := fun a w n => ∃ x r, I x ∧ Sat w0 r (S x) a w ∧ μ x = n
    let m : Act → World → Nat := fun a w => if h : ∃ n, p a w n ∧ ∀ k, k < n → ¬ p a w k then Classical.choose h else 0
    have hmin : ∀ a w n, p a w n → p a w (m a w) ∧ m a w ≤ n := by
      intro a w n hn
      have hex := least (p a w) n hn
      have hme : m a w = Classical.choose hex := by simp only [m]; rw [dif_pos hex]
      obtain ⟨h1, h2⟩ := Classical.choose_spec hex
      rw [hme]
      refine ⟨h1, ?_⟩
      rcases Nat.lt_or_ge n (Classical.choose hex) with hlt | hge
      · exact absurd hn (h2 n hlt)
      · exact hge
    refine wp_loop (fun a w => ∃ n, p a w n) m ⟨_, x0, _, hI0, h0.le hle, rfl⟩ ?_
    rintro a1 w1 ⟨n1, hn1⟩
    obtain ⟨⟨x, r1, hIx, hSx, hmx⟩, _⟩ := hmin a1 w1 n1 hn1
    refine ih hd _ r1 (S x) a1 w1 _ hSx (hround x hIx) ?_
    intro e r' s' a' w' h' hk
    cases e with
    | normal =>
      obtain ⟨x', hIx', hle', hlt⟩ := hk
      have hp : p a' w' (μ x') := ⟨x', _, hIx', h'.le hle', rfl⟩
      refine ⟨⟨_, hp⟩, ?_⟩
      have := (hmin a' w' _ hp).2
      show m a' w' < m a1 w1
      omega
    | _ => exact hQ _ _ _ _ _ h' hk
  | exit id => intro _ K r s a w Q h hv hQ; exact wp_exit (hQ _ _ _ _ _ h hv)
  | ret => intro _ K r s a w Q h hv hQ; exact wp_ret (hQ _ _ _ _ _ h hv)
  | rangeFunc f ps x y ihx ihy => intro _ K r s a w Q h hv hQ; exact hv.elim
  | scope b ih => intro _ K r s a w Q h hv hQ; exact hv.elim
  | label l => intro _ K r s a w Q h hv hQ; exact hv.elim
  | goto l => intro _ K r s a w Q h hv hQ; exact hv.elim
  | refuse why => intro _ K r s a w Q h hv hQ; exact hv.elim
end
end Go.Proofs.Ytmlfiphpcjkadaa
