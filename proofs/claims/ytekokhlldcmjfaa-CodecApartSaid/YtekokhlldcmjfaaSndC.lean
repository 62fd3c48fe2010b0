/- A function's text: what is reckoned of it is so, further. No program in sight. -/
import Derived.Test.YtekokhlldcmjfaaSndB
import Derived.Test.YtekokhlldcmjfaaTree
namespace Go.Proofs.Ytekokhlldcmjfaa
open Go.RowKit Go.ChangeShapes Go.WideShapes Go.Deep
set_option linter.unusedVariables false
set_option linter.unusedSimpArgs false
def restR (n : Nat) (r : Nat → Option Value) : Nat → Option Value := fun i => if i < n then r i else none
theorem blt_lt {a b : Nat} (h : Nat.blt a b = true) : a < b := nble h
mutual
theorem idB_is {g : World} {r : Nat → Option Value} {n : Nat} : ∀ (x : SV) (u : Value), x.idB n = true → x.Is g r u → x.Is g (restR n r) u
  | .v _, _, _, h => by simp only [SV.Is] at h ⊢; exact h
  | .lit _, _, _, h => by simp only [SV.Is] at h ⊢; exact h
  | .iimm _ _, _, _, h => by simp only [SV.Is] at h ⊢; exact h
  | .imm _ _, _, _, h => by simp only [SV.Is] at h ⊢; exact h
  | .ip l, u, hb, h => by
    simp only [SV.idB] at hb
    simp only [SV.Is] at h ⊢
    obtain ⟨b, o, h1, h2⟩ := h
    exact ⟨b, o, h1, idBAt_is l b o hb h2⟩
  | .ptr i _, _, hb, h => by
    simp only [SV.idB] at hb
    simp only [SV.Is, restR, if_pos (blt_lt hb)] at h ⊢
    exact h
  | .elt i _, _, hb, h => by
    simp only [SV.idB] at hb
    simp only [SV.Is, restR, if_pos (blt_lt hb)] at h ⊢
    exact h
  | .hdl i, _, hb, h => by
    simp only [SV.idB] at hb
    simp only [SV.Is, restR, if_pos (blt_lt hb)] at h ⊢
    exact h
  | .sub i _ _, _, hb, h => by
    simp only [SV.idB] at hb
    simp only [SV.Is, restR, if_pos (blt_lt hb)] at h ⊢
    exact h
  | .csl i _, _, hb, h => by
    simp only [SV.idB] at hb
    simp only [SV.Is, restR, if_pos (blt_lt hb)] at h ⊢
    exact h
  | .sel i _ _ _, _, hb, h => by
    simp only [SV.idB] at hb
    simp only [SV.Is, restR, if_pos (blt_lt hb)] at h ⊢
    exact h
  | .psl i _ _, _, hb, h => by
    simp only [SV.idB] at hb
    simp only [SV.Is, restR, if_pos (blt_lt hb)] at h ⊢
    exact h
  | .clo _ l, u, hb, h => by
    simp only [SV.idB] at hb
    simp only [SV.Is] at h ⊢
    obtain ⟨cs, h1, h2⟩ := h
    exact ⟨cs, h1, idBs_is l _ hb h2⟩
  | .agg l, u, hb, h => by
    simp only [SV.idB] at hb
    simp only [SV.Is] at h ⊢
    obtain ⟨cs, h1, h2⟩ := h
    exact ⟨cs, h1, idBs_is l _ hb h2⟩
  | .tup l, u, hb, h => by
    simp only [SV.idB] at hb
    simp only [SV.Is] at h ⊢
    obtain ⟨cs, h1, h2⟩ := h
    exact ⟨cs, h1, idBs_is l _ hb h2⟩
  | .any, _, _, _ => by simp only [SV.Is]
theorem idBAt_is {g : World} {r : Nat → Option Value} {n : Nat} : ∀ (l : List SV) (b o : Nat), idBs n l = true → IsAt g r l b o → IsAt g (restR n r) l b o
  | [], _, _, _, _ => by simp only [IsAt]
  | x :: l, b, o, hb, h => by
    simp only [idBs, Bool.and_eq_true] at hb
    simp only [IsAt] at h ⊢
    obtain ⟨⟨u, h1, h2⟩, h3⟩ := h
    exact ⟨⟨u, h1, idB_is x u hb.1 h2⟩, idBAt_is l b (o + 1) hb.2 h3⟩
theorem idBs_is {g : World} {r : Nat → Option Value} {n : Nat} : ∀ (l : List SV) (us : List Value), idBs n l = true → LsIs g r l us → LsIs g (restR n r) l us
  | [], _, _, h => by simp only [LsIs] at h ⊢; exact h
  | x :: l, us, hb, h => by
    simp only [idBs, Bool.and_eq_true] at hb
    simp only [LsIs] at h ⊢
    obtain ⟨u, us', h1, h2, h3⟩ := h
    exact ⟨u, us', h1, idB_is x u hb.1 h2, idBs_is l us' hb.2 h3⟩
end
theorem leObjs_at : ∀ {l m : List SO}, leObjs l m → ∀ id, (m.getD id .gone) ≠ .gone → (l.getD id .gone).le (m.getD id .gone)
  | _, [], _, id, h => by simp at h
  | [], _ :: _, h, _, _ => by simp only [leObjs] at h
  | x :: l, y :: m, h, id, hne => by
    simp only [leObjs] at h
    cases id with
    | zero => simpa using h.1
    | succ id => simpa using leObjs_at h.2 id (by simpa using hne)
theorem leObjs_len : ∀ {l m : List SO}, leObjs l m → m.length ≤ l.length
  | _, [], _ => Nat.zero_le _
  | [], _ :: _, h => by simp only [leObjs] at h
  | x :: l, y :: m, h => by
    simp only [leObjs] at h
    have := leObjs_len h.2
    simp only [List.length_cons]
    omega
theorem so_le {x y : SO} (h : x.le y) (hy : y ≠ .gone) : x ≠ .gone := by
  intro e
  subst e
  cases y <;> simp only [SO.le] at h
  exact hy rfl
theorem so_le_is {g : World} {r : Nat → Option Value} {w : World} {base : Nat} {q : Value} {n : Nat} : ∀ {x y : SO}, x.le y → y.idB n = true → x.Is g r w base q → y.Is g (restR n r) w base q
  | _, .gone, _, _, _ => trivial
  | .cells t l, .cells t' l', h, hb, ⟨b, cs, h1, h2, h3, h4⟩ => by
    simp only [SO.le] at h
    cases ht : Nat.beq t t' with
    | false => rw [ht] at h; exact h.elim
    | true =>
      rw [ht] at h
      obtain rfl := Nat.eq_of_beq_eq_true ht
      exact ⟨b, cs, h1, h2, h3, idBs_is l' _ hb (les_is l l' _ h h4)⟩
  | .irow E k l, .irow E' k' l', h, _, hx => by
    simp only [SO.le] at h
    cases h1 : Nat.beq E E' with
    | false => rw [h1] at h; exact h.elim
    | true =>
    cases h2 : IntKind.same k k' with
    | false => rw [h1, h2] at h; exact h.elim
    | true =>
      rw [h1, h2] at h
      obtain rfl := Nat.eq_of_beq_eq_true h1
      obtain rfl := same_eq h2
      simp only [Bool.and_self, cond_true] at h
      subst h
      exact hx
  | .srow E T d, .srow E' T' d', h, _, hx => by
    simp only [SO.le] at h
    cases h1 : Nat.beq E E' with
    | false => rw [h1] at h; exact h.elim
    | true =>
    cases h2 : T.same T' with
    | false => rw [h1, h2] at h; exact h.elim
    | true =>
      rw [h1, h2] at h
      obtain rfl := Nat.eq_of_beq_eq_true h1
      obtain rfl := Ty.same_eq _ _ h2
      simp only [Bool.and_self, cond_true] at h
      subst h
      exact hx
  | .cells _ _, .srow _ _ _, h, _, _ => by simp only [SO.le] at h
  | .irow _ _ _, .srow _ _ _, h, _, _ => by simp only [SO.le] at h
  | .gone, .srow _ _ _, h, _, _ => by simp only [SO.le] at h
  | .srow _ _ _, .cells _ _, h, _, _ => by simp only [SO.le] at h
  | .srow _ _ _, .irow _ _ _, h, _, _ => by simp only [SO.le] at h
  | .cells _ _, .irow _ _ _, h, _, _ => by simp only [SO.le] at h
  | .irow _ _ _, .cells _ _, h, _, _ => by simp only [SO.le] at h
  | .gone, .cells _ _, h, _, _ => by simp only [SO.le] at h
  | .gone, .irow _ _ _, h, _, _ => by simp only [SO.le] at h
section
variable {P : Program} {C : Cx} {w0 : Fr} {r : Nat → Option Value} {s t : AS} {a : Act} {w : World}
theorem Sat.le (h : Sat w0 r s a w) (hl : s.le t) : Sat w0 (restR t.objs.length r) t a w := by
  unfold AS.le at hl
  cases hb : t.slots.all (SV.idB t.objs.length) && (t.objs.all (SO.idB t.objs.length) && t.sav.all (Fm.all (SV.idB t.objs.length))) with
  | false => rw [hb] at hl; exact hl.elim
  | true =>
    rw [hb] at hl
    obtain ⟨h1, h2, h3⟩ := hl
    simp only [Bool.and_eq_true] at hb
    obtain ⟨hb1, hb2, hb3⟩ := hb
    have hb : t.slots.all (SV.idB t.objs.length) = true ∧ t.objs.all (SO.idB t.objs.length) = true := ⟨hb1, hb2⟩
    have hlt : ∀ id, t.ob id ≠ .gone → id < t.objs.length := fun id hne => ob_lt id hne
    have hrr : ∀ id, id < t.objs.length → restR t.objs.length r id = r id := fun id hid => by unfold restR; rw [if_pos hid]
    have hobj : ∀ id, t.ob id ≠ .gone → s.ob id ≠ .gone ∧ (s.ob id).le (t.ob id) := fun id hne => by
      have := leObjs_at h2 id hne
      exact ⟨so_le this hne, this⟩
    have hbid : ∀ id, t.ob id ≠ .gone → (t.ob id).idB t.objs.length = true := by
      intro id hne
      have hid := hlt id hne
      have : t.ob id = t.objs[id] := by unfold AS.ob; rw [List.getD_eq_getElem?_getD, List.getElem?_eq_getElem hid]; rfl
      rw [this]
      exact List.all_eq_true.1 hb.2 _ (List.getElem_mem hid)
    refine ⟨⟨fun i => idB_is _ _ (Fm.all_get rfl i hb.1) (le_is _ _ _ (Fm.le_get i h1).1 (h.slots.get i)), fun i hi => h.slots.lt i ((Fm.le_get i h1).2 hi)⟩, h.defs, h.below, h.gw, ?_, ?_, ?_, ?_, ?_, ?_⟩
    · intro id hid
      unfold restR
      rw [if_neg (by omega)]
    · intro i q hq
      unfold restR at hq
      by_cases hi : i < t.objs.length
      · rw [if_pos hi] at hq; exact h.r1 i q hq
      · rw [if_neg hi] at hq; cases hq
    · intro id hne
      obtain ⟨h3, h4⟩ := hobj id hne
      obtain ⟨q, h5, h6⟩ := h.objs id h3
      exact ⟨q, by rw [hrr id (hlt id hne)]; exact h5, so_le_is h4 (hbid id hne) h6⟩
    · intro i q b hi hri hbi
      rw [hrr i (hlt i hi)] at hri
      exact h.mine i q b (hobj i hi).1 hri hbi
    · intro i j hi hj b hne hgi hgj hri hrj hbi
      rw [hrr i (hlt i hgi)] at hri
      rw [hrr j (hlt j hgj)] at hrj
      exact h.apart i j hi hj b hne (hobj i hgi).1 (hobj j hgj).1 hri hrj hbi
    · have hs := h.sav
      rw [h3] at hs
      generalize w0.sv = us at hs
      revert hs
      generalize t.sav = l at hb3
      induction l generalizing us with
      | nil => cases us with
        | nil => intro _; trivial
        | cons u us => exact fun e => e
      | cons x l ih => cases us with
        | nil => exact fun e => e
        | cons u us =>
          intro hs
          simp only [List.all_cons, Bool.and_eq_true] at hb3
          exact ⟨⟨fun i => idB_is _ _ (Fm.all_get rfl i hb3.1) (hs.1.get i), hs.1.lt⟩, ih us hb3.2 hs.2⟩
/-! ### Slices that are none -/
theorem isNilS_is {x : SV} (h : isNilS x = true) : x = .v (.slice none 0 0) := by
  unfold isNilS at h
  split at h
  · rfl
  · cases h
theorem nil_gv (h : Sat w0 r s a w) {z : SO} (hz : ∀ r w, z.Is w0.g r w w.heap.size (.slice none 0 0)) : Sat w0 (ext r s.objs.length [(0, z)] (.slice none 0 0)) (s.new [(0, z)]) a w := by
  have hv : Gv w0.g r s.objs.length w (.hdl s.objs.length, [(0, z)]) (.slice none 0 0) w := by
    refine ⟨Below.refl _ _, ?_, ?_, ?_⟩
    · simp only [SV.Is]
      exact ext_new _ rfl
    · intro i o hi
      match i, hi with
      | 0, hi => cases hi; exact ⟨_, rfl, ⟨rfl, rfl⟩, hz _ _⟩
      | i + 1, hi => simp at hi
    · intro i j o p a b c hi hj hne ha hb hc
      match i, hi with
      | 0, hi => cases hi; cases ha; cases hc
      | i + 1, hi => simp at hi
  exact h.gv hv none
theorem nil_new (h : Sat w0 r s a w) (z : SO) : ext r s.objs.length [(0, z)] (.slice none 0 0) s.objs.length = some (.slice none 0 0) := ext_new _ rfl
theorem irow_nil {g : World} (E : TypeId) (k : IntKind) : ∀ r w, (SO.irow E k []).Is g r w w.heap.size (.slice none 0 0) := fun _ _ => ⟨OwnM.nil _ _ _ _, fun x hx => by cases hx⟩
theorem srow_nil {g : World} (E : TypeId) {T : Ty} (h : 1 ≤ T.size) : ∀ r w, (SO.srow E T (.list [])).Is g r w w.heap.size (.slice none 0 0) := fun _ _ => ⟨h, [], [], rfl, OwnM.nil _ _ _ _, fun i u hu => by simp at hu⟩
theorem Sat.nilSlot (h : Sat w0 r s a w) {t : Nat} {z : SO} (hz : ∀ r w, z.Is w0.g r w w.heap.size (.slice none 0 0)) (hn : isNilS (s.slots.get t) = true) : ∃ r', Sat w0 r' ⟨s.slots.set t (.hdl s.objs.length), s.objs ++ [z], s.sav⟩ a w := by
  obtain ⟨u, h1, h2⟩ := slot_at h (isNilS_is hn) (by simp)
  simp only [SV.Is] at h2
  obtain ⟨rfl, _⟩ := h2
  exact ⟨_, (nil_gv h hz).refine (x := .hdl s.objs.length) h1 (by simp only [SV.Is]; exact nil_new h z)⟩
theorem Sat.nilCell (h : Sat w0 r s a w) {id off : Nat} {T : TypeId} {l : List SV} {z : SO} (hz : ∀ r w, z.Is w0.g r w w.heap.size (.slice none 0 0)) (hob : s.ob id = .cells T l) (hn : isNilS (l.getD off .any) = true) : ∃ r', Sat w0 r' ⟨s.slots, s.objs.set id (.cells T (l.set off (.hdl s.objs.length))) ++ [z], s.sav⟩ a w := by
  have hx := isNilS_is hn
  have hne : s.ob id ≠ .gone := by rw [hob]; simp
  have hid := ob_lt id hne
  have hoff : off < l.length := by
    rcases Nat.lt_or_ge off l.length with hlt | hge
    · exact hlt
    · rw [List.getD_eq_getElem?_getD, List.getElem?_eq_none hge] at hx; cases hx
  have hl : l[off]? = some (.v (.slice none 0 0)) := by
    rw [List.getD_eq_getElem?_getD, List.getElem?_eq_getElem hoff] at hx
    rw [List.getElem?_eq_getElem hoff]
    exact congrArg some hx
  have h' := nil_gv h hz
  have hob' : (s.new [(0, z)]).ob id = .cells T l := by
    rw [ob_new, if_pos hid]; exact hob
  have hne' : (s.new [(0, z)]).ob id ≠ .gone := by rw [hob']; simp
  obtain ⟨q, hq, ho⟩ := h'.objs id hne'
  rw [hob'] at ho
  obtain ⟨b, cs, hb, hbase, hh, hls⟩ := ho
  obtain ⟨u, hu, hui⟩ := lsIs_get hls hl
  simp only [SV.Is] at hui
  obtain ⟨rfl, _⟩ := hui
  have hset := lsIs_set (x := .hdl s.objs.length) (u := .slice none 0 0) off hls (by simp only [SV.Is]; exact nil_new h z)
  have hcs : cs.toList.set off (.slice none 0 0) = cs.toList := by
    apply List.ext_getElem?
    intro j
    rw [List.getElem?_set]
    by_cases e : off = j
    · subst e
      rw [if_pos rfl, hu]
      have := (List.getElem?_eq_some_iff.1 hu).1
      rw [if_pos this]
    · rw [if_neg e]
  rw [hcs] at hset
  have hc := h'.change (o' := .cells T (l.set off (.hdl s.objs.length))) (w' := w) hq hb ⟨rfl, rfl, rfl, Nat.le_refl _, fun _ _ _ => rfl⟩ hne' ⟨b, cs, hb, hbase, hh, hset⟩ (by simp [AS.new]; omega)
  have he : (s.new [(0, z)]).setObj id (.cells T (l.set off (.hdl s.objs.length))) = ⟨s.slots, s.objs.set id (.cells T (l.set off (.hdl s.objs.length))) ++ [z], s.sav⟩ := by
    unfold AS.setObj AS.new
    simp only [List.map_cons, List.map_nil]
    rw [List.set_append_left _ _ hid]
  rw [he] at hc
  exact ⟨_, hc⟩
def rowB : NilAt → Bool
  | .row _ _ => true
  | _ => false
theorem Sat.nil1 (ht : ttOk P C.tt) (hA : C.A = std) (h : Sat w0 r s a w) (p : NilAt) : ∃ w1 r', (rowB p = false → w1 = w0) ∧ Fr.le true w0 w1 ∧ Sat w1 r' (s.nil1 std p) a w := by
  have keep : ∀ {t : AS}, (∃ r', Sat w0 r' t a w) → ∃ w1 r', (rowB p = false → w1 = w0) ∧ Fr.le true w0 w1 ∧ Sat w1 r' t a w := fun ⟨r', hs⟩ => ⟨w0, r', fun _ => rfl, Fr.le.refl _ _, hs⟩
  cases p with
  | slot t E k =>
    simp only [AS.nil1]
    cases hn : isNilS (s.slots.get t) with
    | false => exact keep ⟨r, h⟩
    | true => exact keep (h.nilSlot (irow_nil E k) hn)
  | cell id off E k =>
    simp only [AS.nil1]
    split
    · rename_i T l hob
      cases hn : isNilS (l.getD off .any) with
      | false => exact keep ⟨r, h⟩
      | true => exact keep (h.nilCell (irow_nil E k) hob hn)
    · exact keep ⟨r, h⟩
  | slotR t E T =>
    simp only [AS.nil1]
    cases hn : isNilS (s.slots.get t) with
    | false => exact keep ⟨r, h⟩
    | true =>
      cases hT : Nat.ble 1 T.size with
      | false => exact keep ⟨r, h⟩
      | true => exact keep (h.nilSlot (srow_nil E (nble hT)) hn)
  | cellR id off E T =>
    simp only [AS.nil1]
    split
    · rename_i U l hob
      cases hn : isNilS (l.getD off .any) with
      | false => exact keep ⟨r, h⟩
      | true =>
        cases hT : Nat.ble 1 T.size with
        | false => exact keep ⟨r, h⟩
        | true => exact keep (h.nilCell (srow_nil E (nble hT)) hob hn)
    · exact keep ⟨r, h⟩
  | row t T =>
    simp only [AS.nil1]
    obtain ⟨w1, h1, h2⟩ := h.asRow ht hA (T := T) (h.slots.get t)
    exact ⟨w1, r, (fun e => by cases e), h1, h2⟩
theorem Sat.nil (ht : ttOk P C.tt) (hA : C.A = std) : ∀ (ns : List NilAt) {w0 : Fr} {r : Nat → Option Value} {s : AS}, Sat w0 r s a w → ∃ w1 r', (noRow ns = true → w1 = w0) ∧ Fr.le true w0 w1 ∧ Sat w1 r' (s.nil std ns) a w
  | [], w0, r, s, h => ⟨w0, r, fun _ => rfl, Fr.le.refl _ _, h⟩
  | p :: l, w0, r, s, h => by
    obtain ⟨w1, r1, h0, h1, h2⟩ := h.nil1 ht hA p
    obtain ⟨w2, r2, h3, h4, h5⟩ := Sat.nil ht hA l h2
    refine ⟨w2, r2, fun e => ?_, h1.trans h4, h5⟩
    simp only [noRow, Bool.and_eq_true] at e
    rw [h3 e.2, h0]
    cases p <;> first | rfl | (exact absurd e.1 (by simp))
theorem Sat.nilF (ht : ttOk P C.tt) (hA : C.A = std) {z : Bool} {ns : List NilAt} (hz : okRow z ns) (h : Sat w0 r s a w) : ∃ w1 r', Fr.le z w0 w1 ∧ Sat w1 r' (s.nil std ns) a w := by
  obtain ⟨w1, r', h1, h2, h3⟩ := Sat.nil ht hA ns h
  cases z with
  | true => exact ⟨w1, r', h2, h3⟩
  | false =>
    unfold okRow at hz
    simp only at hz
    cases hn : noRow ns with
    | true =>
      obtain rfl := h1 hn
      exact ⟨w1, r', Fr.le.refl _ _, h3⟩
    | false => rw [hn] at hz; exact hz.elim
/-! ### A text -/
def Code.drawsOk {α : Type} (I : List (FuncId × α)) : Code → Bool
  | .region _ ops d => !d || (match treeB I ops.toList with | true => treeOk ops | false => drawOk I ops)
  | .seq a b => drawsOk I a && drawsOk I b
  | .cond _ a b => drawsOk I a && drawsOk I b
  | .block _ b => drawsOk I b
  | .loop b => drawsOk I b
  | _ => true
theorem least (p : Nat → Prop) : ∀ n, p n → ∃ m, p m ∧ ∀ k, k < m → ¬ p k := by
  intro n
  induction n using Nat.strongRecOn with
  | _ n ih =>
    intro hn
    by_cases h : ∃ k, k < n ∧ p k
    · obtain ⟨k, hk, hp⟩ := h
      exact ih k hk hp
    · exact ⟨n, hn, fun k hk hp => h ⟨k, hk, hp⟩⟩
open Classical in
/-- A TEXT. -/
theorem vc_wp (ht : ttOk P C.tt) (hA : C.A = std) (hG : GOk P C.G) (hI : IOk P C.fz C.I) (hm : P.follows .mixedOrders = true) : ∀ (c : Code), Code.drawsOk C.I c = true → ∀ (K : Exit → AS → Prop) (w0 : Fr) (r : Nat → Option Value) (s : AS) (a : Act) (w : World) (Q : Exit → Act → World → Prop), Sat w0 r s a w → vc C c K s →
    (∀ e w1 r' s' a' w', Fr.le C.fz w0 w1 → Sat w1 r' s' a' w' → K e s' → Q e a' w') → c.wp P Q a w := by
  intro c
  induction c with
  | skip => intro _ K w0 r s a w Q h hv hQ; exact wp_skip (hQ _ _ _ _ _ _ (Fr.le.refl _ _) h hv)
  | region id ops d =>
    intro hd K w0 r s a w Q h hv hQ
    unfold vc at hv
    cases d with
    | true =>
      simp only [Code.drawsOk, Bool.not_true, Bool.false_or] at hd
      cases htr : treeB C.I ops.toList with
      | true =>
        simp only [htr] at hd hv
        exact tree_region ht hA hG hI hm hd h hv fun w1 r' s' a' w' hl h' hk => hQ _ _ _ _ _ _ hl h' hk
      | false =>
        simp only [htr] at hd hv
        exact draw_wp ht hA hG hI hm hd h hv fun w1 r' s' a' w' hl h' hk => hQ _ _ _ _ _ _ hl h' hk
    | false =>
      exact wp_region_list (vcOps_wp ht hA hG hI _ _ _ _ _ _ h hv fun w1 r' s' a' w' hl h' hk => hQ _ _ _ _ _ _ hl h' hk)
  | seq x y ihx ihy =>
    intro hd K w0 r s a w Q h hv hQ
    simp only [Code.drawsOk, Bool.and_eq_true] at hd
    unfold vc at hv
    refine wp_seq (ihx hd.1 _ w0 r s a w _ h hv ?_)
    intro e w1 r' s' a' w' hl h' hk
    cases e with
    | normal => exact ihy hd.2 _ w1 r' s' a' w' _ h' hk fun e w2 r2 s2 a2 w3 hl2 => hQ e w2 r2 s2 a2 w3 (hl.trans hl2)
    | _ => exact hQ _ _ _ _ _ _ hl h' hk
  | cond c x y ihx ihy =>
    intro hd K w0 r s a w Q h hv hQ
    simp only [Code.drawsOk, Bool.and_eq_true] at hd
    unfold vc at hv
    have hc := h.ev c
    split at hv
    · rename_i b hb
      rw [hb] at hc
      simp only [SV.Is] at hc
      cases b with
      | true => exact wp_cond_true hc (ihx hd.1 _ w0 r s a w _ h hv hQ)
      | false => exact wp_cond_false hc (ihy hd.2 _ w0 r s a w _ h hv hQ)
    · rename_i b hb
      rw [hb] at hc
      simp only [SV.Is] at hc
      cases b with
      | true => exact wp_cond_true hc.1 (ihx hd.1 _ w0 r s a w _ h (hv.1 rfl) hQ)
      | false => exact wp_cond_false hc.1 (ihy hd.2 _ w0 r s a w _ h (hv.2 rfl) hQ)
    · exact hv.elim
  | block id b ih =>
    intro hd K w0 r s a w Q h hv hQ
    unfold vc at hv
    refine wp_block (ih hd _ w0 r s a w _ h hv ?_)
    intro e w1 r' s' a' w' hl h' hk
    cases e with
    | exit i =>
      simp only [Exit.inBlock]
      simp only at hk
      cases hi : Nat.beq i id with
      | true =>
        rw [hi] at hk
        rw [if_pos (Nat.eq_of_beq_eq_true hi)]
        exact hQ _ _ _ _ _ _ hl h' hk
      | false =>
        rw [hi] at hk
        rw [if_neg (Nat.ne_of_beq_eq_false hi)]
        exact hQ _ _ _ _ _ _ hl h' hk
    | _ => exact hQ _ _ _ _ _ _ hl h' hk
  | loop b ih =>
    intro hd K w0 r s a w Q h hv hQ
    unfold vc at hv
    obtain ⟨α, S, I, μ, x0, ns, hI0, hz, hle, hround⟩ := hv
    rw [hA] at hle
    obtain ⟨w1, r0, hl0, h0⟩ := Sat.nilF ht hA hz h
    let p : Act → World → Nat → Prop := fun a w n => ∃ x w2 r, Fr.le C.fz w0 w2 ∧ I x ∧ Sat w2 r (S x) a w ∧ μ x = n
    let m : Act → World → Nat := fun a w => if h : ∃ n, p a w n ∧ ∀ k, k < n → ¬ p a w k then Classical.choose h else 0
    have hmin : ∀ a w n, p a w n → p a w (m a w) ∧ m a w ≤ n := by
      intro a w n hn
      have hex := least (p a w) n hn
      have hme : m a w = Classical.choose hex := by simp only [m]; rw [dif_pos hex]
      obtain ⟨h1, h2⟩ := Classical.choose_spec hex
      rw [hme]
      refine ⟨h1, ?_⟩
      rcases Nat.lt_or_ge n (Classical.choose hex) with hlt | hge
      · exact absurd hn (h2 n hlt)
      · exact hge
    refine wp_loop (fun a w => ∃ n, p a w n) m ⟨_, x0, w1, _, hl0, hI0, h0.le hle, rfl⟩ ?_
    rintro a1 v1 ⟨n1, hn1⟩
    obtain ⟨⟨x, w2, r1, hl2, hIx, hSx, hmx⟩, _⟩ := hmin a1 v1 n1 hn1
    refine ih hd _ w2 r1 (S x) a1 v1 _ hSx (hround x hIx) ?_
    intro e w3 r' s' a' w' hl h' hk
    cases e with
    | normal =>
      obtain ⟨x', hIx', hle', hlt⟩ := hk
      have hp : p a' w' (μ x') := ⟨x', w3, _, hl2.trans hl, hIx', h'.le hle', rfl⟩
      refine ⟨⟨_, hp⟩, ?_⟩
      have := (hmin a' w' _ hp).2
      show m a' w' < m a1 v1
      omega
    | _ => exact hQ _ _ _ _ _ _ (hl2.trans hl) h' hk
  | exit id => intro _ K w0 r s a w Q h hv hQ; exact wp_exit (hQ _ _ _ _ _ _ (Fr.le.refl _ _) h hv)
  | ret => intro _ K w0 r s a w Q h hv hQ; exact wp_ret (hQ _ _ _ _ _ _ (Fr.le.refl _ _) h hv)
  | rangeFunc f ps x y ihx ihy => intro _ K w0 r s a w Q h hv hQ; exact hv.elim
  | scope b ih => intro _ K w0 r s a w Q h hv hQ; exact hv.elim
  | label l => intro _ K w0 r s a w Q h hv hQ; exact hv.elim
  | goto l => intro _ K w0 r s a w Q h hv hQ; exact hv.elim
  | refuse why => intro _ K w0 r s a w Q h hv hQ; exact hv.elim
end
end Go.Proofs.Ytekokhlldcmjfaa
