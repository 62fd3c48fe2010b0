/- Regions that draw their order. No program in sight. -/
import Derived.Test.YtekokhlldcmjfaaSnd8
import Derived.Test.YtekokhlldcmjfaaGrw
namespace Go.Proofs.Ytekokhlldcmjfaa
open Go.RowKit Go.ChangeShapes Go.WideShapes Go.Deep
set_option linter.unusedVariables false
set_option linter.unusedSimpArgs false
/-- One operation's outcome. -/
structure PI where
  run : Bool
  sv : SV
  os : List (Nat × SO)
/-- How a guard's answer is known better. -/
def Refines (ops : List Oper) (o : Oper) (s s' : AS) (run : Bool) : Prop := match o.guard with
  | none => s' = s ∧ run = true
  | some (j, want) => ∃ t, (ops[j]?).bind (·.dst) = some t ∧ ((∃ b, s.slots.get t = .lit b ∧ s' = s ∧ run = (b == want)) ∨ (∃ b, s.slots.get t = .v (.bool b) ∧ s' = s.put (some t) (.lit b) ∧ run = (b == want)) ∨ (s.slots.get t = .tup [] ∧ s' = s ∧ run = false))
def Facts (C : Cx) (ops : List Oper) (cls : List Nat) (n0 : Nat) (K : AS → Prop) : Nat → List Oper → List Nat → AS → List PI → Prop
  | _, [], _, s, ps => ps = [] ∧ K s
  | i, o :: l, cre, s, ps => ∃ p ps' s', ps = p :: ps' ∧ Refines ops o s s' p.run ∧
      (p.run = true → ∃ c rt, exec C s'.ev (visOb s' n0 cre (cls.getD i 0)) s'.objs.length o.op = some (c, rt) ∧ (∀ q, c = some q → q) ∧ rt.pick = (p.sv, p.os)) ∧
      (p.run = false → p.sv = .tup [] ∧ p.os = []) ∧ Facts C ops cls n0 K (i + 1) l (cre ++ p.os.map fun _ => i) ((s'.new p.os).put o.dst p.sv) ps'
theorem new_nil (s : AS) : s.new [] = s := by
  cases s
  simp [AS.new]
theorem ask_ref {s : AS} {ops : List Oper} {o : Oper} {yes no : AS → Prop} (hv : ask s ops o.guard yes no) : ∃ s' run, Refines ops o s s' run ∧ (run = true → yes s') ∧ (run = false → no s') := by
  unfold ask at hv
  unfold Refines
  cases hg : o.guard with
  | none =>
    rw [hg] at hv
    exact ⟨s, true, ⟨rfl, rfl⟩, fun _ => hv, fun h => by cases h⟩
  | some q =>
    obtain ⟨j, want⟩ := q
    rw [hg] at hv
    simp only at hv ⊢
    split at hv
    · rename_i t ht
      split at hv
      · rename_i b hb
        refine ⟨s, b == want, ⟨t, ht, .inl ⟨b, hb, rfl, rfl⟩⟩, fun h => ?_, fun h => ?_⟩
        · rw [h] at hv; exact hv
        · rw [h] at hv; exact hv
      · rename_i b hb
        refine ⟨s.put (some t) (.lit b), b == want, ⟨t, ht, .inr (.inl ⟨b, hb, rfl, rfl⟩)⟩, fun h => ?_, fun h => ?_⟩
        · have : b = want := by simpa using h
          subst this
          exact hv.1 rfl
        · have : b = !want := by cases b <;> cases want <;> simp_all
          subst this
          exact hv.2 rfl
      · rename_i hb
        exact ⟨s, false, ⟨t, ht, .inr (.inr ⟨hb, rfl, rfl⟩)⟩, fun h => (by cases h), fun _ => hv⟩
      · exact hv.elim
    · exact hv.elim
/-- The outcomes, out of what was asked. -/
theorem facts_of {C : Cx} {ops : List Oper} {cls : List Nat} {n0 : Nat} {K : AS → Prop} : ∀ (l : List Oper) (i : Nat) (cre : List Nat) (s : AS), vcD C ops cls n0 i l cre K s → ∃ ps, Facts C ops cls n0 K i l cre s ps
  | [], i, cre, s, h => ⟨[], rfl, h⟩
  | o :: l, i, cre, s, h => by
    unfold vcD at h
    obtain ⟨s', run, hr, hy, hn⟩ := ask_ref (o := o) h
    cases run with
    | true =>
      have hv := hy rfl
      cases he : exec C s'.ev (visOb s' n0 cre (cls.getD i 0)) s'.objs.length o.op with
      | none => rw [he] at hv; exact hv.elim
      | some q =>
        obtain ⟨c, rt⟩ := q
        rw [he] at hv
        have hc : (∀ p, c = some p → p) ∧ rt.vc (fun sv os => vcD C ops cls n0 (i + 1) l (cre ++ os.map fun _ => i) K ((s'.new os).put o.dst sv)) := by
          cases c with
          | none => exact ⟨fun p hp => (by cases hp), hv⟩
          | some p => exact ⟨fun p' hp => (by cases hp; exact hv.1), hv.2⟩
        have h2 := Out.vc_pick hc.2
        obtain ⟨ps, hps⟩ := facts_of l _ _ _ h2
        exact ⟨⟨true, rt.pick.1, rt.pick.2⟩ :: ps, _, ps, s', rfl, hr, fun _ => ⟨c, rt, he, hc.1, rfl⟩, fun h => (by cases h), hps⟩
    | false =>
      have hv := hn rfl
      obtain ⟨ps, hps⟩ := facts_of l _ _ _ hv
      refine ⟨⟨false, .tup [], []⟩ :: ps, _, ps, s', rfl, hr, fun h => (by cases h), fun _ => ⟨rfl, rfl⟩, ?_⟩
      simpa [new_nil] using hps
theorem facts_len {C : Cx} {ops : List Oper} {cls : List Nat} {n0 : Nat} {K : AS → Prop} : ∀ (l : List Oper) (i : Nat) (cre : List Nat) (s : AS) (ps : List PI), Facts C ops cls n0 K i l cre s ps → ps.length = l.length
  | [], i, cre, s, ps, h => by rw [h.1]; rfl
  | o :: l, i, cre, s, ps, h => by
    obtain ⟨p, ps', s', rfl, _, _, _, h⟩ := h
    simp [facts_len l _ _ _ ps' h]
def pAt (ps : List PI) (i : Nat) : PI := ps.getD i ⟨false, .tup [], []⟩
/-- New memory of the first i, with who made it. -/
def flatP (ps : List PI) : Nat → List (Nat × (Nat × SO))
  | 0 => []
  | i + 1 => flatP ps i ++ (pAt ps i).os.map fun o => (i, o)
theorem flat_pre (ps : List PI) : ∀ (m i : Nat), i ≤ m → ∃ l, flatP ps m = flatP ps i ++ l
  | 0, i, h => ⟨[], by have : i = 0 := by omega
                       subst this; simp⟩
  | m + 1, i, h => by
    by_cases e : i = m + 1
    · subst e; exact ⟨[], by simp⟩
    · obtain ⟨l, hl⟩ := flat_pre ps m i (by omega)
      exact ⟨l ++ (pAt ps m).os.map fun o => (m, o), by rw [flatP, hl, List.append_assoc]⟩
theorem flat_get (ps : List PI) : ∀ (m a j : Nat) (po : Nat × SO), (flatP ps m)[a]? = some (j, po) → j < m ∧ ∃ k, (pAt ps j).os[k]? = some po ∧ a = (flatP ps j).length + k
  | 0, a, j, po, h => by simp [flatP] at h
  | m + 1, a, j, po, h => by
    rw [flatP] at h
    by_cases ha : a < (flatP ps m).length
    · rw [List.getElem?_append_left ha] at h
      obtain ⟨h1, h2⟩ := flat_get ps m a j po h
      exact ⟨by omega, h2⟩
    · rw [List.getElem?_append_right (by omega), List.getElem?_map] at h
      obtain ⟨o, ho, he⟩ := Option.map_eq_some_iff.1 h
      cases he
      exact ⟨by omega, _, ho, by omega⟩
theorem flat_at (ps : List PI) {m i k : Nat} (hi : i < m) {po : Nat × SO} (hk : (pAt ps i).os[k]? = some po) : (flatP ps m)[(flatP ps i).length + k]? = some (i, po) := by
  obtain ⟨l, hl⟩ := flat_pre ps m (i + 1) (by omega)
  have hkl := (List.getElem?_eq_some_iff.1 hk).1
  rw [hl, flatP, List.append_assoc, List.getElem?_append_right (by omega), show (flatP ps i).length + k - (flatP ps i).length = k from by omega, List.getElem?_append_left (by simpa using hkl), List.getElem?_map, hk]
  rfl
/-- Who wrote a slot last, of the first i. -/
def lastW (ops : Array Oper) (t : Nat) : Nat → Option Nat
  | 0 => none
  | i + 1 => if dstAt ops i = some t then some i else lastW ops t i
theorem lastW_lt {ops : Array Oper} {t : Nat} : ∀ {i j : Nat}, lastW ops t i = some j → j < i ∧ dstAt ops j = some t
  | 0, j, h => by simp [lastW] at h
  | i + 1, j, h => by
    unfold lastW at h
    split at h
    · rename_i hd
      cases h
      exact ⟨by omega, hd⟩
    · obtain ⟨h1, h2⟩ := lastW_lt h
      exact ⟨by omega, h2⟩
def srcSV (ops : Array Oper) (s0 : AS) (ps : List PI) (i t : Nat) : SV := match lastW ops t i with
  | some j => (pAt ps j).sv
  | none => s0.slots.get t
/-- What a frame is known to hold behind the first i. -/
def Know (ops : Array Oper) (s0 : AS) (ps : List PI) (i : Nat) (s : AS) : Prop := ((∀ i, s.slots.has i = s0.slots.has i) ∧ s.sav = s0.sav) ∧ ∀ (t : Nat) (g : World) (r : Nat → Option Value) (u : Value), (srcSV ops s0 ps i t).Is g r u → (s.slots.get t).Is g r u
theorem Know.refine {ops : Array Oper} {s0 : AS} {ps : List PI} {i : Nat} {s s' : AS} {o : Oper} {run : Bool} (h : Know ops s0 ps i s) (hr : Refines ops.toList o s s' run) : Know ops s0 ps i s' ∧ s'.objs = s.objs := by
  unfold Refines at hr
  split at hr
  · obtain ⟨rfl, _⟩ := hr; exact ⟨h, rfl⟩
  · rename_i j want _
    obtain ⟨t, _, hr⟩ := hr
    rcases hr with ⟨b, _, rfl, _⟩ | ⟨b, hb, rfl, _⟩ | ⟨_, rfl, _⟩
    · exact ⟨h, rfl⟩
    · refine ⟨⟨⟨fun i => by simp only [AS.put]; rw [Fm.has_set]; exact h.1.1 i, h.1.2⟩, fun q g r u hu => ?_⟩, rfl⟩
      have h1 := h.2 q g r u hu
      simp only [AS.put]
      rw [Fm.get_set]
      split
      · rename_i hc
        obtain ⟨rfl, _⟩ := hc
        rw [hb] at h1
        simp only [SV.Is] at h1 ⊢
        exact h1.1
      · exact h1
    · exact ⟨h, rfl⟩
theorem Know.put {ops : Array Oper} {s0 : AS} {ps : List PI} {i : Nat} {s : AS} {o : Oper} (h : Know ops s0 ps i s) (ho : ops[i]? = some o) (os : List (Nat × SO)) : Know ops s0 ps (i + 1) ((s.new os).put o.dst (pAt ps i).sv) := by
  have hd : dstAt ops i = o.dst := by unfold dstAt; rw [ho]; rfl
  have hsl : (s.new os).slots = s.slots := rfl
  cases hdst : o.dst with
  | none =>
    refine ⟨h.1, fun t g r u hu => ?_⟩
    refine h.2 t g r u ?_
    unfold srcSV at hu ⊢
    rw [lastW, hd, hdst, if_neg (by simp)] at hu
    exact hu
  | some d =>
    refine ⟨⟨fun i => by simp only [AS.put, AS.new]; rw [Fm.has_set]; exact h.1.1 i, h.1.2⟩, fun t g r u hu => ?_⟩
    simp only [AS.put]
    rw [hsl, Fm.get_set]
    by_cases e : d = t
    · subst e
      cases hh : s.slots.has d with
      | true =>
        rw [if_pos ⟨rfl, rfl⟩]
        unfold srcSV at hu
        rw [lastW, hd, hdst, if_pos rfl] at hu
        exact hu
      | false =>
        rw [if_neg (by simp), Fm.get_none hh]
        simp only [SV.Is]
    · rw [if_neg (fun hc => e hc.1)]
      refine h.2 t g r u ?_
      unfold srcSV at hu ⊢
      rw [lastW, hd, hdst, if_neg (by simp [e])] at hu
      exact hu
/-- What is known of one operation of a region. -/
def OpFact (C : Cx) (ops : Array Oper) (cls : List Nat) (n0 : Nat) (s0 : AS) (ps : List PI) (i : Nat) (o : Oper) : Prop :=
  ∃ s s', Know ops s0 ps i s ∧ s.objs = s0.objs ++ (flatP ps i).map (·.2.2) ∧ Refines ops.toList o s s' (pAt ps i).run ∧
    ((pAt ps i).run = true → ∃ c rt, exec C s'.ev (visOb s' n0 ((flatP ps i).map (·.1)) (cls.getD i 0)) s'.objs.length o.op = some (c, rt) ∧ (∀ q, c = some q → q) ∧ rt.pick = ((pAt ps i).sv, (pAt ps i).os)) ∧
    ((pAt ps i).run = false → (pAt ps i).sv = .tup [] ∧ (pAt ps i).os = [])
theorem opFacts {C : Cx} {ops : Array Oper} {cls : List Nat} {n0 : Nat} {K : AS → Prop} {s0 : AS} {pall : List PI} : ∀ (l : List Oper) (i : Nat) (s : AS) (ps : List PI), (∀ k, k < l.length → ops[i + k]? = l[k]?) → (∀ k, pAt pall (i + k) = pAt ps k) →
    Facts C ops.toList cls n0 K i l ((flatP pall i).map (·.1)) s ps → Know ops s0 pall i s → s.objs = s0.objs ++ (flatP pall i).map (·.2.2) →
    (∀ k o, k < l.length → ops[i + k]? = some o → OpFact C ops cls n0 s0 pall (i + k) o) ∧ ∃ s', K s' ∧ Know ops s0 pall (i + l.length) s' ∧ s'.objs = s0.objs ++ (flatP pall (i + l.length)).map (·.2.2)
  | [], i, s, ps, _, _, h, hk, ho => ⟨fun k o hk => by simp at hk, s, h.2, hk, ho⟩
  | o :: l, i, s, ps, hops, hps, h, hk, hobj => by
    obtain ⟨p, ps', s', rfl, hr, h1, h2, h3⟩ := h
    have hp : pAt pall i = p := by have := hps 0; simpa [pAt] using this
    have hoi : ops[i]? = some o := by have := hops 0 (by simp); simpa using this
    obtain ⟨hk', hob'⟩ := hk.refine hr
    have hkn := hk'.put hoi p.os
    rw [hp] at hkn
    have hcre : (flatP pall i).map (·.1) ++ p.os.map (fun _ => i) = (flatP pall (i + 1)).map (·.1) := by
      rw [flatP, List.map_append, List.map_map, hp]; rfl
    rw [hcre] at h3
    have hobn : ((s'.new p.os).put o.dst p.sv).objs = s0.objs ++ (flatP pall (i + 1)).map (·.2.2) := by
      rw [flatP, List.map_append, List.map_map, hp, ← List.append_assoc, ← hobj, ← hob']
      cases o.dst <;> rfl
    obtain ⟨ih1, s'', ih2, ih3, ih4⟩ := opFacts l (i + 1) _ ps' (fun k hk => by have := hops (k + 1) (by simp; omega); rw [show i + 1 + k = i + (k + 1) from by omega]; simpa using this) (fun k => by have := hps (k + 1); rw [show i + 1 + k = i + (k + 1) from by omega, this]; simp [pAt]) h3 hkn hobn
    refine ⟨fun k q hk' hq => ?_, s'', ih2, by rw [List.length_cons, show i + (l.length + 1) = i + 1 + l.length from by omega]; exact ih3, by rw [List.length_cons, show i + (l.length + 1) = i + 1 + l.length from by omega]; exact ih4⟩
    cases k with
    | zero =>
      simp only [Nat.add_zero] at hq ⊢
      rw [hoi] at hq
      cases hq
      refine ⟨s, s', hk, hobj, ?_, ?_, ?_⟩
      · rw [hp]; exact hr
      · rw [hp]; exact h1
      · rw [hp]; exact h2
    | succ k =>
      rw [show i + (k + 1) = i + 1 + k from by omega] at hq ⊢
      exact ih1 k q (by simp at hk'; omega) hq
end Go.Proofs.Ytekokhlldcmjfaa
