/- A function's text: what is reckoned of it is so. No program in sight. -/
import Derived.Test.YtekokhlldcmjfaaSndA
namespace Go.Proofs.Ytekokhlldcmjfaa
open Go.RowKit Go.ChangeShapes Go.WideShapes Go.Deep
set_option linter.unusedVariables false
set_option linter.unusedSimpArgs false
/-! ### Knowing less -/
mutual
theorem le_is {g : World} {r : Nat → Option Value} : ∀ (x y : SV) (u : Value), x.le y → x.Is g r u → y.Is g r u
  | x, .any, u, _, _ => by simp only [SV.Is]
  | .v x, .v y, u, h, hx => by simp only [SV.le] at h; subst h; exact hx
  | .lit b, .lit b', u, h, hx => by simp only [SV.le] at h; subst h; exact hx
  | .lit b, .v y, u, h, hx => by
    simp only [SV.le] at h
    subst h
    simp only [SV.Is] at hx ⊢
    exact ⟨hx, trivial⟩
  | .iimm k l, .iimm k' l', u, h, hx => by
    simp only [SV.le] at h
    cases hk : IntKind.same k k' with
    | false => rw [hk] at h; exact h.elim
    | true => rw [hk] at h; obtain rfl := same_eq hk; simp only [cond_true] at h; subst h; exact hx
  | .imm e d, .imm e' d', u, h, hx => by
    simp only [SV.le] at h
    cases hk : e.same e' with
    | false => rw [hk] at h; exact h.elim
    | true => rw [hk] at h; obtain rfl := Ty.same_eq _ _ hk; simp only [cond_true] at h; subst h; exact hx
  | .ip l, .ip l', u, h, hx => by
    simp only [SV.le] at h
    simp only [SV.Is] at hx ⊢
    obtain ⟨b, o, h1, h2⟩ := hx
    exact ⟨b, o, h1, lesAt_is l l' b o h h2⟩
  | .ptr i o, .ptr i' o', u, h, hx => by
    simp only [SV.le] at h
    cases h1 : Nat.beq i i' with
    | false => rw [h1] at h; exact h.elim
    | true =>
    cases h2 : Nat.beq o o' with
    | false => rw [h1, h2] at h; exact h.elim
    | true => obtain rfl := Nat.eq_of_beq_eq_true h1; obtain rfl := Nat.eq_of_beq_eq_true h2; exact hx
  | .elt i o, .elt i' o', u, h, hx => by
    simp only [SV.le] at h
    cases h1 : Nat.beq i i' with
    | false => rw [h1] at h; exact h.elim
    | true => rw [h1] at h; obtain rfl := Nat.eq_of_beq_eq_true h1; simp only [cond_true] at h; subst h; exact hx
  | .hdl i, .hdl i', u, h, hx => by
    simp only [SV.le] at h
    cases h1 : Nat.beq i i' with
    | false => rw [h1] at h; exact h.elim
    | true => obtain rfl := Nat.eq_of_beq_eq_true h1; exact hx
  | .sub i a b, .sub i' a' b', u, h, hx => by
    simp only [SV.le] at h
    cases h1 : Nat.beq i i' with
    | false => rw [h1] at h; exact h.elim
    | true => rw [h1] at h; obtain rfl := Nat.eq_of_beq_eq_true h1; simp only [cond_true] at h; obtain ⟨rfl, rfl⟩ := h; exact hx
  | .sel i z s o, .sel i' z' s' o', u, h, hx => by
    simp only [SV.le] at h
    cases h1 : Nat.beq i i' with
    | false => rw [h1] at h; exact h.elim
    | true =>
    cases h2 : Nat.beq s s' with
    | false => rw [h1, h2] at h; exact h.elim
    | true =>
    cases h3 : Nat.beq o o' with
    | false => rw [h1, h2, h3] at h; exact h.elim
    | true =>
      rw [h1, h2, h3] at h
      obtain rfl := Nat.eq_of_beq_eq_true h1
      obtain rfl := Nat.eq_of_beq_eq_true h2
      obtain rfl := Nat.eq_of_beq_eq_true h3
      simp only [Bool.and_self, cond_true] at h
      subst h
      exact hx
  | .psl i s o, .psl i' s' o', u, h, hx => by
    simp only [SV.le] at h
    cases h1 : Nat.beq i i' with
    | false => rw [h1] at h; exact h.elim
    | true =>
    cases h2 : Nat.beq s s' with
    | false => rw [h1, h2] at h; exact h.elim
    | true =>
    cases h3 : Nat.beq o o' with
    | false => rw [h1, h2, h3] at h; exact h.elim
    | true =>
      obtain rfl := Nat.eq_of_beq_eq_true h1
      obtain rfl := Nat.eq_of_beq_eq_true h2
      obtain rfl := Nat.eq_of_beq_eq_true h3
      exact hx
  | .clo f l, .clo f' l', u, h, hx => by
    simp only [SV.le] at h
    cases h1 : Nat.beq f f' with
    | false => rw [h1] at h; exact h.elim
    | true =>
      rw [h1] at h
      obtain rfl := Nat.eq_of_beq_eq_true h1
      simp only [cond_true] at h
      simp only [SV.Is] at hx ⊢
      obtain ⟨cs, h3, h4⟩ := hx
      exact ⟨cs, h3, les_is l l' _ h h4⟩
  | .csl i n, .csl i' n', u, h, hx => by
    simp only [SV.le] at h
    cases h1 : Nat.beq i i' with
    | false => rw [h1] at h; exact h.elim
    | true =>
    cases h2 : Nat.beq n n' with
    | false => rw [h1, h2] at h; exact h.elim
    | true => obtain rfl := Nat.eq_of_beq_eq_true h1; obtain rfl := Nat.eq_of_beq_eq_true h2; exact hx
  | .agg l, .agg l', u, h, hx => by
    simp only [SV.le] at h
    simp only [SV.Is] at hx ⊢
    obtain ⟨cs, h1, h2⟩ := hx
    exact ⟨cs, h1, les_is l l' _ h h2⟩
  | .tup l, .tup l', u, h, hx => by
    simp only [SV.le] at h
    simp only [SV.Is] at hx ⊢
    obtain ⟨cs, h1, h2⟩ := hx
    exact ⟨cs, h1, les_is l l' _ h h2⟩
  | .v _, .lit _, _, h, _ | .v _, .iimm _ _, _, h, _ | .v _, .imm _ _, _, h, _ | .v _, .ip _, _, h, _ | .v _, .ptr _ _, _, h, _ | .v _, .elt _ _, _, h, _ | .v _, .hdl _, _, h, _ | .v _, .sub _ _ _, _, h, _ | .v _, .csl _ _, _, h, _ | .v _, .agg _, _, h, _ | .v _, .tup _, _, h, _ => by simp only [SV.le] at h
  | .lit _, .iimm _ _, _, h, _ | .lit _, .imm _ _, _, h, _ | .lit _, .ip _, _, h, _ | .lit _, .ptr _ _, _, h, _ | .lit _, .elt _ _, _, h, _ | .lit _, .hdl _, _, h, _ | .lit _, .sub _ _ _, _, h, _ | .lit _, .csl _ _, _, h, _ | .lit _, .agg _, _, h, _ | .lit _, .tup _, _, h, _ => by simp only [SV.le] at h
  | .iimm _ _, .v _, _, h, _ | .iimm _ _, .lit _, _, h, _ | .iimm _ _, .imm _ _, _, h, _ | .iimm _ _, .ip _, _, h, _ | .iimm _ _, .ptr _ _, _, h, _ | .iimm _ _, .elt _ _, _, h, _ | .iimm _ _, .hdl _, _, h, _ | .iimm _ _, .sub _ _ _, _, h, _ | .iimm _ _, .csl _ _, _, h, _ | .iimm _ _, .agg _, _, h, _ | .iimm _ _, .tup _, _, h, _ => by simp only [SV.le] at h
  | .imm _ _, .v _, _, h, _ | .imm _ _, .lit _, _, h, _ | .imm _ _, .iimm _ _, _, h, _ | .imm _ _, .ip _, _, h, _ | .imm _ _, .ptr _ _, _, h, _ | .imm _ _, .elt _ _, _, h, _ | .imm _ _, .hdl _, _, h, _ | .imm _ _, .sub _ _ _, _, h, _ | .imm _ _, .csl _ _, _, h, _ | .imm _ _, .agg _, _, h, _ | .imm _ _, .tup _, _, h, _ => by simp only [SV.le] at h
  | .ip _, .v _, _, h, _ | .ip _, .lit _, _, h, _ | .ip _, .iimm _ _, _, h, _ | .ip _, .imm _ _, _, h, _ | .ip _, .ptr _ _, _, h, _ | .ip _, .elt _ _, _, h, _ | .ip _, .hdl _, _, h, _ | .ip _, .sub _ _ _, _, h, _ | .ip _, .csl _ _, _, h, _ | .ip _, .agg _, _, h, _ | .ip _, .tup _, _, h, _ => by simp only [SV.le] at h
  | .ptr _ _, .v _, _, h, _ | .ptr _ _, .lit _, _, h, _ | .ptr _ _, .iimm _ _, _, h, _ | .ptr _ _, .imm _ _, _, h, _ | .ptr _ _, .ip _, _, h, _ | .ptr _ _, .elt _ _, _, h, _ | .ptr _ _, .hdl _, _, h, _ | .ptr _ _, .sub _ _ _, _, h, _ | .ptr _ _, .csl _ _, _, h, _ | .ptr _ _, .agg _, _, h, _ | .ptr _ _, .tup _, _, h, _ => by simp only [SV.le] at h
  | .elt _ _, .v _, _, h, _ | .elt _ _, .lit _, _, h, _ | .elt _ _, .iimm _ _, _, h, _ | .elt _ _, .imm _ _, _, h, _ | .elt _ _, .ip _, _, h, _ | .elt _ _, .ptr _ _, _, h, _ | .elt _ _, .hdl _, _, h, _ | .elt _ _, .sub _ _ _, _, h, _ | .elt _ _, .csl _ _, _, h, _ | .elt _ _, .agg _, _, h, _ | .elt _ _, .tup _, _, h, _ => by simp only [SV.le] at h
  | .hdl _, .v _, _, h, _ | .hdl _, .lit _, _, h, _ | .hdl _, .iimm _ _, _, h, _ | .hdl _, .imm _ _, _, h, _ | .hdl _, .ip _, _, h, _ | .hdl _, .ptr _ _, _, h, _ | .hdl _, .elt _ _, _, h, _ | .hdl _, .sub _ _ _, _, h, _ | .hdl _, .csl _ _, _, h, _ | .hdl _, .agg _, _, h, _ | .hdl _, .tup _, _, h, _ => by simp only [SV.le] at h
  | .sub _ _ _, .v _, _, h, _ | .sub _ _ _, .lit _, _, h, _ | .sub _ _ _, .iimm _ _, _, h, _ | .sub _ _ _, .imm _ _, _, h, _ | .sub _ _ _, .ip _, _, h, _ | .sub _ _ _, .ptr _ _, _, h, _ | .sub _ _ _, .elt _ _, _, h, _ | .sub _ _ _, .hdl _, _, h, _ | .sub _ _ _, .csl _ _, _, h, _ | .sub _ _ _, .agg _, _, h, _ | .sub _ _ _, .tup _, _, h, _ => by simp only [SV.le] at h
  | .csl _ _, .v _, _, h, _ | .csl _ _, .lit _, _, h, _ | .csl _ _, .iimm _ _, _, h, _ | .csl _ _, .imm _ _, _, h, _ | .csl _ _, .ip _, _, h, _ | .csl _ _, .ptr _ _, _, h, _ | .csl _ _, .elt _ _, _, h, _ | .csl _ _, .hdl _, _, h, _ | .csl _ _, .sub _ _ _, _, h, _ | .csl _ _, .agg _, _, h, _ | .csl _ _, .tup _, _, h, _ => by simp only [SV.le] at h
  | .agg _, .v _, _, h, _ | .agg _, .lit _, _, h, _ | .agg _, .iimm _ _, _, h, _ | .agg _, .imm _ _, _, h, _ | .agg _, .ip _, _, h, _ | .agg _, .ptr _ _, _, h, _ | .agg _, .elt _ _, _, h, _ | .agg _, .hdl _, _, h, _ | .agg _, .sub _ _ _, _, h, _ | .agg _, .csl _ _, _, h, _ | .agg _, .tup _, _, h, _ => by simp only [SV.le] at h
  | .tup _, .v _, _, h, _ | .tup _, .lit _, _, h, _ | .tup _, .iimm _ _, _, h, _ | .tup _, .imm _ _, _, h, _ | .tup _, .ip _, _, h, _ | .tup _, .ptr _ _, _, h, _ | .tup _, .elt _ _, _, h, _ | .tup _, .hdl _, _, h, _ | .tup _, .sub _ _ _, _, h, _ | .tup _, .csl _ _, _, h, _ | .tup _, .agg _, _, h, _ => by simp only [SV.le] at h
  | .any, .v _, _, h, _ | .any, .lit _, _, h, _ | .any, .iimm _ _, _, h, _ | .any, .imm _ _, _, h, _ | .any, .ip _, _, h, _ | .any, .ptr _ _, _, h, _ | .any, .elt _ _, _, h, _ | .any, .hdl _, _, h, _ | .any, .sub _ _ _, _, h, _ | .any, .csl _ _, _, h, _ | .any, .agg _, _, h, _ | .any, .tup _, _, h, _ => by simp only [SV.le] at h
theorem lesAt_is {g : World} {r : Nat → Option Value} : ∀ (l l' : List SV) (b o : Nat), les l l' → IsAt g r l b o → IsAt g r l' b o
  | [], [], b, o, _, h => h
  | x :: l, y :: m, b, o, h, hx => by
    simp only [les] at h
    simp only [IsAt] at hx ⊢
    obtain ⟨⟨u, h1, h2⟩, h3⟩ := hx
    exact ⟨⟨u, h1, le_is x y u h.1 h2⟩, lesAt_is l m b (o + 1) h.2 h3⟩
  | [], _ :: _, _, _, h, _ => by simp only [les] at h
  | _ :: _, [], _, _, h, _ => by simp only [les] at h
theorem les_is {g : World} {r : Nat → Option Value} : ∀ (l l' : List SV) (us : List Value), les l l' → LsIs g r l us → LsIs g r l' us
  | [], [], us, _, h => h
  | x :: l, y :: m, us, h, hx => by
    simp only [les] at h
    simp only [LsIs] at hx ⊢
    obtain ⟨u, us', h1, h2, h3⟩ := hx
    exact ⟨u, us', h1, le_is x y u h.1 h2, les_is l m us' h.2 h3⟩
  | [], _ :: _, _, h, _ => by simp only [les] at h
  | _ :: _, [], _, h, _ => by simp only [les] at h
end
end Go.Proofs.Ytekokhlldcmjfaa
