/- What it means that something is known of a value, of memory. No program in sight. -/
import Derived.Test.YtekokhlldcmjfaaSym
import Derived.Test.YtekokhlldcmjfaaOwn
namespace Go.Proofs.Ytekokhlldcmjfaa
open Go.RowKit Go.ChangeShapes Go.WideShapes Go.Deep
/-- The functions as they are. -/
def stdBin : BinOp → IntKind → Int → Int → Int
  | .add, k, a, b => k.wrap (a + b)
  | .sub, k, a, b => k.wrap (a - b)
  | .mul, k, a, b => k.wrap (a * b)
  | .quo, k, a, b => k.wrap (a.tdiv b)
  | .rem, _, a, b => a.tmod b
  | .and, k, a, b => k.wrap (BitVec.ofInt k.bits a &&& BitVec.ofInt k.bits b).toNat
  | .or, k, a, b => k.wrap (BitVec.ofInt k.bits a ||| BitVec.ofInt k.bits b).toNat
  | .xor, k, a, b => k.wrap (BitVec.ofInt k.bits a ^^^ BitVec.ofInt k.bits b).toNat
  | .andNot, k, a, b => k.wrap (BitVec.ofInt k.bits a &&& ~~~ BitVec.ofInt k.bits b).toNat
  | .shl, k, a, b => k.wrap (a * 2 ^ (min b.toNat k.bits))
  | .shr, k, a, b => a.fdiv (2 ^ (min b.toNat k.bits))
  | _, _, _, _ => 0
def stdCmp : BinOp → Int → Int → Bool
  | .eql, a, b => a == b
  | .neq, a, b => a != b
  | .lss, a, b => a < b
  | .leq, a, b => a ≤ b
  | .gtr, a, b => a > b
  | .geq, a, b => a ≥ b
  | _, _, _ => false
def stdUna : UnOp → IntKind → Int → Int
  | .neg, k, a => k.wrap (0 - a)
  | .xor, k, a => k.wrap (BitVec.ofInt k.bits (if k.signed then -1 else k.max) ^^^ BitVec.ofInt k.bits a).toNat
  | _, _, a => a
def Dat.z : Dat → Int
  | .int z => z
  | _ => 0
def Dat.bo : Dat → Bool
  | .bool b => b
  | _ => false
def Dat.st : Dat → ByteArray
  | .str s => s
  | _ => ⟨#[]⟩
def Dat.ls : Dat → List Dat
  | .list l => l
  | _ => []
def Dat.fs : Dat → List Dat
  | .agg l => l
  | _ => []
def Dat.ints (d : Dat) : List Int := d.ls.map Dat.z
def Dat.at (d : Dat) (i : Nat) : Dat := d.ls.getD i (.int 0)
def Dat.fld (d : Dat) (i : Nat) : Dat := d.fs.getD i (.int 0)
/-- It is one of the kind's numbers. -/
def stdIn : IntKind → Int → Prop
  | .i8, z => -128 ≤ z ∧ z ≤ 127
  | .i16, z => -32768 ≤ z ∧ z ≤ 32767
  | .i32, z => -2147483648 ≤ z ∧ z ≤ 2147483647
  | .i64, z => -9223372036854775808 ≤ z ∧ z ≤ 9223372036854775807
  | .u8, z => 0 ≤ z ∧ z ≤ 255
  | .u16, z => 0 ≤ z ∧ z ≤ 65535
  | .u32, z => 0 ≤ z ∧ z ≤ 4294967295
  | .u64, z => 0 ≤ z ∧ z ≤ 18446744073709551615
theorem stdIn_iff (k : IntKind) (z : Int) : stdIn k z ↔ (Lit.int k z).wf = true := by
  cases k <;> simp [stdIn, Lit.wf, IntKind.min, IntKind.max, IntKind.signed, IntKind.bits]
def std : Sy where
  bin := stdBin
  cmp := stdCmp
  una := stdUna
  cnv := fun k z => k.wrap z
  not := fun b => !b
  beq := fun a b => a == b
  seq := fun a b => a.toList == b.toList
  scat := fun a b => a ++ b
  slen := fun a => a.size
  max := fun x y => if y > x then y else x
  min := fun x y => if y < x then y else x
  add := fun a b => a + b
  dif := fun a b => a - b
  llen := fun l => l.length
  lget := fun l i => l.getD i.toNat 0
  lset := fun l i z => l.set i.toNat z
  lrep := fun n => List.replicate n.toNat 0
  lapp := fun a b => a ++ b
  lsub := fun l a n => (l.drop a.toNat).take n.toNat
  lcpy := fun l a n m => l.take a.toNat ++ (m.take n.toNat ++ l.drop (a.toNat + (m.take n.toNat).length))
  str := strOfNums
  bytes := fun s => s.toList.map fun b => (b.toNat : Int)
  dlen := fun d => d.ls.length
  dat := fun d i => d.at i.toNat
  dfld := Dat.fld
  dint := Dat.z
  dbool := Dat.bo
  dstr := Dat.st
  dints := Dat.ints
  dsub := fun d a n => .list ((d.ls.drop a.toNat).take n.toNat)
  dapp := fun d d' => .list (d.ls ++ d'.ls)
  dset := fun d i x => .list (d.ls.set i.toNat x)
  drep := fun x n => .list (List.replicate n.toNat x)
  ofInts := fun l => .list (l.map Dat.int)
  inb := fun i n => 0 ≤ i ∧ i < n
  le3 := fun a b c => a ≤ b ∧ b ≤ c
  nz := fun b => b ≠ 0
  nn := fun b => 0 ≤ b
  room := fun bytes n => n * bytes ≤ 140737488355328 ∧ n ≤ 281474976710656
  fit := fun n => n ≤ 9223372036854775807
  mul := fun a b => a * b
  shl := fun a b => a * 2 ^ b.toNat
  neg := fun a => -a
  inR := stdIn
  and := fun a b => a && b
/-- A number fits its kind. -/
def VOk : Value → Prop
  | .int k z => (Lit.int k z).wf = true
  | .string s => s.size ≤ maxLen
  | .agg _ => False
  | .tuple _ => False
  | _ => True
def blk : Value → Option Nat
  | .pointer (some a) => some a.block
  | .slice (some a) _ _ => some a.block
  | _ => none
mutual
/-- A value is as it is known to be: g: memory that nobody writes; r: what is of the call's own. -/
def SV.Is (g : World) (r : Nat → Option Value) : SV → Value → Prop
  | .v x, u => u = x ∧ VOk x
  | .lit b, u => u = .bool b
  | .iimm k l, u => Reads k g u l
  | .imm e d, u => Rd maxLen g (.sl e) [u] d
  | .ip l, u => ∃ b o, u = .pointer (some ⟨b, o, none⟩) ∧ IsAt g r l b o
  | .ptr id off, u => ∃ h b, r id = some h ∧ blk h = some b ∧ u = .pointer (some ⟨b, off, none⟩)
  | .elt id i, u => ∃ b n c, r id = some (.slice (some ⟨b, 0, none⟩) n c) ∧ 0 ≤ i ∧ i < n ∧ u = .pointer (some ⟨b, i.toNat, none⟩)
  | .hdl id, u => r id = some u
  | .sub id lo len, u => ∃ ao n c, r id = some (.slice ao n c) ∧ 0 ≤ lo ∧ 0 ≤ len ∧ lo + len ≤ n ∧ ∃ a' c', u = .slice a' len.toNat c' ∧ len.toNat ≤ c' ∧ c' ≤ maxLen ∧ (len = 0 ∨ ∃ b, ao = some ⟨b, 0, none⟩ ∧ a' = some ⟨b, lo.toNat, none⟩)
  | .csl id n, u => r id = some u ∧ ∃ b, u = .slice (some ⟨b, 0, none⟩) n n
  | .sel id i sz off, u => ∃ b n c, r id = some (.slice (some ⟨b, 0, none⟩) n c) ∧ 0 ≤ i ∧ i < n ∧ u = .pointer (some ⟨b, i.toNat * sz + off, none⟩)
  | .psl id off n, u => ∃ h b, r id = some h ∧ blk h = some b ∧ u = .slice (some ⟨b, off, none⟩) n n
  | .clo f l, u => ∃ cs : Array Value, u = .func (.func f) #[] cs ∧ LsIs g r l cs.toList
  | .agg l, u => ∃ cs : Array Value, u = .agg cs ∧ LsIs g r l cs.toList
  | .tup l, u => ∃ cs : Array Value, u = .tuple cs ∧ LsIs g r l cs.toList
  | .any, _ => True
def IsAt (g : World) (r : Nat → Option Value) : List SV → Nat → Nat → Prop
  | [], _, _ => True
  | x :: l, b, o => (∃ u, g.cell? ⟨b, o, none⟩ = some u ∧ x.Is g r u) ∧ IsAt g r l b (o + 1)
def LsIs (g : World) (r : Nat → Option Value) : List SV → List Value → Prop
  | [], us => us = []
  | x :: l, us => ∃ u us', us = u :: us' ∧ x.Is g r u ∧ LsIs g r l us'
end
/-- Cells in a row as data: g: memory that nobody writes. -/
def RowRd (g : World) (T : Ty) (cells : List Value) (ds : List Dat) : Prop := ∀ (i : Nat) (u : Dat), ds[i]? = some u → Rd maxLen g T ((cells.drop (i * T.size)).take T.size) u
def SO.Is (g : World) (r : Nat → Option Value) (w : World) (base : Nat) (h : Value) : SO → Prop
  | .cells t l => ∃ b cs, blk h = some b ∧ base ≤ b ∧ w.heap[b]? = some (.cells cs t (0, 0)) ∧ LsIs g r l cs.toList
  | .irow E k l => OwnM w base E 1 h l.length (kv k l) ∧ Fits k l
  | .srow E T d => 1 ≤ T.size ∧ ∃ ds cells, d = .list ds ∧ OwnM w base E T.size h ds.length cells ∧ RowRd g T cells ds
  | .gone => True
def SubW (g g' : World) : Prop := ∀ b o v, g.cell? ⟨b, o, none⟩ = some v → g'.cell? ⟨b, o, none⟩ = some v
def SubR (r r' : Nat → Option Value) : Prop := ∀ i h, r i = some h → r' i = some h
theorem SubW.refl (g : World) : SubW g g := fun _ _ _ h => h
theorem SubR.refl (r : Nat → Option Value) : SubR r r := fun _ _ h => h
theorem SubW.trans {a b c : World} (h : SubW a b) (k : SubW b c) : SubW a c := fun x o v hv => k x o v (h x o v hv)
theorem SubR.trans {a b c : Nat → Option Value} (h : SubR a b) (k : SubR b c) : SubR a c := fun i v hv => k i v (h i v hv)
theorem SubW.below {w w' : World} (h : Below w.heap.size w w') : SubW w w' := fun b o v hv => by
  rw [h.cell (p := ⟨b, o, none⟩) (World.block_lt_of_cell? w _ hv)]; exact hv
theorem holds_sub {g g' : World} (hg : SubW g g') {v : Value} {xs : List Value} (h : Holds g v xs) : Holds g' v xs := by
  obtain ⟨ao, cap, rfl, h1, h2, h⟩ := h
  refine ⟨ao, cap, rfl, h1, h2, ?_⟩
  rcases h with h | ⟨b, off, rfl, h⟩
  · exact .inl h
  · exact .inr ⟨b, off, rfl, fun i u hu => hg _ _ _ (h i u hu)⟩
theorem reads_sub {g g' : World} (hg : SubW g g') {k : IntKind} {v : Value} {l : List Int} (h : Reads k g v l) : Reads k g' v l := ⟨holds_sub hg h.1, h.2⟩
mutual
theorem rd_sub {M : Nat} {g g' : World} (hg : SubW g g') : ∀ (T : Ty) (cs : List Value) (d : Dat), Rd M g T cs d → Rd M g' T cs d
  | .int _, _, _, h => by simp only [Rd] at h ⊢; exact h
  | .bool, _, _, h => by simp only [Rd] at h ⊢; exact h
  | .str, _, _, h => by simp only [Rd] at h ⊢; exact h
  | .sl e, cs, d, h => by
    simp only [Rd] at h ⊢
    obtain ⟨ao, cap, ds, h1, h2, h3, h4, h5⟩ := h
    refine ⟨ao, cap, ds, h1, h2, h3, h4, ?_⟩
    rcases h5 with h5 | ⟨b, o, h6, h7⟩
    · exact .inl h5
    · refine .inr ⟨b, o, h6, fun i u hu => ?_⟩
      obtain ⟨es, he1, he2, he3⟩ := h7 i u hu
      exact ⟨es, he1, fun j v hj => hg _ _ _ (he2 j v hj), rd_sub hg e es u he3⟩
  | .st fs, cs, d, h => by
    simp only [Rd] at h ⊢
    obtain ⟨ds, h1, h2⟩ := h
    exact ⟨ds, h1, rdL_sub hg fs cs ds h2⟩
theorem rdL_sub {M : Nat} {g g' : World} (hg : SubW g g') : ∀ (Ts : List Ty) (cs : List Value) (ds : List Dat), RdL M g Ts cs ds → RdL M g' Ts cs ds
  | [], _, _, h => by simp only [RdL] at h ⊢; exact h
  | t :: ts, cs, ds, h => by
    simp only [RdL] at h ⊢
    obtain ⟨c1, c2, u, us, h1, h2, h3, h4, h5⟩ := h
    exact ⟨c1, c2, u, us, h1, h2, h3, rd_sub hg t c1 u h4, rdL_sub hg ts c2 us h5⟩
end
mutual
theorem SV.Is.sub {g g' : World} {r r' : Nat → Option Value} (hg : SubW g g') (hr : SubR r r') : ∀ (x : SV) (u : Value), x.Is g r u → x.Is g' r' u
  | .v _, _, h => by simp only [SV.Is] at h ⊢; exact h
  | .lit _, _, h => by simp only [SV.Is] at h ⊢; exact h
  | .iimm _ _, _, h => by simp only [SV.Is] at h ⊢; exact reads_sub hg h
  | .imm _ _, _, h => by simp only [SV.Is] at h ⊢; exact rd_sub hg _ _ _ h
  | .ip l, u, h => by
    simp only [SV.Is] at h ⊢
    obtain ⟨b, o, h1, h2⟩ := h
    exact ⟨b, o, h1, isAt_sub hg hr l b o h2⟩
  | .ptr _ _, _, h => by
    simp only [SV.Is] at h ⊢
    obtain ⟨x, b, h1, h2⟩ := h
    exact ⟨x, b, hr _ _ h1, h2⟩
  | .elt _ _, _, h => by
    simp only [SV.Is] at h ⊢
    obtain ⟨b, n, c, h1, h2⟩ := h
    exact ⟨b, n, c, hr _ _ h1, h2⟩
  | .hdl _, _, h => by simp only [SV.Is] at h ⊢; exact hr _ _ h
  | .sub _ _ _, _, h => by
    simp only [SV.Is] at h ⊢
    obtain ⟨b, n, c, h1, h2⟩ := h
    exact ⟨b, n, c, hr _ _ h1, h2⟩
  | .csl _ _, _, h => by simp only [SV.Is] at h ⊢; exact ⟨hr _ _ h.1, h.2⟩
  | .sel _ _ _ _, _, h => by
    simp only [SV.Is] at h ⊢
    obtain ⟨b, n, c, h1, h2⟩ := h
    exact ⟨b, n, c, hr _ _ h1, h2⟩
  | .psl _ _ _, _, h => by
    simp only [SV.Is] at h ⊢
    obtain ⟨x, b, h1, h2⟩ := h
    exact ⟨x, b, hr _ _ h1, h2⟩
  | .clo _ l, u, h => by
    simp only [SV.Is] at h ⊢
    obtain ⟨cs, h1, h2⟩ := h
    exact ⟨cs, h1, lsIs_sub hg hr l _ h2⟩
  | .agg l, u, h => by
    simp only [SV.Is] at h ⊢
    obtain ⟨cs, h1, h2⟩ := h
    exact ⟨cs, h1, lsIs_sub hg hr l _ h2⟩
  | .tup l, u, h => by
    simp only [SV.Is] at h ⊢
    obtain ⟨cs, h1, h2⟩ := h
    exact ⟨cs, h1, lsIs_sub hg hr l _ h2⟩
  | .any, _, _ => by simp only [SV.Is]
theorem isAt_sub {g g' : World} {r r' : Nat → Option Value} (hg : SubW g g') (hr : SubR r r') : ∀ (l : List SV) (b o : Nat), IsAt g r l b o → IsAt g' r' l b o
  | [], _, _, _ => by simp only [IsAt]
  | x :: l, b, o, h => by
    simp only [IsAt] at h ⊢
    obtain ⟨⟨u, h1, h2⟩, h3⟩ := h
    exact ⟨⟨u, hg _ _ _ h1, SV.Is.sub hg hr x u h2⟩, isAt_sub hg hr l b (o + 1) h3⟩
theorem lsIs_sub {g g' : World} {r r' : Nat → Option Value} (hg : SubW g g') (hr : SubR r r') : ∀ (l : List SV) (us : List Value), LsIs g r l us → LsIs g' r' l us
  | [], _, h => by simp only [LsIs] at h ⊢; exact h
  | x :: l, us, h => by
    simp only [LsIs] at h ⊢
    obtain ⟨u, us', h1, h2, h3⟩ := h
    exact ⟨u, us', h1, SV.Is.sub hg hr x u h2, lsIs_sub hg hr l us' h3⟩
end
theorem lsIs_len {g : World} {r : Nat → Option Value} : ∀ {l : List SV} {us : List Value}, LsIs g r l us → us.length = l.length
  | [], us, h => by simp only [LsIs] at h; subst h; rfl
  | x :: l, us, h => by
    simp only [LsIs] at h
    obtain ⟨u, us', rfl, _, h3⟩ := h
    simp [lsIs_len h3]
theorem lsIs_get {g : World} {r : Nat → Option Value} : ∀ {l : List SV} {us : List Value}, LsIs g r l us → ∀ {i : Nat} {x : SV}, l[i]? = some x → ∃ u, us[i]? = some u ∧ x.Is g r u
  | [], _, _, i, x, hx => by simp at hx
  | y :: l, us, h, i, x, hx => by
    simp only [LsIs] at h
    obtain ⟨u, us', rfl, h2, h3⟩ := h
    cases i with
    | zero => simp at hx; subst hx; exact ⟨u, rfl, h2⟩
    | succ i => simpa using lsIs_get h3 (i := i) (x := x) (by simpa using hx)
theorem lsIs_of {g : World} {r : Nat → Option Value} : ∀ {l : List SV} {us : List Value}, us.length = l.length → (∀ (i : Nat) (x : SV) (u : Value), l[i]? = some x → us[i]? = some u → x.Is g r u) → LsIs g r l us
  | [], us, hl, _ => by simp only [LsIs]; exact List.eq_nil_of_length_eq_zero hl
  | x :: l, [], hl, _ => by simp at hl
  | x :: l, u :: us, hl, h => by
    simp only [LsIs]
    exact ⟨u, us, rfl, h 0 x u rfl rfl, lsIs_of (by simpa using hl) (fun i y v hy hv => h (i + 1) y v (by simpa using hy) (by simpa using hv))⟩
theorem lsIs_append {g : World} {r : Nat → Option Value} : ∀ {l m : List SV} {us vs : List Value}, LsIs g r l us → LsIs g r m vs → LsIs g r (l ++ m) (us ++ vs)
  | [], m, us, vs, h, k => by simp only [LsIs] at h; subst h; simpa using k
  | x :: l, m, us, vs, h, k => by
    simp only [LsIs] at h
    obtain ⟨u, us', rfl, h2, h3⟩ := h
    simp only [List.cons_append, LsIs]
    exact ⟨u, _, rfl, h2, lsIs_append h3 k⟩
theorem lsIs_split {g : World} {r : Nat → Option Value} : ∀ {l m : List SV} {us : List Value}, LsIs g r (l ++ m) us → ∃ a b, us = a ++ b ∧ LsIs g r l a ∧ LsIs g r m b
  | [], m, us, h => ⟨[], us, rfl, by simp only [LsIs], by simpa using h⟩
  | x :: l, m, us, h => by
    simp only [List.cons_append, LsIs] at h
    obtain ⟨u, us', rfl, h2, h3⟩ := h
    obtain ⟨a, b, rfl, h4, h5⟩ := lsIs_split h3
    exact ⟨u :: a, b, rfl, by simp only [LsIs]; exact ⟨u, a, rfl, h2, h4⟩, h5⟩
theorem lsIs_take {g : World} {r : Nat → Option Value} {l : List SV} {us : List Value} (h : LsIs g r l us) (n : Nat) : LsIs g r (l.take n) (us.take n) := by
  refine lsIs_of (by rw [List.length_take, List.length_take, lsIs_len h]) fun i x u hx hu => ?_
  rw [List.getElem?_take] at hx hu
  split at hx
  · rename_i hi
    rw [if_pos hi] at hu
    obtain ⟨v, h1, h2⟩ := lsIs_get h hx
    rw [h1] at hu
    cases hu
    exact h2
  · cases hx
theorem lsIs_drop {g : World} {r : Nat → Option Value} {l : List SV} {us : List Value} (h : LsIs g r l us) (n : Nat) : LsIs g r (l.drop n) (us.drop n) := by
  refine lsIs_of (by rw [List.length_drop, List.length_drop, lsIs_len h]) fun i x u hx hu => ?_
  rw [List.getElem?_drop] at hx hu
  obtain ⟨v, h1, h2⟩ := lsIs_get h hx
  rw [h1] at hu
  cases hu
  exact h2
theorem isAt_get {g : World} {r : Nat → Option Value} : ∀ {l : List SV} {b o : Nat}, IsAt g r l b o → ∀ {i : Nat} {x : SV}, l[i]? = some x → ∃ u, g.cell? ⟨b, o + i, none⟩ = some u ∧ x.Is g r u
  | [], _, _, _, i, x, hx => by simp at hx
  | y :: l, b, o, h, i, x, hx => by
    simp only [IsAt] at h
    cases i with
    | zero => simp at hx; subst hx; exact h.1
    | succ i =>
      have := isAt_get h.2 (i := i) (x := x) (by simpa using hx)
      rwa [show o + 1 + i = o + (i + 1) from by omega] at this
theorem isAt_drop {g : World} {r : Nat → Option Value} : ∀ {l : List SV} {b o : Nat}, IsAt g r l b o → ∀ n, IsAt g r (l.drop n) b (o + n)
  | l, b, o, h, 0 => by simpa using h
  | [], b, o, h, n + 1 => by simp [IsAt]
  | x :: l, b, o, h, n + 1 => by
    simp only [IsAt] at h
    have := isAt_drop h.2 n
    rw [show o + (n + 1) = o + 1 + n from by omega]
    simpa using this
theorem isAt_of {g : World} {r : Nat → Option Value} : ∀ {l : List SV} {us : List Value} {b o : Nat}, LsIs g r l us → (∀ j v, us[j]? = some v → g.cell? ⟨b, o + j, none⟩ = some v) → IsAt g r l b o
  | [], us, b, o, _, _ => by simp only [IsAt]
  | x :: l, us, b, o, h, hc => by
    simp only [LsIs] at h
    obtain ⟨u, us', rfl, h2, h3⟩ := h
    simp only [IsAt]
    refine ⟨⟨u, by simpa using hc 0 u rfl, h2⟩, isAt_of h3 fun j v hv => ?_⟩
    have := hc (j + 1) v (by simpa using hv)
    rwa [show o + (j + 1) = o + 1 + j from by omega] at this
theorem SO.Is.sub {g g' : World} {r r' : Nat → Option Value} (hg : SubW g g') (hr : SubR r r') {w w' : World} {base : Nat} {h : Value} : ∀ {o : SO}, o.Is g r w base h → Below w.heap.size w w' → o.Is g' r' w' base h
  | .cells t l, ho, hb => by
    obtain ⟨b, cs, h1, h2, h3, h4⟩ := ho
    exact ⟨b, cs, h1, h2, blk_below h3 hb, lsIs_sub hg hr l _ h4⟩
  | .irow E k l, ho, hb => ⟨ownM_below ho.1 hb, ho.2⟩
  | .srow E T d, ⟨h1, ds, cl, h2, h3, h4⟩, hb => ⟨h1, ds, cl, h2, ownM_below h3 hb, fun i u hu => rd_sub hg _ _ _ (h4 i u hu)⟩
  | .gone, _, _ => trivial
theorem SO.Is.down {g : World} {r : Nat → Option Value} {w : World} {base base' : Nat} (hb : base' ≤ base) {h : Value} : ∀ {o : SO}, o.Is g r w base h → o.Is g r w base' h
  | .cells t l, ⟨b, cs, h1, h2, h3, h4⟩ => ⟨b, cs, h1, by omega, h3, h4⟩
  | .irow E k l, ho => ⟨ownM_down ho.1 hb, ho.2⟩
  | .srow E T d, ⟨h1, ds, cl, h2, h3, h4⟩ => ⟨h1, ds, cl, h2, ownM_down h3 hb, h4⟩
  | .gone, _ => trivial
theorem SO.Is.up {g : World} {r : Nat → Option Value} {w : World} {base base' : Nat} {h : Value} (hb : ∀ b, blk h = some b → base' ≤ b) : ∀ {o : SO}, o.Is g r w base h → o.Is g r w base' h
  | .cells t l, ⟨b, cs, h1, h2, h3, h4⟩ => ⟨b, cs, h1, hb b h1, h3, h4⟩
  | .irow E k l, ⟨ho, hf⟩ => by
    refine ⟨⟨ho.1, ?_⟩, hf⟩
    rcases ho.2 with h1 | ⟨g', cap, cur, rfl, h1, h2⟩
    · exact .inl h1
    · exact .inr ⟨g', cap, cur, rfl, hb g' rfl, h2⟩
  | .srow E T d, ⟨q1, ds, cl, q2, ho, q4⟩ => by
    refine ⟨q1, ds, cl, q2, ⟨ho.1, ?_⟩, q4⟩
    rcases ho.2 with h1 | ⟨g', cap, cur, rfl, h1, h2⟩
    · exact .inl h1
    · exact .inr ⟨g', cap, cur, rfl, hb g' rfl, h2⟩
  | .gone, _ => trivial
/-- A live one lies in a block of its own. -/
theorem SO.Is.lt {g : World} {r : Nat → Option Value} {w : World} {base : Nat} {h : Value} : ∀ {o : SO}, o.Is g r w base h → o ≠ .gone → ∀ b, blk h = some b → base ≤ b ∧ b < w.heap.size
  | .cells t l, ⟨b', cs, h1, h2, h3, h4⟩, _, b, hb => by
    rw [hb] at h1
    cases h1
    exact ⟨h2, (Array.getElem?_eq_some_iff.1 h3).1⟩
  | .irow E k l, ⟨ho, _⟩, _, b, hb => by
    rcases ho.2 with ⟨rfl, _⟩ | ⟨g, cap, cur, rfl, h1, h2, _⟩
    · simp [blk] at hb
    · simp only [blk, Option.some.injEq] at hb
      subst hb
      exact ⟨h1, h2.lt⟩
  | .srow E T d, ⟨_, ds, cl, _, ho, _⟩, _, b, hb => by
    rcases ho.2 with ⟨rfl, _⟩ | ⟨g, cap, cur, rfl, h1, h2, _⟩
    · simp [blk] at hb
    · simp only [blk, Option.some.injEq] at hb
      subst hb
      exact ⟨h1, h2.lt⟩
  | .gone, _, hne, _, _ => absurd rfl hne
/-! ### Frames -/
theorem fm_cases (i : Nat) : i = 0 ∨ (i % 2 = 1 ∧ i ≠ 0) ∨ (i % 2 = 0 ∧ i ≠ 0) := by omega
theorem Fm.get_n (x : SV) (l r : Fm) (i : Nat) : (Fm.n x l r).get i = if i = 0 then x else if i % 2 = 1 then l.get (i / 2) else r.get (i / 2 - 1) := by
  simp only [Fm.get]
  rcases fm_cases i with rfl | ⟨h1, h2⟩ | ⟨h1, h2⟩
  · rfl
  · have e : Nat.beq i 0 = false := by cases i with | zero => exact absurd rfl h2 | succ i => rfl
    rw [e, h1, if_neg h2]; rfl
  · have e : Nat.beq i 0 = false := by cases i with | zero => exact absurd rfl h2 | succ i => rfl
    rw [e, h1, if_neg h2]; rfl
theorem Fm.set_n (x : SV) (l r : Fm) (i : Nat) (y : SV) : (Fm.n x l r).set i y = if i = 0 then .n y l r else if i % 2 = 1 then .n x (l.set (i / 2) y) r else .n x l (r.set (i / 2 - 1) y) := by
  simp only [Fm.set]
  rcases fm_cases i with rfl | ⟨h1, h2⟩ | ⟨h1, h2⟩
  · rfl
  · have e : Nat.beq i 0 = false := by cases i with | zero => exact absurd rfl h2 | succ i => rfl
    rw [e, h1, if_neg h2]; rfl
  · have e : Nat.beq i 0 = false := by cases i with | zero => exact absurd rfl h2 | succ i => rfl
    rw [e, h1, if_neg h2]; rfl
theorem Fm.has_n (x : SV) (l r : Fm) (i : Nat) : (Fm.n x l r).has i = if i = 0 then true else if i % 2 = 1 then l.has (i / 2) else r.has (i / 2 - 1) := by
  simp only [Fm.has]
  rcases fm_cases i with rfl | ⟨h1, h2⟩ | ⟨h1, h2⟩
  · rfl
  · have e : Nat.beq i 0 = false := by cases i with | zero => exact absurd rfl h2 | succ i => rfl
    rw [e, h1, if_neg h2]; rfl
  · have e : Nat.beq i 0 = false := by cases i with | zero => exact absurd rfl h2 | succ i => rfl
    rw [e, h1, if_neg h2]; rfl
theorem Fm.get_none : ∀ {t : Fm} {i : Nat}, t.has i = false → t.get i = .any
  | .e, _, _ => rfl
  | .n x l r, i, h => by
    rw [Fm.has_n] at h
    rw [Fm.get_n]
    split at h
    · cases h
    · rename_i h0
      rw [if_neg h0]
      split at h
      · rename_i h1; rw [if_pos h1]; exact Fm.get_none h
      · rename_i h1; rw [if_neg h1]; exact Fm.get_none h
theorem Fm.has_set : ∀ (t : Fm) (d : Nat) (y : SV) (i : Nat), (t.set d y).has i = t.has i
  | .e, _, _, _ => rfl
  | .n x l r, d, y, i => by
    rw [Fm.set_n]
    split
    · rw [Fm.has_n, Fm.has_n]
    · split
      · rw [Fm.has_n, Fm.has_n, Fm.has_set l]
      · rw [Fm.has_n, Fm.has_n, Fm.has_set r]
theorem Fm.get_set : ∀ (t : Fm) (d : Nat) (y : SV) (i : Nat), (t.set d y).get i = if d = i ∧ t.has d = true then y else t.get i
  | .e, d, y, i => by
    rw [if_neg (fun h => by cases h.2)]
    rfl
  | .n x l r, d, y, i => by
    rw [Fm.set_n, Fm.has_n]
    rcases fm_cases d with rfl | ⟨ho, hd⟩ | ⟨ho, hd⟩
    · simp only [if_true, Fm.get_n]
      by_cases hi : i = 0
      · subst hi; simp
      · have h0 : ¬ (0 = i) := fun h => hi h.symm
        simp [hi, h0]
    · simp only [hd, ho, if_false, if_true, Fm.get_n, Fm.get_set l]
      rcases fm_cases i with rfl | ⟨hio, hi⟩ | ⟨hio, hi⟩
      · simp [hd]
      · simp only [hi, hio, if_false, if_true]
        by_cases e : d = i
        · subst e; simp
        · have h1 : ¬ (d / 2 = i / 2) := fun h => e (by omega)
          simp [e, h1]
      · have e : ¬ d = i := fun h => by omega
        simp [hi, hio, e]
    · have ho1 : ¬ d % 2 = 1 := by omega
      simp only [hd, ho1, if_false, Fm.get_n, Fm.get_set r]
      rcases fm_cases i with rfl | ⟨hio, hi⟩ | ⟨hio, hi⟩
      · simp [hd]
      · have e : ¬ d = i := fun h => by omega
        simp [hi, hio, e]
      · have hio1 : ¬ i % 2 = 1 := by omega
        simp only [hi, hio1, if_false]
        by_cases e : d = i
        · subst e; simp
        · have h1 : ¬ (d / 2 - 1 = i / 2 - 1) := fun h => e (by omega)
          simp [e, h1]
theorem Fm.has_map (f : SV → SV) : ∀ (t : Fm) (i : Nat), (t.map f).has i = t.has i
  | .e, _ => rfl
  | .n x l r, i => by simp only [Fm.map]; rw [Fm.has_n, Fm.has_n, Fm.has_map f l, Fm.has_map f r]
theorem Fm.get_map (f : SV → SV) (hf : f .any = .any) : ∀ (t : Fm) (i : Nat), (t.map f).get i = f (t.get i)
  | .e, _ => hf.symm
  | .n x l r, i => by
    simp only [Fm.map]
    rw [Fm.get_n, Fm.get_n, Fm.get_map f hf l, Fm.get_map f hf r]
    split
    · rfl
    · split <;> rfl
theorem Fm.all_get {p : SV → Bool} (hp : p .any = true) : ∀ {t : Fm} (i : Nat), t.all p = true → p (t.get i) = true
  | .e, _, _ => hp
  | .n x l r, i, h => by
    simp only [Fm.all, Bool.and_eq_true] at h
    rw [Fm.get_n]
    split
    · exact h.1
    · split
      · exact Fm.all_get hp _ h.2.1
      · exact Fm.all_get hp _ h.2.2
theorem Fm.rep_get : ∀ (k : List Unit) (m i : Nat), (Fm.rep k m).has i = true → i < m ∧ (Fm.rep k m).get i = .tup []
  | [], m, i, h => by cases h
  | _ :: k, m, i, h => by
    unfold Fm.rep at h ⊢
    cases hb : Nat.beq m 0 with
    | true => rw [hb] at h; cases h
    | false =>
      rw [hb] at h
      have hm : m ≠ 0 := Nat.ne_of_beq_eq_false hb
      simp only at h ⊢
      rw [Fm.has_n] at h
      rw [Fm.get_n]
      by_cases hi : i = 0
      · rw [if_pos hi]; exact ⟨by omega, rfl⟩
      · rw [if_neg hi] at h ⊢
        by_cases ho : i % 2 = 1
        · rw [if_pos ho] at h ⊢
          have := Fm.rep_get k _ _ h
          exact ⟨by omega, this.2⟩
        · rw [if_neg ho] at h ⊢
          have := Fm.rep_get k _ _ h
          exact ⟨by omega, this.2⟩
theorem Fm.sets_has : ∀ (l : List SV) (t : Fm) (i j : Nat), (t.sets i l).has j = t.has j
  | [], _, _, _ => rfl
  | x :: l, t, i, j => by
    unfold Fm.sets
    rw [Fm.sets_has l, Fm.has_set]
theorem Fm.sets_get : ∀ (l : List SV) (t : Fm) (i j : Nat), t.has j = true → (t.sets i l).get j = if i ≤ j ∧ j < i + l.length then l.getD (j - i) .any else t.get j
  | [], t, i, j, h => by
    rw [if_neg (by simp)]
    rfl
  | x :: l, t, i, j, h => by
    unfold Fm.sets
    rw [Fm.sets_get l _ _ _ (by rw [Fm.has_set]; exact h)]
    by_cases hc : i + 1 ≤ j ∧ j < i + 1 + l.length
    · rw [if_pos hc, if_pos (by simp; omega), show j - i = (j - (i + 1)) + 1 from by omega]
      rfl
    · rw [if_neg hc, Fm.get_set]
      by_cases hj : j = i
      · subst hj
        rw [if_pos ⟨rfl, h⟩, if_pos (by simp), Nat.sub_self]
        rfl
      · rw [if_neg (fun hd => hj hd.1.symm), if_neg (by simp; omega)]
theorem Fm.le_get : ∀ {s t : Fm} (i : Nat), s.le t → (s.get i).le (t.get i) ∧ (t.has i = true → s.has i = true)
  | s, .e, i, _ => ⟨by simp only [Fm.get, SV.le], fun h => by cases h⟩
  | .e, .n _ _ _, i, h => by simp only [Fm.le] at h
  | .n x l r, .n y l' r', i, h => by
    have h : x.le y ∧ (l.le l' ∧ r.le r') := by
      simp only [Fm.le] at h
      split at h
      · exact ⟨by simp only [SV.le], h⟩
      · exact h
    rw [Fm.get_n, Fm.get_n, Fm.has_n, Fm.has_n]
    split
    · exact ⟨h.1, fun _ => rfl⟩
    · split
      · exact Fm.le_get _ h.2.1
      · exact Fm.le_get _ h.2.2
/-- What is known of each slot is so. -/
structure FmIs (g : World) (r : Nat → Option Value) (t : Fm) (us : Array Value) : Prop where
  get : ∀ i, (t.get i).Is g r (us.getD i undef)
  lt : ∀ i, t.has i = true → i < us.size
theorem FmIs.sub {g g' : World} {r r' : Nat → Option Value} (hg : SubW g g') (hr : SubR r r') {t : Fm} {us : Array Value} (h : FmIs g r t us) : FmIs g' r' t us :=
  ⟨fun i => SV.Is.sub hg hr _ _ (h.get i), h.lt⟩
theorem FmIs.at {g : World} {r : Nat → Option Value} {t : Fm} {us : Array Value} (h : FmIs g r t us) {i : Nat} (hne : t.get i ≠ .any) : i < us.size := by
  cases hh : t.has i with
  | true => exact h.lt i hh
  | false => exact absurd (Fm.get_none hh) hne
end Go.Proofs.Ytekokhlldcmjfaa
