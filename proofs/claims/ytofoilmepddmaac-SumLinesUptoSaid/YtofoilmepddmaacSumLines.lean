import Derived.Test.YtofoilmepddmaacCrc
import Derived.Laws.BitsAllLaws
import Derived.StillTailTactics
import Derived.Deep.DrawnRows
import Derived.Deep.RegionHeld3
namespace Go.Proofs.Ytofoilmepddmaac
open Go.RowKit
set_option maxHeartbeats 4000000
theorem bit_lin (x y : BitVec 32) : crcBit (x ^^^ y) = crcBit x ^^^ crcBit y := by
  have ha : (x ^^^ y) &&& 1#32 = (x &&& 1#32) ^^^ (y &&& 1#32) := by
    ext i
    simp only [BitVec.getElem_and, BitVec.getElem_xor]
    cases x[i] <;> cases y[i] <;> cases (1#32)[i] <;> rfl
  unfold crcBit
  rw [ha, BitVec.ushiftRight_xor_distrib]
  rcases and1_or x with h | h <;> rcases and1_or y with k | k <;> simp only [h, k]
  · simp
    rw [show x >>> 1 ^^^ 3988292384#32 ^^^ (y >>> 1 ^^^ 3988292384#32) = (x >>> 1 ^^^ y >>> 1) ^^^ (3988292384#32 ^^^ 3988292384#32) from by ac_rfl]
    simp
  · simp; ac_rfl
  · simp; ac_rfl
  · simp
theorem on_lin (k : Nat) : ∀ (x y : BitVec 32), bitsOn k (x ^^^ y) = bitsOn k x ^^^ bitsOn k y := by
  induction k with
  | zero => intro x y; rfl
  | succ k ih => intro x y; simp only [bitsOn, bit_lin, ih]
theorem on3 (k : Nat) (x y z : BitVec 32) : bitsOn k (x ^^^ y ^^^ z) = bitsOn k x ^^^ bitsOn k y ^^^ bitsOn k z := by rw [on_lin, on_lin]
/-- Three rows, changed by one another. -/
def xor3 : List Int → List Int → List Int → List Int
  | a :: l, b :: m, c :: n => bits .xor .u8 (bits .xor .u8 a b) c :: xor3 l m n
  | _, _, _ => []
def InB (x : Int) : Prop := 0 ≤ x ∧ x ≤ 255
theorem xor_inb (a b : Int) (ha : InB a) (hb : InB b) : InB (bits .xor .u8 a b) ∧ BitVec.ofInt 32 (bits .xor .u8 a b) = BitVec.ofInt 32 a ^^^ BitVec.ofInt 32 b := by
  obtain ⟨x, rfl⟩ : ∃ x : Nat, a = (x : Int) := ⟨a.toNat, by have := ha.1; omega⟩
  obtain ⟨y, rfl⟩ : ∃ y : Nat, b = (y : Int) := ⟨b.toNat, by have := hb.1; omega⟩
  have hx : x < 256 := by have := ha.2; omega
  have hy : y < 256 := by have := hb.2; omega
  rw [u8_xor_nat x y hx hy]
  have hlt : x ^^^ y < 256 := Nat.xor_lt_two_pow (n := 8) hx hy
  refine ⟨⟨by omega, by omega⟩, ?_⟩
  simp only [BitVec.ofInt_natCast]
  exact BitVec.ofNat_xor ..
theorem on_nil (s : BitVec 32) : crcOn s [] = s := rfl
theorem lines_on : ∀ (l m n : List Int) (s t u : BitVec 32), l.length = m.length → m.length = n.length → (∀ x ∈ l, InB x) → (∀ x ∈ m, InB x) → (∀ x ∈ n, InB x) →
    crcOn (s ^^^ t ^^^ u) (xor3 l m n) = crcOn s l ^^^ crcOn t m ^^^ crcOn u n
  | [], [], [], s, t, u, _, _, _, _, _ => rfl
  | a :: l, b :: m, c :: n, s, t, u, h, k, ha, hb, hc => by
    have h1 := xor_inb a b (ha a (by simp)) (hb b (by simp))
    have h2 := xor_inb _ c h1.1 (hc c (by simp))
    show crcOn (crcByte _ _) (xor3 l m n) = crcOn (crcByte s a) l ^^^ crcOn (crcByte t b) m ^^^ crcOn (crcByte u c) n
    rw [← lines_on l m n _ _ _ (by simpa using h) (by simpa using k) (fun x hx => ha x (by simp [hx])) (fun x hx => hb x (by simp [hx])) (fun x hx => hc x (by simp [hx]))]
    unfold crcByte
    rw [h2.2, h1.2, ← on3]
    congr 1
    congr 1
    ac_rfl
theorem lines_crc (l m n : List Int) (h : l.length = m.length) (k : m.length = n.length) (ha : ∀ x ∈ l, InB x) (hb : ∀ x ∈ m, InB x) (hc : ∀ x ∈ n, InB x) :
    crcL (xor3 l m n) = crcL l ^^^ crcL m ^^^ crcL n := by
  unfold crcL
  have := lines_on l m n 0xffffffff#32 0xffffffff#32 0xffffffff#32 h k ha hb hc
  rw [show (0xffffffff#32 ^^^ 0xffffffff#32 ^^^ 0xffffffff#32) = 0xffffffff#32 from by decide] at this
  rw [this]
  generalize crcOn _ l = A
  generalize crcOn _ m = B
  generalize crcOn _ n = C
  ext i hi
  simp only [BitVec.getElem_not, BitVec.getElem_xor]
  cases A[i] <;> cases B[i] <;> cases C[i] <;> rfl
theorem xor3_len : ∀ (l m n : List Int) (k : Nat), l.length = k → m.length = k → n.length = k → (xor3 l m n).length = k
  | [], _, _, k, h, _, _ => by simpa [xor3] using h
  | a :: l, [], _, k, h, h2, _ => by simp at h h2; omega
  | a :: l, b :: m, [], k, h, h2, h3 => by simp at h h3; omega
  | a :: l, b :: m, c :: n, k, h, h2, h3 => by
    have := xor3_len l m n (k - 1) (by simp at h; omega) (by simp at h2; omega) (by simp at h3; omega)
    simp [xor3, this]
    simp at h; omega
theorem xor3_getD : ∀ (l m n : List Int) (k i : Nat), l.length = k → m.length = k → n.length = k → i < k → (xor3 l m n).getD i 0 = bits .xor .u8 (bits .xor .u8 (l.getD i 0) (m.getD i 0)) (n.getD i 0)
  | [], _, _, k, i, h, _, _, hi => by simp at h; omega
  | a :: l, [], _, k, i, h, h2, _, hi => by simp at h h2; omega
  | a :: l, b :: m, [], k, i, h, h2, h3, hi => by simp at h h3; omega
  | a :: l, b :: m, c :: n, k, 0, h, h2, h3, hi => rfl
  | a :: l, b :: m, c :: n, k, i + 1, h, h2, h3, hi => by
    have := xor3_getD l m n (k - 1) i (by simp at h; omega) (by simp at h2; omega) (by simp at h3; omega) (by omega)
    simpa [xor3] using this
theorem iByte : (Try.prog.info? 5).map (fun i => (i.zero, i.size, i.bytes)) = some (some (.int .u8 0), 1, 1) := by kernel_rfl
theorem crc_is (v : Value) (l : List Int) (S : BitVec 32) (hS : crcL l = S) (w : World) (hr : Reads .u8 w v l) :
    Calls Try.prog 4 #[v] w fun e w' => e = .returned (.int .u32 (N32 S)) ∧ w = w' := hS ▸ crc_any v l w hr
theorem Holds.sub {w : World} {ao : Option Addr} {l : List Int} {n m cap : Nat} (h : kv .u8 l = [] ∨ ∃ b off, ao = some ⟨b, off, none⟩ ∧ ∀ (i : Nat) (u : Value), (kv .u8 l)[i]? = some u → w.cell? ⟨b, off + i, none⟩ = some u) (hl : l.length = n) (hm : m ≤ n) (hc : n ≤ cap) (hx : cap ≤ maxLen) (hf : Fits .u8 l) : Reads .u8 w (.slice ao m cap) (l.take m) := by
  have hlen : (l.take m).length = m := by rw [List.length_take]; omega
  refine ⟨⟨ao, cap, by rw [kv_len, hlen], by rw [kv_len, hlen]; omega, hx, ?_⟩, hf.take m, by omega⟩
  rcases h with h | ⟨b, off, rfl, h⟩
  · have : l = [] := by simpa [kv] using h
    subst this
    exact .inl (by simp [kv])
  · refine .inr ⟨b, off, rfl, fun i u hu => h i u ?_⟩
    have hi : i < m := by have := (List.getElem?_eq_some_iff.1 hu).1; rw [kv_len, hlen] at this; exact this
    rw [← hu]
    simp [kv, hi]
theorem crc_q (v : Value) (l : List Int) (S : BitVec 32) (hS : crcL l = S) (w : World) (hr : Reads .u8 w v l) :
    Calls Try.prog 4 #[v] w fun e w'' => e = .returned (.int .u32 (N32 S)) ∧ w'' = w := (hS ▸ crc_any v l w hr).mono fun _ _ ⟨he, hw⟩ => ⟨he, hw.symm⟩
theorem sumLines_any (va vb vc : Value) (la lb lc : List Int) (w : World) (ha : Reads .u8 w va la) (hb : Reads .u8 w vb lb) (hc : Reads .u8 w vc lc) (hla : la.length ≤ 1048576) (hlb : lb.length ≤ 1048576) (hlc : lc.length ≤ 1048576) :
    Calls Try.prog 3 #[va, vb, vc] w fun e w' => e = .returned (.bool true) ∧ Below w.heap.size w w' := by
  obtain ⟨i0, hi, hz0, hz1, hz2⟩ := info_parts iByte
  obtain ⟨⟨ao, cpa, rfl, ca, mxa, ga⟩, fa, _⟩ := ha
  obtain ⟨⟨bo, cpb, rfl, cb, mxb, gb⟩, fb, _⟩ := hb
  obtain ⟨⟨co, cpc, rfl, cc, mxc, gc⟩, fc, _⟩ := hc
  rw [kv_len] at ca cb cc ⊢
  rw [kv_len, kv_len]
  obtain ⟨na, hna⟩ : ∃ n, la.length = n := ⟨_, rfl⟩
  obtain ⟨nb, hnb⟩ : ∃ n, lb.length = n := ⟨_, rfl⟩
  obtain ⟨nc, hnc⟩ : ∃ n, lc.length = n := ⟨_, rfl⟩
  rw [hna] at hla ca ⊢; rw [hnb] at hlb cb ⊢; rw [hnc] at hlc cc ⊢
  obtain ⟨wo, rfl⟩ : ∃ wo : World, wo = w := ⟨_, rfl⟩
  obtain ⟨n, hn⟩ : ∃ n, n = min (min na nb) nc := ⟨_, rfl⟩
  have n1 : n ≤ na := by omega
  have n2 : n ≤ nb := by omega
  have n3 : n ≤ nc := by omega
  have GA := Lib.hid ga
  have GB := Lib.hid gb
  have GC := Lib.hid gc
  have FA := Lib.hid fa
  have FB := Lib.hid fb
  have FC := Lib.hid fc
  have NA := Lib.hid hna
  have NB := Lib.hid hnb
  have NC := Lib.hid hnc
  clear ga gb gc fa fb fc hna hnb hnc
  have four : (n = na) ∨ (n = nb ∧ nb < na) ∨ (n = nc ∧ nc < nb ∧ nb < na) ∨ (n = nc ∧ nc < na ∧ na ≤ nb) := by omega
  clear hn
  rcases four with h1 | ⟨h1, h2⟩ | ⟨h1, h2, h3⟩ | ⟨h1, h2, h3⟩ <;> subst h1
  · go_enter Try.func3, Try.ntmps3
    go_wp2_with (at_make; refine wpList_make_full _ rfl _ _ 22 rfl wo.heap.size 5 i0 (.int .u8 0) 1 Try.underlying22 hi hz0 hz1 _ _ _ _ n rfl rfl rfl rfl ?b1 ?b2 ?b3 ?_)
    case b1 => rw [hz2]; omega
    case b2 => unfold maxLen; omega
    case b3 => omega
    intro w1 hown hgrow
    have hb1 : Below wo.heap.size wo w1 := (Below.refl _ _).grown hgrow (Nat.le_refl _) (by simp)
    rw [kv_zero] at hown
    go_wp2
    go_loopw [20] (fun c wr => ∃ (k : Nat) (D : List Int), c = .int .i64 k ∧ k ≤ n ∧ D.length = n ∧ (∀ i, i < k → D.getD i 0 = bits .xor .u8 (bits .xor .u8 (la.getD i 0) (lb.getD i 0)) (lc.getD i 0)) ∧ wr.ownsRow wo.heap.size 5 1 (.slice (some ⟨wo.heap.size, 0, none⟩) n n) n (kv .u8 D) ∧ Below wo.heap.size wo wr) (fun c _ => n - (intOf c).toNat)
    case atStart => exact ⟨0, List.replicate n 0, rfl, by omega, by simp, by intro i hi; omega, hown, hb1⟩
    case round =>
      obtain ⟨k, D, rfl, hk, hl, hlk, howr, hbr⟩ := hrel
      have HLK := Lib.hid hlk
      clear hlk hown hgrow hb1
      obtain ⟨w2, rfl⟩ : ∃ w2 : World, w2 = wr := ⟨_, rfl⟩
      by_cases hlt : k < n
      · have hc := (howr.cellAt k (by omega)).trans (kv_getD .u8 D k (by omega))
        have hf := howr.frozenAt k
        obtain ⟨b1, o1, rfl, ga⟩ := GA.out.resolve_left (fun e => by have := congrArg List.length e; rw [kv_len, NA.out] at this; simp at this; omega)
        obtain ⟨b2, o2, rfl, gb⟩ := GB.out.resolve_left (fun e => by have := congrArg List.length e; rw [kv_len, NB.out] at this; simp at this; omega)
        obtain ⟨b3, o3, rfl, gc⟩ := GC.out.resolve_left (fun e => by have := congrArg List.length e; rw [kv_len, NC.out] at this; simp at this; omega)
        have ga0 := ga k _ (kv_getD .u8 la k (by rw [NA.out]; omega))
        have gb0 := gb k _ (kv_getD .u8 lb k (by rw [NB.out]; omega))
        have gc0 := gc k _ (kv_getD .u8 lc k (by rw [NC.out]; omega))
        have ga1 := (hbr.cell (p := ⟨b1, o1 + k, none⟩) (World.block_lt_of_cell? wo _ ga0)).trans ga0
        have gb1 := (hbr.cell (p := ⟨b2, o2 + k, none⟩) (World.block_lt_of_cell? wo _ gb0)).trans gb0
        have gc1 := (hbr.cell (p := ⟨b3, o3 + k, none⟩) (World.block_lt_of_cell? wo _ gc0)).trans gc0
        obtain ⟨x1, hx1⟩ : ∃ x, la.getD k 0 = x := ⟨_, rfl⟩
        obtain ⟨x2, hx2⟩ : ∃ x, lb.getD k 0 = x := ⟨_, rfl⟩
        obtain ⟨x3, hx3⟩ : ∃ x, lc.getD k 0 = x := ⟨_, rfl⟩
        rw [hx1] at ga1
        rw [hx2] at gb1
        rw [hx3] at gc1
        obtain ⟨y, hy⟩ : ∃ y, bits .xor .u8 x1 x2 = y := ⟨_, rfl⟩
        obtain ⟨z, hz⟩ : ∃ z, bits .xor .u8 y x3 = z := ⟨_, rfl⟩
        have HZ : Hid (bits .xor .u8 (bits .xor .u8 (la.getD k 0) (lb.getD k 0)) (lc.getD k 0) = z) := Lib.hid (by rw [hx1, hx2, hx3, hy, hz])
        clear hx1 hx2 hx3
        have hst := howr.stored k (.int .u8 z)
        rw [kv_set] at hst
        obtain ⟨hs1, hs2⟩ := hst
        have HS1 := Lib.hid hs1
        have HB2 := Lib.hid (hbr.grown hs2 (by have := hbr.size; omega) (by simp))
        have HBR := Lib.hid hbr
        clear ga gb gc ga0 gb0 gc0 hs1 hs2 howr hbr
        have i0k : (0 : Int) ≤ (k : Int) := by omega
        have i1k : (k : Int) < (n : Int) := by omega
        have i_nb : (k : Int) < (nb : Int) := by omega
        have i_nc : (k : Int) < (nc : Int) := by omega
        go_wp2_with fail
        go_still_tail 17, (by kernel_rfl)
        go_wp2
        go_roundw
        case rel => exact ⟨k + 1, D.set k z, by go_num, by omega, by simp [hl], by
          intro i hi
          rw [getD_setI _ _ _ _ (by omega)]
          split
          · next e => rw [← e]; exact HZ.out.symm
          · exact HLK.out i (by omega), HS1.out, HB2.out.drew⟩
        case measure => simp [intOf]; omega
      · have hkn : k = n := by omega
        subst hkn
        have hD : D = xor3 (la.take k) (lb.take k) (lc.take k) := by
          have l1 : (la.take k).length = k := by rw [List.length_take, NA.out]; omega
          have l2 : (lb.take k).length = k := by rw [List.length_take, NB.out]; omega
          have l3 : (lc.take k).length = k := by rw [List.length_take, NC.out]; omega
          refine List.ext_getElem (by rw [hl, xor3_len _ _ _ k l1 l2 l3]) ?_
          intro i h1 h2
          have hik : i < k := by omega
          have e1 := HLK.out i hik
          have e2 := xor3_getD (la.take k) (lb.take k) (lc.take k) k i l1 l2 l3 hik
          have t1 : (la.take k).getD i 0 = la.getD i 0 := by simp [List.getD, hik]
          have t2 : (lb.take k).getD i 0 = lb.getD i 0 := by simp [List.getD, hik]
          have t3 : (lc.take k).getD i 0 = lc.getD i 0 := by simp [List.getD, hik]
          rw [t1, t2, t3, ← e1] at e2
          rw [List.getD_eq_getElem?_getD, List.getElem?_eq_getElem h2, List.getD_eq_getElem?_getD, List.getElem?_eq_getElem h1] at e2
          exact e2.symm
        have inb : ∀ (l : List Int), Fits .u8 l → ∀ x ∈ l, InB x := fun l h x hx => by
          have := h x hx
          simpa [Lit.wf, IntKind.min, IntKind.max, IntKind.signed, IntKind.bits, InB] using this
        have hcr : crcL D = crcL (la.take k) ^^^ crcL (lb.take k) ^^^ crcL (lc.take k) := by
          rw [hD]
          exact lines_crc _ _ _ (by simp only [List.length_take, NA.out, NB.out]; omega) (by simp only [List.length_take, NC.out, NB.out]; omega) (inb _ (FA.out.take k)) (inb _ (FB.out.take k)) (inb _ (FC.out.take k))
        have hfd : Fits .u8 D := by
          intro x hx
          obtain ⟨i, hi, rfl⟩ := List.getElem_of_mem hx
          have e1 := HLK.out i (by omega)
          rw [List.getD_eq_getElem?_getD, List.getElem?_eq_getElem hi] at e1
          have ia : ∀ (l : List Int), Fits .u8 l → InB (l.getD i 0) := fun l h => h.u8 i
          have := (xor_inb _ _ (xor_inb _ _ (ia la FA.out) (ia lb FB.out)).1 (ia lc FC.out)).1
          simp only [Option.getD_some] at e1
          rw [← e1] at this
          simpa [Lit.wf, IntKind.min, IntKind.max, IntKind.signed, IntKind.bits, InB] using this
        have RD := Lib.hid (show Reads .u8 w2.drew (.slice (some ⟨wo.heap.size, 0, none⟩) k k) D from ⟨by have := holds_own howr; exact this, hfd, by rw [hl]; unfold maxLen; omega⟩)
        have RA := Lib.hid (show Reads .u8 w2.drew (.slice ao k cpa) (la.take k) from ⟨((Holds.sub GA.out NA.out (by omega) ca mxa FA.out).1.below hbr.drew), FA.out.take k, by rw [List.length_take]; unfold maxLen; omega⟩)
        have RB := Lib.hid (show Reads .u8 w2.drew (.slice bo k cpb) (lb.take k) from ⟨((Holds.sub GB.out NB.out (by omega) cb mxb FB.out).1.below hbr.drew), FB.out.take k, by rw [List.length_take]; unfold maxLen; omega⟩)
        have RC := Lib.hid (show Reads .u8 w2.drew (.slice co k cpc) (lc.take k) from ⟨((Holds.sub GC.out NC.out (by omega) cc mxc FC.out).1.below hbr.drew), FC.out.take k, by rw [List.length_take]; unfold maxLen; omega⟩)
        obtain ⟨A, hA⟩ : ∃ A, crcL (la.take k) = A := ⟨_, rfl⟩
        obtain ⟨B, hB⟩ : ∃ B, crcL (lb.take k) = B := ⟨_, rfl⟩
        obtain ⟨C, hC⟩ : ∃ C, crcL (lc.take k) = C := ⟨_, rfl⟩
        rw [hA, hB, hC] at hcr
        have QD := Lib.hid hcr
        have QA := Lib.hid hA
        have QB := Lib.hid hB
        have QC := Lib.hid hC
        have HBR := Lib.hid hbr.drew
        have x1 := xor32 A B
        have x2 := xor32 (A ^^^ B) C
        have j0 : (0 : Int) ≤ (k : Int) := by omega
        have j1 : (k : Int) ≤ (cpa : Int) := by omega
        have j2 : (k : Int) ≤ (cpb : Int) := by omega
        have j3 : (k : Int) ≤ (cpc : Int) := by omega
        clear hD hcr hA hB hC hfd inb hbr howr
        go_wp2_with fail
        refine wp_region_still_tail 18 (by kernel_rfl) (by kernel_rfl) ?_
        simp only [List.take_succ_cons, List.take_zero, List.drop_succ_cons, List.drop_zero]
        still_step
        still_call (crc_q _ _ _ QD.out _ RD.out)
        still_step
        still_step
        still_step
        still_call (crc_q _ _ _ QA.out _ RA.out)
        still_step
        still_step
        still_step
        still_call (crc_q _ _ _ QB.out _ RB.out)
        still_step
        still_step
        still_step
        still_step
        still_call (crc_q _ _ _ QC.out _ RC.out)
        still_step
        still_step
        still_step
        refine wpStill_nil ?_
        go_wp2_with (first | (go_at_call 5; refine (awake4_any _).mono ?_; rintro e w' ⟨rfl, hbel⟩))
        go_ret
        exact ⟨rfl, HBR.out.trans (hbel.mono HBR.out.size)⟩
  · go_enter Try.func3, Try.ntmps3
    go_wp2_with (at_make; refine wpList_make_full _ rfl _ _ 22 rfl wo.heap.size 5 i0 (.int .u8 0) 1 Try.underlying22 hi hz0 hz1 _ _ _ _ n rfl rfl rfl rfl ?b1 ?b2 ?b3 ?_)
    case b1 => rw [hz2]; omega
    case b2 => unfold maxLen; omega
    case b3 => omega
    intro w1 hown hgrow
    have hb1 : Below wo.heap.size wo w1 := (Below.refl _ _).grown hgrow (Nat.le_refl _) (by simp)
    rw [kv_zero] at hown
    go_wp2
    go_loopw [20] (fun c wr => ∃ (k : Nat) (D : List Int), c = .int .i64 k ∧ k ≤ n ∧ D.length = n ∧ (∀ i, i < k → D.getD i 0 = bits .xor .u8 (bits .xor .u8 (la.getD i 0) (lb.getD i 0)) (lc.getD i 0)) ∧ wr.ownsRow wo.heap.size 5 1 (.slice (some ⟨wo.heap.size, 0, none⟩) n n) n (kv .u8 D) ∧ Below wo.heap.size wo wr) (fun c _ => n - (intOf c).toNat)
    case atStart => exact ⟨0, List.replicate n 0, rfl, by omega, by simp, by intro i hi; omega, hown, hb1⟩
    case round =>
      obtain ⟨k, D, rfl, hk, hl, hlk, howr, hbr⟩ := hrel
      have HLK := Lib.hid hlk
      clear hlk hown hgrow hb1
      obtain ⟨w2, rfl⟩ : ∃ w2 : World, w2 = wr := ⟨_, rfl⟩
      by_cases hlt : k < n
      · have hc := (howr.cellAt k (by omega)).trans (kv_getD .u8 D k (by omega))
        have hf := howr.frozenAt k
        obtain ⟨b1, o1, rfl, ga⟩ := GA.out.resolve_left (fun e => by have := congrArg List.length e; rw [kv_len, NA.out] at this; simp at this; omega)
        obtain ⟨b2, o2, rfl, gb⟩ := GB.out.resolve_left (fun e => by have := congrArg List.length e; rw [kv_len, NB.out] at this; simp at this; omega)
        obtain ⟨b3, o3, rfl, gc⟩ := GC.out.resolve_left (fun e => by have := congrArg List.length e; rw [kv_len, NC.out] at this; simp at this; omega)
        have ga0 := ga k _ (kv_getD .u8 la k (by rw [NA.out]; omega))
        have gb0 := gb k _ (kv_getD .u8 lb k (by rw [NB.out]; omega))
        have gc0 := gc k _ (kv_getD .u8 lc k (by rw [NC.out]; omega))
        have ga1 := (hbr.cell (p := ⟨b1, o1 + k, none⟩) (World.block_lt_of_cell? wo _ ga0)).trans ga0
        have gb1 := (hbr.cell (p := ⟨b2, o2 + k, none⟩) (World.block_lt_of_cell? wo _ gb0)).trans gb0
        have gc1 := (hbr.cell (p := ⟨b3, o3 + k, none⟩) (World.block_lt_of_cell? wo _ gc0)).trans gc0
        obtain ⟨x1, hx1⟩ : ∃ x, la.getD k 0 = x := ⟨_, rfl⟩
        obtain ⟨x2, hx2⟩ : ∃ x, lb.getD k 0 = x := ⟨_, rfl⟩
        obtain ⟨x3, hx3⟩ : ∃ x, lc.getD k 0 = x := ⟨_, rfl⟩
        rw [hx1] at ga1
        rw [hx2] at gb1
        rw [hx3] at gc1
        obtain ⟨y, hy⟩ : ∃ y, bits .xor .u8 x1 x2 = y := ⟨_, rfl⟩
        obtain ⟨z, hz⟩ : ∃ z, bits .xor .u8 y x3 = z := ⟨_, rfl⟩
        have HZ : Hid (bits .xor .u8 (bits .xor .u8 (la.getD k 0) (lb.getD k 0)) (lc.getD k 0) = z) := Lib.hid (by rw [hx1, hx2, hx3, hy, hz])
        clear hx1 hx2 hx3
        have hst := howr.stored k (.int .u8 z)
        rw [kv_set] at hst
        obtain ⟨hs1, hs2⟩ := hst
        have HS1 := Lib.hid hs1
        have HB2 := Lib.hid (hbr.grown hs2 (by have := hbr.size; omega) (by simp))
        have HBR := Lib.hid hbr
        clear ga gb gc ga0 gb0 gc0 hs1 hs2 howr hbr
        have i0k : (0 : Int) ≤ (k : Int) := by omega
        have i1k : (k : Int) < (n : Int) := by omega
        have i_na : (k : Int) < (na : Int) := by omega
        have i_nc : (k : Int) < (nc : Int) := by omega
        go_wp2_with fail
        go_still_tail 17, (by kernel_rfl)
        go_wp2
        go_roundw
        case rel => exact ⟨k + 1, D.set k z, by go_num, by omega, by simp [hl], by
          intro i hi
          rw [getD_setI _ _ _ _ (by omega)]
          split
          · next e => rw [← e]; exact HZ.out.symm
          · exact HLK.out i (by omega), HS1.out, HB2.out.drew⟩
        case measure => simp [intOf]; omega
      · have hkn : k = n := by omega
        subst hkn
        have hD : D = xor3 (la.take k) (lb.take k) (lc.take k) := by
          have l1 : (la.take k).length = k := by rw [List.length_take, NA.out]; omega
          have l2 : (lb.take k).length = k := by rw [List.length_take, NB.out]; omega
          have l3 : (lc.take k).length = k := by rw [List.length_take, NC.out]; omega
          refine List.ext_getElem (by rw [hl, xor3_len _ _ _ k l1 l2 l3]) ?_
          intro i h1 h2
          have hik : i < k := by omega
          have e1 := HLK.out i hik
          have e2 := xor3_getD (la.take k) (lb.take k) (lc.take k) k i l1 l2 l3 hik
          have t1 : (la.take k).getD i 0 = la.getD i 0 := by simp [List.getD, hik]
          have t2 : (lb.take k).getD i 0 = lb.getD i 0 := by simp [List.getD, hik]
          have t3 : (lc.take k).getD i 0 = lc.getD i 0 := by simp [List.getD, hik]
          rw [t1, t2, t3, ← e1] at e2
          rw [List.getD_eq_getElem?_getD, List.getElem?_eq_getElem h2, List.getD_eq_getElem?_getD, List.getElem?_eq_getElem h1] at e2
          exact e2.symm
        have inb : ∀ (l : List Int), Fits .u8 l → ∀ x ∈ l, InB x := fun l h x hx => by
          have := h x hx
          simpa [Lit.wf, IntKind.min, IntKind.max, IntKind.signed, IntKind.bits, InB] using this
        have hcr : crcL D = crcL (la.take k) ^^^ crcL (lb.take k) ^^^ crcL (lc.take k) := by
          rw [hD]
          exact lines_crc _ _ _ (by simp only [List.length_take, NA.out, NB.out]; omega) (by simp only [List.length_take, NC.out, NB.out]; omega) (inb _ (FA.out.take k)) (inb _ (FB.out.take k)) (inb _ (FC.out.take k))
        have hfd : Fits .u8 D := by
          intro x hx
          obtain ⟨i, hi, rfl⟩ := List.getElem_of_mem hx
          have e1 := HLK.out i (by omega)
          rw [List.getD_eq_getElem?_getD, List.getElem?_eq_getElem hi] at e1
          have ia : ∀ (l : List Int), Fits .u8 l → InB (l.getD i 0) := fun l h => h.u8 i
          have := (xor_inb _ _ (xor_inb _ _ (ia la FA.out) (ia lb FB.out)).1 (ia lc FC.out)).1
          simp only [Option.getD_some] at e1
          rw [← e1] at this
          simpa [Lit.wf, IntKind.min, IntKind.max, IntKind.signed, IntKind.bits, InB] using this
        have RD := Lib.hid (show Reads .u8 w2.drew (.slice (some ⟨wo.heap.size, 0, none⟩) k k) D from ⟨by have := holds_own howr; exact this, hfd, by rw [hl]; unfold maxLen; omega⟩)
        have RA := Lib.hid (show Reads .u8 w2.drew (.slice ao k cpa) (la.take k) from ⟨((Holds.sub GA.out NA.out (by omega) ca mxa FA.out).1.below hbr.drew), FA.out.take k, by rw [List.length_take]; unfold maxLen; omega⟩)
        have RB := Lib.hid (show Reads .u8 w2.drew (.slice bo k cpb) (lb.take k) from ⟨((Holds.sub GB.out NB.out (by omega) cb mxb FB.out).1.below hbr.drew), FB.out.take k, by rw [List.length_take]; unfold maxLen; omega⟩)
        have RC := Lib.hid (show Reads .u8 w2.drew (.slice co k cpc) (lc.take k) from ⟨((Holds.sub GC.out NC.out (by omega) cc mxc FC.out).1.below hbr.drew), FC.out.take k, by rw [List.length_take]; unfold maxLen; omega⟩)
        obtain ⟨A, hA⟩ : ∃ A, crcL (la.take k) = A := ⟨_, rfl⟩
        obtain ⟨B, hB⟩ : ∃ B, crcL (lb.take k) = B := ⟨_, rfl⟩
        obtain ⟨C, hC⟩ : ∃ C, crcL (lc.take k) = C := ⟨_, rfl⟩
        rw [hA, hB, hC] at hcr
        have QD := Lib.hid hcr
        have QA := Lib.hid hA
        have QB := Lib.hid hB
        have QC := Lib.hid hC
        have HBR := Lib.hid hbr.drew
        have x1 := xor32 A B
        have x2 := xor32 (A ^^^ B) C
        have j0 : (0 : Int) ≤ (k : Int) := by omega
        have j1 : (k : Int) ≤ (cpa : Int) := by omega
        have j2 : (k : Int) ≤ (cpb : Int) := by omega
        have j3 : (k : Int) ≤ (cpc : Int) := by omega
        clear hD hcr hA hB hC hfd inb hbr howr
        go_wp2_with fail
        refine wp_region_still_tail 18 (by kernel_rfl) (by kernel_rfl) ?_
        simp only [List.take_succ_cons, List.take_zero, List.drop_succ_cons, List.drop_zero]
        still_step
        still_call (crc_q _ _ _ QD.out _ RD.out)
        still_step
        still_step
        still_step
        still_call (crc_q _ _ _ QA.out _ RA.out)
        still_step
        still_step
        still_step
        still_call (crc_q _ _ _ QB.out _ RB.out)
        still_step
        still_step
        still_step
        still_step
        still_call (crc_q _ _ _ QC.out _ RC.out)
        still_step
        still_step
        still_step
        refine wpStill_nil ?_
        go_wp2_with (first | (go_at_call 5; refine (awake4_any _).mono ?_; rintro e w' ⟨rfl, hbel⟩))
        go_ret
        exact ⟨rfl, HBR.out.trans (hbel.mono HBR.out.size)⟩
  · go_enter Try.func3, Try.ntmps3
    go_wp2_with (at_make; refine wpList_make_full _ rfl _ _ 22 rfl wo.heap.size 5 i0 (.int .u8 0) 1 Try.underlying22 hi hz0 hz1 _ _ _ _ n rfl rfl rfl rfl ?b1 ?b2 ?b3 ?_)
    case b1 => rw [hz2]; omega
    case b2 => unfold maxLen; omega
    case b3 => omega
    intro w1 hown hgrow
    have hb1 : Below wo.heap.size wo w1 := (Below.refl _ _).grown hgrow (Nat.le_refl _) (by simp)
    rw [kv_zero] at hown
    go_wp2
    go_loopw [20] (fun c wr => ∃ (k : Nat) (D : List Int), c = .int .i64 k ∧ k ≤ n ∧ D.length = n ∧ (∀ i, i < k → D.getD i 0 = bits .xor .u8 (bits .xor .u8 (la.getD i 0) (lb.getD i 0)) (lc.getD i 0)) ∧ wr.ownsRow wo.heap.size 5 1 (.slice (some ⟨wo.heap.size, 0, none⟩) n n) n (kv .u8 D) ∧ Below wo.heap.size wo wr) (fun c _ => n - (intOf c).toNat)
    case atStart => exact ⟨0, List.replicate n 0, rfl, by omega, by simp, by intro i hi; omega, hown, hb1⟩
    case round =>
      obtain ⟨k, D, rfl, hk, hl, hlk, howr, hbr⟩ := hrel
      have HLK := Lib.hid hlk
      clear hlk hown hgrow hb1
      obtain ⟨w2, rfl⟩ : ∃ w2 : World, w2 = wr := ⟨_, rfl⟩
      by_cases hlt : k < n
      · have hc := (howr.cellAt k (by omega)).trans (kv_getD .u8 D k (by omega))
        have hf := howr.frozenAt k
        obtain ⟨b1, o1, rfl, ga⟩ := GA.out.resolve_left (fun e => by have := congrArg List.length e; rw [kv_len, NA.out] at this; simp at this; omega)
        obtain ⟨b2, o2, rfl, gb⟩ := GB.out.resolve_left (fun e => by have := congrArg List.length e; rw [kv_len, NB.out] at this; simp at this; omega)
        obtain ⟨b3, o3, rfl, gc⟩ := GC.out.resolve_left (fun e => by have := congrArg List.length e; rw [kv_len, NC.out] at this; simp at this; omega)
        have ga0 := ga k _ (kv_getD .u8 la k (by rw [NA.out]; omega))
        have gb0 := gb k _ (kv_getD .u8 lb k (by rw [NB.out]; omega))
        have gc0 := gc k _ (kv_getD .u8 lc k (by rw [NC.out]; omega))
        have ga1 := (hbr.cell (p := ⟨b1, o1 + k, none⟩) (World.block_lt_of_cell? wo _ ga0)).trans ga0
        have gb1 := (hbr.cell (p := ⟨b2, o2 + k, none⟩) (World.block_lt_of_cell? wo _ gb0)).trans gb0
        have gc1 := (hbr.cell (p := ⟨b3, o3 + k, none⟩) (World.block_lt_of_cell? wo _ gc0)).trans gc0
        obtain ⟨x1, hx1⟩ : ∃ x, la.getD k 0 = x := ⟨_, rfl⟩
        obtain ⟨x2, hx2⟩ : ∃ x, lb.getD k 0 = x := ⟨_, rfl⟩
        obtain ⟨x3, hx3⟩ : ∃ x, lc.getD k 0 = x := ⟨_, rfl⟩
        rw [hx1] at ga1
        rw [hx2] at gb1
        rw [hx3] at gc1
        obtain ⟨y, hy⟩ : ∃ y, bits .xor .u8 x1 x2 = y := ⟨_, rfl⟩
        obtain ⟨z, hz⟩ : ∃ z, bits .xor .u8 y x3 = z := ⟨_, rfl⟩
        have HZ : Hid (bits .xor .u8 (bits .xor .u8 (la.getD k 0) (lb.getD k 0)) (lc.getD k 0) = z) := Lib.hid (by rw [hx1, hx2, hx3, hy, hz])
        clear hx1 hx2 hx3
        have hst := howr.stored k (.int .u8 z)
        rw [kv_set] at hst
        obtain ⟨hs1, hs2⟩ := hst
        have HS1 := Lib.hid hs1
        have HB2 := Lib.hid (hbr.grown hs2 (by have := hbr.size; omega) (by simp))
        have HBR := Lib.hid hbr
        clear ga gb gc ga0 gb0 gc0 hs1 hs2 howr hbr
        have i0k : (0 : Int) ≤ (k : Int) := by omega
        have i1k : (k : Int) < (n : Int) := by omega
        have i_na : (k : Int) < (na : Int) := by omega
        have i_nb : (k : Int) < (nb : Int) := by omega
        go_wp2_with fail
        go_still_tail 17, (by kernel_rfl)
        go_wp2
        go_roundw
        case rel => exact ⟨k + 1, D.set k z, by go_num, by omega, by simp [hl], by
          intro i hi
          rw [getD_setI _ _ _ _ (by omega)]
          split
          · next e => rw [← e]; exact HZ.out.symm
          · exact HLK.out i (by omega), HS1.out, HB2.out.drew⟩
        case measure => simp [intOf]; omega
      · have hkn : k = n := by omega
        subst hkn
        have hD : D = xor3 (la.take k) (lb.take k) (lc.take k) := by
          have l1 : (la.take k).length = k := by rw [List.length_take, NA.out]; omega
          have l2 : (lb.take k).length = k := by rw [List.length_take, NB.out]; omega
          have l3 : (lc.take k).length = k := by rw [List.length_take, NC.out]; omega
          refine List.ext_getElem (by rw [hl, xor3_len _ _ _ k l1 l2 l3]) ?_
          intro i h1 h2
          have hik : i < k := by omega
          have e1 := HLK.out i hik
          have e2 := xor3_getD (la.take k) (lb.take k) (lc.take k) k i l1 l2 l3 hik
          have t1 : (la.take k).getD i 0 = la.getD i 0 := by simp [List.getD, hik]
          have t2 : (lb.take k).getD i 0 = lb.getD i 0 := by simp [List.getD, hik]
          have t3 : (lc.take k).getD i 0 = lc.getD i 0 := by simp [List.getD, hik]
          rw [t1, t2, t3, ← e1] at e2
          rw [List.getD_eq_getElem?_getD, List.getElem?_eq_getElem h2, List.getD_eq_getElem?_getD, List.getElem?_eq_getElem h1] at e2
          exact e2.symm
        have inb : ∀ (l : List Int), Fits .u8 l → ∀ x ∈ l, InB x := fun l h x hx => by
          have := h x hx
          simpa [Lit.wf, IntKind.min, IntKind.max, IntKind.signed, IntKind.bits, InB] using this
        have hcr : crcL D = crcL (la.take k) ^^^ crcL (lb.take k) ^^^ crcL (lc.take k) := by
          rw [hD]
          exact lines_crc _ _ _ (by simp only [List.length_take, NA.out, NB.out]; omega) (by simp only [List.length_take, NC.out, NB.out]; omega) (inb _ (FA.out.take k)) (inb _ (FB.out.take k)) (inb _ (FC.out.take k))
        have hfd : Fits .u8 D := by
          intro x hx
          obtain ⟨i, hi, rfl⟩ := List.getElem_of_mem hx
          have e1 := HLK.out i (by omega)
          rw [List.getD_eq_getElem?_getD, List.getElem?_eq_getElem hi] at e1
          have ia : ∀ (l : List Int), Fits .u8 l → InB (l.getD i 0) := fun l h => h.u8 i
          have := (xor_inb _ _ (xor_inb _ _ (ia la FA.out) (ia lb FB.out)).1 (ia lc FC.out)).1
          simp only [Option.getD_some] at e1
          rw [← e1] at this
          simpa [Lit.wf, IntKind.min, IntKind.max, IntKind.signed, IntKind.bits, InB] using this
        have RD := Lib.hid (show Reads .u8 w2.drew (.slice (some ⟨wo.heap.size, 0, none⟩) k k) D from ⟨by have := holds_own howr; exact this, hfd, by rw [hl]; unfold maxLen; omega⟩)
        have RA := Lib.hid (show Reads .u8 w2.drew (.slice ao k cpa) (la.take k) from ⟨((Holds.sub GA.out NA.out (by omega) ca mxa FA.out).1.below hbr.drew), FA.out.take k, by rw [List.length_take]; unfold maxLen; omega⟩)
        have RB := Lib.hid (show Reads .u8 w2.drew (.slice bo k cpb) (lb.take k) from ⟨((Holds.sub GB.out NB.out (by omega) cb mxb FB.out).1.below hbr.drew), FB.out.take k, by rw [List.length_take]; unfold maxLen; omega⟩)
        have RC := Lib.hid (show Reads .u8 w2.drew (.slice co k cpc) (lc.take k) from ⟨((Holds.sub GC.out NC.out (by omega) cc mxc FC.out).1.below hbr.drew), FC.out.take k, by rw [List.length_take]; unfold maxLen; omega⟩)
        obtain ⟨A, hA⟩ : ∃ A, crcL (la.take k) = A := ⟨_, rfl⟩
        obtain ⟨B, hB⟩ : ∃ B, crcL (lb.take k) = B := ⟨_, rfl⟩
        obtain ⟨C, hC⟩ : ∃ C, crcL (lc.take k) = C := ⟨_, rfl⟩
        rw [hA, hB, hC] at hcr
        have QD := Lib.hid hcr
        have QA := Lib.hid hA
        have QB := Lib.hid hB
        have QC := Lib.hid hC
        have HBR := Lib.hid hbr.drew
        have x1 := xor32 A B
        have x2 := xor32 (A ^^^ B) C
        have j0 : (0 : Int) ≤ (k : Int) := by omega
        have j1 : (k : Int) ≤ (cpa : Int) := by omega
        have j2 : (k : Int) ≤ (cpb : Int) := by omega
        have j3 : (k : Int) ≤ (cpc : Int) := by omega
        clear hD hcr hA hB hC hfd inb hbr howr
        go_wp2_with fail
        refine wp_region_still_tail 18 (by kernel_rfl) (by kernel_rfl) ?_
        simp only [List.take_succ_cons, List.take_zero, List.drop_succ_cons, List.drop_zero]
        still_step
        still_call (crc_q _ _ _ QD.out _ RD.out)
        still_step
        still_step
        still_step
        still_call (crc_q _ _ _ QA.out _ RA.out)
        still_step
        still_step
        still_step
        still_call (crc_q _ _ _ QB.out _ RB.out)
        still_step
        still_step
        still_step
        still_step
        still_call (crc_q _ _ _ QC.out _ RC.out)
        still_step
        still_step
        still_step
        refine wpStill_nil ?_
        go_wp2_with (first | (go_at_call 5; refine (awake4_any _).mono ?_; rintro e w' ⟨rfl, hbel⟩))
        go_ret
        exact ⟨rfl, HBR.out.trans (hbel.mono HBR.out.size)⟩
  · go_enter Try.func3, Try.ntmps3
    go_wp2_with (at_make; refine wpList_make_full _ rfl _ _ 22 rfl wo.heap.size 5 i0 (.int .u8 0) 1 Try.underlying22 hi hz0 hz1 _ _ _ _ n rfl rfl rfl rfl ?b1 ?b2 ?b3 ?_)
    case b1 => rw [hz2]; omega
    case b2 => unfold maxLen; omega
    case b3 => omega
    intro w1 hown hgrow
    have hb1 : Below wo.heap.size wo w1 := (Below.refl _ _).grown hgrow (Nat.le_refl _) (by simp)
    rw [kv_zero] at hown
    go_wp2
    go_loopw [20] (fun c wr => ∃ (k : Nat) (D : List Int), c = .int .i64 k ∧ k ≤ n ∧ D.length = n ∧ (∀ i, i < k → D.getD i 0 = bits .xor .u8 (bits .xor .u8 (la.getD i 0) (lb.getD i 0)) (lc.getD i 0)) ∧ wr.ownsRow wo.heap.size 5 1 (.slice (some ⟨wo.heap.size, 0, none⟩) n n) n (kv .u8 D) ∧ Below wo.heap.size wo wr) (fun c _ => n - (intOf c).toNat)
    case atStart => exact ⟨0, List.replicate n 0, rfl, by omega, by simp, by intro i hi; omega, hown, hb1⟩
    case round =>
      obtain ⟨k, D, rfl, hk, hl, hlk, howr, hbr⟩ := hrel
      have HLK := Lib.hid hlk
      clear hlk hown hgrow hb1
      obtain ⟨w2, rfl⟩ : ∃ w2 : World, w2 = wr := ⟨_, rfl⟩
      by_cases hlt : k < n
      · have hc := (howr.cellAt k (by omega)).trans (kv_getD .u8 D k (by omega))
        have hf := howr.frozenAt k
        obtain ⟨b1, o1, rfl, ga⟩ := GA.out.resolve_left (fun e => by have := congrArg List.length e; rw [kv_len, NA.out] at this; simp at this; omega)
        obtain ⟨b2, o2, rfl, gb⟩ := GB.out.resolve_left (fun e => by have := congrArg List.length e; rw [kv_len, NB.out] at this; simp at this; omega)
        obtain ⟨b3, o3, rfl, gc⟩ := GC.out.resolve_left (fun e => by have := congrArg List.length e; rw [kv_len, NC.out] at this; simp at this; omega)
        have ga0 := ga k _ (kv_getD .u8 la k (by rw [NA.out]; omega))
        have gb0 := gb k _ (kv_getD .u8 lb k (by rw [NB.out]; omega))
        have gc0 := gc k _ (kv_getD .u8 lc k (by rw [NC.out]; omega))
        have ga1 := (hbr.cell (p := ⟨b1, o1 + k, none⟩) (World.block_lt_of_cell? wo _ ga0)).trans ga0
        have gb1 := (hbr.cell (p := ⟨b2, o2 + k, none⟩) (World.block_lt_of_cell? wo _ gb0)).trans gb0
        have gc1 := (hbr.cell (p := ⟨b3, o3 + k, none⟩) (World.block_lt_of_cell? wo _ gc0)).trans gc0
        obtain ⟨x1, hx1⟩ : ∃ x, la.getD k 0 = x := ⟨_, rfl⟩
        obtain ⟨x2, hx2⟩ : ∃ x, lb.getD k 0 = x := ⟨_, rfl⟩
        obtain ⟨x3, hx3⟩ : ∃ x, lc.getD k 0 = x := ⟨_, rfl⟩
        rw [hx1] at ga1
        rw [hx2] at gb1
        rw [hx3] at gc1
        obtain ⟨y, hy⟩ : ∃ y, bits .xor .u8 x1 x2 = y := ⟨_, rfl⟩
        obtain ⟨z, hz⟩ : ∃ z, bits .xor .u8 y x3 = z := ⟨_, rfl⟩
        have HZ : Hid (bits .xor .u8 (bits .xor .u8 (la.getD k 0) (lb.getD k 0)) (lc.getD k 0) = z) := Lib.hid (by rw [hx1, hx2, hx3, hy, hz])
        clear hx1 hx2 hx3
        have hst := howr.stored k (.int .u8 z)
        rw [kv_set] at hst
        obtain ⟨hs1, hs2⟩ := hst
        have HS1 := Lib.hid hs1
        have HB2 := Lib.hid (hbr.grown hs2 (by have := hbr.size; omega) (by simp))
        have HBR := Lib.hid hbr
        clear ga gb gc ga0 gb0 gc0 hs1 hs2 howr hbr
        have i0k : (0 : Int) ≤ (k : Int) := by omega
        have i1k : (k : Int) < (n : Int) := by omega
        have i_na : (k : Int) < (na : Int) := by omega
        have i_nb : (k : Int) < (nb : Int) := by omega
        go_wp2_with fail
        go_still_tail 17, (by kernel_rfl)
        go_wp2
        go_roundw
        case rel => exact ⟨k + 1, D.set k z, by go_num, by omega, by simp [hl], by
          intro i hi
          rw [getD_setI _ _ _ _ (by omega)]
          split
          · next e => rw [← e]; exact HZ.out.symm
          · exact HLK.out i (by omega), HS1.out, HB2.out.drew⟩
        case measure => simp [intOf]; omega
      · have hkn : k = n := by omega
        subst hkn
        have hD : D = xor3 (la.take k) (lb.take k) (lc.take k) := by
          have l1 : (la.take k).length = k := by rw [List.length_take, NA.out]; omega
          have l2 : (lb.take k).length = k := by rw [List.length_take, NB.out]; omega
          have l3 : (lc.take k).length = k := by rw [List.length_take, NC.out]; omega
          refine List.ext_getElem (by rw [hl, xor3_len _ _ _ k l1 l2 l3]) ?_
          intro i h1 h2
          have hik : i < k := by omega
          have e1 := HLK.out i hik
          have e2 := xor3_getD (la.take k) (lb.take k) (lc.take k) k i l1 l2 l3 hik
          have t1 : (la.take k).getD i 0 = la.getD i 0 := by simp [List.getD, hik]
          have t2 : (lb.take k).getD i 0 = lb.getD i 0 := by simp [List.getD, hik]
          have t3 : (lc.take k).getD i 0 = lc.getD i 0 := by simp [List.getD, hik]
          rw [t1, t2, t3, ← e1] at e2
          rw [List.getD_eq_getElem?_getD, List.getElem?_eq_getElem h2, List.getD_eq_getElem?_getD, List.getElem?_eq_getElem h1] at e2
          exact e2.symm
        have inb : ∀ (l : List Int), Fits .u8 l → ∀ x ∈ l, InB x := fun l h x hx => by
          have := h x hx
          simpa [Lit.wf, IntKind.min, IntKind.max, IntKind.signed, IntKind.bits, InB] using this
        have hcr : crcL D = crcL (la.take k) ^^^ crcL (lb.take k) ^^^ crcL (lc.take k) := by
          rw [hD]
          exact lines_crc _ _ _ (by simp only [List.length_take, NA.out, NB.out]; omega) (by simp only [List.length_take, NC.out, NB.out]; omega) (inb _ (FA.out.take k)) (inb _ (FB.out.take k)) (inb _ (FC.out.take k))
        have hfd : Fits .u8 D := by
          intro x hx
          obtain ⟨i, hi, rfl⟩ := List.getElem_of_mem hx
          have e1 := HLK.out i (by omega)
          rw [List.getD_eq_getElem?_getD, List.getElem?_eq_getElem hi] at e1
          have ia : ∀ (l : List Int), Fits .u8 l → InB (l.getD i 0) := fun l h => h.u8 i
          have := (xor_inb _ _ (xor_inb _ _ (ia la FA.out) (ia lb FB.out)).1 (ia lc FC.out)).1
          simp only [Option.getD_some] at e1
          rw [← e1] at this
          simpa [Lit.wf, IntKind.min, IntKind.max, IntKind.signed, IntKind.bits, InB] using this
        have RD := Lib.hid (show Reads .u8 w2.drew (.slice (some ⟨wo.heap.size, 0, none⟩) k k) D from ⟨by have := holds_own howr; exact this, hfd, by rw [hl]; unfold maxLen; omega⟩)
        have RA := Lib.hid (show Reads .u8 w2.drew (.slice ao k cpa) (la.take k) from ⟨((Holds.sub GA.out NA.out (by omega) ca mxa FA.out).1.below hbr.drew), FA.out.take k, by rw [List.length_take]; unfold maxLen; omega⟩)
        have RB := Lib.hid (show Reads .u8 w2.drew (.slice bo k cpb) (lb.take k) from ⟨((Holds.sub GB.out NB.out (by omega) cb mxb FB.out).1.below hbr.drew), FB.out.take k, by rw [List.length_take]; unfold maxLen; omega⟩)
        have RC := Lib.hid (show Reads .u8 w2.drew (.slice co k cpc) (lc.take k) from ⟨((Holds.sub GC.out NC.out (by omega) cc mxc FC.out).1.below hbr.drew), FC.out.take k, by rw [List.length_take]; unfold maxLen; omega⟩)
        obtain ⟨A, hA⟩ : ∃ A, crcL (la.take k) = A := ⟨_, rfl⟩
        obtain ⟨B, hB⟩ : ∃ B, crcL (lb.take k) = B := ⟨_, rfl⟩
        obtain ⟨C, hC⟩ : ∃ C, crcL (lc.take k) = C := ⟨_, rfl⟩
        rw [hA, hB, hC] at hcr
        have QD := Lib.hid hcr
        have QA := Lib.hid hA
        have QB := Lib.hid hB
        have QC := Lib.hid hC
        have HBR := Lib.hid hbr.drew
        have x1 := xor32 A B
        have x2 := xor32 (A ^^^ B) C
        have j0 : (0 : Int) ≤ (k : Int) := by omega
        have j1 : (k : Int) ≤ (cpa : Int) := by omega
        have j2 : (k : Int) ≤ (cpb : Int) := by omega
        have j3 : (k : Int) ≤ (cpc : Int) := by omega
        clear hD hcr hA hB hC hfd inb hbr howr
        go_wp2_with fail
        refine wp_region_still_tail 18 (by kernel_rfl) (by kernel_rfl) ?_
        simp only [List.take_succ_cons, List.take_zero, List.drop_succ_cons, List.drop_zero]
        still_step
        still_call (crc_q _ _ _ QD.out _ RD.out)
        still_step
        still_step
        still_step
        still_call (crc_q _ _ _ QA.out _ RA.out)
        still_step
        still_step
        still_step
        still_call (crc_q _ _ _ QB.out _ RB.out)
        still_step
        still_step
        still_step
        still_step
        still_call (crc_q _ _ _ QC.out _ RC.out)
        still_step
        still_step
        still_step
        refine wpStill_nil ?_
        go_wp2_with (first | (go_at_call 5; refine (awake4_any _).mono ?_; rintro e w' ⟨rfl, hbel⟩))
        go_ret
        exact ⟨rfl, HBR.out.trans (hbel.mono HBR.out.size)⟩
end Go.Proofs.Ytofoilmepddmaac
