/- Texts of this seat laid together: DrawForm, Same, Big, Forms, Arg, FormJ, FormI1, NodeI2, FormI4, CurveI, CmpI, ItemI, NodeI1. -/
import Derived.Test.YtfgmjegemlkkkaaMc
import Derived.Deep.DeepCutAuto
import Derived.Lib.SmallJoins
import Derived.Deep.Slices
import Derived.Deep.Fields
import Derived.ChangeSame
import Derived.OpenShut
import Derived.ProofKit

/- The model's draws of nodes' bytes. -/
namespace Go.Proofs.Ytfgmjegemlkkkaa
open Go.RowKit

theorem putE_bytes (x : It) : ∀ z ∈ putE x, 0 ≤ z ∧ z ≤ 255 := by
  intro z hz
  unfold putE at hz
  split at hz
  · rename_i h
    have hb := (okB_iff _ _ _ _).1 h.2
    simp only [List.mem_cons, List.not_mem_nil, or_false] at hz
    rcases hz with rfl | rfl | rfl | rfl | rfl | rfl <;> omega
  · cases hz
theorem pad_bytes {zs : List Int} (x : Int) (h : ∀ z ∈ zs, 0 ≤ z ∧ z ≤ 255) : ∀ z ∈ pad zs x, 0 ≤ z ∧ z ≤ 255 := by
  intro z hz
  unfold pad at hz
  split at hz
  · rcases List.mem_append.1 hz with h1 | h1
    · exact h z h1
    · obtain ⟨_, rfl⟩ := List.mem_replicate.1 h1
      omega
  · exact h z hz
theorem putN_bytes (b : Bool) (xs : List It) : ∀ z ∈ putN b xs, 0 ≤ z ∧ z ≤ 255 := by
  intro z hz
  unfold putN at hz
  split at hz
  · rename_i h
    refine pad_bytes 25 (fun z hz => ?_) z hz
    unfold bodyN at hz
    rcases List.mem_cons.1 hz with rfl | h1
    · have := nodeOkV_len h
      unfold headN
      split <;> omega
    · obtain ⟨x, _, h2⟩ := List.mem_flatMap.1 h1
      exact putE_bytes x z h2
  · cases hz
theorem putN_le25 (b : Bool) (xs : List It) : (putN b xs).length ≤ 90 := by
  unfold putN
  split
  · rename_i h
    have h1 := pad_le (bodyN b xs) 25
    have h2 := partN_le b xs xs.length
    rw [partN_all (Nat.le_refl _)] at h2
    have h3 := nodeOkV_len h
    omega
  · simp
theorem rdI_take {k : IntKind} {w : World} {a : Option Addr} {n cap m : Nat} {zs : List Int} (h : RdI k w a n cap zs) (hm : m ≤ n) : RdI k w a m cap (zs.take m) := by
  refine ⟨⟨by rw [List.length_take, h.1.1]; omega, by have := h.1.2.1; omega, h.1.2.2.1, fun e => by have := h.1.2.2.2 e; omega⟩, fun h0 => ?_⟩
  obtain ⟨b, off, e, hc⟩ := h.2 (by omega)
  refine ⟨b, off, e, fun i hi => ?_⟩
  rw [hc i (by omega)]
  simp [List.getD, hi]
/-- Drawn bytes, to be read. -/
def DrawnR (m : Nat) (B : Nat) (w : World) (e : Ending) (w' : World) : Prop :=
  ∃ a n c ys, e = .returned (.slice a n c) ∧ n ≤ m ∧ (∀ z ∈ ys, 0 ≤ z ∧ z ≤ 255) ∧ RdI .u8 w' a n c ys ∧ Below B w w'

set_option maxRecDepth 100000 in
set_option maxHeartbeats 800000 in
theorem drawPutNode_any (A : Option Addr) (cap : Nat) (zs : List Int) (w : World) (h : RdI .u8 w A zs.length cap zs) (hz : ∀ z ∈ zs, 0 ≤ z ∧ z ≤ 255) (hn : zs.length ≤ 1048576) :
    Calls Try.prog 9 #[.slice A zs.length cap] w (DrawnNd 8 w) := by
  have K := Lib.hid (Loc.new w #[.bool false, .slice none 0 0] 26)
  go_enter Try.func9, Try.ntmps9
  go_wp2_with fail
  refine (l1New_any A cap zs _ (h.below (new_below w _)) hz hn).mono ?_
  rintro e w1 ⟨g, rfl, cu, hb, hg⟩
  replace K := Lib.hid (K.out.below hb)
  have hb2 := (new_below w (.cells #[.bool false, .slice none 0 0] 26)).trans (hb.mono (by simp))
  have s0 := hb2.size
  simp at hg
  clear h hz hb
  go_wp2_with fail
  refine (l5Any_any g zs _ cu).mono ?_
  rintro e w2 ⟨b, v, ys, rfl, hl, ho, cu2, G⟩
  obtain ⟨a', c', rfl, -⟩ := OwnS.rd ho
  have s1 := (Lib.hid K.out.1).out
  have K2 : Hid (Loc w2 w.heap.size #[.bool false, .slice none 0 0]) := Lib.hid (K.out.grown G (fun k hk => by cases hk; omega))
  have B := Lib.hid (below_blk hb2 G (by omega) s0)
  have HO := Lib.hid (OwnS.mono (base := w.heap.size + 1) ho s1)
  clear hb2 G ho cu2 cu K
  obtain ⟨-, k0, f0⟩ := K2.out
  go_wp2
  exact bodyPost_ret (v := .agg #[.bool b, .slice a' ys.length c']) (by simp [results, Try.results9, go_sem, k0]) rfl ⟨b, .slice a' ys.length c', ys, rfl, hl, OwnS.mono (L := itLay) (ownS_set2 (ownS_set2 HO.out (by omega) _ _) (by omega) _ _) (by omega), (B.out.setCell (p := ⟨w.heap.size, 0, none⟩) (Nat.le_refl _) _).setCell (p := ⟨w.heap.size, 1, none⟩) (Nat.le_refl _) _⟩


set_option maxRecDepth 100000 in
set_option maxHeartbeats 1600000 in
theorem l6Bent_any (g : Nat) (zs : List Int) (B base : Nat) (a : Option Addr) (n c : Nat) (ys : List Int) (w : World) (h : Cur g zs w) (ho : Own .u8 5 w base (.slice a n c) ys) (hl : ys.length = n) (hn : n ≤ 1000) (hy : ∀ z ∈ ys, 0 ≤ z ∧ z ≤ 255) (hB : B ≤ g) (hg : g < base) (hb : base ≤ w.heap.size) :
    Calls Try.prog 40 #[.pointer (some ⟨g, 0, none⟩), .slice a n c] w (DrawnR (n + 1) B w) := by
  obtain ⟨i0, hi, hz0, hz1, hz2⟩ := info_parts Try.infoU8
  replace hi := Lib.hid hi
  replace hz0 := Lib.hid hz0
  replace hz1 := Lib.hid hz1
  replace hz2 := Lib.hid hz2
  have HY := Lib.hid hy
  have HL := Lib.hid hl
  have HO := Lib.hid ho
  clear hy hl ho
  by_cases h0 : n = 0
  · subst h0
    have hr : Hid (RdI .u8 w a 0 c ys) := by
      have := rdI_owns (k := .u8) (e := 5) (base := base) (w := w) (a := a) (n := 0) (cap := c) (zs := ys) (by have := HO.out; unfold Own at this; rw [HL.out] at this; exact this) HL.out
      exact Lib.hid this
    go_enter Try.func40, Try.ntmps40
    go_wp2
    go_ret
    exact ⟨_, _, _, ys, rfl, by omega, HY.out, hr.out, Below.refl _ _⟩
  · have hne : ((n : Int) == 0) = false := by rw [beq_eq_false_iff_ne]; omega
    have hpos : 0 < n := by omega
    go_enter Try.func40, Try.ntmps40
    go_wp2_with fail
    refine (l1Below_any g zs 6 _ h (by omega)).mono ?_
    rintro e w1 ⟨x, rfl, x0, x1, cu, g1⟩
    simp at x1
    have B1 := Lib.hid (below_blk (Below.refl B w) g1 hB (by omega))
    have s1 := g1.size
    have HO1 := Lib.hid (own_grown HO.out g1 hg)
    clear g1
    rcases (by omega : x = 0 ∨ x = 1 ∨ x = 2 ∨ 3 ≤ x) with rfl | rfl | rfl | hx
    · go_wp2_with fail
      refine (l1Below_any g zs n _ cu (by omega)).mono ?_
      rintro e w2 ⟨p, rfl, p0, p1, cu, g2⟩
      rw [if_pos (by omega)] at p1
      have B2 := Lib.hid (below_blk B1.out g2 hB (by omega))
      have s2 := g2.size
      have HO2 := Lib.hid (own_grown HO1.out g2 hg)
      clear g2
      go_wp2_with fail
      refine (l1Below_any g zs 256 _ cu (by omega)).mono ?_
      rintro e w3 ⟨q, rfl, q0, q1, cu, g3⟩
      simp at q1
      have B3 := Lib.hid (below_blk B2.out g3 hB (by omega))
      have s3 := g3.size
      have HO3 := Lib.hid (own_grown HO2.out g3 hg)
      clear g3
      obtain ⟨m, rfl⟩ := Int.eq_ofNat_of_zero_le p0
      have hO3 : w3.ownsRow base 5 1 (.slice a n c) n (ys.map (Value.int .u8)) := by have := HO3.out; unfold Own at this; rw [HL.out] at this; exact this
      obtain ⟨gb, rfl⟩ := own_head hO3 hpos
      have hmn : m < n := by omega
      have hmz : (m : Int) < n := by omega
      have hgb := (World.ownsRow.lt hO3 gb rfl).1
      have hd := hO3.cellAt m (by omega)
      rw [List.getElem?_map, show ys[m]? = some (ys.getD m 0) by simp [List.getD, HL.out, hmn]] at hd
      have hfz := hO3.frozenAt m
      have hqw : IntKind.u8.wrap q = q := u8_wrap q0 (by omega)
      have HS : Hid (RdI .u8 (w3.setCell ⟨gb, m, none⟩ (.int .u8 q)) (some ⟨gb, 0, none⟩) n c (ys.set m q)) := by
        have := (hO3.stored m (.int .u8 q)).1
        rw [← List.map_set] at this
        exact Lib.hid (rdI_owns this (by rw [List.length_set, HL.out]))
      have HY2 : Hid (∀ z ∈ ys.set m q, 0 ≤ z ∧ z ≤ 255) := Lib.hid (fun z hz => by
        rcases List.mem_or_eq_of_mem_set hz with h1 | rfl
        · exact HY.out z h1
        · omega)
      clear hO3
      go_wp2
      go_ret
      exact ⟨_, _, _, ys.set m q, rfl, by omega, HY2.out, HS.out, B3.out.setCell (p := ⟨gb, m, none⟩) (by show B ≤ gb; omega) _⟩
    · go_wp2_with fail
      refine (l1Below_any g zs n _ cu (by omega)).mono ?_
      rintro e w2 ⟨p, rfl, p0, p1, cu, g2⟩
      rw [if_pos (by omega)] at p1
      have B2 := Lib.hid (below_blk B1.out g2 hB (by omega))
      have HO2 := Lib.hid (own_grown HO1.out g2 hg)
      clear g2
      obtain ⟨m, rfl⟩ := Int.eq_ofNat_of_zero_le p0
      have hO2 : w2.ownsRow base 5 1 (.slice a n c) n (ys.map (Value.int .u8)) := by have := HO2.out; unfold Own at this; rw [HL.out] at this; exact this
      have hrd := rdI_owns hO2 HL.out
      have hnc := hrd.1.2.1
      have hmz : (m : Int) ≤ c := by omega
      obtain ⟨gb, rfl⟩ := own_head hO2 hpos
      have HS := Lib.hid (rdI_take hrd (show m ≤ n by omega))
      have HY2 : Hid (∀ z ∈ ys.take m, 0 ≤ z ∧ z ≤ 255) := Lib.hid (fun z hz => HY.out z (List.mem_of_mem_take hz))
      clear hO2 hrd
      go_wp2
      go_ret
      exact ⟨_, _, _, ys.take m, rfl, by omega, HY2.out, HS.out, B2.out⟩
    · have hO1 : w1.ownsRow base 5 1 (.slice a n c) n (ys.map (Value.int .u8)) := by have := HO1.out; unfold Own at this; rw [HL.out] at this; exact this
      have HH := Lib.hid hO1
      clear hO1
      go_wp2_with (at_builtin; refine append_src rfl (.tmp 32) (.tmp 33) 22 rfl base 5 i0 (.int .u8 0) 1 1 Try.underlying22 hi.out hz0.out hz1.out hz2.out rfl (by decide) (.slice a n c) n (ys.map (Value.int .u8)) rfl (World.ownsRow.alloc HH.out _) (some ⟨w1.heap.size, 0, none⟩) 1 1 [.int .u8 0] rfl rfl (fun h => by cases h) ?_ (ints_oneCell .u8 [0]) ?_ ?_ ?_ ?_)
      case refine_1 =>
        intro p hp
        cases hp
        exact World.news_of_block (cs := #[.int .u8 0]) (t := 5) (fr := (0, 0)) (heap_alloc_new w1 _)
      case refine_2 => unfold maxLen; omega
      case refine_3 => omega
      case refine_4 => simp; omega
      intro v2 w2 o2 g2
      obtain ⟨a2, c2, rfl⟩ := owns_shape o2
      have HS : Hid (RdI .u8 w2 a2 (n + 1) c2 (ys ++ [0])) := by
        have : w2.ownsRow base 5 1 (.slice a2 (n + 1) c2) (n + 1) ((ys ++ [0]).map (Value.int .u8)) := by rw [List.map_append]; exact o2
        exact Lib.hid (rdI_owns this (by rw [List.length_append, HL.out]; rfl))
      have hrow : ∀ j, (Value.slice a n c).ownBlock = some j → base ≤ j := fun j hj => (HH.out.lt j hj).1
      have B2 := Lib.hid ((B1.out.alloc (by omega) (.cells #[.int .u8 0] 5)).grown g2 (by simp; omega) (fun j hj => by have := hrow j hj; omega))
      have HY2 : Hid (∀ z ∈ ys ++ [0], 0 ≤ z ∧ z ≤ 255) := Lib.hid (fun z hz => by
        rcases List.mem_append.1 hz with h1 | h1
        · exact HY.out z h1
        · rw [List.mem_singleton.1 h1]; omega)
      clear o2 g2
      go_wp2
      go_ret
      exact ⟨_, _, _, ys ++ [0], rfl, Nat.le_refl _, HY2.out, HS.out, B2.out⟩
    · have e0 : (x == 0) = false := by rw [beq_eq_false_iff_ne]; omega
      have e1 : (x == 1) = false := by rw [beq_eq_false_iff_ne]; omega
      have e2 : (x == 2) = false := by rw [beq_eq_false_iff_ne]; omega
      have hr : Hid (RdI .u8 w1 a n c ys) := by
        have := rdI_owns (k := .u8) (e := 5) (base := base) (w := w1) (a := a) (n := n) (cap := c) (zs := ys) (by have := HO1.out; unfold Own at this; rw [HL.out] at this; exact this) HL.out
        exact Lib.hid this
      go_wp2
      go_ret
      exact ⟨_, _, _, ys, rfl, by omega, HY.out, hr.out, B1.out⟩

set_option maxRecDepth 100000 in
set_option maxHeartbeats 800000 in
theorem drawGetNode_any (A : Option Addr) (cap : Nat) (zs : List Int) (w : World) (h : RdI .u8 w A zs.length cap zs) (hz : ∀ z ∈ zs, 0 ≤ z ∧ z ≤ 255) (hn : zs.length ≤ 1048576) :
    Calls Try.prog 12 #[.slice A zs.length cap] w (DrawnR 91 w.heap.size w) := by
  go_enter Try.func12, Try.ntmps12
  go_wp2_with fail
  refine (l1New_any A cap zs _ h hz hn).mono ?_
  rintro e w1 ⟨g, rfl, cu, b1, hg⟩
  have hlt := cur_lt cu
  clear h hz
  go_wp2_with fail
  refine (l5Draw_any g zs _ cu).mono ?_
  rintro e w2 ⟨b, v, xs, rfl, hl, ho, cu, g2⟩
  obtain ⟨a2, c2, rfl, r2⟩ := OwnS.rd ho
  have b2 := below_blk b1 g2 hg b1.size
  have s2 := g2.size
  clear g2 ho
  go_wp2_with fail
  refine (sPutNode_any b a2 xs.length c2 xs _ r2).mono ?_
  rintro e w3 ⟨v3, rfl, o3, b3⟩
  obtain ⟨a3, c3, rfl, -⟩ := Own.rd o3
  have hle := putN_le25 b xs
  have HB := Lib.hid (putN_bytes b xs)
  have cu3 := cur_kept cu (Below.toGrown b3 none) (fun k hk => by cases hk)
  have s3 := b3.size
  have b4 := b2.trans (b3.mono b2.size)
  obtain ⟨pl, hpl⟩ : ∃ pl, (putN b xs).length = pl := ⟨_, rfl⟩
  rw [hpl] at hle o3
  rw [hpl]
  clear b3 cu b2 b1 r2
  go_wp2_with fail
  refine (l6Bent_any g zs w.heap.size w2.heap.size a3 pl c3 (putN b xs) _ cu3 o3 hpl (by omega) HB.out hg (by omega) s3).mono ?_
  rintro e w5 ⟨a5, n5, c5, ys, rfl, hl5, hy5, r5, b5⟩
  have HY5 := Lib.hid hy5
  have R5 := Lib.hid r5
  have B5 := Lib.hid (b4.trans b5)
  clear b5 hy5 r5 o3 cu3
  go_wp2
  go_ret
  exact ⟨_, _, _, ys, rfl, by omega, HY5.out, R5.out, B5.out⟩

/-- A drawn entry. -/
def DrawnE (w : World) (e : Ending) (w' : World) : Prop := ∃ x : It, e = .returned (.agg #[.int .i64 x.id, .int .i64 x.x0, .int .i64 x.y0, .int .i64 x.x1, .int .i64 x.y1]) ∧ Below w.heap.size w w'
set_option maxRecDepth 100000 in
set_option maxHeartbeats 1600000 in
theorem drawPutEntry_any (A : Option Addr) (cap : Nat) (zs : List Int) (w : World) (h : RdI .u8 w A zs.length cap zs) (hz : ∀ z ∈ zs, 0 ≤ z ∧ z ≤ 255) (hn : zs.length ≤ 1048576) :
    Calls Try.prog 14 #[.slice A zs.length cap] w (DrawnE w) := by
  have K := Lib.hid (Loc.new w #[.int .i64 0, .int .i64 0, .int .i64 0, .int .i64 0, .int .i64 0] 35)
  have B0 := Lib.hid (new_below w (.cells #[.int .i64 0, .int .i64 0, .int .i64 0, .int .i64 0, .int .i64 0] 35))
  go_enter Try.func14, Try.ntmps14
  go_wp2_with fail
  refine (l1New_any A cap zs _ (h.below B0.out) hz hn).mono ?_
  rintro e w1 ⟨g, rfl, cu, b1, hg⟩
  simp at hg
  replace K := Lib.hid (K.out.below b1)
  have b2 := B0.out.trans (b1.mono B0.out.size)
  have hlt := cur_lt cu
  clear h hz b1
  go_wp2_with fail
  refine (l1Below_any g zs 30 _ cu (by omega)).mono ?_
  rintro e w2 ⟨x, rfl, x0, x1, cu, g2⟩
  simp at x1
  replace K := Lib.hid (K.out.grown g2 (fun k hk => by cases hk; omega))
  replace b2 := below_blk b2 g2 (by omega) b2.size
  have s2 := g2.size
  clear g2
  go_wp2_with fail
  refine (l2Any_any g zs _ cu).mono ?_
  rintro e w3 ⟨p0, p1, p2, p3, rfl, -, cu, g3⟩
  replace K := Lib.hid (K.out.grown g3 (fun k hk => by cases hk; omega))
  replace b2 := below_blk b2 g3 (by omega) b2.size
  have s3 := g3.size
  clear g3
  have J := Lib.hid (Loc.new w3 #[.int .i64 (1 + x), .int .i64 p0, .int .i64 p1, .int .i64 p2, .int .i64 p3] 35)
  replace K := Lib.hid (K.out.alloc (.cells #[.int .i64 (1 + x), .int .i64 p0, .int .i64 p1, .int .i64 p2, .int .i64 p3] 35))
  replace b2 := Lib.hid (b2.alloc b2.size (.cells #[.int .i64 (1 + x), .int .i64 p0, .int .i64 p1, .int .i64 p2, .int .i64 p3] 35))
  have cu4 := cur_alloc cu (.cells #[.int .i64 (1 + x), .int .i64 p0, .int .i64 p1, .int .i64 p2, .int .i64 p3] 35)
  have hq : w.heap.size ≠ w3.heap.size := by omega
  have hqg : g < w3.heap.size := by omega
  have hqg2 : w3.heap.size ≠ g := by omega
  clear cu
  go_wp2_with fail
  refine (l1Once_any g zs 6 _ cu4 (by omega)).mono ?_
  rintro e w4 ⟨bb, rfl, cu, g4⟩
  replace K := Lib.hid (K.out.grown g4 (fun k hk => by cases hk; omega))
  replace J := Lib.hid (J.out.grown g4 (fun k hk => by cases hk; omega))
  replace b2 := Lib.hid (below_blk b2.out g4 (by omega) b2.out.size)
  clear g4 cu4
  cases bb with
  | true =>
    go_wp2_with fail
    refine (l1Raw_any g zs _ cu).mono ?_
    rintro e w5 ⟨y, rfl, -, cu, g5⟩
    replace K := Lib.hid (K.out.grown g5 (fun k hk => by cases hk; omega))
    replace J := Lib.hid (J.out.grown g5 (fun k hk => by cases hk; omega))
    replace b2 := Lib.hid (below_blk b2.out g5 (by omega) b2.out.size)
    clear g5
    obtain ⟨kl, k0, f0⟩ := K.out
    obtain ⟨jl, j0, e0⟩ := J.out
    have hW : w.heap.size ≤ w3.heap.size := by omega
    go_wp2
    refine bodyPost_ret (v := .agg #[.int .i64 y, .int .i64 p0, .int .i64 p1, .int .i64 p2, .int .i64 p3]) (by simp [results, Try.results14, go_sem, k0]) rfl ⟨⟨y, p0, p1, p2, p3⟩, rfl, ?_⟩
    exact (((((b2.out.setCell (p := ⟨w3.heap.size, 0, none⟩) hW _).setCell (p := ⟨w.heap.size, 0, none⟩) (Nat.le_refl _) _).setCell (p := ⟨w.heap.size, 1, none⟩) (Nat.le_refl _) _).setCell (p := ⟨w.heap.size, 2, none⟩) (Nat.le_refl _) _).setCell (p := ⟨w.heap.size, 3, none⟩) (Nat.le_refl _) _).setCell (p := ⟨w.heap.size, 4, none⟩) (Nat.le_refl _) _
  | false =>
    obtain ⟨kl, k0, f0⟩ := K.out
    obtain ⟨jl, j0, e0⟩ := J.out
    go_wp2
    refine bodyPost_ret (v := .agg #[.int .i64 (1 + x), .int .i64 p0, .int .i64 p1, .int .i64 p2, .int .i64 p3]) (by simp [results, Try.results14, go_sem, k0]) rfl ⟨⟨1 + x, p0, p1, p2, p3⟩, rfl, ?_⟩
    exact ((((b2.out.setCell (p := ⟨w.heap.size, 0, none⟩) (Nat.le_refl _) _).setCell (p := ⟨w.heap.size, 1, none⟩) (Nat.le_refl _) _).setCell (p := ⟨w.heap.size, 2, none⟩) (Nat.le_refl _) _).setCell (p := ⟨w.heap.size, 3, none⟩) (Nat.le_refl _) _).setCell (p := ⟨w.heap.size, 4, none⟩) (Nat.le_refl _) _

/-- Drawn bytes and a place. -/
def DrawnRI (w : World) (e : Ending) (w' : World) : Prop :=
  ∃ a n c ys y, e = .returned (.tuple #[.slice a n c, .int .i64 y]) ∧ n ≤ 100 ∧ (-1 ≤ y ∧ y ≤ 3) ∧ (∀ z ∈ ys, 0 ≤ z ∧ z ≤ 255) ∧ RdI .u8 w' a n c ys ∧ Below w.heap.size w w'
set_option maxRecDepth 100000 in
set_option maxHeartbeats 1600000 in
theorem drawGetEntry_any (A : Option Addr) (cap : Nat) (zs : List Int) (w : World) (h : RdI .u8 w A zs.length cap zs) (hz : ∀ z ∈ zs, 0 ≤ z ∧ z ≤ 255) (hn : zs.length ≤ 1048576) :
    Calls Try.prog 15 #[.slice A zs.length cap] w (DrawnRI w) := by
  obtain ⟨i0, hi, hz0, hz1, hz2⟩ := info_parts Try.infoU8
  replace hi := Lib.hid hi
  replace hz0 := Lib.hid hz0
  replace hz1 := Lib.hid hz1
  replace hz2 := Lib.hid hz2
  go_enter Try.func15, Try.ntmps15
  go_wp2_with fail
  refine (l1New_any A cap zs _ h hz hn).mono ?_
  rintro e w1 ⟨g, rfl, cu, b2, hg⟩
  have hlt := cur_lt cu
  clear h hz
  go_wp2_with fail
  refine (l1Below_any g zs 30 _ cu (by omega)).mono ?_
  rintro e w2 ⟨x, rfl, x0, x1, cu, g2⟩
  simp at x1
  replace b2 := below_blk b2 g2 (by omega) b2.size
  have s2 := g2.size
  clear g2
  go_wp2_with fail
  refine (l2Draw_any g zs _ cu).mono ?_
  rintro e w3 ⟨p0, p1, p2, p3, rfl, -, cu, g3⟩
  replace b2 := below_blk b2 g3 (by omega) b2.size
  have s3 := g3.size
  clear g3
  obtain ⟨y, hy⟩ : ∃ y : It, y = ⟨1 + x, p0, p1, p2, p3⟩ := ⟨_, rfl⟩
  have CE := Lib.hid (show Calls Try.prog 22 #[.agg #[.int .i64 (1 + x), .int .i64 p0, .int .i64 p1, .int .i64 p2, .int .i64 p3]] w3 (Fresh8 w3 (putE y)) by rw [hy]; exact sPutEntry_any ⟨1 + x, p0, p1, p2, p3⟩ w3)
  clear hy
  go_wp2_with fail
  refine CE.out.mono ?_
  rintro e w4 ⟨v4, rfl, o4, b4⟩
  obtain ⟨a4, c4, rfl, r4⟩ := Own.rd o4
  have cu4 := cur_kept cu (Below.toGrown b4 none) (fun k hk => by cases hk)
  replace b2 := b2.trans (b4.mono b2.size)
  have s4 := b4.size
  have HE := Lib.hid (putE_bytes y)
  have hle := putE_le y
  replace o4 := Lib.hid o4
  clear b4 cu r4 CE
  go_wp2_with fail
  refine (l1Below_any g zs 3 _ cu4 (by omega)).mono ?_
  rintro e w5 ⟨p, rfl, q0, q1, cu, g5⟩
  simp at q1
  replace o4 := Lib.hid (own_grown o4.out g5 (by omega))
  replace b2 := below_blk b2 g5 (by omega) b2.size
  have s5 := g5.size
  clear g5 cu4
  go_wp2_with fail
  refine (l1Bytes_any g zs p _ cu q0 (by omega)).mono ?_
  rintro e w6 ⟨v6, ys, rfl, hl, hyb, o6, cu, g6⟩
  obtain ⟨a6, c6, rfl, -⟩ := Own.rd o6
  replace o4 := Lib.hid (own_grown o4.out g6 (by omega))
  replace b2 := Lib.hid (below_blk b2 g6 (by omega) b2.size)
  have s6 := g6.size
  have HYB := Lib.hid hyb
  have hl2 : ys.length ≤ 2 := by omega
  have R4 : Hid (RdI .u8 w6 a4 (putE y).length c4 (putE y)) := by
    have := o4.out
    obtain ⟨a', c', hv, hr⟩ := this.rd
    simp only [Value.slice.injEq] at hv
    obtain ⟨rfl, -, rfl⟩ := hv
    exact Lib.hid hr
  have O6 := Lib.hid o6
  have CU := Lib.hid cu
  clear g6 o6 hyb hl cu
  go_wp2_with (at_builtin; refine append_src rfl (.tmp 18) (.tmp 19) 22 rfl w5.heap.size 5 i0 (.int .u8 0) 1 1 Try.underlying22 hi.out hz0.out hz1.out hz2.out rfl (by decide) (.slice a6 ys.length c6) ys.length (ys.map (Value.int .u8)) rfl O6.out a4 (putE y).length c4 ((putE y).map (Value.int .u8)) rfl ?_ R4.out.1.2.2.2 R4.out.news (ints_oneCell _ _) ?_ ?_ ?_ ?_)
  case refine_1 => rw [List.length_map, Nat.mul_one]
  case refine_2 => unfold maxLen; omega
  case refine_3 => omega
  case refine_4 => omega
  intro v7 w7 o7 g7
  obtain ⟨a7, c7, rfl⟩ := owns_shape o7
  have hrow : ∀ j, (Value.slice a6 ys.length c6).ownBlock = some j → w5.heap.size ≤ j := fun j hj => (World.ownsRow.lt O6.out j hj).1
  have b7 := Lib.hid (b2.out.grown g7 b2.out.size (fun j hj => by have := hrow j hj; omega))
  have cu7 := cur_kept CU.out g7 (fun j hj => by have := hrow j hj; omega)
  have O7 : Hid (Own .u8 5 w7 w5.heap.size (.slice a7 (ys.length + (putE y).length) c7) (ys ++ putE y)) := by
    unfold Own
    rw [List.map_append, List.length_append]
    exact Lib.hid o7
  have s7 := g7.size
  clear o7 g7 hrow
  go_wp2_with fail
  refine (l1Below_any g zs 5 _ cu7 (by omega)).mono ?_
  rintro e w8 ⟨r, rfl, r0, r1, cu8, g8⟩
  simp at r1
  have b8 := Lib.hid (below_blk b7.out g8 (by omega) b7.out.size)
  have R8 : Hid (RdI .u8 w8 a7 (ys.length + (putE y).length) c7 (ys ++ putE y)) := by
    obtain ⟨a', c', hv, hr⟩ := (own_grown O7.out g8 (by omega)).rd
    simp only [Value.slice.injEq] at hv
    obtain ⟨rfl, -, rfl⟩ := hv
    rw [List.length_append] at hr
    exact Lib.hid hr
  have HB : Hid (∀ z ∈ ys ++ putE y, 0 ≤ z ∧ z ≤ 255) := Lib.hid (fun z hz => by
    rcases List.mem_append.1 hz with h1 | h1
    · exact HYB.out z h1
    · exact HE.out z h1)
  clear g8
  go_wp2
  go_ret2
  exact ⟨_, _, _, ys ++ putE y, r - 1, rfl, by omega, ⟨by omega, by omega⟩, HB.out, R8.out, b8.out⟩
end Go.Proofs.Ytfgmjegemlkkkaa

/- laws.same of two slices of bytes that read alike. -/
namespace Go.Proofs.Ytfgmjegemlkkkaa
open Go.RowKit

set_option maxRecDepth 100000 in
set_option maxHeartbeats 400000 in
/-- laws.same: two slices that read alike. -/
theorem same_same (a b : Option Addr) (n c1 c2 : Nat) (zs : List Int) (w : World) (h : RdI .u8 w a n c1 zs) (h' : RdI .u8 w b n c2 zs) (hn : n ≤ 140737488351232) :
    Calls Try.prog 18 #[.slice a n c1, .slice b n c2] w fun e w' =>
      e = .returned (.bool true) ∧ Below w.heap.size w w' := by
  have HR := Lib.hid h; clear h
  have HR' := Lib.hid h'; clear h'
  go_enter Try.func18, Try.ntmps18
  go_wp2
  go_loopw [5] (fun i wr => ∃ k : Nat, k ≤ n ∧ i = .int .i64 k ∧ Below w.heap.size w wr)
    (fun i _ => n - (intOf i).toNat)
  case atStart => exact ⟨0, Nat.zero_le _, rfl, Below.refl _ _⟩
  case round =>
    obtain ⟨k, hk, rfl, hB⟩ := hrel
    by_cases hlt : k < n
    · have HR0 := HR.out.2 (by omega)
      have HR0' := HR'.out.2 (by omega)
      obtain ⟨x, off, rfl, hc⟩ := HR0
      obtain ⟨x', off', rfl, hc'⟩ := HR0'
      have hck := hc k hlt
      have hck' := hc' k hlt
      have hbw : x < w.heap.size := World.block_lt_of_cell? w ⟨x, off + k, none⟩ hck
      have hbw' : x' < w.heap.size := World.block_lt_of_cell? w ⟨x', off' + k, none⟩ hck'
      rw [← hB.cell (p := ⟨x, off + k, none⟩) hbw] at hck
      rw [← hB.cell (p := ⟨x', off' + k, none⟩) hbw'] at hck'
      clear hc hc'
      have h0 : (0 : Int) ≤ k := by omega
      have h1 : (k : Int) < n := by omega
      go_wp2
      go_quiet (fail)
      go_wp2
      go_roundw
      case rel => exact ⟨k + 1, by omega, by go_num, below_drewN hB _⟩
      case measure => simp [intOf]; omega
    · go_wp2
      go_ret
      exact ⟨rfl, hB⟩
end Go.Proofs.Ytfgmjegemlkkkaa

/- laws.big: is the draw's code longer than a mebibyte. -/
namespace Go.Proofs.Ytfgmjegemlkkkaa
open Go.RowKit

set_option maxRecDepth 100000 in
set_option maxHeartbeats 400000 in
theorem big_no (a : Option Addr) (n cap : Nat) (w : World) (h : n ≤ 1048576) : Calls Try.prog 8 #[.slice a n cap] w fun e w' => e = .returned (.bool false) ∧ w = w' := by
  go_enter Try.func8, Try.ntmps8
  go_wp2
  go_ret
  exact ⟨by simp; omega, rfl⟩
set_option maxRecDepth 100000 in
set_option maxHeartbeats 400000 in
theorem big_yes (a : Option Addr) (n cap : Nat) (w : World) (h : ¬ n ≤ 1048576) (hm : n ≤ maxLen) : Calls Try.prog 8 #[.slice a n cap] w fun e w' => e = .returned (.bool true) ∧ w = w' := by
  unfold maxLen at hm
  go_enter Try.func8, Try.ntmps8
  go_wp2
  go_ret
  exact ⟨by simp; omega, rfl⟩

end Go.Proofs.Ytfgmjegemlkkkaa

/- The law FnForms: a node is decoded from its bytes, and bytes that are a node's are its own. -/
namespace Go.Proofs.Ytfgmjegemlkkkaa
open Go.RowKit

theorem bytes_all {zs : List Int} (h : ∀ z ∈ zs, 0 ≤ z ∧ z ≤ 255) : ∀ j, 0 ≤ zs.getD j 0 ∧ zs.getD j 0 ≤ 255 := by
  intro j
  rw [List.getD_eq_getElem?_getD]
  cases hj : zs[j]? with
  | none => exact ⟨Int.le_refl _, by decide⟩
  | some x => exact h x (List.mem_of_getElem? hj)
theorem get_is {bs : List Int} {s lf : Bool} {l : List It} (hs : okN bs = s) (h2 : (s && leafN bs) = lf) (h3 : (if s then listN bs else []) = l) : okN bs = s ∧ (okN bs && leafN bs) = lf ∧ (if okN bs then listN bs else []) = l := by
  subst hs
  exact ⟨rfl, h2, h3⟩
theorem get_put {b : Bool} {xs : List It} {p : List Int} {t lf : Bool} {l : List It} (hp : putN b xs = p) (ht : nodeOkV b xs = t) (h2 : (t && b) = lf) (h3 : (if t then xs else []) = l) : okN p = t ∧ (okN p && leafN p) = lf ∧ (if okN p then listN p else []) = l := by
  subst hp
  rw [okN_putN, ht]
  refine ⟨rfl, ?_, ?_⟩
  · rw [← h2]
    cases t with
    | true => rw [leafN_putN ht]
    | false => rfl
  · rw [← h3]
    cases t with
    | true => rw [listN_putN ht]
    | false => rfl
theorem fresh_is {f : FuncId} (C : ∀ (b : Bool) (a : Option Addr) (n cap : Nat) (xs : List It) (w : World) (_ : RdS itLay w a n cap xs), n ≤ 1099511627776 → Calls Try.prog f #[.agg #[.bool b, .slice a n cap]] w (Fresh8 w (putN b xs))) {b : Bool} {xs : List It} {p : List Int} (hp : putN b xs = p) (a : Option Addr) (n cap : Nat) (w : World) (h : RdS itLay w a n cap xs) (hn : n ≤ 1099511627776) :
    Calls Try.prog f #[.agg #[.bool b, .slice a n cap]] w (Fresh8 w p) := hp ▸ C b a n cap xs w h hn
theorem freshE_is {f : FuncId} (C : ∀ (x : It) (w : World), Calls Try.prog f #[.agg #[.int .i64 x.id, .int .i64 x.x0, .int .i64 x.y0, .int .i64 x.x1, .int .i64 x.y1]] w (Fresh8 w (putE x))) {x : It} {p : List Int} (hp : putE x = p) (w : World) :
    Calls Try.prog f #[.agg #[.int .i64 x.id, .int .i64 x.x0, .int .i64 x.y0, .int .i64 x.x1, .int .i64 x.y1]] w (Fresh8 w p) := hp ▸ C x w
theorem retN_is {f : FuncId} (C : ∀ (a : Option Addr) (n c : Nat) (bs : List Int) (w : World), RdI .u8 w a n c bs → (∀ j, 0 ≤ bs.getD j 0 ∧ bs.getD j 0 ≤ 255) → n ≤ 100000000 → Calls Try.prog f #[.slice a n c] w (RetN bs w)) {bs : List Int} {s lf : Bool} {l : List It} (hz : ∀ j, 0 ≤ bs.getD j 0 ∧ bs.getD j 0 ≤ 255)
    (hs : okN bs = s ∧ (okN bs && leafN bs) = lf ∧ (if okN bs then listN bs else []) = l) (a : Option Addr) (n c : Nat) (w : World) (h : RdI .u8 w a n c bs) (hn : n ≤ 100000000) : Calls Try.prog f #[.slice a n c] w (RetN3 s lf l w) := by
  obtain ⟨rfl, rfl, rfl⟩ := hs
  exact C a n c bs w h hz hn
theorem retE_is {f : FuncId} (C : ∀ (a : Option Addr) (n c : Nat) (bs : List Int) (x : Int) (w : World), RdI .u8 w a n c bs → (∀ j, 0 ≤ bs.getD j 0 ∧ bs.getD j 0 ≤ 255) → n ≤ 100000000 → (Lit.int .i64 x).wf = true → Calls Try.prog f #[.slice a n c, .int .i64 x] w (RetE (getE bs x) (hasE bs x) w)) {bs : List Int} {x : Int} {y : It} {t : Bool} (hz : ∀ j, 0 ≤ bs.getD j 0 ∧ bs.getD j 0 ≤ 255) (hx : (Lit.int .i64 x).wf = true)
    (hy : getE bs x = y) (ht : hasE bs x = t) (a : Option Addr) (n c : Nat) (w : World) (h : RdI .u8 w a n c bs) (hn : n ≤ 100000000) : Calls Try.prog f #[.slice a n c, .int .i64 x] w (RetE y t w) := by
  subst hy ht
  exact C a n c bs x w h hz hn hx
theorem nodeOk_is {f : FuncId} (C : ∀ (b : Bool) (a : Option Addr) (n cap : Nat) (xs : List It) (w : World) (_ : RdS itLay w a n cap xs), Calls Try.prog f #[.agg #[.bool b, .slice a n cap]] w fun e w' => e = .returned (.bool (nodeOkV b xs)) ∧ Below w.heap.size w w') {b : Bool} {xs : List It} {t : Bool} (ht : nodeOkV b xs = t) (a : Option Addr) (n cap : Nat) (w : World) (h : RdS itLay w a n cap xs) :
    Calls Try.prog f #[.agg #[.bool b, .slice a n cap]] w fun e w' => e = .returned (.bool t) ∧ Below w.heap.size w w' := by
  subst ht
  exact C b a n cap xs w h
theorem sameN6 {f : FuncId} (C : CSameNode f) (c : Bool) (a a' : Option Addr) (n n' cap cap' : Nat) (xs : List It) (w : World) (h : RdS itLay w a n cap xs) (h' : RdS itLay w a' n' cap' xs) :
    Calls Try.prog f #[.agg #[.bool c, .slice a n cap], .agg #[.bool c, .slice a' n' cap']] w fun e w' => e = .returned (.bool true) ∧ Below w.heap.size w w' := by
  refine (C c c a a' n n' cap cap' xs xs w h h').mono fun e w' ⟨he, hw⟩ => ⟨?_, hw⟩
  rw [he, (sameV_iff xs xs).2 rfl]
  simp

set_option maxHeartbeats 16000000 in
set_option maxRecDepth 100000 in
theorem fnForms_walk (CN : CNodeOk 23) (CS : CSameNode 20) (CP : CPutNode 10) (CG : CGetNode 11) (CE : CPutEntry 21) (CQ : CGetEntry 16)
    (A : Option Addr) (n cap : Nat) (zs : List Int) (w : World) (h : RdI .u8 w A n cap zs) (hz : ∀ z ∈ zs, 0 ≤ z ∧ z ≤ 255) :
    Calls Try.prog 3 #[.slice A n cap] w fun e w' => e = .returned (.bool true) ∧ Below w.heap.size w w' := by
  have hln := h.1.1
  subst hln
  have HZ := Lib.hid hz
  have HA := Lib.hid h
  replace CN := Lib.hid (fun (b : Bool) (a : Option Addr) (n cap : Nat) (xs : List It) (w : World) (h : RdS itLay w a n cap xs) => CN b a n cap xs w h)
  have SY := Lib.hid (fun (c : Bool) (a a' : Option Addr) (n n' cap cap' : Nat) (xs : List It) (w : World) (h : RdS itLay w a n cap xs) (h' : RdS itLay w a' n' cap' xs) => sameN6 CS c a a' n n' cap cap' xs w h h')
  replace CP := Lib.hid (fun (b : Bool) (a : Option Addr) (n cap : Nat) (xs : List It) (w : World) (h : RdS itLay w a n cap xs) (hn : n ≤ 1099511627776) => CP b a n cap xs w h hn)
  replace CG := Lib.hid (fun (a : Option Addr) (n c : Nat) (bs : List Int) (w : World) (h : RdI .u8 w a n c bs) (hz : ∀ j, 0 ≤ bs.getD j 0 ∧ bs.getD j 0 ≤ 255) (hn : n ≤ 100000000) => CG a n c bs w h hz hn)
  replace CE := Lib.hid (fun (x : It) (w : World) => CE x w)
  replace CQ := Lib.hid (fun (a : Option Addr) (n c : Nat) (bs : List Int) (x : Int) (w : World) (h : RdI .u8 w a n c bs) (hz : ∀ j, 0 ≤ bs.getD j 0 ∧ bs.getD j 0 ≤ 255) (hn : n ≤ 100000000) (hx : (Lit.int .i64 x).wf = true) => CQ a n c bs x w h hz hn hx)
  clear CS
  have B := Below.refl w.heap.size w
  clear hz
  by_cases hn : zs.length ≤ 1048576
  · go_enter Try.func3, Try.ntmps3
    go_wp2_with fail
    refine (big_no A _ cap _ hn).mono ?_
    rintro e w1 ⟨rfl, rfl⟩
    go_wp2_with fail
    refine (drawPutNode_any A cap zs _ (HA.out.below B) HZ.out hn).mono ?_
    rintro e w2 ⟨bN, vN, yN, rfl, lN, o2, b2⟩
    obtain ⟨a2, c2, rfl, -⟩ := o2.rd
    have m2 : ∀ g, (Value.slice a2 yN.length c2).ownBlock = some g → w.heap.size ≤ g := fun g hg => by have := (World.ownsRow.lt o2 g hg).1; have := B.size; omega
    replace B := B.trans (b2.mono B.size)
    clear b2
    have n2N : ∀ g, (Value.slice a2 yN.length c2).ownBlock = some g → g ≠ w2.heap.size := fun g hg => by have := (World.ownsRow.lt o2 g hg).2; omega
    have bb := new_below w2 (.cells #[.bool bN, .slice a2 yN.length c2] 26)
    replace o2 := o2.below bb
    replace B := B.trans (bb.mono B.size)
    clear bb
    have KN := (blk_new w2 #[.bool bN, .slice a2 yN.length c2] 26).1
    have hN : w2.heap.size < (w2.alloc (.cells #[.bool bN, .slice a2 yN.length c2] 26)).heap.size := by simp
    obtain ⟨pN, hpN⟩ : ∃ p, putN bN yN = p := ⟨_, rfl⟩
    have lP : pN.length ≤ 90 := hpN ▸ putN_le25 bN yN
    have yP := Lib.hid (bytes_all (hpN ▸ putN_bytes bN yN))
    obtain ⟨t, ht⟩ : ∃ t, nodeOkV bN yN = t := ⟨_, rfl⟩
    obtain ⟨lX, hlX⟩ : ∃ l, (t && bN) = l := ⟨_, rfl⟩
    obtain ⟨yX, hyX⟩ : ∃ l, (if t then yN else []) = l := ⟨_, rfl⟩
    have HP := Lib.hid hpN
    have HT := Lib.hid ht
    have HX := Lib.hid (get_put hpN ht hlX hyX)
    replace hlX := Lib.hid hlX
    replace hyX := Lib.hid hyX
    clear hpN ht
    go_wp2_with fail
    refine (fresh_is CP.out HP.out a2 _ c2 _ (rdS_owns o2) (by omega)).mono ?_
    rintro e w3 ⟨v3, rfl, o3, b3⟩
    obtain ⟨a3, c3, rfl, -⟩ := o3.rd
    have do2o3 := rows_apart o2 o3 (Nat.le_refl _)
    have n3N : ∀ g, (Value.slice a3 pN.length c3).ownBlock = some g → g ≠ w2.heap.size := fun g hg => by have := (World.ownsRow.lt o3 g hg).1; have := hN; omega
    have m3 : ∀ g, (Value.slice a3 pN.length c3).ownBlock = some g → w.heap.size ≤ g := fun g hg => by have := (World.ownsRow.lt o3 g hg).1; have := B.size; omega
    replace o2 := o2.below b3
    replace KN := keepc b3 hN KN
    replace hN := Nat.lt_of_lt_of_le hN b3.size
    replace B := B.trans (b3.mono B.size)
    clear b3
    go_wp2_with fail
    refine (retN_is CG.out yP.out HX.out a3 _ c3 _ (rdB o3) (by omega)).mono ?_
    rintro e w4 ⟨v4, rfl, o4, b4⟩
    obtain ⟨a4, c4, rfl, -⟩ := o4.rd
    have do2o4 := rows_apart o2 o4 (Nat.le_refl _)
    have do3o4 := rows_apart o3 o4 (Nat.le_refl _)
    have n4N : ∀ g, (Value.slice a4 yX.length c4).ownBlock = some g → g ≠ w2.heap.size := fun g hg => by have := (World.ownsRow.lt o4 g hg).1; have := hN; omega
    have m4 : ∀ g, (Value.slice a4 yX.length c4).ownBlock = some g → w.heap.size ≤ g := fun g hg => by have := (World.ownsRow.lt o4 g hg).1; have := B.size; omega
    replace o2 := o2.below b4
    replace o3 := o3.below b4
    replace KN := keepc b4 hN KN
    replace hN := Nat.lt_of_lt_of_le hN b4.size
    replace B := B.trans (b4.mono B.size)
    clear b4
    have n2X : ∀ g, (Value.slice a2 yN.length c2).ownBlock = some g → g ≠ w4.heap.size := fun g hg => by have := (World.ownsRow.lt o2 g hg).2; omega
    have n3X : ∀ g, (Value.slice a3 pN.length c3).ownBlock = some g → g ≠ w4.heap.size := fun g hg => by have := (World.ownsRow.lt o3 g hg).2; omega
    have n4X : ∀ g, (Value.slice a4 yX.length c4).ownBlock = some g → g ≠ w4.heap.size := fun g hg => by have := (World.ownsRow.lt o4 g hg).2; omega
    have bb := new_below w4 (.cells #[.bool lX, .slice a4 yX.length c4] 26)
    replace o2 := o2.below bb
    replace o3 := o3.below bb
    replace o4 := o4.below bb
    replace KN := keepc bb hN KN
    replace hN := Nat.lt_of_lt_of_le hN bb.size
    replace B := B.trans (bb.mono B.size)
    clear bb
    have KX := (blk_new w4 #[.bool lX, .slice a4 yX.length c4] 26).1
    have hX : w4.heap.size < (w4.alloc (.cells #[.bool lX, .slice a4 yX.length c4] 26)).heap.size := by simp
    go_wp2_with fail
    refine (drawGetNode_any A cap zs _ (HA.out.below B) HZ.out hn).mono ?_
    rintro e w5 ⟨aC, nC, cC, yC, rfl, lC, hyC, rC, b5⟩
    have hnC := rC.1.1
    subst hnC
    have zC := Lib.hid (bytes_all hyC)
    replace o2 := o2.below b5
    replace o3 := o3.below b5
    replace o4 := o4.below b5
    replace KN := keepc b5 hN KN
    replace hN := Nat.lt_of_lt_of_le hN b5.size
    replace KX := keepc b5 hX KX
    replace hX := Nat.lt_of_lt_of_le hX b5.size
    replace B := B.trans (b5.mono B.size)
    clear b5 hyC
    obtain ⟨s, hs⟩ : ∃ s, okN yC = s := ⟨_, rfl⟩
    obtain ⟨lY, hlY⟩ : ∃ l, (s && leafN yC) = l := ⟨_, rfl⟩
    obtain ⟨yY, hyY⟩ : ∃ l, (if s then listN yC else []) = l := ⟨_, rfl⟩
    have lY4 : yY.length ≤ 4 := by rw [← hyY, ← hs]; exact listN_len yC
    have HY := Lib.hid (get_is hs hlY hyY)
    replace hs := Lib.hid hs
    replace hlY := Lib.hid hlY
    replace hyY := Lib.hid hyY
    go_wp2_with fail
    refine (retN_is CG.out zC.out HY.out aC _ cC _ rC (by omega)).mono ?_
    rintro e w6 ⟨v6, rfl, o6, b6⟩
    obtain ⟨a6, c6, rfl, -⟩ := o6.rd
    have do2o6 := rows_apart o2 o6 (Nat.le_refl _)
    have do3o6 := rows_apart o3 o6 (Nat.le_refl _)
    have do4o6 := rows_apart o4 o6 (Nat.le_refl _)
    have n6N : ∀ g, (Value.slice a6 yY.length c6).ownBlock = some g → g ≠ w2.heap.size := fun g hg => by have := (World.ownsRow.lt o6 g hg).1; have := hN; omega
    have n6X : ∀ g, (Value.slice a6 yY.length c6).ownBlock = some g → g ≠ w4.heap.size := fun g hg => by have := (World.ownsRow.lt o6 g hg).1; have := hX; omega
    have m6 : ∀ g, (Value.slice a6 yY.length c6).ownBlock = some g → w.heap.size ≤ g := fun g hg => by have := (World.ownsRow.lt o6 g hg).1; have := B.size; omega
    replace o2 := o2.below b6
    replace o3 := o3.below b6
    replace o4 := o4.below b6
    replace rC := rC.below b6
    replace KN := keepc b6 hN KN
    replace hN := Nat.lt_of_lt_of_le hN b6.size
    replace KX := keepc b6 hX KX
    replace hX := Nat.lt_of_lt_of_le hX b6.size
    replace B := B.trans (b6.mono B.size)
    clear b6
    have n2Y : ∀ g, (Value.slice a2 yN.length c2).ownBlock = some g → g ≠ w6.heap.size := fun g hg => by have := (World.ownsRow.lt o2 g hg).2; omega
    have n3Y : ∀ g, (Value.slice a3 pN.length c3).ownBlock = some g → g ≠ w6.heap.size := fun g hg => by have := (World.ownsRow.lt o3 g hg).2; omega
    have n4Y : ∀ g, (Value.slice a4 yX.length c4).ownBlock = some g → g ≠ w6.heap.size := fun g hg => by have := (World.ownsRow.lt o4 g hg).2; omega
    have n6Y : ∀ g, (Value.slice a6 yY.length c6).ownBlock = some g → g ≠ w6.heap.size := fun g hg => by have := (World.ownsRow.lt o6 g hg).2; omega
    have bb := new_below w6 (.cells #[.bool lY, .slice a6 yY.length c6] 26)
    replace o2 := o2.below bb
    replace o3 := o3.below bb
    replace o4 := o4.below bb
    replace o6 := o6.below bb
    replace rC := rC.below bb
    replace KN := keepc bb hN KN
    replace hN := Nat.lt_of_lt_of_le hN bb.size
    replace KX := keepc bb hX KX
    replace hX := Nat.lt_of_lt_of_le hX bb.size
    replace B := B.trans (bb.mono B.size)
    clear bb
    have KY := (blk_new w6 #[.bool lY, .slice a6 yY.length c6] 26).1
    have hY : w6.heap.size < (w6.alloc (.cells #[.bool lY, .slice a6 yY.length c6] 26)).heap.size := by simp
    go_wp2_with fail
    refine (retN_is (fun a n c bs w h hz hn => sGetNode_any a n c bs w h hz hn) zC.out HY.out aC _ cC _ rC (by omega)).mono ?_
    rintro e w7 ⟨v7, rfl, o7, b7⟩
    obtain ⟨a7, c7, rfl, -⟩ := o7.rd
    have do2o7 := rows_apart o2 o7 (Nat.le_refl _)
    have do3o7 := rows_apart o3 o7 (Nat.le_refl _)
    have do4o7 := rows_apart o4 o7 (Nat.le_refl _)
    have do6o7 := rows_apart o6 o7 (Nat.le_refl _)
    have n7N : ∀ g, (Value.slice a7 yY.length c7).ownBlock = some g → g ≠ w2.heap.size := fun g hg => by have := (World.ownsRow.lt o7 g hg).1; have := hN; omega
    have n7X : ∀ g, (Value.slice a7 yY.length c7).ownBlock = some g → g ≠ w4.heap.size := fun g hg => by have := (World.ownsRow.lt o7 g hg).1; have := hX; omega
    have n7Y : ∀ g, (Value.slice a7 yY.length c7).ownBlock = some g → g ≠ w6.heap.size := fun g hg => by have := (World.ownsRow.lt o7 g hg).1; have := hY; omega
    have m7 : ∀ g, (Value.slice a7 yY.length c7).ownBlock = some g → w.heap.size ≤ g := fun g hg => by have := (World.ownsRow.lt o7 g hg).1; have := B.size; omega
    replace o2 := o2.below b7
    replace o3 := o3.below b7
    replace o4 := o4.below b7
    replace o6 := o6.below b7
    replace rC := rC.below b7
    replace KN := keepc b7 hN KN
    replace hN := Nat.lt_of_lt_of_le hN b7.size
    replace KX := keepc b7 hX KX
    replace hX := Nat.lt_of_lt_of_le hX b7.size
    replace KY := keepc b7 hY KY
    replace hY := Nat.lt_of_lt_of_le hY b7.size
    replace B := B.trans (b7.mono B.size)
    clear b7
    have n2Z : ∀ g, (Value.slice a2 yN.length c2).ownBlock = some g → g ≠ w7.heap.size := fun g hg => by have := (World.ownsRow.lt o2 g hg).2; omega
    have n3Z : ∀ g, (Value.slice a3 pN.length c3).ownBlock = some g → g ≠ w7.heap.size := fun g hg => by have := (World.ownsRow.lt o3 g hg).2; omega
    have n4Z : ∀ g, (Value.slice a4 yX.length c4).ownBlock = some g → g ≠ w7.heap.size := fun g hg => by have := (World.ownsRow.lt o4 g hg).2; omega
    have n6Z : ∀ g, (Value.slice a6 yY.length c6).ownBlock = some g → g ≠ w7.heap.size := fun g hg => by have := (World.ownsRow.lt o6 g hg).2; omega
    have n7Z : ∀ g, (Value.slice a7 yY.length c7).ownBlock = some g → g ≠ w7.heap.size := fun g hg => by have := (World.ownsRow.lt o7 g hg).2; omega
    have bb := new_below w7 (.cells #[.bool lY, .slice a7 yY.length c7] 26)
    replace o2 := o2.below bb
    replace o3 := o3.below bb
    replace o4 := o4.below bb
    replace o6 := o6.below bb
    replace o7 := o7.below bb
    replace rC := rC.below bb
    replace KN := keepc bb hN KN
    replace hN := Nat.lt_of_lt_of_le hN bb.size
    replace KX := keepc bb hX KX
    replace hX := Nat.lt_of_lt_of_le hX bb.size
    replace KY := keepc bb hY KY
    replace hY := Nat.lt_of_lt_of_le hY bb.size
    replace B := B.trans (bb.mono B.size)
    clear bb
    have KZ := (blk_new w7 #[.bool lY, .slice a7 yY.length c7] 26).1
    have hZ : w7.heap.size < (w7.alloc (.cells #[.bool lY, .slice a7 yY.length c7] 26)).heap.size := by simp
    go_wp2_with fail
    refine (drawPutEntry_any A cap zs _ (HA.out.below B) HZ.out hn).mono ?_
    rintro e w8 ⟨yE, rfl, b8⟩
    replace o2 := o2.below b8
    replace o3 := o3.below b8
    replace o4 := o4.below b8
    replace o6 := o6.below b8
    replace o7 := o7.below b8
    replace rC := rC.below b8
    replace KN := keepc b8 hN KN
    replace hN := Nat.lt_of_lt_of_le hN b8.size
    replace KX := keepc b8 hX KX
    replace hX := Nat.lt_of_lt_of_le hX b8.size
    replace KY := keepc b8 hY KY
    replace hY := Nat.lt_of_lt_of_le hY b8.size
    replace KZ := keepc b8 hZ KZ
    replace hZ := Nat.lt_of_lt_of_le hZ b8.size
    replace B := B.trans (b8.mono B.size)
    clear b8
    have n2E : ∀ g, (Value.slice a2 yN.length c2).ownBlock = some g → g ≠ w8.heap.size := fun g hg => by have := (World.ownsRow.lt o2 g hg).2; omega
    have n3E : ∀ g, (Value.slice a3 pN.length c3).ownBlock = some g → g ≠ w8.heap.size := fun g hg => by have := (World.ownsRow.lt o3 g hg).2; omega
    have n4E : ∀ g, (Value.slice a4 yX.length c4).ownBlock = some g → g ≠ w8.heap.size := fun g hg => by have := (World.ownsRow.lt o4 g hg).2; omega
    have n6E : ∀ g, (Value.slice a6 yY.length c6).ownBlock = some g → g ≠ w8.heap.size := fun g hg => by have := (World.ownsRow.lt o6 g hg).2; omega
    have n7E : ∀ g, (Value.slice a7 yY.length c7).ownBlock = some g → g ≠ w8.heap.size := fun g hg => by have := (World.ownsRow.lt o7 g hg).2; omega
    have bb := new_below w8 (.cells #[.int .i64 yE.id, .int .i64 yE.x0, .int .i64 yE.y0, .int .i64 yE.x1, .int .i64 yE.y1] 35)
    replace o2 := o2.below bb
    replace o3 := o3.below bb
    replace o4 := o4.below bb
    replace o6 := o6.below bb
    replace o7 := o7.below bb
    replace rC := rC.below bb
    replace KN := keepc bb hN KN
    replace hN := Nat.lt_of_lt_of_le hN bb.size
    replace KX := keepc bb hX KX
    replace hX := Nat.lt_of_lt_of_le hX bb.size
    replace KY := keepc bb hY KY
    replace hY := Nat.lt_of_lt_of_le hY bb.size
    replace KZ := keepc bb hZ KZ
    replace hZ := Nat.lt_of_lt_of_le hZ bb.size
    replace B := B.trans (bb.mono B.size)
    clear bb
    have KE := (blk_new w8 #[.int .i64 yE.id, .int .i64 yE.x0, .int .i64 yE.y0, .int .i64 yE.x1, .int .i64 yE.y1] 35).1
    have hE : w8.heap.size < (w8.alloc (.cells #[.int .i64 yE.id, .int .i64 yE.x0, .int .i64 yE.y0, .int .i64 yE.x1, .int .i64 yE.y1] 35)).heap.size := by simp
    go_wp2_with fail
    refine (drawGetEntry_any A cap zs _ (HA.out.below B) HZ.out hn).mono ?_
    rintro e w9 ⟨aF, nF, cF, yF, iF, rfl, lF, hiF, hyF, rF, b9⟩
    have hnF := rF.1.1
    subst hnF
    have zF := Lib.hid (bytes_all hyF)
    replace o2 := o2.below b9
    replace o3 := o3.below b9
    replace o4 := o4.below b9
    replace o6 := o6.below b9
    replace o7 := o7.below b9
    replace rC := rC.below b9
    replace KN := keepc b9 hN KN
    replace hN := Nat.lt_of_lt_of_le hN b9.size
    replace KX := keepc b9 hX KX
    replace hX := Nat.lt_of_lt_of_le hX b9.size
    replace KY := keepc b9 hY KY
    replace hY := Nat.lt_of_lt_of_le hY b9.size
    replace KZ := keepc b9 hZ KZ
    replace hZ := Nat.lt_of_lt_of_le hZ b9.size
    replace KE := keepc b9 hE KE
    replace hE := Nat.lt_of_lt_of_le hE b9.size
    replace B := B.trans (b9.mono B.size)
    clear b9 hyF
    have wF := Lib.hid (wf_small iF (by omega) (by omega))
    clear hiF
    obtain ⟨yG, hyG⟩ : ∃ y, getE yF iF = y := ⟨_, rfl⟩
    obtain ⟨tG, htG⟩ : ∃ y, hasE yF iF = y := ⟨_, rfl⟩
    replace hyG := Lib.hid hyG
    replace htG := Lib.hid htG
    go_wp2_with fail
    refine (retE_is CQ.out zF.out wF.out hyG.out htG.out aF _ cF _ rF (by omega)).mono ?_
    rintro e w10 ⟨rfl, b10⟩
    replace o2 := o2.below b10
    replace o3 := o3.below b10
    replace o4 := o4.below b10
    replace o6 := o6.below b10
    replace o7 := o7.below b10
    replace rC := rC.below b10
    replace rF := rF.below b10
    replace KN := keepc b10 hN KN
    replace hN := Nat.lt_of_lt_of_le hN b10.size
    replace KX := keepc b10 hX KX
    replace hX := Nat.lt_of_lt_of_le hX b10.size
    replace KY := keepc b10 hY KY
    replace hY := Nat.lt_of_lt_of_le hY b10.size
    replace KZ := keepc b10 hZ KZ
    replace hZ := Nat.lt_of_lt_of_le hZ b10.size
    replace KE := keepc b10 hE KE
    replace hE := Nat.lt_of_lt_of_le hE b10.size
    replace B := B.trans (b10.mono B.size)
    clear b10
    have n2G : ∀ g, (Value.slice a2 yN.length c2).ownBlock = some g → g ≠ w10.heap.size := fun g hg => by have := (World.ownsRow.lt o2 g hg).2; omega
    have n3G : ∀ g, (Value.slice a3 pN.length c3).ownBlock = some g → g ≠ w10.heap.size := fun g hg => by have := (World.ownsRow.lt o3 g hg).2; omega
    have n4G : ∀ g, (Value.slice a4 yX.length c4).ownBlock = some g → g ≠ w10.heap.size := fun g hg => by have := (World.ownsRow.lt o4 g hg).2; omega
    have n6G : ∀ g, (Value.slice a6 yY.length c6).ownBlock = some g → g ≠ w10.heap.size := fun g hg => by have := (World.ownsRow.lt o6 g hg).2; omega
    have n7G : ∀ g, (Value.slice a7 yY.length c7).ownBlock = some g → g ≠ w10.heap.size := fun g hg => by have := (World.ownsRow.lt o7 g hg).2; omega
    have bb := new_below w10 (.cells #[.int .i64 yG.id, .int .i64 yG.x0, .int .i64 yG.y0, .int .i64 yG.x1, .int .i64 yG.y1] 35)
    replace o2 := o2.below bb
    replace o3 := o3.below bb
    replace o4 := o4.below bb
    replace o6 := o6.below bb
    replace o7 := o7.below bb
    replace rC := rC.below bb
    replace rF := rF.below bb
    replace KN := keepc bb hN KN
    replace hN := Nat.lt_of_lt_of_le hN bb.size
    replace KX := keepc bb hX KX
    replace hX := Nat.lt_of_lt_of_le hX bb.size
    replace KY := keepc bb hY KY
    replace hY := Nat.lt_of_lt_of_le hY bb.size
    replace KZ := keepc bb hZ KZ
    replace hZ := Nat.lt_of_lt_of_le hZ bb.size
    replace KE := keepc bb hE KE
    replace hE := Nat.lt_of_lt_of_le hE bb.size
    replace B := B.trans (bb.mono B.size)
    clear bb
    have KG := (blk_new w10 #[.int .i64 yG.id, .int .i64 yG.x0, .int .i64 yG.y0, .int .i64 yG.x1, .int .i64 yG.y1] 35).1
    have hG : w10.heap.size < (w10.alloc (.cells #[.int .i64 yG.id, .int .i64 yG.x0, .int .i64 yG.y0, .int .i64 yG.x1, .int .i64 yG.y1] 35)).heap.size := by simp
    go_wp2_with fail
    refine (retE_is (fun a n c bs x w h hz hn hx => sGetEntry_any a n c bs x w h hz hn hx) zF.out wF.out hyG.out htG.out aF _ cF _ rF (by omega)).mono ?_
    rintro e w11 ⟨rfl, b11⟩
    replace o2 := o2.below b11
    replace o3 := o3.below b11
    replace o4 := o4.below b11
    replace o6 := o6.below b11
    replace o7 := o7.below b11
    replace rC := rC.below b11
    replace rF := rF.below b11
    replace KN := keepc b11 hN KN
    replace hN := Nat.lt_of_lt_of_le hN b11.size
    replace KX := keepc b11 hX KX
    replace hX := Nat.lt_of_lt_of_le hX b11.size
    replace KY := keepc b11 hY KY
    replace hY := Nat.lt_of_lt_of_le hY b11.size
    replace KZ := keepc b11 hZ KZ
    replace hZ := Nat.lt_of_lt_of_le hZ b11.size
    replace KE := keepc b11 hE KE
    replace hE := Nat.lt_of_lt_of_le hE b11.size
    replace KG := keepc b11 hG KG
    replace hG := Nat.lt_of_lt_of_le hG b11.size
    replace B := B.trans (b11.mono B.size)
    clear b11
    have n2H : ∀ g, (Value.slice a2 yN.length c2).ownBlock = some g → g ≠ w11.heap.size := fun g hg => by have := (World.ownsRow.lt o2 g hg).2; omega
    have n3H : ∀ g, (Value.slice a3 pN.length c3).ownBlock = some g → g ≠ w11.heap.size := fun g hg => by have := (World.ownsRow.lt o3 g hg).2; omega
    have n4H : ∀ g, (Value.slice a4 yX.length c4).ownBlock = some g → g ≠ w11.heap.size := fun g hg => by have := (World.ownsRow.lt o4 g hg).2; omega
    have n6H : ∀ g, (Value.slice a6 yY.length c6).ownBlock = some g → g ≠ w11.heap.size := fun g hg => by have := (World.ownsRow.lt o6 g hg).2; omega
    have n7H : ∀ g, (Value.slice a7 yY.length c7).ownBlock = some g → g ≠ w11.heap.size := fun g hg => by have := (World.ownsRow.lt o7 g hg).2; omega
    have bb := new_below w11 (.cells #[.int .i64 yG.id, .int .i64 yG.x0, .int .i64 yG.y0, .int .i64 yG.x1, .int .i64 yG.y1] 35)
    replace o2 := o2.below bb
    replace o3 := o3.below bb
    replace o4 := o4.below bb
    replace o6 := o6.below bb
    replace o7 := o7.below bb
    replace rC := rC.below bb
    replace rF := rF.below bb
    replace KN := keepc bb hN KN
    replace hN := Nat.lt_of_lt_of_le hN bb.size
    replace KX := keepc bb hX KX
    replace hX := Nat.lt_of_lt_of_le hX bb.size
    replace KY := keepc bb hY KY
    replace hY := Nat.lt_of_lt_of_le hY bb.size
    replace KZ := keepc bb hZ KZ
    replace hZ := Nat.lt_of_lt_of_le hZ bb.size
    replace KE := keepc bb hE KE
    replace hE := Nat.lt_of_lt_of_le hE bb.size
    replace KG := keepc bb hG KG
    replace hG := Nat.lt_of_lt_of_le hG bb.size
    replace B := B.trans (bb.mono B.size)
    clear bb
    have KH := (blk_new w11 #[.int .i64 yG.id, .int .i64 yG.x0, .int .i64 yG.y0, .int .i64 yG.x1, .int .i64 yG.y1] 35).1
    have hH : w11.heap.size < (w11.alloc (.cells #[.int .i64 yG.id, .int .i64 yG.x0, .int .i64 yG.y0, .int .i64 yG.x1, .int .i64 yG.y1] 35)).heap.size := by simp
    obtain ⟨pE, hpE⟩ : ∃ p, putE yE = p := ⟨_, rfl⟩
    have lE : pE.length ≤ 6 := hpE ▸ putE_le yE
    have HE := Lib.hid hpE
    clear hpE
    go_upto_region 13 with (fail)
    obtain ⟨W9, hW9⟩ : ∃ W, (w11.alloc (.cells #[.int .i64 yG.id, .int .i64 yG.x0, .int .i64 yG.y0, .int .i64 yG.x1, .int .i64 yG.y1] 35)) = W := ⟨_, rfl⟩
    rw [hW9] at o2
    rw [hW9] at o3
    rw [hW9] at o4
    rw [hW9] at o6
    rw [hW9] at o7
    rw [hW9] at rC
    rw [hW9] at rF
    rw [hW9] at KN hN
    rw [hW9] at KX hX
    rw [hW9] at KY hY
    rw [hW9] at KZ hZ
    rw [hW9] at KE hE
    rw [hW9] at KG hG
    rw [hW9] at KH hH
    rw [hW9] at B
    rw [hW9]
    clear hW9
    replace o2 := Lib.hid o2
    replace o3 := Lib.hid o3
    replace o4 := Lib.hid o4
    replace o6 := Lib.hid o6
    replace o7 := Lib.hid o7
    replace rC := Lib.hid rC
    replace rF := Lib.hid rF
    have KS := Lib.hid (show ∀ V, Below W9.heap.size W9 V → (fun V => Below W9.heap.size W9 V ∧ V.cell? ⟨w2.heap.size, 0, none⟩ = some (.bool bN) ∧ V.cell? ⟨w2.heap.size, 1, none⟩ = some (.slice a2 yN.length c2) ∧ V.cell? ⟨w6.heap.size, 0, none⟩ = some (.bool lY) ∧ V.cell? ⟨w6.heap.size, 1, none⟩ = some (.slice a6 yY.length c6) ∧ V.cell? ⟨w7.heap.size, 0, none⟩ = some (.bool lY) ∧ V.cell? ⟨w7.heap.size, 1, none⟩ = some (.slice a7 yY.length c7) ∧ V.cell? ⟨w8.heap.size, 0, none⟩ = some (.int .i64 yE.id) ∧ V.cell? ⟨w8.heap.size, 1, none⟩ = some (.int .i64 yE.x0) ∧ V.cell? ⟨w8.heap.size, 2, none⟩ = some (.int .i64 yE.y0) ∧ V.cell? ⟨w8.heap.size, 3, none⟩ = some (.int .i64 yE.x1) ∧ V.cell? ⟨w8.heap.size, 4, none⟩ = some (.int .i64 yE.y1) ∧ V.cell? ⟨w10.heap.size, 0, none⟩ = some (.int .i64 yG.id) ∧ V.cell? ⟨w10.heap.size, 1, none⟩ = some (.int .i64 yG.x0) ∧ V.cell? ⟨w10.heap.size, 2, none⟩ = some (.int .i64 yG.y0) ∧ V.cell? ⟨w10.heap.size, 3, none⟩ = some (.int .i64 yG.x1) ∧ V.cell? ⟨w10.heap.size, 4, none⟩ = some (.int .i64 yG.y1) ∧ V.cell? ⟨w11.heap.size, 0, none⟩ = some (.int .i64 yG.id) ∧ V.cell? ⟨w11.heap.size, 1, none⟩ = some (.int .i64 yG.x0) ∧ V.cell? ⟨w11.heap.size, 2, none⟩ = some (.int .i64 yG.y0) ∧ V.cell? ⟨w11.heap.size, 3, none⟩ = some (.int .i64 yG.x1) ∧ V.cell? ⟨w11.heap.size, 4, none⟩ = some (.int .i64 yG.y1)) V from fun V b => ⟨b, (b.cell (p := ⟨w2.heap.size, 0, none⟩) hN).trans (KN 0), (b.cell (p := ⟨w2.heap.size, 1, none⟩) hN).trans (KN 1), (b.cell (p := ⟨w6.heap.size, 0, none⟩) hY).trans (KY 0), (b.cell (p := ⟨w6.heap.size, 1, none⟩) hY).trans (KY 1), (b.cell (p := ⟨w7.heap.size, 0, none⟩) hZ).trans (KZ 0), (b.cell (p := ⟨w7.heap.size, 1, none⟩) hZ).trans (KZ 1), (b.cell (p := ⟨w8.heap.size, 0, none⟩) hE).trans (KE 0), (b.cell (p := ⟨w8.heap.size, 1, none⟩) hE).trans (KE 1), (b.cell (p := ⟨w8.heap.size, 2, none⟩) hE).trans (KE 2), (b.cell (p := ⟨w8.heap.size, 3, none⟩) hE).trans (KE 3), (b.cell (p := ⟨w8.heap.size, 4, none⟩) hE).trans (KE 4), (b.cell (p := ⟨w10.heap.size, 0, none⟩) hG).trans (KG 0), (b.cell (p := ⟨w10.heap.size, 1, none⟩) hG).trans (KG 1), (b.cell (p := ⟨w10.heap.size, 2, none⟩) hG).trans (KG 2), (b.cell (p := ⟨w10.heap.size, 3, none⟩) hG).trans (KG 3), (b.cell (p := ⟨w10.heap.size, 4, none⟩) hG).trans (KG 4), (b.cell (p := ⟨w11.heap.size, 0, none⟩) hH).trans (KH 0), (b.cell (p := ⟨w11.heap.size, 1, none⟩) hH).trans (KH 1), (b.cell (p := ⟨w11.heap.size, 2, none⟩) hH).trans (KH 2), (b.cell (p := ⟨w11.heap.size, 3, none⟩) hH).trans (KH 3), (b.cell (p := ⟨w11.heap.size, 4, none⟩) hH).trans (KH 4)⟩)
    have KT := Lib.hid (show ∀ V V' : World, Below W9.heap.size W9 V → Below V.heap.size V V' → Below W9.heap.size W9 V' from fun V V' b b' => b.trans (b'.mono b.size))
    replace KN := Lib.hid KN
    replace KX := Lib.hid KX
    replace KY := Lib.hid KY
    replace KZ := Lib.hid KZ
    replace KE := Lib.hid KE
    replace KG := Lib.hid KG
    replace KH := Lib.hid KH
    have hne : ∀ V, _ = _ := fun V => neEntry_run yG yG V
    rw [itEq_self] at hne
    simp only [Bool.not_true] at hne
    go_cut [94] (fun s94 V => s94 = .bool false ∧ Below W9.heap.size W9 V)
    case first => as_aux_lemma =>
      go_region_held3 (fun V => Below W9.heap.size W9 V ∧ V.cell? ⟨w2.heap.size, 0, none⟩ = some (.bool bN) ∧ V.cell? ⟨w2.heap.size, 1, none⟩ = some (.slice a2 yN.length c2) ∧ V.cell? ⟨w6.heap.size, 0, none⟩ = some (.bool lY) ∧ V.cell? ⟨w6.heap.size, 1, none⟩ = some (.slice a6 yY.length c6) ∧ V.cell? ⟨w7.heap.size, 0, none⟩ = some (.bool lY) ∧ V.cell? ⟨w7.heap.size, 1, none⟩ = some (.slice a7 yY.length c7) ∧ V.cell? ⟨w8.heap.size, 0, none⟩ = some (.int .i64 yE.id) ∧ V.cell? ⟨w8.heap.size, 1, none⟩ = some (.int .i64 yE.x0) ∧ V.cell? ⟨w8.heap.size, 2, none⟩ = some (.int .i64 yE.y0) ∧ V.cell? ⟨w8.heap.size, 3, none⟩ = some (.int .i64 yE.x1) ∧ V.cell? ⟨w8.heap.size, 4, none⟩ = some (.int .i64 yE.y1) ∧ V.cell? ⟨w10.heap.size, 0, none⟩ = some (.int .i64 yG.id) ∧ V.cell? ⟨w10.heap.size, 1, none⟩ = some (.int .i64 yG.x0) ∧ V.cell? ⟨w10.heap.size, 2, none⟩ = some (.int .i64 yG.y0) ∧ V.cell? ⟨w10.heap.size, 3, none⟩ = some (.int .i64 yG.x1) ∧ V.cell? ⟨w10.heap.size, 4, none⟩ = some (.int .i64 yG.y1) ∧ V.cell? ⟨w11.heap.size, 0, none⟩ = some (.int .i64 yG.id) ∧ V.cell? ⟨w11.heap.size, 1, none⟩ = some (.int .i64 yG.x0) ∧ V.cell? ⟨w11.heap.size, 2, none⟩ = some (.int .i64 yG.y0) ∧ V.cell? ⟨w11.heap.size, 3, none⟩ = some (.int .i64 yG.x1) ∧ V.cell? ⟨w11.heap.size, 4, none⟩ = some (.int .i64 yG.y1))
        (first | exact KS.out _ (drew_below _) | exact KS.out _ (KT.out _ _ (And.left (by assumption)) hb))
        (first
          | (go_at_call 19; (with_reducible refine (fresh_is (fun b a n cap xs w h _ => sPutNode_any b a n cap xs w h) HP.out a2 _ c2 _ ((rdS_owns o2.out).below (by first | exact drew_below _ | exact And.left (by assumption))) (by omega)).mono ?_); rintro e wv ⟨u1, rfl, t1, hb⟩; obtain ⟨x1, n1, rfl, i1⟩ := t1.rd)
          | (go_at_call 18; (with_reducible refine (same_same a3 x1 _ c3 n1 pN _ ((rdB o3.out).below (by first | exact drew_below _ | exact And.left (by assumption))) i1 (by omega)).mono ?_); rintro e wv ⟨rfl, hb⟩)
          | (go_at_call 20; (with_reducible refine (SY.out lY a6 a7 _ _ c6 c7 yY _ ((rdS_owns o6.out).below (by first | exact drew_below _ | exact And.left (by assumption))) ((rdS_owns o7.out).below (by first | exact drew_below _ | exact And.left (by assumption)))).mono ?_); rintro e wv ⟨rfl, hb⟩)
          | (go_at_call 21; (with_reducible refine (freshE_is CE.out HE.out _).mono ?_); rintro e wv ⟨u2, rfl, t2, hb⟩; obtain ⟨x2, n2, rfl, i2⟩ := t2.rd; try replace i3 := i3.below hb)
          | (go_at_call 22; (with_reducible refine (freshE_is (fun x w => sPutEntry_any x w) HE.out _).mono ?_); rintro e wv ⟨u3, rfl, t3, hb⟩; obtain ⟨x3, n3, rfl, i3⟩ := t3.rd; try replace i2 := i2.below hb)
          | (go_at_call 18; (with_reducible refine (same_same x2 x3 _ n2 n3 pE _ i2 i3 (by omega)).mono ?_); rintro e wv ⟨rfl, hb⟩))
      all_goals
        rename_i hS
        have hB := hS.1
        clear hS
        go_wp2_with fail
        go_meet
        exact ⟨rfl, hB⟩
    case rest =>
      obtain ⟨rfl, b9⟩ := hcut
      replace o2 := o2.out
      replace o3 := o3.out
      replace o4 := o4.out
      replace o6 := o6.out
      replace o7 := o7.out
      replace rC := rC.out
      replace rF := rF.out
      replace KN := KN.out
      replace KX := KX.out
      replace KY := KY.out
      replace KZ := KZ.out
      replace KE := KE.out
      replace KG := KG.out
      replace KH := KH.out
      replace o2 := o2.below b9
      replace o3 := o3.below b9
      replace o4 := o4.below b9
      replace o6 := o6.below b9
      replace o7 := o7.below b9
      replace rC := rC.below b9
      replace rF := rF.below b9
      replace KN := keepc b9 hN KN
      replace hN := Nat.lt_of_lt_of_le hN b9.size
      replace KX := keepc b9 hX KX
      replace hX := Nat.lt_of_lt_of_le hX b9.size
      replace KY := keepc b9 hY KY
      replace hY := Nat.lt_of_lt_of_le hY b9.size
      replace KZ := keepc b9 hZ KZ
      replace hZ := Nat.lt_of_lt_of_le hZ b9.size
      replace KE := keepc b9 hE KE
      replace hE := Nat.lt_of_lt_of_le hE b9.size
      replace KG := keepc b9 hG KG
      replace hG := Nat.lt_of_lt_of_le hG b9.size
      replace KH := keepc b9 hH KH
      replace hH := Nat.lt_of_lt_of_le hH b9.size
      replace B := B.trans (b9.mono B.size)
      clear b9 KS KT hne KE hE KG hG KH hH KZ hZ
      cases t with
      | true =>
        have e1 : bN = lX := hlX.out
        have e2 : yN = yX := hyX.out
        have h25 : ((pN.length : Int) == 25) = true := by rw [← HP.out, (putN_form HT.out).choose_spec.2]; rfl
        subst e1 e2
        cases s with
        | true =>
          have HQ : Hid (putN lY yY = yC) := by
            have e1 : leafN yC = lY := hlY.out
            have e2 : listN yC = yY := hyY.out
            rw [← e1, ← e2]
            exact Lib.hid (okN_put hs.out)
          have HN := Lib.hid HT.out
          go_wp2_with fail
          refine (nodeOk_is CN.out HN.out a2 _ c2 _ (rdS_owns o2)).mono ?_
          rintro e w41 ⟨rfl, b41⟩
          replace o2 := o2.below b41
          replace o3 := o3.below b41
          replace o4 := o4.below b41
          replace o6 := o6.below b41
          replace o7 := o7.below b41
          replace rC := rC.below b41
          replace rF := rF.below b41
          replace KN := keepc b41 hN KN
          replace hN := Nat.lt_of_lt_of_le hN b41.size
          replace KX := keepc b41 hX KX
          replace hX := Nat.lt_of_lt_of_le hX b41.size
          replace KY := keepc b41 hY KY
          replace hY := Nat.lt_of_lt_of_le hY b41.size
          replace B := B.trans (b41.mono B.size)
          clear b41
          go_wp2_with fail
          refine (SY.out bN a4 a2 _ _ c4 c2 yN _ (rdS_owns o4) (rdS_owns o2)).mono ?_
          rintro e w42 ⟨rfl, b42⟩
          replace o2 := o2.below b42
          replace o3 := o3.below b42
          replace o4 := o4.below b42
          replace o6 := o6.below b42
          replace o7 := o7.below b42
          replace rC := rC.below b42
          replace rF := rF.below b42
          replace KN := keepc b42 hN KN
          replace hN := Nat.lt_of_lt_of_le hN b42.size
          replace KX := keepc b42 hX KX
          replace hX := Nat.lt_of_lt_of_le hX b42.size
          replace KY := keepc b42 hY KY
          replace hY := Nat.lt_of_lt_of_le hY b42.size
          replace B := B.trans (b42.mono B.size)
          clear b42
          go_wp2_with fail
          refine (fresh_is CP.out HQ.out a6 _ c6 _ (rdS_owns o6) (by omega)).mono ?_
          rintro e w43 ⟨v43, rfl, o43, b43⟩
          obtain ⟨a43, c43, rfl, -⟩ := o43.rd
          replace o2 := o2.below b43
          replace o3 := o3.below b43
          replace o4 := o4.below b43
          replace o6 := o6.below b43
          replace o7 := o7.below b43
          replace rC := rC.below b43
          replace rF := rF.below b43
          replace KN := keepc b43 hN KN
          replace hN := Nat.lt_of_lt_of_le hN b43.size
          replace KX := keepc b43 hX KX
          replace hX := Nat.lt_of_lt_of_le hX b43.size
          replace KY := keepc b43 hY KY
          replace hY := Nat.lt_of_lt_of_le hY b43.size
          replace B := B.trans (b43.mono B.size)
          clear b43
          go_wp2_with fail
          refine (same_same a43 aC _ c43 cC yC _ (rdB o43) rC (by omega)).mono ?_
          rintro e w44 ⟨rfl, b44⟩
          replace o2 := o2.below b44
          replace o3 := o3.below b44
          replace o4 := o4.below b44
          replace o6 := o6.below b44
          replace o7 := o7.below b44
          replace o43 := o43.below b44
          replace rC := rC.below b44
          replace rF := rF.below b44
          replace KN := keepc b44 hN KN
          replace hN := Nat.lt_of_lt_of_le hN b44.size
          replace KX := keepc b44 hX KX
          replace hX := Nat.lt_of_lt_of_le hX b44.size
          replace KY := keepc b44 hY KY
          replace hY := Nat.lt_of_lt_of_le hY b44.size
          replace B := B.trans (b44.mono B.size)
          clear b44
          go_wp2_with fail
          refine (SY.out bN a2 a2 _ _ c2 c2 yN _ (rdS_owns o2) (rdS_owns o2)).mono ?_
          rintro e w45 ⟨rfl, b45⟩
          replace o2 := o2.below b45
          replace o3 := o3.below b45
          replace o4 := o4.below b45
          replace o6 := o6.below b45
          replace o7 := o7.below b45
          replace o43 := o43.below b45
          replace rC := rC.below b45
          replace rF := rF.below b45
          replace KN := keepc b45 hN KN
          replace hN := Nat.lt_of_lt_of_le hN b45.size
          replace KX := keepc b45 hX KX
          replace hX := Nat.lt_of_lt_of_le hX b45.size
          replace KY := keepc b45 hY KY
          replace hY := Nat.lt_of_lt_of_le hY b45.size
          replace B := B.trans (b45.mono B.size)
          clear b45
          go_wp2
          go_ret
          exact ⟨rfl, B⟩
        | false =>
          have HN := Lib.hid HT.out
          go_wp2_with fail
          refine (nodeOk_is CN.out HN.out a2 _ c2 _ (rdS_owns o2)).mono ?_
          rintro e w41 ⟨rfl, b41⟩
          replace o2 := o2.below b41
          replace o3 := o3.below b41
          replace o4 := o4.below b41
          replace o6 := o6.below b41
          replace o7 := o7.below b41
          replace rC := rC.below b41
          replace rF := rF.below b41
          replace KN := keepc b41 hN KN
          replace hN := Nat.lt_of_lt_of_le hN b41.size
          replace KX := keepc b41 hX KX
          replace hX := Nat.lt_of_lt_of_le hX b41.size
          replace KY := keepc b41 hY KY
          replace hY := Nat.lt_of_lt_of_le hY b41.size
          replace B := B.trans (b41.mono B.size)
          clear b41
          go_wp2_with fail
          refine (SY.out bN a4 a2 _ _ c4 c2 yN _ (rdS_owns o4) (rdS_owns o2)).mono ?_
          rintro e w42 ⟨rfl, b42⟩
          replace o2 := o2.below b42
          replace o3 := o3.below b42
          replace o4 := o4.below b42
          replace o6 := o6.below b42
          replace o7 := o7.below b42
          replace rC := rC.below b42
          replace rF := rF.below b42
          replace KN := keepc b42 hN KN
          replace hN := Nat.lt_of_lt_of_le hN b42.size
          replace KX := keepc b42 hX KX
          replace hX := Nat.lt_of_lt_of_le hX b42.size
          replace KY := keepc b42 hY KY
          replace hY := Nat.lt_of_lt_of_le hY b42.size
          replace B := B.trans (b42.mono B.size)
          clear b42
          go_wp2_with fail
          refine (SY.out bN a2 a2 _ _ c2 c2 yN _ (rdS_owns o2) (rdS_owns o2)).mono ?_
          rintro e w43 ⟨rfl, b43⟩
          replace o2 := o2.below b43
          replace o3 := o3.below b43
          replace o4 := o4.below b43
          replace o6 := o6.below b43
          replace o7 := o7.below b43
          replace rC := rC.below b43
          replace rF := rF.below b43
          replace KN := keepc b43 hN KN
          replace hN := Nat.lt_of_lt_of_le hN b43.size
          replace KX := keepc b43 hX KX
          replace hX := Nat.lt_of_lt_of_le hX b43.size
          replace KY := keepc b43 hY KY
          replace hY := Nat.lt_of_lt_of_le hY b43.size
          replace B := B.trans (b43.mono B.size)
          clear b43
          go_wp2
          go_ret
          exact ⟨rfl, B⟩
      | false =>
        cases s with
        | true =>
          have HQ : Hid (putN lY yY = yC) := by
            have e1 : leafN yC = lY := hlY.out
            have e2 : listN yC = yY := hyY.out
            rw [← e1, ← e2]
            exact Lib.hid (okN_put hs.out)
          have HN := Lib.hid HT.out
          go_wp2_with fail
          refine (nodeOk_is CN.out HN.out a2 _ c2 _ (rdS_owns o2)).mono ?_
          rintro e w41 ⟨rfl, b41⟩
          replace o2 := o2.below b41
          replace o3 := o3.below b41
          replace o4 := o4.below b41
          replace o6 := o6.below b41
          replace o7 := o7.below b41
          replace rC := rC.below b41
          replace rF := rF.below b41
          replace KN := keepc b41 hN KN
          replace hN := Nat.lt_of_lt_of_le hN b41.size
          replace KX := keepc b41 hX KX
          replace hX := Nat.lt_of_lt_of_le hX b41.size
          replace KY := keepc b41 hY KY
          replace hY := Nat.lt_of_lt_of_le hY b41.size
          replace B := B.trans (b41.mono B.size)
          clear b41
          go_wp2_with fail
          refine (fresh_is CP.out HQ.out a6 _ c6 _ (rdS_owns o6) (by omega)).mono ?_
          rintro e w42 ⟨v42, rfl, o42, b42⟩
          obtain ⟨a42, c42, rfl, -⟩ := o42.rd
          replace o2 := o2.below b42
          replace o3 := o3.below b42
          replace o4 := o4.below b42
          replace o6 := o6.below b42
          replace o7 := o7.below b42
          replace rC := rC.below b42
          replace rF := rF.below b42
          replace KN := keepc b42 hN KN
          replace hN := Nat.lt_of_lt_of_le hN b42.size
          replace KX := keepc b42 hX KX
          replace hX := Nat.lt_of_lt_of_le hX b42.size
          replace KY := keepc b42 hY KY
          replace hY := Nat.lt_of_lt_of_le hY b42.size
          replace B := B.trans (b42.mono B.size)
          clear b42
          go_wp2_with fail
          refine (same_same a42 aC _ c42 cC yC _ (rdB o42) rC (by omega)).mono ?_
          rintro e w43 ⟨rfl, b43⟩
          replace o2 := o2.below b43
          replace o3 := o3.below b43
          replace o4 := o4.below b43
          replace o6 := o6.below b43
          replace o7 := o7.below b43
          replace o42 := o42.below b43
          replace rC := rC.below b43
          replace rF := rF.below b43
          replace KN := keepc b43 hN KN
          replace hN := Nat.lt_of_lt_of_le hN b43.size
          replace KX := keepc b43 hX KX
          replace hX := Nat.lt_of_lt_of_le hX b43.size
          replace KY := keepc b43 hY KY
          replace hY := Nat.lt_of_lt_of_le hY b43.size
          replace B := B.trans (b43.mono B.size)
          clear b43
          go_wp2_with fail
          refine (SY.out bN a2 a2 _ _ c2 c2 yN _ (rdS_owns o2) (rdS_owns o2)).mono ?_
          rintro e w44 ⟨rfl, b44⟩
          replace o2 := o2.below b44
          replace o3 := o3.below b44
          replace o4 := o4.below b44
          replace o6 := o6.below b44
          replace o7 := o7.below b44
          replace o42 := o42.below b44
          replace rC := rC.below b44
          replace rF := rF.below b44
          replace KN := keepc b44 hN KN
          replace hN := Nat.lt_of_lt_of_le hN b44.size
          replace KX := keepc b44 hX KX
          replace hX := Nat.lt_of_lt_of_le hX b44.size
          replace KY := keepc b44 hY KY
          replace hY := Nat.lt_of_lt_of_le hY b44.size
          replace B := B.trans (b44.mono B.size)
          clear b44
          go_wp2
          go_ret
          exact ⟨rfl, B⟩
        | false =>
          have HN := Lib.hid HT.out
          go_wp2_with fail
          refine (nodeOk_is CN.out HN.out a2 _ c2 _ (rdS_owns o2)).mono ?_
          rintro e w41 ⟨rfl, b41⟩
          replace o2 := o2.below b41
          replace o3 := o3.below b41
          replace o4 := o4.below b41
          replace o6 := o6.below b41
          replace o7 := o7.below b41
          replace rC := rC.below b41
          replace rF := rF.below b41
          replace KN := keepc b41 hN KN
          replace hN := Nat.lt_of_lt_of_le hN b41.size
          replace KX := keepc b41 hX KX
          replace hX := Nat.lt_of_lt_of_le hX b41.size
          replace KY := keepc b41 hY KY
          replace hY := Nat.lt_of_lt_of_le hY b41.size
          replace B := B.trans (b41.mono B.size)
          clear b41
          go_wp2_with fail
          refine (SY.out bN a2 a2 _ _ c2 c2 yN _ (rdS_owns o2) (rdS_owns o2)).mono ?_
          rintro e w42 ⟨rfl, b42⟩
          replace o2 := o2.below b42
          replace o3 := o3.below b42
          replace o4 := o4.below b42
          replace o6 := o6.below b42
          replace o7 := o7.below b42
          replace rC := rC.below b42
          replace rF := rF.below b42
          replace KN := keepc b42 hN KN
          replace hN := Nat.lt_of_lt_of_le hN b42.size
          replace KX := keepc b42 hX KX
          replace hX := Nat.lt_of_lt_of_le hX b42.size
          replace KY := keepc b42 hY KY
          replace hY := Nat.lt_of_lt_of_le hY b42.size
          replace B := B.trans (b42.mono B.size)
          clear b42
          go_wp2
          go_ret
          exact ⟨rfl, B⟩
  · go_enter Try.func3, Try.ntmps3
    go_wp2_with fail
    refine (big_yes A _ cap _ hn (by have := h.1.2.1; have := h.1.2.2.1; omega)).mono ?_
    rintro e w0 ⟨rfl, rfl⟩
    go_wp2
    go_ret
    exact ⟨rfl, Below.refl _ _⟩
end Go.Proofs.Ytfgmjegemlkkkaa

/- What a law's arguments are: rectangles by value, slices of them, slices of bytes, as the rows hand them in. -/
namespace Go.Proofs.Ytfgmjegemlkkkaa
open Go.RowKit Go.Joins Go.ChangeShapes Go.WideShapes Go.Deep

section
variable {H : Type} {enc : TypeId × Value → H} {w : World} {base b0 : Nat} {r : Reach} {v : Value} {d : DataW H} {p : List MemPlace} {sp : Nat → Bool} {hd : Bool} {n : Nat} {cs : List Value} {y : DataW H × List MemPlace}

def WfB (x : Bx) : Prop := (Lit.int .i64 x.x0).wf = true ∧ (Lit.int .i64 x.y0).wf = true ∧ (Lit.int .i64 x.x1).wf = true ∧ (Lit.int .i64 x.y1).wf = true

set_option maxRecDepth 100000 in
theorem list_of {α : Type} (m : Nat) (P : Nat → α → Prop) (h : ∀ i, i < m → ∃ x, P i x) : ∃ xs : List α, xs.length = m ∧ ∀ i x, xs[i]? = some x → P i x := by
  induction m with
  | zero => exact ⟨[], rfl, fun i x hx => by simp at hx⟩
  | succ m ih =>
    obtain ⟨xs, hl, hx⟩ := ih (fun i hi => h i (by omega))
    obtain ⟨x, hp⟩ := h m (by omega)
    refine ⟨xs ++ [x], by simp [hl], fun i y hy => ?_⟩
    by_cases hi : i < m
    · rw [List.getElem?_append_left (by omega)] at hy
      exact hx i y hy
    · rw [List.getElem?_append_right (by omega)] at hy
      have hi' : i = m := by
        have := (List.getElem?_eq_some_iff.1 hy).1
        simp at this; omega
      subst hi'
      rw [hl, Nat.sub_self] at hy
      simp at hy
      subst hy
      exact hp
set_option maxRecDepth 100000 in
theorem some_at {α : Type} {ys : List α} {j m : Nat} (h : ys.length = m) (hj : j < m) : ∃ y, ys[j]? = some y := ⟨_, List.getElem?_eq_getElem (by omega)⟩
set_option maxRecDepth 100000 in
theorem cell_int (h : DataW.trod enc Try.prog w base sp hd n 3 cs = some y) : ∃ k : Int, cs = [.int .i64 k] ∧ (Lit.int .i64 k).wf = true := by
  obtain ⟨k, hc, _, hw⟩ := DataW.trod_int Try.underlying3 h
  exact ⟨k, hc, hw⟩
set_option maxRecDepth 100000 in
/-- A rectangle's cells. -/
theorem decBox (h : DataW.trod enc Try.prog w base sp hd n 53 cs = some y) : ∃ x : Bx, cs = bxLay.cells x ∧ WfB x := by
  obtain ⟨ys, m, _, _, hc, hy, hf⟩ := DataW.trod_struct Try.underlying53 h
  obtain ⟨z0, e0⟩ := some_at hy (j := 0) (by decide)
  obtain ⟨z1, e1⟩ := some_at hy (j := 1) (by decide)
  obtain ⟨z2, e2⟩ := some_at hy (j := 2) (by decide)
  obtain ⟨z3, e3⟩ := some_at hy (j := 3) (by decide)
  obtain ⟨k0, f0, w0⟩ := cell_int ((hf 0 _ rfl).trans e0)
  obtain ⟨k1, f1, w1⟩ := cell_int ((hf 1 _ rfl).trans e1)
  obtain ⟨k2, f2, w2⟩ := cell_int ((hf 2 _ rfl).trans e2)
  obtain ⟨k3, f3, w3⟩ := cell_int ((hf 3 _ rfl).trans e3)
  have c1 : Try.prog.cellsOf 3 = 1 := by kernel_rfl
  have c4 : Try.prog.cellsOf 53 = 4 := by kernel_rfl
  rw [c4] at hc
  match cs, hc with
  | [a, b, c, d], _ =>
    change List.take (Try.prog.cellsOf 3) (List.drop 0 [a, b, c, d]) = _ at f0
    change List.take (Try.prog.cellsOf 3) (List.drop 1 [a, b, c, d]) = _ at f1
    change List.take (Try.prog.cellsOf 3) (List.drop 2 [a, b, c, d]) = _ at f2
    change List.take (Try.prog.cellsOf 3) (List.drop 3 [a, b, c, d]) = _ at f3
    rw [c1] at f0 f1 f2 f3
    simp at f0 f1 f2 f3
    subst f0 f1 f2 f3
    exact ⟨⟨k0, k1, k2, k3⟩, rfl, w0, w1, w2, w3⟩
set_option maxRecDepth 100000 in
theorem argBox (hv : Value.okWide Try.prog w r b0 53 v) (h : DataW.Trod enc Try.prog w base sp hd 53 v d p) :
    ∃ x : Bx, v = .agg #[.int .i64 x.x0, .int .i64 x.y0, .int .i64 x.x1, .int .i64 x.y1] ∧ WfB x := by
  obtain ⟨cs, rfl, _⟩ := okWide_struct Try.underlying53 hv
  obtain ⟨n, h⟩ := h
  obtain ⟨x, hx, hw⟩ := decBox h
  obtain ⟨l⟩ := cs
  have : l = bxLay.cells x := by simpa [Value.cells] using hx
  subst this
  exact ⟨x, rfl, hw⟩

set_option maxRecDepth 100000 in
/-- A slice whose elements are known by their cells. -/
theorem argS {α : Type} (L : Lay α) (Wf : α → Prop) {t e : TypeId} (ht : Try.prog.underlying t = some (.slice e)) (hc : Try.prog.cellsOf e = L.sz)
    (dec : ∀ (n : Nat) (cs : List Value) (y : DataW H × List MemPlace), DataW.trod enc Try.prog w base (fun _ => true) hd n e cs = some y → ∃ x : α, cs = L.cells x ∧ Wf x)
    (hv : Value.okWide Try.prog w r b0 t v) (h : DataW.Trod enc Try.prog w base (fun _ => true) hd t v d p) :
    ∃ a m c, ∃ xs : List α, v = .slice a m c ∧ RdS L w a m c xs ∧ ∀ x ∈ xs, Wf x := by
  obtain ⟨a, m, c, rfl⟩ := okWide_slice ht hv
  obtain ⟨n, h⟩ := h
  rcases open_slice ht h with ⟨hcs, _⟩ | ⟨a', len, cap, q, n', D, Pl, hcs, _, hl, hm, hq, _, hel⟩
  · simp [Value.cells] at hcs
    obtain ⟨rfl, rfl, rfl⟩ := hcs
    exact ⟨none, 0, 0, [], rfl, rdS_nil w, fun x hx => by cases hx⟩
  · simp [Value.cells] at hcs
    obtain ⟨rfl, rfl, rfl⟩ := hcs
    simp only [if_true] at hq
    obtain ⟨xs, hlen, hxs⟩ := list_of m (fun i x => w.cells? base (a'.add (i * L.sz)) L.sz = some (L.cells x) ∧ Wf x) (fun i hi => by
      obtain ⟨cs', h1, h2⟩ := hel i (by omega)
      obtain ⟨x, rfl, hw⟩ := dec n' cs' _ h2
      rw [hc] at h1
      exact ⟨x, h1, hw⟩)
    refine ⟨some a', m, c, xs, rfl, ⟨⟨hlen, hl, hm, fun h => by cases h⟩, fun hpos => ?_⟩, fun x hx => ?_⟩
    · obtain ⟨x0, hx0⟩ := some_at hlen (j := 0) hpos
      obtain ⟨b, off, spot⟩ := a'
      have hat : ∀ i x, xs[i]? = some x → ∀ j u, (L.cells x)[j]? = some u → w.cell? ((⟨b, off, spot⟩ : Addr).add (i * L.sz + j)) = some u := by
        intro i x hx j u hj
        obtain ⟨_, _, h2⟩ := World.cells?_some (hxs i x hx).1
        have hj' : j < L.sz := by have := (List.getElem?_eq_some_iff.1 hj).1; rw [L.len] at this; exact this
        rw [← Go.Deep.add_add, h2 j hj', hj]
      have hu : (L.cells x0)[0]? = some ((L.cells x0)[0]'(by rw [L.len]; exact L.pos)) := List.getElem?_eq_getElem _
      have hspot : spot = none := by
        have h0 := hat 0 x0 hx0 0 _ hu
        rw [Nat.zero_mul, Nat.add_zero] at h0
        simpa [Addr.add] using World.cell?_spot h0
      subst hspot
      exact ⟨b, off, rfl, fun i x hx j u hj => by rw [← Go.WideShapes.add_plain]; exact hat i x hx j u hj⟩
    · obtain ⟨i, hi⟩ := List.mem_iff_getElem?.1 hx
      exact (hxs i x hi).2
set_option maxRecDepth 100000 in
/-- A slice of bytes. -/
theorem argBytes (hv : Value.okWide Try.prog w r b0 22 v) (h : DataW.Trod enc Try.prog w base (fun _ => true) hd 22 v d p) :
    ∃ a m c, ∃ zs : List Int, v = .slice a m c ∧ RdI .u8 w a m c zs ∧ ∀ z ∈ zs, (Lit.int .u8 z).wf = true := by
  obtain ⟨a, m, c, rfl⟩ := okWide_slice Try.underlying22 hv
  obtain ⟨fuel, hf⟩ := h
  rcases open_ints Try.underlying22 Try.underlying5 (by kernel_rfl) hf with ⟨hcs, _⟩ | ⟨x, l, cc, zs, hcs, _, hl, hm, hz, _, hcell, hwz⟩
  · simp [Value.cells] at hcs
    obtain ⟨rfl, rfl, rfl⟩ := hcs
    exact ⟨none, 0, 0, [], rfl, rdI_nil _ _, fun x hx => by cases hx⟩
  · simp [Value.cells] at hcs
    obtain ⟨rfl, rfl, rfl⟩ := hcs
    have := rdI_row (.inr ⟨_, rfl, hl, hm, by simpa using hz, hcell, hwz⟩)
    exact ⟨_, m, c, _, rfl, this.1, this.2⟩
end
end Go.Proofs.Ytfgmjegemlkkkaa

/- What the program's GetNode tells from the bytes, and what stands there: the mathematics. -/
namespace Go.Proofs.Ytfgmjegemlkkkaa
open Go.RowKit

/-- The number of entries and the kind that the program reads from the first byte. -/
def cntP (q : Int) : Int := q - 16 * (q / 16 % 2)
def leafP (q : Int) : Bool := decide (q / 16 % 2 = 1)
def zeros (zs : List Int) : Bool := decide (∀ z ∈ zs, z = 0)

theorem rawAll_at (bs : List Int) : ∀ (k j : Nat), j < k → (rawAll bs k)[j]? = some (rawE bs (1 + 6 * j))
  | k + 1, j, h => by
    rw [rawAll]
    by_cases e : j < k
    · rw [List.getElem?_append_left (by rw [rawAll_len]; exact e)]
      exact rawAll_at bs k j e
    · obtain rfl : j = k := by omega
      rw [List.getElem?_append_right (by rw [rawAll_len]; exact Nat.le_refl _), rawAll_len, Nat.sub_self]
      rfl
theorem getD_zero {l : List Int} (h : ∀ z ∈ l, z = 0) (j : Nat) : l.getD j 0 = 0 := by
  rw [List.getD_eq_getElem?_getD]
  cases e : l[j]? with
  | none => rfl
  | some x => exact h x (List.mem_of_getElem? e)
theorem headN_at {b : Bool} {n : Nat} (h : n ≤ 4) : cntP (headN b n) = n ∧ leafP (headN b n) = b := by
  unfold headN cntP leafP
  cases b with
  | true => rw [if_pos rfl]; exact ⟨by omega, decide_eq_true (by omega)⟩
  | false => rw [if_neg (by simp)]; exact ⟨by omega, decide_eq_false (by omega)⟩
/-- The bytes of a node are read so. -/
theorem okN_told {bs : List Int} {k : Nat} (h : okN bs = true) (hk : cntP (bs.getD 0 0) = k) :
    k ≤ 4 ∧ hasAll bs k = true ∧ zeros (bs.drop (1 + 6 * k)) = true ∧ nodeOkV (leafP (bs.getD 0 0)) (rawAll bs k) = true := by
  obtain ⟨hn, hp⟩ := (okN_iff _ _ _).1 ⟨h, rfl, rfl⟩
  have h4 := nodeOkV_len hn
  have h0 := head_putN hn
  rw [hp] at h0
  obtain ⟨e1, e2⟩ := headN_at (b := leafN bs) h4
  have hk2 : k = (listN bs).length := by rw [h0, e1] at hk; omega
  obtain ⟨a1, a2⟩ := all_putN hn k (by omega)
  rw [hp] at a1 a2
  rw [hk2, List.take_length, ← hk2] at a2
  refine ⟨by omega, a1, ?_, by rw [h0, e2, a2]; exact hn⟩
  obtain ⟨z, e, -⟩ := putN_form hn
  have hl := flat6_len putE (listN bs) (fun x hx => by rw [putE_yes (nodeOkV_all hn x hx)]; rfl)
  rw [hp] at e
  have hd : bs.drop (1 + 6 * k) = List.replicate z 0 := by
    rw [e, Nat.add_comm 1, List.drop_succ_cons, List.drop_append_of_le_length (by omega), List.drop_of_length_le (by omega), List.nil_append]
  rw [hd]
  exact decide_eq_true (fun x hx => (List.mem_replicate.1 hx).2)
/-- What is read so are a node's bytes. -/
theorem okN_read {bs : List Int} {k : Nat} (hl : bs.length = 25) (hz : ∀ j, 0 ≤ bs.getD j 0 ∧ bs.getD j 0 ≤ 255) (hk : cntP (bs.getD 0 0) = k)
    (h0 : zeros (bs.drop (1 + 6 * k)) = true) (hn : nodeOkV (leafP (bs.getD 0 0)) (rawAll bs k) = true) :
    okN bs = true ∧ leafN bs = leafP (bs.getD 0 0) ∧ listN bs = rawAll bs k := by
  refine (okN_iff _ _ _).2 ⟨hn, ?_⟩
  have h4 := nodeOkV_len hn
  rw [rawAll_len] at h4
  obtain ⟨z, e, h25⟩ := putN_form hn
  have hl6 := flat6_len putE (rawAll bs k) (fun x hx => by rw [putE_yes (nodeOkV_all hn x hx)]; rfl)
  rw [rawAll_len] at hl6
  refine eq_getD (by rw [h25, hl]) (fun j hj => ?_)
  rw [h25] at hj
  by_cases hj0 : j = 0
  · subst hj0
    rw [head_putN hn, rawAll_len]
    unfold headN leafP
    unfold cntP at hk
    have := hz 0
    split
    · rename_i h; simp only [decide_eq_true_eq] at h; omega
    · rename_i h; simp only [decide_eq_true_eq] at h; omega
  · by_cases hj6 : j < 1 + 6 * k
    · obtain ⟨p, i, hi, rfl, hp⟩ : ∃ p i, i < 6 ∧ j = 1 + 6 * p + i ∧ p < k := ⟨(j - 1) / 6, (j - 1) % 6, by omega, by omega, by omega⟩
      have hx := rawAll_at bs k p hp
      rw [putN_at hn hx i hi, putE_yes (nodeOkV_all hn _ (List.mem_of_getElem? hx))]
      have z0 := hz (1 + 6 * p)
      have z1 := hz (1 + 6 * p + 1)
      rcases (by omega : i = 0 ∨ i = 1 ∨ i = 2 ∨ i = 3 ∨ i = 4 ∨ i = 5) with rfl | rfl | rfl | rfl | rfl | rfl
      · show (256 * bs.getD (1 + 6 * p) 0 + bs.getD (1 + 6 * p + 1) 0) / 256 = bs.getD (1 + 6 * p) 0
        omega
      · show (256 * bs.getD (1 + 6 * p) 0 + bs.getD (1 + 6 * p + 1) 0) % 256 = bs.getD (1 + 6 * p + 1) 0
        omega
      · rfl
      · rfl
      · rfl
      · rfl
    · have h1 : bs.getD j 0 = 0 := by
        have := getD_zero (of_decide_eq_true h0) (j - (1 + 6 * k))
        rw [List.getD_eq_getElem?_getD, List.getElem?_drop, show 1 + 6 * k + (j - (1 + 6 * k)) = j by omega, ← List.getD_eq_getElem?_getD] at this
        exact this
      rw [h1, e, List.getD_eq_getElem?_getD, show j = (j - 1) + 1 by omega, List.getElem?_cons_succ, List.getElem?_append_right (by omega), ← List.getD_eq_getElem?_getD]
      exact getD_zero (fun x hx => (List.mem_replicate.1 hx).2) _
/-- The entries' own bytes begin behind the first. -/
theorem hasE_drop {bs : List Int} (hl : bs.length = 25) (k : Nat) : hasE (bs.drop 1) (6 * (k : Int)) = hasE bs (1 + 6 * (k : Int)) ∧ rawE (bs.drop 1) (6 * k) = rawE bs (1 + 6 * k) := by
  have g : ∀ j, (bs.drop 1).getD j 0 = bs.getD (1 + j) 0 := fun j => by rw [List.getD_eq_getElem?_getD, List.getElem?_drop, ← List.getD_eq_getElem?_getD]
  have e : rawE (bs.drop 1) (6 * k) = rawE bs (1 + 6 * k) := by
    unfold rawE
    simp only [g, Nat.add_assoc]
  refine ⟨?_, e⟩
  unfold hasE
  rw [show (6 * (k : Int)).toNat = 6 * k by omega, show (1 + 6 * (k : Int)).toNat = 1 + 6 * k by omega, e, List.length_drop, hl]
  congr 1
  exact decide_eq_decide.2 (by omega)
theorem hasE_far {bs : List Int} (hl : bs.length = 25) {k : Nat} (h : 4 ≤ k) : hasE bs (1 + 6 * (k : Int)) = false := hasE_no (by omega)
end Go.Proofs.Ytfgmjegemlkkkaa

/- The program's encoding of an entry: GetEntry, PutEntry; whether bytes are all zero. -/
namespace Go.Proofs.Ytfgmjegemlkkkaa
open Go.RowKit

theorem zeros_yes {zs : List Int} (h : ∀ j, j < zs.length → zs.getD j 0 = 0) : zeros zs = true := by
  refine decide_eq_true (fun z hz => ?_)
  obtain ⟨j, hj, rfl⟩ := List.getElem_of_mem hz
  have := h j hj
  simpa [List.getD, hj] using this
theorem zeros_no {zs : List Int} {j : Nat} (h : ¬ zs.getD j 0 = 0) : zeros zs = false := decide_eq_false (fun h' => h (getD_zero h' j))

set_option maxRecDepth 100000 in
set_option maxHeartbeats 800000 in
theorem iAllZero_any (a : Option Addr) (n c : Nat) (zs : List Int) (w : World) (h : RdI .u8 w a n c zs) (hn : n ≤ 100000000) :
    Calls Try.prog 39 #[.slice a n c] w fun e w' => e = .returned (.bool (zeros zs)) ∧ Below w.heap.size w w' := by
  have HL := Lib.hid h.1.1
  have HR := Lib.hid h
  clear h
  go_enter Try.func39, Try.ntmps39
  go_wp2
  go_loopw [7] (fun i wr => ∃ k : Nat, k ≤ n ∧ i = .int .i64 k ∧ Hid (∀ j, j < k → zs.getD j 0 = 0) ∧ Below w.heap.size w wr) (fun i _ => n - (intOf i).toNat)
  case atStart => exact ⟨0, Nat.zero_le _, rfl, Lib.hid (fun j hj => by omega), Below.refl _ _⟩
  case round =>
    obtain ⟨k, hk, rfl, HA, hB⟩ := hrel
    by_cases hlt : k < n
    · obtain ⟨x, off, rfl, hc⟩ := HR.out.2 (by omega)
      have hck := hc k hlt
      have hbw : x < w.heap.size := World.block_lt_of_cell? w ⟨x, off + k, none⟩ hck
      rw [← hB.cell (p := ⟨x, off + k, none⟩) hbw] at hck
      clear hc
      have h0 : (0 : Int) ≤ k := by omega
      have h1 : (k : Int) < n := by omega
      obtain ⟨p, hp⟩ : ∃ p, zs.getD k 0 = p := ⟨_, rfl⟩
      rw [hp] at hck
      by_cases he : p = 0
      · subst he
        have HS : Hid (∀ j, j < k + 1 → zs.getD j 0 = 0) := Lib.hid (fun j hj => by
          by_cases hjk : j < k
          · exact HA.out j hjk
          · obtain rfl : j = k := by omega
            exact hp)
        clear hp
        go_wp2
        go_roundw
        case rel => exact ⟨k + 1, by omega, by go_num, HS, hB⟩
        case measure => simp [intOf]; omega
      · have hne : (p != 0) = true := by rw [bne_iff_ne]; exact he
        have HF : Hid (zeros zs = false) := Lib.hid (zeros_no (by rw [hp]; exact he))
        clear he hp
        go_wp2
        go_ret
        exact ⟨ret_bool HF.out.symm, hB⟩
    · have HF : Hid (zeros zs = true) := Lib.hid (zeros_yes (fun j hj => HA.out j (by rw [HL.out] at hj; omega)))
      go_wp2
      go_ret
      exact ⟨ret_bool HF.out.symm, hB⟩

set_option maxHeartbeats 3200000 in
set_option maxRecDepth 100000 in
theorem iGetEntry_any : CGetEntry 16 := by
  intro a n c bs x w h hz hn hx
  obtain ⟨l0, u0⟩ := bounds_i64 hx
  have HR := Lib.hid h
  have HX := Lib.hid hx
  have J := Lib.hid (blk_new w #[.int .i64 0, .int .i64 0, .int .i64 0, .int .i64 0, .int .i64 0] 35)
  have B0 := Lib.hid (new_below w (.cells #[.int .i64 0, .int .i64 0, .int .i64 0, .int .i64 0, .int .i64 0] 35))
  clear h hx
  by_cases h1 : 0 ≤ x
  · by_cases h2 : x ≤ (n : Int) - 6
    · obtain ⟨m, rfl⟩ := Int.eq_ofNat_of_zero_le h1
      have hle : Hid (decide (0 ≤ (m : Int) ∧ (m : Int) ≤ (bs.length : Int) - 6) = true) := by have := HR.out.1.1; exact Lib.hid (decide_eq_true (by omega))
      have H2 : Hid (get2 bs m = 256 * bs.getD m 0 + bs.getD (m + 1) 0) := by
        have := HR.out.1.1
        show get2 bs m = _
        unfold get2
        rw [if_pos (by omega)]
        simp
      have HR0 := HR.out.2 (by omega)
      obtain ⟨b, off, rfl, hc⟩ := HR0
      obtain ⟨y, hy⟩ : ∃ y, rawE bs m = y := ⟨_, rfl⟩
      have c2 := hc (m + 2) (by omega)
      have c3 := hc (m + 3) (by omega)
      have c4 := hc (m + 4) (by omega)
      have c5 := hc (m + 5) (by omega)
      have hbl : b < w.heap.size := World.block_lt_of_cell? w ⟨b, off + (m + 2), none⟩ c2
      have e2 : bs.getD (m + 2) 0 = y.x0 := by rw [← hy]; rfl
      have e3 : bs.getD (m + 3) 0 = y.y0 := by rw [← hy]; rfl
      have e4 : bs.getD (m + 4) 0 = y.x1 := by rw [← hy]; rfl
      have e5 : bs.getD (m + 5) 0 = y.y1 := by rw [← hy]; rfl
      have e0 : get2 bs m = y.id := by rw [H2.out, ← hy]; rfl
      obtain ⟨b20, b21⟩ := hz (m + 2)
      obtain ⟨b30, b31⟩ := hz (m + 3)
      obtain ⟨b40, b41⟩ := hz (m + 4)
      obtain ⟨b50, b51⟩ := hz (m + 5)
      rw [e2] at c2 b20 b21
      rw [e3] at c3 b30 b31
      rw [e4] at c4 b40 b41
      rw [e5] at c5 b50 b51
      have CG := get2_any (some ⟨b, off, none⟩) n c bs m (w.alloc (.cells #[.int .i64 0, .int .i64 0, .int .i64 0, .int .i64 0, .int .i64 0] 35)) (HR.out.below B0.out) hz hn HX.out
      rw [e0] at CG
      replace CG := Lib.hid CG
      replace hy := Lib.hid hy
      clear e0 e2 e3 e4 e5 hc hz
      have CB := iBoxOk_any y.x0 y.y0 y.x1 y.y1
      go_enter Try.func16, Try.ntmps16
      go_wp2_with fail
      refine CG.out.mono ?_
      rintro e w2 ⟨rfl, hb⟩
      have J2 := Lib.hid (below_keep hb (by simp) _ _ J.out)
      have s2 := hb.size
      simp at s2
      have q2 := (bcell (B0.out.trans (hb.mono B0.out.size))).1 b (off + (m + 2)) hbl
      have q3 := (bcell (B0.out.trans (hb.mono B0.out.size))).1 b (off + (m + 3)) hbl
      have q4 := (bcell (B0.out.trans (hb.mono B0.out.size))).1 b (off + (m + 4)) hbl
      have q5 := (bcell (B0.out.trans (hb.mono B0.out.size))).1 b (off + (m + 5)) hbl
      rw [c2] at q2
      rw [c3] at q3
      rw [c4] at q4
      rw [c5] at q5
      replace hb := Lib.hid (B0.out.trans (hb.mono B0.out.size))
      clear c2 c3 c4 c5 HR CG
      have hbl2 : b < w2.heap.size := by omega
      have hbl3 : b ≠ w2.heap.size := by omega
      have KE := Lib.hid (blk_new_drew w2 #[.int .i64 y.x0, .int .i64 y.y0, .int .i64 y.x1, .int .i64 y.y1] 33)
      have J3 : Hid ((∀ o, (w2.alloc (.cells #[.int .i64 y.x0, .int .i64 y.y0, .int .i64 y.x1, .int .i64 y.y1] 33)).drew.cell? ⟨w.heap.size, o, none⟩ = (#[.int .i64 0, .int .i64 0, .int .i64 0, .int .i64 0, .int .i64 0] : Array Value)[o]?) ∧ (∀ o, (w2.alloc (.cells #[.int .i64 y.x0, .int .i64 y.y0, .int .i64 y.x1, .int .i64 y.y1] 33)).drew.frozen? ⟨w.heap.size, o, none⟩ = false)) := blk_alloc (.cells #[.int .i64 y.x0, .int .i64 y.y0, .int .i64 y.x1, .int .i64 y.y1] 33) (by omega) _ _ J2.out
      have hs3 : w2.heap.size < (w2.alloc (.cells #[.int .i64 y.x0, .int .i64 y.y0, .int .i64 y.x1, .int .i64 y.y1] 33)).drew.heap.size := by show w2.heap.size < (w2.alloc (.cells #[.int .i64 y.x0, .int .i64 y.y0, .int .i64 y.x1, .int .i64 y.y1] 33)).heap.size; simp
      have hs4 : w.heap.size < (w2.alloc (.cells #[.int .i64 y.x0, .int .i64 y.y0, .int .i64 y.x1, .int .i64 y.y1] 33)).drew.heap.size := by omega
      replace hb := Lib.hid (((hb.out.alloc hb.out.size (.cells #[.int .i64 y.x0, .int .i64 y.y0, .int .i64 y.x1, .int .i64 y.y1] 33))).drew)
      cases ho : okB y.x0 y.y0 y.x1 y.y1 with
      | true =>
        have hr : Hid (hasE bs m = true) := by
          show hasE bs m = true
          unfold hasE
          rw [hle.out, Int.toNat_natCast, hy.out, ho]
          rfl
        have hg : Hid (getE bs m = y) := Lib.hid ((getE_yes hr.out).trans (by rw [Int.toNat_natCast]; exact hy.out))
        rw [ho] at CB
        replace CB := Lib.hid CB
        clear ho
        go_wp2_with fail
        go_big_region
        all_goals
          go_wp2_with fail
          refine (CB.out _).mono ?_
          rintro e w4 ⟨rfl, hj⟩
          obtain ⟨k0, -⟩ := below_keep hj hs3 _ _ KE.out
          obtain ⟨j0, f0⟩ := below_keep hj hs4 _ _ J3.out
          have hb3 := Lib.hid (hb.out.trans (hj.mono hb.out.size))
          clear hj
          go_wp2
          refine bodyPost_ret (v := .tuple #[.agg #[.int .i64 y.id, .int .i64 y.x0, .int .i64 y.y0, .int .i64 y.x1, .int .i64 y.y1], .bool true]) (by simp [results, Try.results16, go_sem, j0]) rfl ?_
          rw [hr.out, hg.out]
          exact ⟨rfl, (((((hb3.out).setCell (p := ⟨w.heap.size, 0, none⟩) (Nat.le_refl _) _).setCell (p := ⟨w.heap.size, 1, none⟩) (Nat.le_refl _) _).setCell (p := ⟨w.heap.size, 2, none⟩) (Nat.le_refl _) _).setCell (p := ⟨w.heap.size, 3, none⟩) (Nat.le_refl _) _).setCell (p := ⟨w.heap.size, 4, none⟩) (Nat.le_refl _) _⟩
      | false =>
        have hr : Hid (hasE bs m = false) := by
          show hasE bs m = false
          unfold hasE
          rw [Int.toNat_natCast, hy.out, ho, Bool.and_false]
        rw [ho] at CB
        replace CB := Lib.hid CB
        clear ho
        go_wp2_with fail
        go_big_region
        all_goals
          go_wp2_with fail
          refine (CB.out _).mono ?_
          rintro e w4 ⟨rfl, hj⟩
          obtain ⟨j0, f0⟩ := below_keep hj hs4 _ _ J3.out
          have hb3 := Lib.hid (hb.out.trans (hj.mono hb.out.size))
          clear hj
          go_wp2
          refine bodyPost_ret (v := .tuple #[.agg #[.int .i64 0, .int .i64 0, .int .i64 0, .int .i64 0, .int .i64 0], .bool false]) (by simp [results, Try.results16, go_sem, j0]) rfl ?_
          rw [hr.out, getE_no hr.out]
          exact ⟨rfl, (((((hb3.out).setCell (p := ⟨w.heap.size, 0, none⟩) (Nat.le_refl _) _).setCell (p := ⟨w.heap.size, 1, none⟩) (Nat.le_refl _) _).setCell (p := ⟨w.heap.size, 2, none⟩) (Nat.le_refl _) _).setCell (p := ⟨w.heap.size, 3, none⟩) (Nat.le_refl _) _).setCell (p := ⟨w.heap.size, 4, none⟩) (Nat.le_refl _) _⟩
    · have hr : Hid (hasE bs x = false) := by have := HR.out.1.1; exact Lib.hid (hasE_no (by omega))
      go_enter Try.func16, Try.ntmps16
      go_wp2
      refine bodyPost_ret (v := .tuple #[.agg #[.int .i64 0, .int .i64 0, .int .i64 0, .int .i64 0, .int .i64 0], .bool false]) (by simp [results, Try.results16, go_sem]) rfl ?_
      rw [hr.out, getE_no hr.out]
      exact ⟨rfl, B0.out⟩
  · have hr : Hid (hasE bs x = false) := by have := HR.out.1.1; exact Lib.hid (hasE_no (by omega))
    go_enter Try.func16, Try.ntmps16
    go_wp2
    refine bodyPost_ret (v := .tuple #[.agg #[.int .i64 0, .int .i64 0, .int .i64 0, .int .i64 0, .int .i64 0], .bool false]) (by simp [results, Try.results16, go_sem]) rfl ?_
    rw [hr.out, getE_no hr.out]
    exact ⟨rfl, B0.out⟩
end Go.Proofs.Ytfgmjegemlkkkaa

/- The program's BoundOf, ItemsOf and LeafOf. -/
namespace Go.Proofs.Ytfgmjegemlkkkaa
open Go.RowKit

theorem flat_more {α : Type} (L : Lay α) {xs : List α} {k : Nat} {x : α} (h : xs[k]? = some x) : (xs.take (k + 1)).flatMap L.cells = (xs.take k).flatMap L.cells ++ L.cells x := by
  rw [List.take_add_one, h, List.flatMap_append]
  simp
/-- What a literal of one element lays in memory, behind a copy that was laid before it. -/
theorem news2 (wr : World) (O : Obj) (cs : Array Value) (t : TypeId) (l : List Value) (hl : cs.toList = l) : ∀ j u, l[j]? = some u → ((wr.alloc O).alloc (.cells cs t)).cell? ((⟨wr.heap.size + 1, 0, none⟩ : Addr).add j) = some u := by
  subst hl
  have e : (wr.alloc O).heap.size = wr.heap.size + 1 := by simp
  rw [← e]
  exact World.news_of_block (cs := cs) (t := t) (fr := (0, 0)) (heap_alloc_new (wr.alloc O) _)

set_option maxRecDepth 100000 in
set_option maxHeartbeats 400000 in
theorem itemOf_any (x : It) (w : World) :
    Calls Try.prog 78 #[.agg #[.int .i64 x.id, .int .i64 x.x0, .int .i64 x.y0, .int .i64 x.x1, .int .i64 x.y1]] w fun e w' => e = .returned (.agg #[.int .i64 x.id, .int .i64 x.x0, .int .i64 x.y0, .int .i64 x.x1, .int .i64 x.y1]) ∧ Below w.heap.size w w' := by
  have B0 : Hid (Below w.heap.size w ((w.alloc (.cells #[.int .i64 x.id, .int .i64 x.x0, .int .i64 x.y0, .int .i64 x.x1, .int .i64 x.y1] 35)).alloc (.cells #[.int .i64 0, .int .i64 0, .int .i64 0, .int .i64 0, .int .i64 0] 100))) := Lib.hid (((Below.refl _ _).alloc (Nat.le_refl _) _).alloc (by simp) _)
  go_enter Try.func78, Try.ntmps78
  go_wp2
  refine bodyPost_ret (v := .agg #[.int .i64 x.id, .int .i64 x.x0, .int .i64 x.y0, .int .i64 x.x1, .int .i64 x.y1]) (by simp [results, Try.results78, go_sem]) rfl ⟨rfl, ?_⟩
  exact ((Below.refl _ _).alloc (Nat.le_refl _) _).alloc (by simp) _
end Go.Proofs.Ytfgmjegemlkkkaa

/- The program's firstEntries: the entries that the bytes hold, one behind the other. -/
namespace Go.Proofs.Ytfgmjegemlkkkaa
open Go.RowKit

set_option maxHeartbeats 3200000 in
set_option maxRecDepth 100000 in
theorem iFirst_any (a : Option Addr) (c kk : Nat) (bs : List Int) (w : World) (h : RdI .u8 w a 24 c (bs.drop 1)) (hl : bs.length = 25) (hz : ∀ j, 0 ≤ bs.getD j 0 ∧ bs.getD j 0 ≤ 255) (hkk : kk ≤ 255) :
    Calls Try.prog 38 #[.slice a 24 c, .int .i64 kk] w fun e w' => ∃ v, e = .returned (.tuple #[v, .bool (decide (kk ≤ 4) && hasAll bs kk)]) ∧ ((decide (kk ≤ 4) && hasAll bs kk) = true → OwnS itLay 35 w' w.heap.size v (rawAll bs kk)) ∧ Below w.heap.size w w' := by
  obtain ⟨i0, hi, hz0, hz1, hz2⟩ := info_parts Try.infoEntry
  replace hi := Lib.hid hi
  replace hz0 := Lib.hid hz0
  replace hz1 := Lib.hid hz1
  replace hz2 := Lib.hid hz2
  have HR := Lib.hid h
  have HL := Lib.hid hl
  have HZ : Hid (∀ j, 0 ≤ (bs.drop 1).getD j 0 ∧ (bs.drop 1).getD j 0 ≤ 255) := Lib.hid (fun j => by
    rw [List.getD_eq_getElem?_getD, List.getElem?_drop, ← List.getD_eq_getElem?_getD]
    exact hz (1 + j))
  clear h hl hz
  go_enter Try.func38, Try.ntmps38
  go_wp2_with (at_make; refine wpList_make_own _ rfl _ _ 24 rfl w.heap.size 35 i0 (.agg #[.int .i64 0, .int .i64 0, .int .i64 0, .int .i64 0, .int .i64 0]) 5 Try.underlying24 hi.out hz0.out hz1.out .i64 .i64 4 4 rfl rfl rfl ?_ ?_ ?_ ?_)
  case refine_1 => rw [hz2.out]; omega
  case refine_2 => unfold maxLen; omega
  case refine_3 => exact Nat.le_refl _
  intro w1 hown hgrow
  have B1 := Lib.hid (grownNone_below hgrow)
  replace hown := Lib.hid hown
  clear hgrow
  go_wp2
  go_loopw [6, 12] (fun v i wr => ∃ k : Nat, k ≤ kk ∧ k ≤ 4 ∧ v = .slice (some ⟨w.heap.size, 0, none⟩) k 4 ∧ i = .int .i64 (k : Int) ∧ Hid (hasAll bs k = true) ∧ Hid (wr.ownsRow w.heap.size 35 5 (.slice (some ⟨w.heap.size, 0, none⟩) k 4) k ((rawAll bs k).flatMap itLay.cells)) ∧ Below w.heap.size w wr) (fun _ i _ => kk - (intOf i).toNat)
  case atStart => exact ⟨0, Nat.zero_le _, Nat.zero_le _, rfl, rfl, rfl, hown, B1.out⟩
  case round =>
    clear hown B1
    obtain ⟨k, hk, hk4, rfl, rfl, HA, HO, hB⟩ := hrel
    by_cases hlt : k < kk
    · have z1 : (k : Int) < kk := by omega
      obtain ⟨y, hy⟩ : ∃ y, getE (bs.drop 1) ((k : Int) * 6) = y := ⟨_, rfl⟩
      have CE := iGetEntry_any a 24 c (bs.drop 1) ((k : Int) * 6) wr (HR.out.below hB) HZ.out (by omega) (wf_small _ (by omega) (by omega))
      rw [hy] at CE
      have hmul : IntKind.i64.wrap ((k : Int) * 6) = (k : Int) * 6 := by rw [IntKind.wrap_i64]; omega
      obtain ⟨d1, d2⟩ := hasE_drop HL.out k
      replace d1 := (congrArg (hasE (bs.drop 1)) (Int.mul_comm (k : Int) 6)).trans d1
      cases hh : hasE (bs.drop 1) ((k : Int) * 6) with
      | false =>
        rw [hh] at CE
        replace CE := Lib.hid CE
        have ht : Hid ((decide (kk ≤ 4) && hasAll bs kk) = false) := by
          show _ = _
          rw [hasAll_no (d1.symm.trans hh) kk hlt, Bool.and_false]
        clear hh hy d1 d2
        go_wp2_with fail
        refine CE.out.mono ?_
        rintro e w2 ⟨rfl, b2⟩
        have B2 := Lib.hid (hB.trans (b2.mono hB.size))
        have s2 := b2.size
        clear b2 hB HO
        go_wp2
        go_ret2
        refine ⟨_, (by rw [ht.out]; rfl), (fun h => by rw [ht.out] at h; cases h), ?_⟩
        exact (B2.out.alloc B2.out.size _).alloc (by have := B2.out.size; simp; omega) _
      | true =>
        have h4 : k < 4 := by
          refine Nat.lt_of_not_le (fun h => ?_)
          have := hasE_far HL.out h
          rw [← d1, hh] at this
          cases this
        have hy2 : rawE bs (1 + 6 * k) = y := by
          rw [← hy, getE_yes hh, ← d2, show ((k : Int) * 6).toNat = 6 * k by omega]
        have HA2 : Hid (hasAll bs (k + 1) = true) := by
          show hasAll bs (k + 1) = true
          rw [hasAll, HA.out, ← d1, hh]
          rfl
        have HY : Hid (rawAll bs (k + 1) = rawAll bs k ++ [y]) := by
          show rawAll bs (k + 1) = _
          rw [rawAll, hy2]
        rw [hh] at CE
        replace CE := Lib.hid CE
        clear hh hy hy2 d1 d2
        go_wp2_with fail
        refine CE.out.mono ?_
        rintro e w2 ⟨rfl, b2⟩
        have HO2 : Hid (w2.ownsRow w.heap.size 35 5 (.slice (some ⟨w.heap.size, 0, none⟩) k 4) k ((rawAll bs k).flatMap itLay.cells)) := Lib.hid (World.ownsRow.kept HO.out (Below.toGrown b2 none) (by right; simp [Value.ownBlock]))
        have B2 := hB.trans (b2.mono hB.size)
        have s2 := b2.size
        clear b2 hB HO CE
        go_wp2_with (at_builtin; refine wpList_append_fits _ rfl (.tmp 25) (.tmp 27) 24 rfl w.heap.size 35 i0 5 Try.underlying24 hi.out hz1.out w.heap.size k 4 ((rawAll bs k).flatMap itLay.cells) rfl (World.ownsRow.alloc (World.ownsRow.alloc HO2.out _) _) ⟨w2.heap.size + 1, 0, none⟩ 1 1 (itLay.cells y) rfl rfl ?_ (itLay.one _) ?_ ?_)
        case refine_1 => exact news2 w2 _ _ _ _ rfl
        case refine_2 => omega
        intro w3 o3 g3
        have O3 : Hid (w3.ownsRow w.heap.size 35 5 (.slice (some ⟨w.heap.size, 0, none⟩) (k + 1) 4) (k + 1) ((rawAll bs (k + 1)).flatMap itLay.cells)) := by
          rw [HY.out, List.flatMap_append]
          have := o3
          simp only [List.flatMap_cons, List.flatMap_nil, List.append_nil]
          exact Lib.hid this
        have B3 := Lib.hid (((B2.alloc B2.size (.cells #[.int .i64 y.id, .int .i64 y.x0, .int .i64 y.y0, .int .i64 y.x1, .int .i64 y.y1] 35)).alloc (by have := B2.size; simp; omega) (.cells #[.int .i64 y.id, .int .i64 y.x0, .int .i64 y.y0, .int .i64 y.x1, .int .i64 y.y1] 35)).grown g3 (by have := B2.size; simp; omega) (fun j hj => by cases hj; exact Nat.le_refl _))
        clear o3 g3
        go_wp2
        go_roundw
        case rel => exact ⟨k + 1, by omega, by omega, rfl, by go_num, HA2, O3, B3.out⟩
        case measure => simp [intOf]; omega
    · obtain rfl : k = kk := by omega
      have ht : Hid ((decide (k ≤ 4) && hasAll bs k) = true) := by
        show _ = _
        rw [HA.out, decide_eq_true hk4]
        rfl
      go_wp2
      go_ret2
      refine ⟨_, (by rw [ht.out]; rfl), fun _ => ?_, hB⟩
      unfold OwnS
      rw [rawAll_len]
      exact HO.out
end Go.Proofs.Ytfgmjegemlkkkaa

/- The program's functions of the Hilbert curve. -/
namespace Go.Proofs.Ytfgmjegemlkkkaa
open Go.RowKit

theorem shr_pw (m i : Nat) (h : m + (i + 1) = 8) : (256 : Int) / 2 ^ (m + 1) = pw i := by
  obtain rfl : m = 7 - i := by omega
  rcases (by omega : i = 0 ∨ i = 1 ∨ i = 2 ∨ i = 3 ∨ i = 4 ∨ i = 5 ∨ i = 6 ∨ i = 7) with rfl | rfl | rfl | rfl | rfl | rfl | rfl | rfl <;> decide

theorem x32 : bits .xor .i64 3 2 = 1 := by decide
theorem x33 : bits .xor .i64 3 3 = 0 := by decide
theorem mod4 (r : Int) : r % 4 = 0 ∨ r % 4 = 1 ∨ r % 4 = 2 ∨ r % 4 = 3 := by omega
theorem shl_pw (i : Nat) (h : i < 8) : (1 : Int) * 2 ^ i = pw i := by
  rcases (by omega : i = 0 ∨ i = 1 ∨ i = 2 ∨ i = 3 ∨ i = 4 ∨ i = 5 ∨ i = 6 ∨ i = 7) with rfl | rfl | rfl | rfl | rfl | rfl | rfl | rfl <;> decide

end Go.Proofs.Ytfgmjegemlkkkaa

/- The program's comparisons of items. -/
namespace Go.Proofs.Ytfgmjegemlkkkaa
open Go.RowKit

def cmpV (a b : Int) : Int := if a < b then -1 else if b < a then 1 else 0
def orV (p q : Int) : Int := if p = 0 then q else p

end Go.Proofs.Ytfgmjegemlkkkaa

/- The program's ItemOk and Ahead. -/
namespace Go.Proofs.Ytfgmjegemlkkkaa
open Go.RowKit

set_option maxRecDepth 100000 in
set_option maxHeartbeats 400000 in
theorem iItemOk_any (i x0 y0 x1 y1 : Int) (w : World) : Calls Try.prog 77 #[.agg #[.int .i64 i, .int .i64 x0, .int .i64 y0, .int .i64 x1, .int .i64 y1]] w fun e w' =>
    e = .returned (.bool (itOk i x0 y0 x1 y1)) ∧ Below w.heap.size w w' := by
  rcases (by omega : ¬ 1 ≤ i ∨ (1 ≤ i ∧ ¬ i ≤ 999) ∨ (1 ≤ i ∧ i ≤ 999)) with h | ⟨h, h2⟩ | ⟨h, h2⟩
  · have hr : Hid (itOk i x0 y0 x1 y1 = false) := by show itOk _ _ _ _ _ = _; unfold itOk inB; rw [decide_eq_false (by omega)]; rfl
    have hb : decide (i ≥ 1) = false := decide_eq_false (by omega)
    go_enter Try.func77, Try.ntmps77
    go_wp2
    go_ret
    exact ⟨ret_bool hr.out.symm, (Below.refl _ _).alloc (Nat.le_refl _) _⟩
  · have hr : Hid (itOk i x0 y0 x1 y1 = false) := by show itOk _ _ _ _ _ = _; unfold itOk inB; rw [decide_eq_false (by omega)]; rfl
    go_enter Try.func77, Try.ntmps77
    go_wp2
    go_ret
    exact ⟨ret_bool hr.out.symm, (Below.refl _ _).alloc (Nat.le_refl _) _⟩
  · have hr : Hid (itOk i x0 y0 x1 y1 = okB x0 y0 x1 y1) := by show itOk _ _ _ _ _ = _; unfold itOk inB; rw [decide_eq_true (by omega)]; rfl
    go_enter Try.func77, Try.ntmps77
    go_wp2_with fail
    refine (iBoxOk_any x0 y0 x1 y1 _).mono ?_
    rintro e w2 ⟨rfl, hj⟩
    go_wp2
    go_ret
    exact ⟨ret_bool hr.out.symm, ((Below.refl _ _).alloc (Nat.le_refl _) _).trans (hj.mono (by simp))⟩

theorem cmpV_neg (a b : Int) : cmpV a b < 0 ↔ a < b := by
  unfold cmpV
  split
  · omega
  · split <;> omega
theorem cmpV_zero (a b : Int) : cmpV a b = 0 ↔ a = b := by
  unfold cmpV
  split
  · omega
  · split <;> omega
theorem orV_ahead (p i q j : Int) : aheadV p i q j = decide (orV (cmpV p q) (cmpV i j) < 0) := by
  have h1 := cmpV_neg p q
  have h2 := cmpV_neg i j
  have h3 := cmpV_zero p q
  unfold orV aheadV
  split
  · rename_i h
    have e := h3.1 h
    subst e
    simp [h2]
  · rename_i h
    have e : p ≠ q := fun e => h (h3.2 e)
    simp [h1, e]

end Go.Proofs.Ytfgmjegemlkkkaa

/- The program's EntryAt and SameNode: the library's IndexFunc with a closure, and Equal. -/
namespace Go.Proofs.Ytfgmjegemlkkkaa
open Go.RowKit

set_option maxRecDepth 100000 in
set_option maxHeartbeats 400000 in
/-- The closure: whether an entry has the number that it captured. -/
theorem iAtFn_any (x : It) (g : Nat) (id : Int) (w : World) (h : w.cell? ⟨g, 0, none⟩ = some (.int .i64 id)) :
    Calls Try.prog 83 #[.agg #[.int .i64 x.id, .int .i64 x.x0, .int .i64 x.y0, .int .i64 x.x1, .int .i64 x.y1], .pointer (some ⟨g, 0, none⟩)] w fun e w' => e = .returned (.bool (x.id == id)) ∧ Below w.heap.size w w' := by
  have hg : g < w.heap.size := World.block_lt_of_cell? w ⟨g, 0, none⟩ h
  have h2 := (World.cell?_alloc_lt w (.cells #[.int .i64 x.id, .int .i64 x.x0, .int .i64 x.y0, .int .i64 x.x1, .int .i64 x.y1] 35) ⟨g, 0, none⟩ hg).trans h
  go_enter Try.func83, Try.ntmps83
  go_wp2
  go_ret
  exact ⟨rfl, new_below _ _⟩

set_option maxRecDepth 100000 in
set_option maxHeartbeats 1600000 in
theorem iIndex_any (a : Option Addr) (n cap : Nat) (xs : List It) (id : Int) (g : Nat) (w : World) (h : RdS itLay w a n cap xs) (hg : w.cell? ⟨g, 0, none⟩ = some (.int .i64 id)) :
    Calls Try.prog 82 #[.slice a n cap, .func (.func 83) #[] #[.pointer (some ⟨g, 0, none⟩)]] w fun e w' => e = .returned (.int .i64 (atV id xs 0)) ∧ Below w.heap.size w w' := by
  have hm := h.1.2.2.1
  have hnc := h.1.2.1
  unfold maxLen at hm
  have HR := Lib.hid h
  have HL := Lib.hid h.1.1
  have HG := Lib.hid hg
  clear h hg
  go_enter Try.func82, Try.ntmps82
  go_wp2
  go_loopw [8] (fun i wr => ∃ k : Nat, k ≤ n ∧ i = .int .i64 k ∧ Hid (atV id xs 0 = atV id (xs.drop k) k) ∧ Below w.heap.size w wr) (fun i _ => n - (intOf i).toNat)
  case atStart => exact ⟨0, Nat.zero_le _, rfl, Lib.hid rfl, Below.refl _ _⟩
  case round =>
    obtain ⟨k, hk, rfl, HA, hB⟩ := hrel
    by_cases hlt : k < n
    · obtain ⟨b, off, x, rfl, hbl, hx, d0, d1, d2, d3, d4⟩ := rdIt_at (HR.out.below hB) hlt
      have HX := Lib.hid hx
      have z0 : (0 : Int) ≤ k := by omega
      have z1 : (k : Int) < n := by omega
      have hgl : g < w.heap.size := World.block_lt_of_cell? w ⟨g, 0, none⟩ HG.out
      have C := iAtFn_any x g id wr ((hB.cell (p := ⟨g, 0, none⟩) hgl).trans HG.out)
      clear hx
      cases he : x.id == id with
      | true =>
        have hr := Lib.hid (HA.out.trans (atV_yes id HX.out (by simpa using he)))
        rw [he] at C
        replace C := Lib.hid C
        clear he
        go_wp2_with fail
        refine C.out.mono ?_
        rintro e w1 ⟨rfl, hb⟩
        replace hb := hB.trans (hb.mono hB.size)
        go_wp2
        go_ret
        exact ⟨ret_i64' hr.out.symm, hb⟩
      | false =>
        have hr := Lib.hid (HA.out.trans (atV_no id HX.out (by simpa using he)))
        rw [he] at C
        replace C := Lib.hid C
        clear he
        go_wp2_with fail
        refine C.out.mono ?_
        rintro e w1 ⟨rfl, hb⟩
        replace hb := hB.trans (hb.mono hB.size)
        go_wp2
        go_roundw
        case rel => exact ⟨k + 1, by omega, by go_num, hr, hb⟩
        case measure => simp [intOf]; omega
    · have hr : Hid (atV id xs 0 = -1) := by
        obtain rfl : k = n := by omega
        exact Lib.hid (HA.out.trans (atV_end xs k id (by rw [HL.out]; exact Nat.le_refl _)))
      go_wp2
      go_ret
      exact ⟨ret_i64' hr.out.symm, hB⟩

set_option maxRecDepth 100000 in
set_option maxHeartbeats 400000 in
theorem iEntryAt_any : CEntryAt 79 := by
  intro a n cap xs id w h
  have hmf : ∀ (fn : Fn) (first cap : Array Value) (w : World), (Instr.makeFunc fn first cap).run Try.prog w = .ok (.func fn first cap) w := fun _ _ _ _ => rfl
  have C := Lib.hid (iIndex_any a n cap xs id w.heap.size (w.alloc (.cells #[.int .i64 id] 3)) (h.below (new_below w _)) ((blk_new w _ _).1 0))
  have B := Lib.hid (new_below w (.cells #[.int .i64 id] 3))
  clear h
  go_enter Try.func79, Try.ntmps79
  go_wp2_with fail
  refine C.out.mono ?_
  rintro e w1 ⟨rfl, hb⟩
  replace hb := B.out.trans (hb.mono B.out.size)
  go_wp2
  go_ret
  exact ⟨rfl, hb⟩

set_option maxRecDepth 100000 in
set_option maxHeartbeats 800000 in
theorem iEqualE_any (a a' : Option Addr) (n n' cap cap' : Nat) (xs ys : List It) (w : World) (h : RdS itLay w a n cap xs) (h' : RdS itLay w a' n' cap' ys) :
    Calls Try.prog 55 #[.slice a n cap, .slice a' n' cap'] w fun e w' => e = .returned (.bool (sameV xs ys)) ∧ Below w.heap.size w w' := by
  have hm := h.1.2.2.1
  have hnc := h.1.2.1
  have hm' := h'.1.2.2.1
  have hnc' := h'.1.2.1
  unfold maxLen at hm hm'
  have HR := Lib.hid h
  have HL := Lib.hid h.1.1
  have HR' := Lib.hid h'
  have HL' := Lib.hid h'.1.1
  clear h h'
  by_cases hlen : n = n'
  · subst hlen
    go_enter Try.func55, Try.ntmps55
    go_wp2
    go_loopw [13] (fun i wr => ∃ k : Nat, k ≤ n ∧ i = .int .i64 k ∧ Hid (∀ (j : Nat) (x y : It), j < k → xs[j]? = some x → ys[j]? = some y → itEq x y = true) ∧ Below w.heap.size w wr) (fun i _ => n - (intOf i).toNat)
    case atStart => exact ⟨0, Nat.zero_le _, rfl, Lib.hid (fun j x y hj => by omega), Below.refl _ _⟩
    case round =>
      obtain ⟨k, hk, rfl, HA, hB⟩ := hrel
      by_cases hlt : k < n
      · obtain ⟨b, off, x, rfl, hbl, hx, d0, d1, d2, d3, d4⟩ := rdIt_at (HR.out.below hB) hlt
        obtain ⟨b', off', y, rfl, hbl', hy, p0, p1, p2, p3, p4⟩ := rdIt_at (HR'.out.below hB) hlt
        have HX := Lib.hid hx
        have HY := Lib.hid hy
        have z0 : (0 : Int) ≤ k := by omega
        have z1 : (k : Int) < n := by omega
        clear hx hy
        cases he : itEq x y with
        | true =>
          have hr : ∀ V, _ = _ := fun V => neEntry_run x y V
          rw [he] at hr
          simp only [Bool.not_true] at hr
          have HS : Hid (∀ (j : Nat) (x y : It), j < k + 1 → xs[j]? = some x → ys[j]? = some y → itEq x y = true) := Lib.hid (fun j x' y' hj h1 h2 => by
            by_cases hjk : j < k
            · exact HA.out j x' y' hjk h1 h2
            · obtain rfl : j = k := by omega
              rw [HX.out] at h1
              rw [HY.out] at h2
              obtain rfl : x = x' := by simpa using h1
              obtain rfl : y = y' := by simpa using h2
              exact he)
          clear he
          go_wp2
          go_region_with (fail)
          all_goals
            go_wp2
            go_roundw
            case rel => exact ⟨k + 1, by omega, by go_num, HS, by first | exact hB | exact hB.drew⟩
            case measure => simp [intOf]; omega
        | false =>
          have hr : ∀ V, _ = _ := fun V => neEntry_run x y V
          rw [he] at hr
          simp only [Bool.not_false] at hr
          have HF := Lib.hid (sameV_no HX.out HY.out he)
          clear he
          go_wp2
          go_region_with (fail)
          all_goals
            go_wp2
            go_ret
            exact ⟨ret_bool HF.out.symm, by first | exact hB | exact hB.drew⟩
      · have HF : Hid (sameV xs ys = true) := by
          obtain rfl : k = n := by omega
          exact Lib.hid (sameV_end (by rw [HL.out, HL'.out]) (fun j x y hj h1 h2 => HA.out j x y (by rw [← HL.out]; exact hj) h1 h2))
        go_wp2
        go_ret
        exact ⟨ret_bool HF.out.symm, hB⟩
  · have HF : Hid (sameV xs ys = false) := Lib.hid (sameV_len (by rw [HL.out, HL'.out]; exact hlen))
    have hne : ((n : Int) != (n' : Int)) = true := by rw [bne_iff_ne]; omega
    clear hlen
    go_enter Try.func55, Try.ntmps55
    go_wp2
    go_ret
    exact ⟨ret_bool HF.out.symm, Below.refl _ _⟩

set_option maxRecDepth 100000 in
set_option maxHeartbeats 800000 in
theorem iSameNode_any : CSameNode 20 := by
  intro c d a a' n n' cap cap' xs ys w h h'
  have B0 : Below w.heap.size w ((w.alloc (.cells #[.bool c, .slice a n cap] 26)).alloc (.cells #[.bool d, .slice a' n' cap'] 26)) := ((Below.refl _ _).alloc (Nat.le_refl _) _).alloc (by simp) _
  have C := Lib.hid (iEqualE_any a a' n n' cap cap' xs ys _ (h.below B0) (h'.below B0))
  clear h h'
  cases hcd : (c == d) with
  | true =>
    rw [Bool.true_and]
    replace B0 := Lib.hid B0
    go_enter Try.func20, Try.ntmps20
    go_wp2_with fail
    refine C.out.mono ?_
    rintro e w1 ⟨rfl, hb⟩
    replace hb := B0.out.trans (hb.mono B0.out.size)
    go_wp2
    go_ret
    exact ⟨rfl, hb⟩
  | false =>
    rw [Bool.false_and]
    go_enter Try.func20, Try.ntmps20
    go_wp2
    go_ret
    exact ⟨rfl, B0⟩
end Go.Proofs.Ytfgmjegemlkkkaa
