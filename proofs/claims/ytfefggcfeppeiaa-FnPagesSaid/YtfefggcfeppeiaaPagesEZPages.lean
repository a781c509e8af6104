/- FnPages' DrawAlloc. -/
import Derived.Test.YtfefggcfeppeiaaPagesDZPages
namespace Go.Proofs.Ytfefggcfeppeiaa
open Go.RowKit

def lenS : Value → Nat
  | .slice _ n _ => n
  | _ => 0
/-- How long the list is that a book's box holds. -/
def lenW1 (b : Nat) (w : World) : Nat := match w.cell? ⟨b, 1, none⟩ with
  | some v => lenS v
  | none => 0
theorem lenW1_eq {b : Nat} {w : World} {u v : Value} (h : Loc w b #[u, v]) : lenW1 b w = lenS v := by
  have e := h.2.1 1
  simp at e
  unfold lenW1
  rw [e]
def usedPg : PgV := ⟨true, true, none, 0, 0, []⟩
/-- What the loop holds. -/
structure AlS (w : World) (G base : Nat) (root : Int) (a : Option Addr) (n c : Nat) (ps : List PgV) (V : World) : Prop where
  res : Loc V w.heap.size #[.int .i64 0, .slice none 0 0]
  tr : TagT 26 V w.heap.size
  bx : Loc V G #[.int .i64 root, .slice a n c]
  tb : TagT 26 V G
  own : OwnP V base (.slice a n c) ps
  len : ps.length = n
  fit : Fits 402 2000 (ps.map PgV.pg)
  below : Below w.heap.size w V
theorem fits_snoc {ps : List PgV} (h : Fits 402 2000 (ps.map PgV.pg)) (hl : ps.length < 48) : Fits 402 2000 ((ps ++ [usedPg]).map PgV.pg) := by
  refine ⟨by rw [List.length_map, List.length_append]; simp; omega, fun p hp => ?_⟩
  rw [List.map_append] at hp
  rcases List.mem_append.1 hp with hp | hp
  · exact h.2 p hp
  · obtain rfl : p = usedPg.pg := by simpa using hp
    exact Nat.zero_le _

set_option maxRecDepth 100000 in
set_option maxHeartbeats 1600000 in
theorem drawAlloc_any (C11 : L11Any) (A : Option Addr) (cap : Nat) (zs : List Int) (w : World) (h : RdI .u8 w A zs.length cap zs) (hz : ∀ z ∈ zs, 0 ≤ z ∧ z ≤ 255) (hn : zs.length ≤ 1048576) :
    Calls Try.prog 11 #[.slice A zs.length cap] w (NewBk 402 2000 w) := by
  obtain ⟨i0, hi, hz0, hz1, hz2⟩ := info_parts Try.infoPage
  replace hi := Lib.hid hi
  replace hz0 := Lib.hid hz0
  replace hz1 := Lib.hid hz1
  replace hz2 := Lib.hid hz2
  have B0 := new_below w (.cells #[.int .i64 0, .slice none 0 0] 26)
  have K0 := Lib.hid (Loc.new w #[.int .i64 0, .slice none 0 0] 26)
  have T0 := Lib.hid (TagT.new 26 w #[.int .i64 0, .slice none 0 0])
  have CN := Lib.hid (l1New_any A cap zs _ (h.below B0) hz hn)
  replace C11 := Lib.hid C11
  clear h hz
  go_enter Try.func11, Try.ntmps11
  go_wp2_with fail
  refine CN.out.mono ?_
  rintro e w1 ⟨g, rfl, cu, b1, hg⟩
  have s1 := b1.size
  simp at s1 hg
  have hb1 := B0.trans (b1.mono B0.size)
  have K1 := Lib.hid (K0.out.below b1)
  have T1 := Lib.hid (T0.out.of (b1.block _ K0.out.1))
  have CA := Lib.hid (C11.out g zs 16 w1 cu (by omega))
  have hgl := cur_lt cu
  clear cu b1 K0 T0
  go_wp2_with fail
  refine CA.out.mono ?_
  intro e w2 hd
  have hg2 : w.heap.size ≤ g := by omega
  obtain ⟨root, v, ps, rfl, hf, ho, hc, hw⟩ := hd
  obtain ⟨a, c, rfl⟩ := ho.shape
  obtain ⟨n, hn2⟩ : ∃ n, n = ps.length := ⟨_, rfl⟩
  rw [← hn2] at ho ⊢
  have s2 := hw.size
  obtain ⟨G, hG⟩ : ∃ G, G = w2.heap.size := ⟨_, rfl⟩
  obtain ⟨W3, hW3⟩ : ∃ W3, W3 = w2.alloc (.cells #[.int .i64 root, .slice a n c] 26) := ⟨_, rfl⟩
  have b3 : Below w2.heap.size w2 W3 := by subst hW3; exact new_below _ _
  have KG : Loc W3 G #[.int .i64 root, .slice a n c] := by subst hW3 hG; exact Loc.new _ _ _
  have TG : TagT 26 W3 G := by subst hW3 hG; exact TagT.new _ _ _
  have hgG : g < G := by omega
  obtain ⟨base, hbase⟩ : ∃ b, b = w1.heap.size := ⟨_, rfl⟩
  rw [← hbase] at ho hgl
  have hbw : w.heap.size ≤ base := by rw [hbase]; exact hb1.size
  have hbG : base ≤ G := by omega
  have S3 : AlS w G base root a n c ps W3 := ⟨(K1.out.grown hw (fun k e => by cases e; omega)).below b3, (T1.out.of (hw.block _ K1.out.1 (fun e => by have := Option.some.inj e; omega))).of (b3.block _ (by have := K1.out.1; omega)), KG, TG, ho.below b3, hn2.symm, hf, (hb1.grown hw hb1.size (fun k e => by cases e; exact hg2)).trans (b3.mono (by have := hb1.size; omega))⟩
  have CU3 := cur_kept hc (Below.toGrown b3 none) (fun k e => by cases e)
  have CB := Lib.hid (l1Once_any g zs 8 W3 CU3 (by omega))
  replace S3 := Lib.hid S3
  clear hw hc ho hb1 hf K1 T1 CA CN KG TG b3 CU3 hn2 hbase
  go_wp2_with fail
  rw [← hW3]
  clear hW3
  refine CB.out.mono ?_
  rintro e w4 ⟨x, rfl, -, g4⟩
  have S4 : Hid (AlS w G base root a n c ps w4) := by
    obtain ⟨k1, k2, k3, k4, k5, k6, k7, k8⟩ := S3.out
    exact Lib.hid ⟨k1.grown g4 (fun k e => by cases e; omega), k2.of (g4.block _ k1.1 (fun e => by have := Option.some.inj e; omega)), k3.grown g4 (fun k e => by cases e; omega), k4.of (g4.block _ k3.1 (fun e => by have := Option.some.inj e; omega)), ownP_grown k5 g4 (fun k e => by cases e; omega), k6, k7, k8.grown g4 k8.size (fun k e => by cases e; exact hg2)⟩
  rw [← hG]
  clear S3 g4 CB s2 hG
  cases x with
  | false =>
    have r0 := S4.out.res.2.1
    have b0 := S4.out.bx.2.1 0
    have b1 := S4.out.bx.2.1 1
    simp at b0 b1
    have f2 := S4.out.res.2.2
    go_wp2
    refine bodyPost_ret (v := .agg #[.int .i64 root, .slice a n c]) (by simp [results, Try.results11, go_sem, r0]) rfl ⟨root, _, ps, rfl, S4.out.fit, ?_, ?_⟩
    · exact (((S4.out.own.store S4.out.tr 0 _).store (S4.out.tr.set _ _ _) 1 _)).mono hbw
    · exact (S4.out.below.setCell (p := ⟨w.heap.size, 0, none⟩) (Nat.le_refl _) _).setCell (p := ⟨w.heap.size, 1, none⟩) (Nat.le_refl _) _
  | true =>
    go_wp2_with fail
    go_loopw [] (fun wr => ∃ (a : Option Addr) (n c : Nat) (ps : List PgV), Hid (AlS w G base root a n c ps wr)) (fun wr => 48 - lenW1 G wr)
    case atStart => exact ⟨_, _, _, _, S4⟩
    case round =>
      clear S4
      obtain ⟨a, n, c, ps, HS⟩ := hrel
      have b0 := HS.out.bx.2.1 0
      have b1 := HS.out.bx.2.1 1
      simp at b0 b1
      by_cases hlt : n < 48
      · have z1 : (n : Int) < 48 := by omega
        have fb := HS.out.bx.2.2 1
        have hrow : wr.ownsRow base 48 3 (.slice a n c) n (ps.flatMap pgLay.cells) := by
          have := HS.out.own.row
          unfold OwnS at this
          rw [HS.out.len] at this
          exact this
        have HR := Lib.hid hrow
        have hbs := HS.out.bx.1
        clear hrow
        go_wp2_with (at_builtin; refine wpList_append_new rfl (.tmp 16) (.tmp 19) 24 rfl base 48 i0 _ 3 40 Try.underlying24 hi.out hz0.out hz1.out hz2.out rfl (by decide) (.slice a n c) n (ps.flatMap pgLay.cells) rfl (World.ownsRow.alloc HR.out _) (some ⟨wr.heap.size, 0, none⟩) 1 1 [.bool true, .bool true, .slice none 0 0] rfl rfl (fun h => by cases h) ?_ (fun u hu => pgLay.one usedPg u hu) ?_ ?_ ?_ ?_)
        case refine_1 =>
          intro q hq
          cases hq
          exact World.news_of_block (cs := #[.bool true, .bool true, .slice none 0 0]) (t := 48) (fr := (0, 0)) (heap_alloc_new wr _)
        case refine_2 => unfold maxLen; omega
        case refine_3 => omega
        case refine_4 => first | omega | (simp; omega)
        intro v5 w5 o5 g5 f5
        obtain ⟨a5, c5, rfl⟩ := owns_shape o5
        have hal := new_below wr (.cells #[.bool true, .bool true, .slice none 0 0] 48)
        have HS5 : Hid (AlS w G base root a5 (n + 1) c5 (ps ++ [usedPg]) (w5.setCell ⟨G, 1, none⟩ (.slice a5 (n + 1) c5))) := by
          obtain ⟨k1, k2, k3, k4, k5, k6, k7, k8⟩ := HS.out
          have ne1 := k2.ne k5.row (by decide)
          have ne2 := k4.ne k5.row (by decide)
          have P5 := OwnP.snoc k5 hal (p := usedPg) (World.ownsRow_nil _ _ _ _) (fun g hg => by cases hg) (by rw [k6]; exact o5) g5
          have l5 := (k3.below hal).grown g5 ne2
          have t5 : TagT 26 w5 G := (k4.of (hal.block _ k3.1)).of (g5.block _ (by have := k3.1; simp; omega) (fun e => ne2 _ e.symm rfl))
          have q5 : TagT 26 w5 w.heap.size := (k2.of (hal.block _ k1.1)).of (g5.block _ (by have := k1.1; simp; omega) (fun e => ne1 _ e.symm rfl))
          have hbel := (k8.trans (hal.mono k8.size)).grown g5 (Nat.le_trans k8.size hal.size) (fun j hj => by have := (World.ownsRow.lt k5.row j hj).1; omega)
          refine Lib.hid ⟨((k1.below hal).grown g5 ne1).other 1 _ (by omega), q5.set _ _ _, ?_, t5.set _ _ _, P5.store t5 1 _, by rw [List.length_append, k6]; rfl, fits_snoc k7 (by omega), hbel.setCell (p := ⟨G, 1, none⟩) (by show w.heap.size ≤ G; omega) _⟩
          have := l5.set 1 (.slice a5 (n + 1) c5) (by simp)
          simpa using this
        have k5 := HS.out.bx.below hal
        have e5 : Loc w5 G #[.int .i64 root, .slice a n c] := k5.grown g5 (fun k e => (HS.out.tb.ne HS.out.own.row (by decide)) k e)
        have e50 := e5.2.1 1
        have e51 := e5.2.2 1
        simp at e50
        have HM := Lib.hid HS
        clear o5 g5 f5 hal k5 e5 b0 b1 fb HR HS
        go_wp2
        go_roundw
        case rel => exact ⟨a5, n + 1, c5, _, HS5⟩
        case measure =>
          rw [lenW1_eq HS5.out.bx, lenW1_eq HM.out.out.bx]
          simp only [lenS]
          omega
      · have r0 := HS.out.res.2.1
        have f2 := HS.out.res.2.2
        have z1 : ¬ (n : Int) < 48 := by omega
        go_wp2
        refine bodyPost_ret (v := .agg #[.int .i64 root, .slice a n c]) (by simp [results, Try.results11, go_sem, r0]) rfl ⟨root, _, ps, rfl, HS.out.fit, ?_, ?_⟩
        · exact (((HS.out.own.store HS.out.tr 0 _).store (HS.out.tr.set _ _ _) 1 _)).mono hbw
        · exact (HS.out.below.setCell (p := ⟨w.heap.size, 0, none⟩) (Nat.le_refl _) _).setCell (p := ⟨w.heap.size, 1, none⟩) (Nat.le_refl _) _
end Go.Proofs.Ytfefggcfeppeiaa
