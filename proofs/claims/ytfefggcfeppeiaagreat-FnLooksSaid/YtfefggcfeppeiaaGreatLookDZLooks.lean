/- The model's search of a page and of what lies below it; Search; Visited. -/
import Derived.Test.YtfefggcfeppeiaaGreatLookD2ZLooks
import Derived.Test.YtfefggcfeppeiaaGreatLookYZLooks
namespace Go.Proofs.YtfefggcfeppeiaaGreat
open Go.RowKit
attribute [local go_sem ↓] Go.wp_at_zero Go.wp_at_succ

set_option maxRecDepth 100000 in
set_option maxHeartbeats 3200000 in
theorem l8Search_any (root : Int) (c : Bx) (a : Option Addr) (n cap : Nat) (ps : List PgV) (w0 : World) (h : RdP w0 a n cap ps) (hps : ∀ p ∈ ps, p.xs.length ≤ 4) : ∀ (f : Nat) (i : Int) (w : World), f ≤ 12 → Below w0.heap.size w0 w →
    Calls Tryz.prog 38 #[.agg #[.int .i64 root, .slice a n cap], .int .i64 i, .agg #[.int .i64 c.x0, .int .i64 c.y0, .int .i64 c.x1, .int .i64 c.y1], .int .i64 (13 - (f : Int))] w (RetS w.heap.size (hitsV (ps.map PgV.pg) c f i) (visV (ps.map PgV.pg) c f i).length w)
  | 0, i, w, hf, hB => by
    have B0 : Below w.heap.size w (((w.alloc (.cells #[.int .i64 root, .slice a n cap] 26)).alloc (.cells #[.int .i64 c.x0, .int .i64 c.y0, .int .i64 c.x1, .int .i64 c.y1] 28)).alloc (.cells #[] 47)) := (((Below.refl _ _).alloc (Nat.le_refl _) _).alloc (by simp) _).alloc (by simp; omega) _
    have O0 := Lib.hid (own_nil ((w.alloc (.cells #[.int .i64 root, .slice a n cap] 26)).alloc (.cells #[.int .i64 c.x0, .int .i64 c.y0, .int .i64 c.x1, .int .i64 c.y1] 28)) 47 5 w.heap.size (w.heap.size + 1 + 1) (by simp) (by omega))
    rw [show (13 : Int) - ((0 : Nat) : Int) = 13 by rfl]
    go_enter Tryz.func38, Tryz.ntmps38
    go_wp2
    refine bodyPost_ret (v := .tuple #[.slice (some ⟨w.heap.size + 1 + 1, 0, none⟩) 0 0, .int .i64 0]) (by simp [results, Tryz.results38, go_sem]) rfl ?_
    exact ⟨_, rfl, O0.out, B0⟩
  | f + 1, i, w, hf, hB => by
    obtain ⟨i0, hi0, hz0, hz1, hz2⟩ := info_parts Tryz.infoItem
    replace hi0 := Lib.hid hi0
    replace hz0 := Lib.hid hz0
    replace hz1 := Lib.hid hz1
    replace hz2 := Lib.hid hz2
    obtain ⟨d, hd⟩ : ∃ d : Int, d = 13 - ((f + 1 : Nat) : Int) := ⟨_, rfl⟩
    have hd1 : d ≤ 12 := by omega
    have hd0 : 1 ≤ d := by omega
    have hd2 : d + 1 = 13 - (f : Int) := by omega
    have LF := fun (m : Nat) (hmn : m < n) (p : PgV) (hp : ps[m]? = some p) (hu : p.used = true) (hlf : p.leaf = true) => l8_leaf root c a n cap ps w0 h hps f m w hf hB hmn p hp hu hlf
    have INN := fun (m : Nat) (hmn : m < n) (p : PgV) (hp : ps[m]? = some p) (hu : p.used = true) (hlf : p.leaf = false) => l8_inner root c a n cap ps w0 h hps f m w hf hB hmn p hp hu hlf (fun i w hw => l8Search_any root c a n cap ps w0 h hps f i w (by omega) hw)
    rw [← hd] at LF INN ⊢
    have HD := Lib.hid hd2
    have hnc := h.1.1.2.1
    have hm := h.1.1.2.2.1
    unfold maxLen at hm
    have HL := Lib.hid h.1.1.1
    obtain ⟨W0, hW0⟩ : ∃ W0, W0 = ((w.alloc (.cells #[.int .i64 root, .slice a n cap] 26)).alloc (.cells #[.int .i64 c.x0, .int .i64 c.y0, .int .i64 c.x1, .int .i64 c.y1] 28)).alloc (.cells #[] 47) := ⟨_, rfl⟩
    have b0 : Below w.heap.size w W0 := by subst hW0; exact (((Below.refl _ _).alloc (Nat.le_refl _) _).alloc (by simp) _).alloc (by simp; omega) _
    have K0 : Loc W0 w.heap.size #[.int .i64 root, .slice a n cap] := by subst hW0; exact ((Loc.new w _ _).alloc _).alloc _
    have KW : Loc W0 (w.heap.size + 1) #[.int .i64 c.x0, .int .i64 c.y0, .int .i64 c.x1, .int .i64 c.y1] := by
      subst hW0
      have := (Loc.new (w.alloc (.cells #[.int .i64 root, .slice a n cap] 26)) #[.int .i64 c.x0, .int .i64 c.y0, .int .i64 c.x1, .int .i64 c.y1] 28).alloc (.cells #[] 47)
      rwa [World.size_alloc] at this
    have O0 : OwnS itLay 47 W0 (w.heap.size + 1 + 1) (.slice (some ⟨w.heap.size + 1 + 1, 0, none⟩) 0 0) [] := by
      subst hW0
      exact own_nil ((w.alloc (.cells #[.int .i64 root, .slice a n cap] 26)).alloc (.cells #[.int .i64 c.x0, .int .i64 c.y0, .int .i64 c.x1, .int .i64 c.y1] 28)) 47 5 (w.heap.size + 1 + 1) (w.heap.size + 1 + 1) (by simp) (Nat.le_refl _)
    have HRB := Lib.hid hB
    have HRd := Lib.hid h
    have HO0 := Lib.hid O0
    have HB0 := Lib.hid b0
    have hr := h.below (hB.trans (b0.mono hB.size))
    have k1 := K0.2.1 1
    simp at k1
    clear h hB hps hd hd2
    by_cases hin : 0 ≤ i ∧ i ≤ (n : Int) - 1
    · obtain ⟨h0, h1⟩ := hin
      obtain ⟨m, rfl⟩ := Int.eq_ofNat_of_zero_le h0
      have z1 : (m : Int) < n := by omega
      have hmn : m < n := by omega
      obtain ⟨b, off, p, hpa, hbl, hp, hrd, d0, d1, d2⟩ := rdP_at hr (show m < n by omega)
      have hv : pageAt (ps.map PgV.pg) m = p.pg := pageAt_yes hp
      cases hu : p.used with
      | false =>
        have hr1 : visV (ps.map PgV.pg) c (f + 1) m = [] := vis_not (by rw [hv]; exact hu)
        have hr2 : hitsV (ps.map PgV.pg) c (f + 1) m = [] := by unfold hitsV; rw [hr1]; rfl
        rw [hr1, hr2]
        rw [hu] at d0
        subst hpa
        clear hv hr1 hr2 hp hrd hr K0 KW O0 LF INN
        go_enter Tryz.func38, Tryz.ntmps38
        go_wp2_with fail
        rw [← hW0]
        clear hW0
        refine (l1In_yes m 0 ((n : Int) - 1) _ h0 h1).mono ?_
        rintro e w2 ⟨rfl, rfl⟩
        go_wp2
        refine bodyPost_ret (v := .tuple #[.slice (some ⟨w.heap.size + 1 + 1, 0, none⟩) 0 0, .int .i64 0]) (by simp [results, Tryz.results38, go_sem]) rfl ?_
        exact ⟨_, rfl, OwnS.mono (L := itLay) HO0.out (by omega), HB0.out⟩
      | true =>
        cases hlf : p.leaf with
        | true => exact LF m hmn p hp hu hlf
        | false => exact INN m hmn p hp hu hlf
    · have hz : pageAt (ps.map PgV.pg) i = zeroPg := pageAt_no (by rw [List.length_map, HL.out]; exact hin)
      have hr1 : visV (ps.map PgV.pg) c (f + 1) i = [] := vis_not (by rw [hz]; rfl)
      have hr2 : hitsV (ps.map PgV.pg) c (f + 1) i = [] := by unfold hitsV; rw [hr1]; rfl
      rw [hr1, hr2]
      clear hz hr1 hr2 K0 KW O0 hr LF INN
      go_enter Tryz.func38, Tryz.ntmps38
      go_wp2_with fail
      rw [← hW0]
      clear hW0
      refine (l1In_no i 0 ((n : Int) - 1) _ hin).mono ?_
      rintro e w2 ⟨rfl, rfl⟩
      go_wp2
      refine bodyPost_ret (v := .tuple #[.slice (some ⟨w.heap.size + 1 + 1, 0, none⟩) 0 0, .int .i64 0]) (by simp [results, Tryz.results38, go_sem]) rfl ?_
      exact ⟨_, rfl, OwnS.mono (L := itLay) HO0.out (by omega), HB0.out⟩

set_option maxRecDepth 100000 in
set_option maxHeartbeats 3200000 in
theorem sSearch_any : CSearch 14 := by
  intro root c a n cap ps w h hn hp _
  obtain ⟨W0, hW0⟩ : ∃ W0, W0 = (w.alloc (.cells #[.int .i64 root, .slice a n cap] 26)).alloc (.cells #[.int .i64 c.x0, .int .i64 c.y0, .int .i64 c.x1, .int .i64 c.y1] 28) := ⟨_, rfl⟩
  have b0 : Below w.heap.size w W0 := by subst hW0; exact ((Below.refl _ _).alloc (Nat.le_refl _) _).alloc (by simp) _
  have K0 : Loc W0 w.heap.size #[.int .i64 root, .slice a n cap] := by subst hW0; exact (Loc.new w _ _).alloc _
  have KW : Loc W0 (w.heap.size + 1) #[.int .i64 c.x0, .int .i64 c.y0, .int .i64 c.x1, .int .i64 c.y1] := by
    subst hW0
    have := Loc.new (w.alloc (.cells #[.int .i64 root, .slice a n cap] 26)) #[.int .i64 c.x0, .int .i64 c.y0, .int .i64 c.x1, .int .i64 c.y1] 28
    rwa [World.size_alloc] at this
  have C := Lib.hid (sBookOk_any root a n cap ps W0 (h.below b0) (by omega) (fun p hq => Nat.le_trans (hp p hq) (by decide)))
  have HR := Lib.hid h
  cases hok : bookOkV (ps.map PgV.pg) root with
  | false =>
    have hv : searchV (ps.map PgV.pg) root c = [] := by unfold searchV; rw [hok]; rfl
    rw [hv]
    rw [hok] at C
    clear h hok hv hp
    go_enter Tryz.func14, Tryz.ntmps14
    go_wp2_with fail
    rw [← hW0]
    clear hW0
    refine C.out.mono ?_
    rintro e w1 ⟨rfl, b1⟩
    have HB := Lib.hid (b0.trans (b1.mono b0.size))
    have O1 := Lib.hid (own_nil w1 47 5 w.heap.size w1.heap.size rfl HB.out.size)
    clear K0 KW C b0 b1
    go_wp2
    go_ret
    exact ⟨_, rfl, O1.out, HB.out.trans (new_below w1 _ |>.mono HB.out.size)⟩
  | true =>
    have hv : searchV (ps.map PgV.pg) root c = hitsV (ps.map PgV.pg) c 12 root := by unfold searchV; rw [hok]; rfl
    have hlen : ∀ p ∈ ps, p.xs.length ≤ 4 := fun p hq => ok_len hok p.pg (List.mem_map_of_mem hq)
    rw [hv]
    rw [hok] at C
    clear hok hv hp
    have CS := Lib.hid (fun (V : World) (hV : Below W0.heap.size W0 V) => l8Search_any root c a n cap ps W0 (h.below b0) hlen 12 root V (Nat.le_refl _) hV)
    rw [show (13 : Int) - ((12 : Nat) : Int) = 1 by rfl] at CS
    clear h
    go_enter Tryz.func14, Tryz.ntmps14
    go_wp2_with fail
    rw [← hW0]
    clear hW0
    refine C.out.mono ?_
    rintro e w1 ⟨rfl, b1⟩
    have K1 := K0.below b1
    have KW1 := KW.below b1
    have y0 := K1.2.1 0
    have y1 := K1.2.1 1
    have x0 := KW1.2.1 0
    have x1 := KW1.2.1 1
    have x2 := KW1.2.1 2
    have x3 := KW1.2.1 3
    simp at y0 y1 x0 x1 x2 x3
    have CS1 := Lib.hid (CS.out w1 b1)
    have HB := Lib.hid (b0.trans (b1.mono b0.size))
    clear K0 KW K1 KW1 C b0 b1 CS
    go_wp2_with fail
    refine CS1.out.mono ?_
    rintro e w2 ⟨v2, rfl, o2, b2⟩
    have HB2 := Lib.hid (HB.out.trans (b2.mono HB.out.size))
    obtain ⟨a2, c2, rfl, -⟩ := OwnS.rd o2
    have hs := HB.out.size
    clear b2
    go_wp2
    go_ret
    exact ⟨_, rfl, OwnS.mono (L := itLay) o2 hs, HB2.out⟩

set_option maxRecDepth 100000 in
set_option maxHeartbeats 3200000 in
theorem sVisited_any : CVisited 23 := by
  intro root c a n cap ps w h hn hp _
  obtain ⟨W0, hW0⟩ : ∃ W0, W0 = (w.alloc (.cells #[.int .i64 root, .slice a n cap] 26)).alloc (.cells #[.int .i64 c.x0, .int .i64 c.y0, .int .i64 c.x1, .int .i64 c.y1] 28) := ⟨_, rfl⟩
  have b0 : Below w.heap.size w W0 := by subst hW0; exact ((Below.refl _ _).alloc (Nat.le_refl _) _).alloc (by simp) _
  have K0 : Loc W0 w.heap.size #[.int .i64 root, .slice a n cap] := by subst hW0; exact (Loc.new w _ _).alloc _
  have KW : Loc W0 (w.heap.size + 1) #[.int .i64 c.x0, .int .i64 c.y0, .int .i64 c.x1, .int .i64 c.y1] := by
    subst hW0
    have := Loc.new (w.alloc (.cells #[.int .i64 root, .slice a n cap] 26)) #[.int .i64 c.x0, .int .i64 c.y0, .int .i64 c.x1, .int .i64 c.y1] 28
    rwa [World.size_alloc] at this
  have C := Lib.hid (sBookOk_any root a n cap ps W0 (h.below b0) (by omega) (fun p hq => Nat.le_trans (hp p hq) (by decide)))
  have HR := Lib.hid h
  cases hok : bookOkV (ps.map PgV.pg) root with
  | false =>
    have hv : visitedV (ps.map PgV.pg) root c = 0 := by unfold visitedV; rw [hok]; rfl
    rw [hv]
    rw [hok] at C
    clear h hok hv hp
    go_enter Tryz.func23, Tryz.ntmps23
    go_wp2_with fail
    rw [← hW0]
    clear hW0
    refine C.out.mono ?_
    rintro e w1 ⟨rfl, b1⟩
    have HB := Lib.hid (b0.trans (b1.mono b0.size))
    clear K0 KW C b0 b1
    go_wp2
    go_ret
    exact ⟨rfl, HB.out⟩
  | true =>
    have hv : visitedV (ps.map PgV.pg) root c = (visV (ps.map PgV.pg) c 12 root).length := by unfold visitedV; rw [hok]; rfl
    have hlen : ∀ p ∈ ps, p.xs.length ≤ 4 := fun p hq => ok_len hok p.pg (List.mem_map_of_mem hq)
    rw [hv]
    rw [hok] at C
    clear hok hv hp
    have CS := Lib.hid (fun (V : World) (hV : Below W0.heap.size W0 V) => l8Search_any root c a n cap ps W0 (h.below b0) hlen 12 root V (Nat.le_refl _) hV)
    rw [show (13 : Int) - ((12 : Nat) : Int) = 1 by rfl] at CS
    clear h
    go_enter Tryz.func23, Tryz.ntmps23
    go_wp2_with fail
    rw [← hW0]
    clear hW0
    refine C.out.mono ?_
    rintro e w1 ⟨rfl, b1⟩
    have K1 := K0.below b1
    have KW1 := KW.below b1
    have y0 := K1.2.1 0
    have y1 := K1.2.1 1
    have x0 := KW1.2.1 0
    have x1 := KW1.2.1 1
    have x2 := KW1.2.1 2
    have x3 := KW1.2.1 3
    simp at y0 y1 x0 x1 x2 x3
    have CS1 := Lib.hid (CS.out w1 b1)
    have HB := Lib.hid (b0.trans (b1.mono b0.size))
    clear K0 KW K1 KW1 C b0 b1 CS
    go_wp2_with fail
    refine CS1.out.mono ?_
    rintro e w2 ⟨v2, rfl, o2, b2⟩
    have HB2 := Lib.hid (HB.out.trans (b2.mono HB.out.size))
    obtain ⟨a2, c2, rfl, -⟩ := OwnS.rd o2
    have hs := HB.out.size
    clear b2
    go_wp2
    go_ret
    exact ⟨rfl, HB2.out⟩
end Go.Proofs.YtfefggcfeppeiaaGreat
