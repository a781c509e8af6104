/- The model's Parted: the entries of an overfull node in two lists. -/
import Derived.Test.YtfefggcfeppeiaaFirstZPages
namespace Go.Proofs.Ytfefggcfeppeiaa
open Go.RowKit
attribute [local go_sem ↓] Go.wp_at_zero Go.wp_at_succ

/-- All but two. -/
def leftV (xs : List It) (i k : Nat) : List It := ((List.range xs.length).filter (fun j : Nat => decide (j ≠ i ∧ j ≠ k))).map (fun j : Nat => getI xs (j : Int))
/-- The rest is dealt out, one after another. -/
def partL : Nat → List It → List It → List It → List It × List It
  | 0, _, a, b => (a, b)
  | f + 1, left, a, b =>
    if left.length = 0 then (a, b)
    else if a.length + left.length = 2 then (a ++ left, b)
    else if b.length + left.length = 2 then (a, b ++ left)
    else
      if firstV a b (getI left (nextV left (boxesV a) (boxesV b))) then partL f (left.take (nextV left (boxesV a) (boxesV b)).toNat ++ left.drop ((nextV left (boxesV a) (boxesV b)).toNat + 1)) (a ++ [getI left (nextV left (boxesV a) (boxesV b))]) b
      else partL f (left.take (nextV left (boxesV a) (boxesV b)).toNat ++ left.drop ((nextV left (boxesV a) (boxesV b)).toNat + 1)) a (b ++ [getI left (nextV left (boxesV a) (boxesV b))])
def partedV (xs : List It) : List It × List It :=
  if xs.length < 2 then (xs, []) else partL (leftV xs (seedsV xs).1 (seedsV xs).2).length (leftV xs (seedsV xs).1 (seedsV xs).2) [getI xs (seedsV xs).1] [getI xs (seedsV xs).2]
/-- Two lists in new memory, apart. -/
def TwoLists (w : World) (p : List It × List It) (e : Ending) (w' : World) : Prop := ∃ v1 v2, e = .returned (.tuple #[v1, v2]) ∧ OwnS itLay 92 w' w.heap.size v1 p.1 ∧ OwnS itLay 92 w' w.heap.size v2 p.2 ∧ Apart v1 v2 ∧ Below w.heap.size w w'

theorem own_one (w : World) (base : Nat) (x : It) (hb : base ≤ w.heap.size) : OwnS itLay 92 (w.alloc (.cells #[.int .i64 x.id, .int .i64 x.x0, .int .i64 x.y0, .int .i64 x.x1, .int .i64 x.y1] 92)) base (.slice (some ⟨w.heap.size, 0, none⟩) 1 1) [x] :=
  World.ownsRow_lit (size := 5) w #[.int .i64 x.id, .int .i64 x.x0, .int .i64 x.y0, .int .i64 x.x1, .int .i64 x.y1] 1 hb (by simp [maxLen]) rfl
theorem own_zero (w : World) (base : Nat) (hb : base ≤ w.heap.size) : OwnS itLay 92 (w.alloc (.cells #[] 92)) base (.slice (some ⟨w.heap.size, 0, none⟩) 0 0) [] := own_nil w 92 5 base w.heap.size rfl hb
theorem left_more (xs : List It) (i k j : Nat) : ((List.range (j + 1)).filter (fun j : Nat => decide (j ≠ i ∧ j ≠ k))).map (fun j : Nat => getI xs (j : Int)) = ((List.range j).filter (fun j : Nat => decide (j ≠ i ∧ j ≠ k))).map (fun j : Nat => getI xs (j : Int)) ++ (if j ≠ i ∧ j ≠ k then [getI xs (j : Int)] else []) := by
  rw [List.range_succ, List.filter_append, List.map_append]
  congr 1
  by_cases h : j ≠ i ∧ j ≠ k
  · rw [if_pos h, List.filter_cons, if_pos (by simpa using h)]
    rfl
  · rw [if_neg h, List.filter_cons, if_neg (by simpa using h)]
    rfl
theorem ownS_blk {w : World} {base g n c : Nat} {e : TypeId} {v : Value} {xs : List It} (h : OwnS itLay e w base v xs) (hg : w.heap.size ≤ g) : Apart v (.slice (some ⟨g, 0, none⟩) n c) := by
  intro k h1 h2
  have h3 := (World.ownsRow.lt h k h1).2
  have h4 : g = k := by simpa [Value.ownBlock] using h2
  omega
theorem drop_news {w : World} {b off n c k : Nat} {xs : List It} (h : RdS itLay w (some ⟨b, off, none⟩) n c xs) (hc : ¬ c = k) (hk : k ≤ n) : ∀ p, some (⟨b, off + k * 5, none⟩ : Addr) = some p → ∀ j u, ((xs.drop k).flatMap itLay.cells)[j]? = some u → w.cell? (p.add j) = some u := by
  have h2 := (h.drop k hk).news
  rw [if_neg hc] at h2
  intro p hp
  exact h2 p (by rw [← hp]; simp [add_lit]; rfl)
theorem getI_at {xs : List It} {i : Nat} {x : It} (h : xs[i]? = some x) : getI xs (i : Int) = x := by unfold getI; rw [Int.toNat_natCast, h]; rfl

set_option maxRecDepth 100000 in
set_option maxHeartbeats 3200000 in
theorem sParted_any (la : Option Addr) (n cap : Nat) (xs : List It) (w : World) (h : RdS itLay w la n cap xs) (hn : n ≤ 1048576) :
    Calls Try.prog 150 #[.slice la n cap] w (TwoLists w (partedV xs)) := by
  obtain ⟨i0, hi0, hz0, hz1, hz2⟩ := info_parts Try.infoEntry
  replace hi0 := Lib.hid hi0
  replace hz0 := Lib.hid hz0
  replace hz1 := Lib.hid hz1
  replace hz2 := Lib.hid hz2
  have hm := h.1.2.2.1
  have hnc := h.1.2.1
  unfold maxLen at hm
  have HR := Lib.hid h
  have HL := Lib.hid h.1.1
  have CS := Lib.hid (sSeeds_any la n cap xs w h)
  by_cases h2 : n < 2
  · go_enter Try.func150, Try.ntmps150
    -- short
    have hp : Hid (partedV xs = (xs, [])) := Lib.hid (if_pos (by rw [HL.out]; exact h2))
    go_wp2_with (at_builtin; refine wpList_append_new rfl (.tmp 14) (.tmp 15) 30 rfl w.heap.size 92 i0 _ 5 40 Try.underlying30 hi0.out hz0.out hz1.out hz2.out rfl (by decide) (.slice (some ⟨w.heap.size, 0, none⟩) 0 0) 0 (([] : List It).flatMap itLay.cells) rfl (own_zero w w.heap.size (Nat.le_refl _)) la n cap (xs.flatMap itLay.cells) rfl (by rw [flat_len, HL.out]; rfl) (fun h => HR.out.nil h) (HR.out.alloc _).news (cells_one itLay xs) ?_ ?_ ?_ ?_)
    case refine_1 => unfold maxLen; omega
    case refine_2 => omega
    case refine_3 => simp
    intro v3 w3 o3 g3 f3
    obtain ⟨a3, c3, rfl⟩ := owns_shape o3
    have B3 := Lib.hid ((new_below w (.cells #[] 92)).grown g3 (by simp) (fun j hj => by cases hj; exact Nat.le_refl _))
    have O3 : Hid (OwnS itLay 92 w3 w.heap.size (.slice a3 n c3) xs) := by
      have := o3
      unfold OwnS
      rw [HL.out]
      exact Lib.hid this
    have t3 := World.ownsRow.lt O3.out
    clear o3 g3 f3
    go_wp2
    go_ret2
    rw [hp.out]
    refine ⟨_, _, rfl, OwnS.below O3.out (new_below w3 _), own_zero w3 w.heap.size B3.out.size, ?_, B3.out.alloc B3.out.size _⟩
    intro g h3 h4
    have h5 := (t3 g h3).2
    have h6 : w3.heap.size = g := by simpa [Value.ownBlock] using h4
    omega
  · obtain ⟨s, hs⟩ : ∃ s, seedsV xs = s := ⟨_, rfl⟩
    obtain ⟨i, k⟩ := s
    have hik := seedsV_ok (xs := xs) (by rw [HL.out]; omega)
    rw [hs] at hik
    rw [hs] at CS
    obtain ⟨hik1, hik2⟩ := hik
    have hik1 : i < k := hik1
    have hik2 : k < n := by have : k < xs.length := hik2; rw [HL.out] at this; exact this
    have z2 : ¬ (n : Int) < 2 := by omega
    have z3 : (i : Int) < n := by omega
    have z4 : (k : Int) < n := by omega
    go_enter Try.func150, Try.ntmps150
    go_wp2_with fail
    refine CS.out.mono ?_
    rintro e w1 ⟨rfl, b1⟩
    obtain ⟨bb, off, x, rfl, hbl, hx, d0, d1, d2, d3, d4⟩ := rdIt_at (HR.out.below b1) (show i < n by omega)
    obtain ⟨bb', off', y, ha, _, hy, e0, e1, e2, e3, e4⟩ := rdIt_at (HR.out.below b1) hik2
    cases ha
    have hx0 := HL.out
    have B1 := Lib.hid b1
    have hX := getI_at hx
    have hY := getI_at hy
    obtain ⟨lv, hlv⟩ : ∃ lv, leftV xs i k = lv := ⟨_, rfl⟩
    have hp : Hid (partedV xs = partL lv.length lv [x] [y]) := by
      show _ = _
      unfold partedV
      rw [if_neg (by rw [HL.out]; exact h2), hs]
      show partL (leftV xs i k).length (leftV xs i k) [getI xs (i : Int)] [getI xs (k : Int)] = _
      rw [hX, hY, hlv]
    have hlv2 : Hid (lv = ((List.range n).filter (fun j : Nat => decide (j ≠ i ∧ j ≠ k))).map (fun j : Nat => getI xs (j : Int))) := by
      show _ = _
      rw [← hlv]
      unfold leftV
      rw [HL.out]
    have OA := own_one w1 w.heap.size x b1.size
    have OB := own_one (w1.alloc (.cells #[.int .i64 x.id, .int .i64 x.x0, .int .i64 x.y0, .int .i64 x.x1, .int .i64 x.y1] 92)) w.heap.size y (by have := b1.size; simp; omega)
    obtain ⟨W3, hW3⟩ : ∃ W3, W3 = ((w1.alloc (.cells #[.int .i64 x.id, .int .i64 x.x0, .int .i64 x.y0, .int .i64 x.x1, .int .i64 x.y1] 92)).alloc (.cells #[.int .i64 y.id, .int .i64 y.x0, .int .i64 y.y0, .int .i64 y.x1, .int .i64 y.y1] 92)).alloc (.cells #[] 92) := ⟨_, rfl⟩
    have OL := own_zero ((w1.alloc (.cells #[.int .i64 x.id, .int .i64 x.x0, .int .i64 x.y0, .int .i64 x.x1, .int .i64 x.y1] 92)).alloc (.cells #[.int .i64 y.id, .int .i64 y.x0, .int .i64 y.y0, .int .i64 y.x1, .int .i64 y.y1] 92)) w.heap.size (by have := b1.size; simp; omega)
    replace OA := (OA.below (new_below _ (.cells #[.int .i64 y.id, .int .i64 y.x0, .int .i64 y.y0, .int .i64 y.x1, .int .i64 y.y1] 92))).below (new_below _ (.cells #[] 92))
    replace OB := OB.below (new_below _ (.cells #[] 92))
    have B3 : Below w.heap.size w W3 := by
      rw [hW3]
      have := b1.size
      exact ((b1.alloc b1.size _).alloc (by simp; omega) _).alloc (by simp; omega) _
    rw [← hW3] at OA OB OL
    rw [show (w1.alloc (.cells #[.int .i64 x.id, .int .i64 x.x0, .int .i64 x.y0, .int .i64 x.x1, .int .i64 x.y1] 92)).heap.size = w1.heap.size + 1 by simp] at OB
    rw [show ((w1.alloc (.cells #[.int .i64 x.id, .int .i64 x.x0, .int .i64 x.y0, .int .i64 x.x1, .int .i64 x.y1] 92)).alloc (.cells #[.int .i64 y.id, .int .i64 y.x0, .int .i64 y.y0, .int .i64 y.x1, .int .i64 y.y1] 92)).heap.size = w1.heap.size + 1 + 1 by simp] at OL
    have AAB : Apart (.slice (some ⟨w1.heap.size, 0, none⟩) 1 1) (.slice (some ⟨w1.heap.size + 1, 0, none⟩) 1 1) := fun g h3 h4 => by
      have e3 : w1.heap.size = g := by simpa [Value.ownBlock] using h3
      have e4 : w1.heap.size + 1 = g := by simpa [Value.ownBlock] using h4
      omega
    have ALA : Apart (.slice (some ⟨w1.heap.size + 1 + 1, 0, none⟩) 0 0) (.slice (some ⟨w1.heap.size, 0, none⟩) 1 1) := fun g h3 h4 => by
      have e3 : w1.heap.size + 1 + 1 = g := by simpa [Value.ownBlock] using h3
      have e4 : w1.heap.size = g := by simpa [Value.ownBlock] using h4
      omega
    have ALB : Apart (.slice (some ⟨w1.heap.size + 1 + 1, 0, none⟩) 0 0) (.slice (some ⟨w1.heap.size + 1, 0, none⟩) 1 1) := fun g h3 h4 => by
      have e3 : w1.heap.size + 1 + 1 = g := by simpa [Value.ownBlock] using h3
      have e4 : w1.heap.size + 1 = g := by simpa [Value.ownBlock] using h4
      omega
    obtain ⟨ga, hga⟩ : ∃ g, w1.heap.size = g := ⟨_, rfl⟩
    obtain ⟨gb, hgb⟩ : ∃ g, w1.heap.size + 1 = g := ⟨_, rfl⟩
    obtain ⟨gl, hgl⟩ : ∃ g, w1.heap.size + 1 + 1 = g := ⟨_, rfl⟩
    rw [hgl] at OL ALA ALB
    rw [hgb] at OB AAB ALB
    rw [hga] at OA AAB ALA
    replace OA := Lib.hid OA
    replace OB := Lib.hid OB
    replace OL := Lib.hid OL
    replace AAB := Lib.hid AAB
    replace ALA := Lib.hid ALA
    replace ALB := Lib.hid ALB
    replace B3 := Lib.hid B3
    replace hga := Lib.hid hga
    replace hgb := Lib.hid hgb
    replace hgl := Lib.hid hgl
    clear hs hlv hx hy hX hY h CS b1 hik1 hik2 B1 hx0
    go_wp2
    rw [← hW3, hgl.out, hgb.out, hga.out]
    clear hW3 hga hgb hgl d0 d1 d2 d3 d4 e0 e1 e2 e3 e4
    go_loopw [8, 9] (fun v vj wr => ∃ (j : Nat) (vl : Option Addr) (cl nl : Nat) (acc : List It), j ≤ n ∧ v = .slice vl nl cl ∧ vj = .int .i64 (j : Int) ∧ Hid (acc = ((List.range j).filter (fun j : Nat => decide (j ≠ i ∧ j ≠ k))).map (fun j : Nat => getI xs (j : Int))) ∧ Hid (acc.length = nl) ∧ nl ≤ j ∧ Hid (OwnS itLay 92 wr w.heap.size (.slice vl nl cl) acc) ∧ Hid (OwnS itLay 92 wr w.heap.size (.slice (some ⟨ga, 0, none⟩) 1 1) [x]) ∧ Hid (OwnS itLay 92 wr w.heap.size (.slice (some ⟨gb, 0, none⟩) 1 1) [y]) ∧ Hid (Apart (.slice vl nl cl) (.slice (some ⟨ga, 0, none⟩) 1 1)) ∧ Hid (Apart (.slice vl nl cl) (.slice (some ⟨gb, 0, none⟩) 1 1)) ∧ Hid (Below w.heap.size w wr)) (fun _ vj _ => n - (intOf vj).toNat)
    case atStart => exact ⟨0, _, _, 0, [], Nat.zero_le _, rfl, rfl, Lib.hid rfl, Lib.hid rfl, Nat.zero_le _, OL, OA, OB, ALA, ALB, B3⟩
    case round =>
      clear OL OA OB ALA ALB B3
      obtain ⟨j, vl, cl, nl, acc, hj, rfl, rfl, HACC, HNL, hnl, OL, OA, OB, ALA, ALB, HB⟩ := hrel
      by_cases hlt : j < n
      · have z5 : (j : Int) < n := by omega
        have hmore := left_more xs i k j
        rw [← HACC.out] at hmore
        by_cases hji : j = i ∨ j = k
        · have HS : Hid (acc = ((List.range (j + 1)).filter (fun j : Nat => decide (j ≠ i ∧ j ≠ k))).map (fun j : Nat => getI xs (j : Int))) := by
            show _ = _
            rw [hmore, if_neg (by omega), List.append_nil]
          clear hmore
          by_cases hj1 : j = i
          · have q1 : ((j : Int) != i) = false := by rw [bne_eq_false_iff_eq]; omega
            go_wp2
            go_roundw
            case rel => exact ⟨j + 1, vl, cl, nl, acc, by omega, rfl, by go_num, HS, HNL, by omega, OL, OA, OB, ALA, ALB, HB⟩
            case measure => simp [intOf]; omega
          · have q1 : ((j : Int) != i) = true := by rw [bne_iff_ne]; omega
            have q2 : ((j : Int) != k) = false := by rw [bne_eq_false_iff_eq]; omega
            go_wp2
            go_roundw
            case rel => exact ⟨j + 1, vl, cl, nl, acc, by omega, rfl, by go_num, HS, HNL, by omega, OL, OA, OB, ALA, ALB, HB⟩
            case measure => simp [intOf]; omega
        · have q1 : ((j : Int) != i) = true := by rw [bne_iff_ne]; omega
          have q2 : ((j : Int) != k) = true := by rw [bne_iff_ne]; omega
          obtain ⟨bb', off', u, ha, hbl, hu, d0, d1, d2, d3, d4⟩ := rdIt_at (HR.out.below HB.out) hlt
          cases ha
          have HS : Hid (acc ++ [u] = ((List.range (j + 1)).filter (fun j : Nat => decide (j ≠ i ∧ j ≠ k))).map (fun j : Nat => getI xs (j : Int))) := by
            show _ = _
            rw [hmore, if_pos (by omega), getI_at hu]
          clear hmore hu
          go_wp2_with (at_builtin; refine wpList_append_new rfl (.tmp 48) (.tmp 53) 30 rfl w.heap.size 92 i0 _ 5 40 Try.underlying30 hi0.out hz0.out hz1.out hz2.out rfl (by decide) (.slice vl nl cl) nl (acc.flatMap itLay.cells) rfl (World.ownsRow.alloc (ownS_rowN OL.out HNL.out) (.cells #[.int .i64 u.id, .int .i64 u.x0, .int .i64 u.y0, .int .i64 u.x1, .int .i64 u.y1] 92)) (some ⟨wr.heap.size, 0, none⟩) 1 1 (itLay.cells u) rfl rfl (fun h => by cases h) ?_ (itLay.one u) ?_ ?_ ?_ ?_)
          case refine_1 =>
            intro p hp
            cases hp
            exact World.news_of_block (cs := #[.int .i64 u.id, .int .i64 u.x0, .int .i64 u.y0, .int .i64 u.x1, .int .i64 u.y1]) (t := 92) (fr := (0, 0)) (heap_alloc_new wr _)
          case refine_2 => unfold maxLen; omega
          case refine_3 => omega
          case refine_4 => have := HB.out.size; simp; omega
          intro v4 w4 o4 g4 f4
          obtain ⟨a4, c4, rfl⟩ := owns_shape o4
          have b4 := new_below wr (.cells #[.int .i64 u.id, .int .i64 u.x0, .int .i64 u.y0, .int .i64 u.x1, .int .i64 u.y1] 92)
          have OA4 := Lib.hid ((OA.out.below b4).keptApart g4 ALA.out.symm)
          have OB4 := Lib.hid ((OB.out.below b4).keptApart g4 ALB.out.symm)
          have ALA4 := Lib.hid (From.apart f4 ALA.out (fun g hg => (World.ownsRow.lt (OA.out.below b4) g hg).2))
          have ALB4 := Lib.hid (From.apart f4 ALB.out (fun g hg => (World.ownsRow.lt (OB.out.below b4) g hg).2))
          have OL4 : Hid (OwnS itLay 92 w4 w.heap.size (.slice a4 (nl + 1) c4) (acc ++ [u])) := by
            have := o4
            unfold OwnS
            rw [List.length_append, HNL.out, List.flatMap_append]
            rw [show [u].flatMap itLay.cells = itLay.cells u by simp]
            exact Lib.hid this
          have HN4 : Hid ((acc ++ [u]).length = nl + 1) := by
            show _ = _
            rw [List.length_append, HNL.out]
            rfl
          have HB4 := Lib.hid ((HB.out.alloc HB.out.size (.cells #[.int .i64 u.id, .int .i64 u.x0, .int .i64 u.y0, .int .i64 u.x1, .int .i64 u.y1] 92)).grown g4 (by have := HB.out.size; simp; omega) (fun j hj => (World.ownsRow.lt OL.out j hj).1))
          clear o4 g4 f4 b4
          go_wp2
          go_roundw
          case rel => exact ⟨j + 1, a4, c4, nl + 1, _, by omega, rfl, by go_num, HS, HN4, by omega, OL4, OA4, OB4, ALA4, ALB4, HB4⟩
          case measure => simp [intOf]; omega
      · obtain rfl : j = n := by omega
        have hacc : acc = lv := by rw [HACC.out, hlv2.out]
        subst hacc
        clear HACC hlv2
        skip
        obtain ⟨tg, htg⟩ : ∃ tg, partL acc.length acc [x] [y] = tg := ⟨_, rfl⟩
        rw [htg] at hp
        go_wp2
        go_loopw [6, 7, 8] (fun va vb vl wr => ∃ (aa ab al : Option Addr) (ca cb cl na nb nl : Nat) (xa xb xl : List It), va = .slice aa na ca ∧ vb = .slice ab nb cb ∧ vl = .slice al nl cl ∧ Hid (xa.length = na) ∧ Hid (xb.length = nb) ∧ Hid (xl.length = nl) ∧ na + nb + nl ≤ 1048578 ∧ Hid (partL nl xl xa xb = tg) ∧ Hid (OwnS itLay 92 wr w.heap.size (.slice aa na ca) xa) ∧ Hid (OwnS itLay 92 wr w.heap.size (.slice ab nb cb) xb) ∧ Hid (OwnS itLay 92 wr w.heap.size (.slice al nl cl) xl) ∧ Hid (Apart (.slice aa na ca) (.slice ab nb cb)) ∧ Hid (Apart (.slice al nl cl) (.slice aa na ca)) ∧ Hid (Apart (.slice al nl cl) (.slice ab nb cb)) ∧ Hid (Below w.heap.size w wr)) (fun _ _ vl _ => (lenOf vl).toNat)
        case atStart => exact ⟨_, _, vl, 1, 1, cl, 1, 1, nl, [x], [y], acc, rfl, rfl, rfl, Lib.hid rfl, Lib.hid rfl, HNL, by omega, Lib.hid (by rw [← HNL.out]; exact htg), OA, OB, OL, AAB, ALA, ALB, HB⟩
        case round =>
          clear OL OA OB ALA ALB HB AAB HNL htg
          obtain ⟨aa, ab, al, ca, cb, cl, na, nb, nl, xa, xb, xl, rfl, rfl, rfl, HA, HBL, HLL, hsum, HT, OA, OB, OL, AAB, ALA, ALB, HB⟩ := hrel
          by_cases hz : nl = 0
          · subst hz
            have ht : Hid (tg = (xa, xb)) := by
              show tg = _
              rw [← HT.out]
              rfl
            go_wp2
            go_ret2
            rw [hp.out, ht.out]
            exact ⟨_, _, rfl, OA.out, OB.out, AAB.out, HB.out⟩
          · obtain ⟨f, rfl⟩ : ∃ f, nl = f + 1 := ⟨nl - 1, by omega⟩
            have z8 : (0 : Int) < ((f + 1 : Nat) : Int) := by omega
            have hT2 := HT.out
            rw [partL, if_neg (by rw [HLL.out]; omega), HA.out, HBL.out, HLL.out] at hT2
            by_cases hc1 : na + (f + 1) = 2
            · rw [if_pos hc1] at hT2
              have q1 : ((na : Int) + ((f + 1 : Nat) : Int) == 2) = true := by rw [beq_iff_eq]; omega
              replace hc1 := Lib.hid hc1
              replace hT2 := Lib.hid hT2
              have RL := Lib.hid (rdS_ownsP OL.out)
              go_wp2_with (at_builtin; refine wpList_append_new rfl (.tmp 64) (.tmp 65) 30 rfl w.heap.size 92 i0 _ 5 40 Try.underlying30 hi0.out hz0.out hz1.out hz2.out rfl (by decide) (.slice aa na ca) na (xa.flatMap itLay.cells) rfl (ownS_rowN OA.out HA.out) al (f + 1) cl (xl.flatMap itLay.cells) rfl (by rw [flat_len, HLL.out]; rfl) (fun h => RL.out.nil h) RL.out.news (cells_one itLay xl) ?_ ?_ ?_ ?_)
              case refine_1 => unfold maxLen; omega
              case refine_2 => omega
              case refine_3 => exact HB.out.size
              intro v4 w4 o4 g4 f4
              obtain ⟨a4, c4, rfl⟩ := owns_shape o4
              have OA4 : Hid (OwnS itLay 92 w4 w.heap.size (.slice a4 (na + (f + 1)) c4) (xa ++ xl)) := by
                have := o4
                unfold OwnS
                rw [List.length_append, HA.out, HLL.out, List.flatMap_append]
                exact Lib.hid this
              have OB4 := Lib.hid (OB.out.keptApart g4 AAB.out.symm)
              have AB4 := Lib.hid (From.apart f4 AAB.out (fun g hg => (World.ownsRow.lt OB.out g hg).2))
              have B4 := Lib.hid (HB.out.grown g4 HB.out.size (fun j hj => (World.ownsRow.lt OA.out j hj).1))
              clear o4 g4 f4
              go_wp2
              go_ret2
              rw [hp.out, ← hT2.out]
              exact ⟨_, _, rfl, OA4.out, OB4.out, AB4.out, B4.out⟩
            · rw [if_neg hc1] at hT2
              have q1 : ((na : Int) + ((f + 1 : Nat) : Int) == 2) = false := by rw [beq_eq_false_iff_ne]; omega
              by_cases hc2 : nb + (f + 1) = 2
              · rw [if_pos hc2] at hT2
                have q2 : ((nb : Int) + ((f + 1 : Nat) : Int) == 2) = true := by rw [beq_iff_eq]; omega
                replace hc2 := Lib.hid hc2
                replace hT2 := Lib.hid hT2
                have RL := Lib.hid (rdS_ownsP OL.out)
                go_wp2_with (at_builtin; refine wpList_append_new rfl (.tmp 75) (.tmp 76) 30 rfl w.heap.size 92 i0 _ 5 40 Try.underlying30 hi0.out hz0.out hz1.out hz2.out rfl (by decide) (.slice ab nb cb) nb (xb.flatMap itLay.cells) rfl (ownS_rowN OB.out HBL.out) al (f + 1) cl (xl.flatMap itLay.cells) rfl (by rw [flat_len, HLL.out]; rfl) (fun h => RL.out.nil h) RL.out.news (cells_one itLay xl) ?_ ?_ ?_ ?_)
                case refine_1 => unfold maxLen; omega
                case refine_2 => omega
                case refine_3 => exact HB.out.size
                intro v4 w4 o4 g4 f4
                obtain ⟨a4, c4, rfl⟩ := owns_shape o4
                have OB4 : Hid (OwnS itLay 92 w4 w.heap.size (.slice a4 (nb + (f + 1)) c4) (xb ++ xl)) := by
                  have := o4
                  unfold OwnS
                  rw [List.length_append, HBL.out, HLL.out, List.flatMap_append]
                  exact Lib.hid this
                have OA4 := Lib.hid (OA.out.keptApart g4 AAB.out)
                have AB4 := Lib.hid (From.apart f4 AAB.out.symm (fun g hg => (World.ownsRow.lt OA.out g hg).2)).symm
                have B4 := Lib.hid (HB.out.grown g4 HB.out.size (fun j hj => (World.ownsRow.lt OB.out j hj).1))
                clear o4 g4 f4
                go_wp2
                go_ret2
                rw [hp.out, ← hT2.out]
                exact ⟨_, _, rfl, OA4.out, OB4.out, AB4.out, B4.out⟩
              · rw [if_neg hc2] at hT2
                have q2 : ((nb : Int) + ((f + 1 : Nat) : Int) == 2) = false := by rw [beq_eq_false_iff_ne]; omega
                have RA := Lib.hid (rdS_ownsP OA.out)
                have RB := Lib.hid (rdS_ownsP OB.out)
                have RL := Lib.hid (rdS_ownsP OL.out)
                have hnr := nextV_range xl (boxesV xa) (boxesV xb) (fun h => by have := HLL.out; rw [h] at this; exact absurd this (by simp))
                obtain ⟨nx, hnx⟩ : ∃ nx, nextV xl (boxesV xa) (boxesV xb) = nx := ⟨_, rfl⟩
                rw [hnx] at hnr hT2
                obtain ⟨m, rfl⟩ := Int.eq_ofNat_of_zero_le hnr.1
                have hmf : m < f + 1 := by have := hnr.2; rw [HLL.out] at this; omega
                replace hT2 := Lib.hid hT2
                replace hnx := Lib.hid hnx
                have CN := fun V (bV : Below wr.heap.size wr V) => sNextOf_any al (f + 1) cl xl (boxesV xa) (boxesV xb) V (RL.out.below bV)
                rw [hnx.out] at CN
                replace CN := Lib.hid CN
                go_wp2_with fail
                refine (sBoxesOf_any aa na ca xa wr RA.out (by omega)).mono ?_
                rintro e w4 ⟨rfl, b4⟩
                go_wp2_with fail
                refine (sBoxesOf_any ab nb cb xb w4 (RB.out.below b4) (by omega)).mono ?_
                rintro e w5 ⟨rfl, b5⟩
                go_wp2_with fail
                refine (CN.out w5 (b4.trans (b5.mono b4.size))).mono ?_
                rintro e w6 ⟨rfl, b6⟩
                have b7 := (b4.trans (b5.mono b4.size)).trans (b6.mono (Nat.le_trans b4.size b5.size))
                clear b4 b5 b6 CN
                obtain ⟨lb, loff, u, hal, hlb, hu, d0, d1, d2, d3, d4⟩ := rdIt_at (RL.out.below b7) hmf
                have hg := getI_at hu
                have hT3 := hT2.out
                rw [hg] at hT3
                replace hT3 := Lib.hid hT3
                have CF := l10First_any aa ab na nb ca cb xa xb u w6 (RA.out.below b7) (RB.out.below b7) (by omega) (by omega)
                have z9 : (m : Int) < ((f + 1 : Nat) : Int) := by omega
                have z10 : (0 : Int) ≤ m := by omega
                subst hal
                have hln : Hid ((xl.take m ++ xl.drop (m + 1)).length = f) := Lib.hid (by rw [List.length_append, List.length_take, List.length_drop, HLL.out]; omega)
                cases hfv : firstV xa xb u with
                | true =>
                  rw [hfv] at CF
                  replace CF := Lib.hid CF
                  have hT4 := hT3.out
                  rw [if_pos hfv] at hT4
                  rw [Int.toNat_natCast] at hT4
                  replace hT4 := Lib.hid hT4
                  clear hfv
                  go_wp2_with fail
                  refine CF.out.mono ?_
                  rintro e w7 ⟨rfl, b8⟩
                  replace d0 := (b8.cell (p := ⟨lb, loff + m * 5, none⟩) hlb).trans d0
                  replace d1 := (b8.cell (p := ⟨lb, loff + m * 5 + 1, none⟩) hlb).trans d1
                  replace d2 := (b8.cell (p := ⟨lb, loff + m * 5 + 2, none⟩) hlb).trans d2
                  replace d3 := (b8.cell (p := ⟨lb, loff + m * 5 + 3, none⟩) hlb).trans d3
                  replace d4 := (b8.cell (p := ⟨lb, loff + m * 5 + 4, none⟩) hlb).trans d4
                  have b9 := b7.trans (b8.mono b7.size)
                  have hlb7 := Nat.lt_of_lt_of_le hlb b8.size
                  clear b7 b8 CF
                  have OA7 := Lib.hid (OA.out.below b9)
                  have OB7 := Lib.hid (OB.out.below b9)
                  have OL7 := Lib.hid (OL.out.below b9)
                  have B7 := Lib.hid (HB.out.trans (b9.mono HB.out.size))
                  clear b9 OA OB OL HB RA RB RL
                  go_wp2_with (at_builtin; refine wpList_append_new rfl (.tmp 91) (.tmp 96) 30 rfl w.heap.size 92 i0 _ 5 40 Try.underlying30 hi0.out hz0.out hz1.out hz2.out rfl (by decide) (.slice aa na ca) na (xa.flatMap itLay.cells) rfl (World.ownsRow.alloc (ownS_rowN OA7.out HA.out) (.cells #[.int .i64 u.id, .int .i64 u.x0, .int .i64 u.y0, .int .i64 u.x1, .int .i64 u.y1] 92)) (some ⟨w7.heap.size, 0, none⟩) 1 1 (itLay.cells u) rfl rfl (fun h => by cases h) ?_ (itLay.one u) ?_ ?_ ?_ ?_)
                  case refine_1 =>
                    intro p hp
                    cases hp
                    exact World.news_of_block (cs := #[.int .i64 u.id, .int .i64 u.x0, .int .i64 u.y0, .int .i64 u.x1, .int .i64 u.y1]) (t := 92) (fr := (0, 0)) (heap_alloc_new w7 _)
                  case refine_2 => unfold maxLen; omega
                  case refine_3 => omega
                  case refine_4 => have := B7.out.size; simp; omega
                  intro v8 w8 o8 g8 f8
                  obtain ⟨a8, c8, rfl⟩ := owns_shape o8
                  have b8 := new_below w7 (.cells #[.int .i64 u.id, .int .i64 u.x0, .int .i64 u.y0, .int .i64 u.x1, .int .i64 u.y1] 92)
                  have OB8 := Lib.hid ((OB7.out.below b8).keptApart g8 (AAB.out.symm))
                  have OL8 := Lib.hid ((OL7.out.below b8).keptApart g8 ALA.out)
                  have A8 := Lib.hid (From.apart f8 (AAB.out.symm).symm (fun g hg => (World.ownsRow.lt (OB7.out.below b8) g hg).2))
                  skip
                  have OA8 : Hid (OwnS itLay 92 w8 w.heap.size (.slice a8 (na + 1) c8) (xa ++ [u])) := by
                    have := o8
                    unfold OwnS
                    rw [List.length_append, HA.out, List.flatMap_append]
                    rw [show [u].flatMap itLay.cells = itLay.cells u by simp]
                    exact Lib.hid this
                  have HN8 : Hid ((xa ++ [u]).length = na + 1) := by
                    show _ = _
                    rw [List.length_append, HA.out]
                    rfl
                  have B8 := Lib.hid ((B7.out.alloc B7.out.size (.cells #[.int .i64 u.id, .int .i64 u.x0, .int .i64 u.y0, .int .i64 u.x1, .int .i64 u.y1] 92)).grown g8 (by have := B7.out.size; simp; omega) (fun j hj => (World.ownsRow.lt OA7.out j hj).1))
                  have hlb8 : lb < w8.heap.size := Nat.lt_of_lt_of_le hlb7 (Nat.le_trans b8.size g8.size)
                  clear o8 g8 f8 b8 OA7 OB7 OL7 B7 d0 d1 d2 d3 d4
                  have RL8 := Lib.hid (rdS_ownsP OL8.out)
                  have hcp := RL8.out.1.2.1
                  have BL := Lib.hid ((new_below w8 (.cells #[] 92)).trans (show Below w8.heap.size (w8.alloc (.cells #[] 92)) (w8.alloc (.cells #[] 92)).drew from (Below.refl _ _).drew))
                  have T8 := Lib.hid ((RL8.out.below BL.out).take m (by omega))
                  have Z8 := Lib.hid ((own_zero w8 w.heap.size B8.out.size).below (drew_below _))
                  have BD := Lib.hid (B8.out.trans (BL.out.mono B8.out.size))
                  have htl : (xl.take m).length = m := by rw [List.length_take, HLL.out]; omega
                  replace htl := Lib.hid htl
                  by_cases hcl : cl = m + 1
                  · obtain rfl : f = m := by omega
                    subst hcl
                    have y1 : (f : Int) ≤ (f : Int) + 1 := by omega
                    have y4 : (f : Int) + 1 ≤ (f : Int) + 1 := by omega
                    have y2 : IntKind.i64.wrap ((f : Int) + 1) = (f : Int) + 1 := by rw [IntKind.wrap_i64]; omega
                    have y3 : (0 : Int) ≤ (f : Int) + 1 := by omega
                    go_wp2_with fail
                    go_region_held3 (fun _ => True)
                      (trivial)
                      (first | (refine step_append_new rfl (.tmp 105) (.tmp 108) 30 rfl w.heap.size 92 i0 _ 5 40 Try.underlying30 hi0.out hz0.out hz1.out hz2.out rfl (by decide) (.slice (some ⟨w8.heap.size, 0, none⟩) 0 0) 0 (([] : List It).flatMap itLay.cells) rfl Z8.out (some ⟨lb, loff, none⟩) f (f + 1) ((xl.take f).flatMap itLay.cells) rfl (by rw [flat_len, htl.out]; rfl) (fun h => by cases h) T8.out.news (cells_one itLay _) (by unfold maxLen; omega) (by omega) (by have := BD.out.size; omega) ?_; intro v9 w9 o9' g9 f9; have o9 : w9.ownsRow w.heap.size 92 5 v9 f ((xl.take f).flatMap itLay.cells) := (by simpa using o9'); obtain ⟨a9, c9, rfl⟩ := owns_shape o9; have B9 := Lib.hid (BD.out.grown g9 BD.out.size (fun j hj => (World.ownsRow.lt Z8.out j hj).1)); have OL9 := Lib.hid ((OL8.out.below BL.out).keptApart g9 (ownS_blk OL8.out (Nat.le_refl _))); have R9 := Lib.hid (rdS_ownsP OL9.out)) | (refine step_append_new rfl (.tmp 109) (.tmp 113) 30 rfl w.heap.size 92 i0 _ 5 40 Try.underlying30 hi0.out hz0.out hz1.out hz2.out rfl (by decide) (.slice a9 f c9) f ((xl.take f).flatMap itLay.cells) rfl o9 (some ⟨lb, loff, none⟩) 0 0 (([] : List It).flatMap itLay.cells) rfl rfl (fun h => by cases h) (fun p hp j u hu => by simp at hu) (cells_one itLay _) (by unfold maxLen; omega) (by omega) B9.out.size ?_; intro v10 w10 o10 g10 f10; obtain ⟨a10, c10, rfl⟩ := owns_shape o10))
                    have OA9 := Lib.hid ((OA8.out.below BL.out).keptApart g9 (ownS_blk OA8.out (Nat.le_refl _)))
                    have OB9 := Lib.hid ((OB8.out.below BL.out).keptApart g9 (ownS_blk OB8.out (Nat.le_refl _)))
                    have F9 : From w8 (.slice none 0 0) (.slice a9 f c9) := fun g hg => .inr (by
                      rcases f9 g hg with h3 | h3
                      · have h4 : w8.heap.size = g := by simpa [Value.ownBlock] using h3
                        omega
                      · have := BL.out.size
                        omega)
                    have A9A : Apart (.slice a9 f c9) (.slice a8 (na + 1) c8) := F9.apart (fun g h3 _ => by cases h3) (fun g hg => (World.ownsRow.lt OA8.out g hg).2)
                    have A9B : Apart (.slice a9 f c9) (.slice ab nb cb) := F9.apart (fun g h3 _ => by cases h3) (fun g hg => (World.ownsRow.lt OB8.out g hg).2)
                    have OA10 := Lib.hid (OA9.out.keptApart g10 A9A.symm)
                    have OB10 := Lib.hid (OB9.out.keptApart g10 A9B.symm)
                    have ALA10 := Lib.hid (From.apart f10 A9A (fun g hg => (World.ownsRow.lt OA9.out g hg).2))
                    have ALB10 := Lib.hid (From.apart f10 A9B (fun g hg => (World.ownsRow.lt OB9.out g hg).2))
                    have B10 := Lib.hid (B9.out.grown g10 B9.out.size (fun j hj => (World.ownsRow.lt o9 j hj).1))
                    have hdr : Hid (xl.drop (f + 1) = []) := Lib.hid (List.drop_eq_nil_of_le (by rw [HLL.out]; omega))
                    have OL10 : Hid (OwnS itLay 92 w10 w.heap.size (.slice a10 f c10) (xl.take f ++ xl.drop (f + 1))) := by
                      have := o10
                      unfold OwnS
                      rw [hln.out, List.flatMap_append, hdr.out]
                      exact Lib.hid this
                    clear o10 g10 f10 g9 f9 o9 o9' F9 A9A A9B
                    go_wp2
                    go_roundw
                    case rel => exact ⟨a8, ab, a10, c8, cb, c10, na + 1, nb, f, _, xb, _, rfl, rfl, rfl, HN8, HBL, hln, by omega, hT4, OA10, OB10, OL10, A8, ALA10, ALB10, B10⟩
                    case measure => simp [lenOf]
                  · have y1 : (m : Int) ≤ (cl : Int) := by omega
                    have y4 : (m : Int) + 1 ≤ (f : Int) + 1 := by omega
                    have y4' : (m : Int) ≤ (f : Int) := by omega
                    have y5 : (f : Int) + 1 ≤ (cl : Int) := by omega
                    have y6 : ((f + 1 : Nat) : Int) ≤ (cl : Int) := by omega
                    have y7 : (m : Int) + 1 ≤ ((f + 1 : Nat) : Int) := by omega
                    have y2 : IntKind.i64.wrap ((m : Int) + 1) = (m : Int) + 1 := by rw [IntKind.wrap_i64]; omega
                    have y3 : (0 : Int) ≤ (m : Int) + 1 := by omega
                    go_wp2_with fail
                    go_region_held3 (fun _ => True)
                      (trivial)
                      (first | (refine step_append_new rfl (.tmp 105) (.tmp 108) 30 rfl w.heap.size 92 i0 _ 5 40 Try.underlying30 hi0.out hz0.out hz1.out hz2.out rfl (by decide) (.slice (some ⟨w8.heap.size, 0, none⟩) 0 0) 0 (([] : List It).flatMap itLay.cells) rfl Z8.out (some ⟨lb, loff, none⟩) m cl ((xl.take m).flatMap itLay.cells) rfl (by rw [flat_len, htl.out]; rfl) (fun h => by cases h) T8.out.news (cells_one itLay _) (by unfold maxLen; omega) (by omega) (by have := BD.out.size; omega) ?_; intro v9 w9 o9' g9 f9; have o9 : w9.ownsRow w.heap.size 92 5 v9 m ((xl.take m).flatMap itLay.cells) := (by simpa using o9'); obtain ⟨a9, c9, rfl⟩ := owns_shape o9; have B9 := Lib.hid (BD.out.grown g9 BD.out.size (fun j hj => (World.ownsRow.lt Z8.out j hj).1)); have OL9 := Lib.hid ((OL8.out.below BL.out).keptApart g9 (ownS_blk OL8.out (Nat.le_refl _))); have R9 := Lib.hid (rdS_ownsP OL9.out)) | (have D9 := drop_news R9.out hcl (by omega : m + 1 ≤ f + 1); refine step_append_new rfl (.tmp 109) (.tmp 113) 30 rfl w.heap.size 92 i0 _ 5 40 Try.underlying30 hi0.out hz0.out hz1.out hz2.out rfl (by decide) (.slice a9 m c9) m ((xl.take m).flatMap itLay.cells) rfl o9 (some ⟨lb, loff + (m + 1) * 5, none⟩) (f - m) (cl - (m + 1)) ((xl.drop (m + 1)).flatMap itLay.cells) rfl (by rw [flat_len, List.length_drop, HLL.out, Nat.add_sub_add_right]; rfl) (fun h => by cases h) D9 (cells_one itLay _) (by unfold maxLen; omega) (by omega) B9.out.size ?_; intro v10 w10 o10 g10 f10; rw [show m + (f - m) = f by omega] at o10; obtain ⟨a10, c10, rfl⟩ := owns_shape o10))
                    have OA9 := Lib.hid ((OA8.out.below BL.out).keptApart g9 (ownS_blk OA8.out (Nat.le_refl _)))
                    have OB9 := Lib.hid ((OB8.out.below BL.out).keptApart g9 (ownS_blk OB8.out (Nat.le_refl _)))
                    have F9 : From w8 (.slice none 0 0) (.slice a9 m c9) := fun g hg => .inr (by
                      rcases f9 g hg with h3 | h3
                      · have h4 : w8.heap.size = g := by simpa [Value.ownBlock] using h3
                        omega
                      · have := BL.out.size
                        omega)
                    have A9A : Apart (.slice a9 m c9) (.slice a8 (na + 1) c8) := F9.apart (fun g h3 _ => by cases h3) (fun g hg => (World.ownsRow.lt OA8.out g hg).2)
                    have A9B : Apart (.slice a9 m c9) (.slice ab nb cb) := F9.apart (fun g h3 _ => by cases h3) (fun g hg => (World.ownsRow.lt OB8.out g hg).2)
                    have OA10 := Lib.hid (OA9.out.keptApart g10 A9A.symm)
                    have OB10 := Lib.hid (OB9.out.keptApart g10 A9B.symm)
                    have ALA10 := Lib.hid (From.apart f10 A9A (fun g hg => (World.ownsRow.lt OA9.out g hg).2))
                    have ALB10 := Lib.hid (From.apart f10 A9B (fun g hg => (World.ownsRow.lt OB9.out g hg).2))
                    have B10 := Lib.hid (B9.out.grown g10 B9.out.size (fun j hj => (World.ownsRow.lt o9 j hj).1))
                    skip
                    have OL10 : Hid (OwnS itLay 92 w10 w.heap.size (.slice a10 f c10) (xl.take m ++ xl.drop (m + 1))) := by
                      have := o10
                      unfold OwnS
                      rw [hln.out, List.flatMap_append]
                      exact Lib.hid this
                    clear o10 g10 f10 g9 f9 o9 o9' F9 A9A A9B
                    go_wp2
                    go_roundw
                    case rel => exact ⟨a8, ab, a10, c8, cb, c10, na + 1, nb, f, _, xb, _, rfl, rfl, rfl, HN8, HBL, hln, by omega, hT4, OA10, OB10, OL10, A8, ALA10, ALB10, B10⟩
                    case measure => simp [lenOf]
                | false =>
                  rw [hfv] at CF
                  replace CF := Lib.hid CF
                  have hT4 := hT3.out
                  rw [if_neg (by rw [hfv]; exact Bool.false_ne_true)] at hT4
                  rw [Int.toNat_natCast] at hT4
                  replace hT4 := Lib.hid hT4
                  clear hfv
                  go_wp2_with fail
                  refine CF.out.mono ?_
                  rintro e w7 ⟨rfl, b8⟩
                  replace d0 := (b8.cell (p := ⟨lb, loff + m * 5, none⟩) hlb).trans d0
                  replace d1 := (b8.cell (p := ⟨lb, loff + m * 5 + 1, none⟩) hlb).trans d1
                  replace d2 := (b8.cell (p := ⟨lb, loff + m * 5 + 2, none⟩) hlb).trans d2
                  replace d3 := (b8.cell (p := ⟨lb, loff + m * 5 + 3, none⟩) hlb).trans d3
                  replace d4 := (b8.cell (p := ⟨lb, loff + m * 5 + 4, none⟩) hlb).trans d4
                  have b9 := b7.trans (b8.mono b7.size)
                  have hlb7 := Nat.lt_of_lt_of_le hlb b8.size
                  clear b7 b8 CF
                  have OA7 := Lib.hid (OA.out.below b9)
                  have OB7 := Lib.hid (OB.out.below b9)
                  have OL7 := Lib.hid (OL.out.below b9)
                  have B7 := Lib.hid (HB.out.trans (b9.mono HB.out.size))
                  clear b9 OA OB OL HB RA RB RL
                  go_wp2_with (at_builtin; refine wpList_append_new rfl (.tmp 98) (.tmp 103) 30 rfl w.heap.size 92 i0 _ 5 40 Try.underlying30 hi0.out hz0.out hz1.out hz2.out rfl (by decide) (.slice ab nb cb) nb (xb.flatMap itLay.cells) rfl (World.ownsRow.alloc (ownS_rowN OB7.out HBL.out) (.cells #[.int .i64 u.id, .int .i64 u.x0, .int .i64 u.y0, .int .i64 u.x1, .int .i64 u.y1] 92)) (some ⟨w7.heap.size, 0, none⟩) 1 1 (itLay.cells u) rfl rfl (fun h => by cases h) ?_ (itLay.one u) ?_ ?_ ?_ ?_)
                  case refine_1 =>
                    intro p hp
                    cases hp
                    exact World.news_of_block (cs := #[.int .i64 u.id, .int .i64 u.x0, .int .i64 u.y0, .int .i64 u.x1, .int .i64 u.y1]) (t := 92) (fr := (0, 0)) (heap_alloc_new w7 _)
                  case refine_2 => unfold maxLen; omega
                  case refine_3 => omega
                  case refine_4 => have := B7.out.size; simp; omega
                  intro v8 w8 o8 g8 f8
                  obtain ⟨a8, c8, rfl⟩ := owns_shape o8
                  have b8 := new_below w7 (.cells #[.int .i64 u.id, .int .i64 u.x0, .int .i64 u.y0, .int .i64 u.x1, .int .i64 u.y1] 92)
                  have OA8 := Lib.hid ((OA7.out.below b8).keptApart g8 (AAB.out))
                  have OL8 := Lib.hid ((OL7.out.below b8).keptApart g8 ALB.out)
                  have A8 := Lib.hid (From.apart f8 (AAB.out).symm (fun g hg => (World.ownsRow.lt (OA7.out.below b8) g hg).2))
                  skip
                  have OB8 : Hid (OwnS itLay 92 w8 w.heap.size (.slice a8 (nb + 1) c8) (xb ++ [u])) := by
                    have := o8
                    unfold OwnS
                    rw [List.length_append, HBL.out, List.flatMap_append]
                    rw [show [u].flatMap itLay.cells = itLay.cells u by simp]
                    exact Lib.hid this
                  have HN8 : Hid ((xb ++ [u]).length = nb + 1) := by
                    show _ = _
                    rw [List.length_append, HBL.out]
                    rfl
                  have B8 := Lib.hid ((B7.out.alloc B7.out.size (.cells #[.int .i64 u.id, .int .i64 u.x0, .int .i64 u.y0, .int .i64 u.x1, .int .i64 u.y1] 92)).grown g8 (by have := B7.out.size; simp; omega) (fun j hj => (World.ownsRow.lt OB7.out j hj).1))
                  have hlb8 : lb < w8.heap.size := Nat.lt_of_lt_of_le hlb7 (Nat.le_trans b8.size g8.size)
                  clear o8 g8 f8 b8 OA7 OB7 OL7 B7 d0 d1 d2 d3 d4
                  have RL8 := Lib.hid (rdS_ownsP OL8.out)
                  have hcp := RL8.out.1.2.1
                  have BL := Lib.hid ((new_below w8 (.cells #[] 92)).trans (show Below w8.heap.size (w8.alloc (.cells #[] 92)) (w8.alloc (.cells #[] 92)).drew from (Below.refl _ _).drew))
                  have T8 := Lib.hid ((RL8.out.below BL.out).take m (by omega))
                  have Z8 := Lib.hid ((own_zero w8 w.heap.size B8.out.size).below (drew_below _))
                  have BD := Lib.hid (B8.out.trans (BL.out.mono B8.out.size))
                  have htl : (xl.take m).length = m := by rw [List.length_take, HLL.out]; omega
                  replace htl := Lib.hid htl
                  by_cases hcl : cl = m + 1
                  · obtain rfl : f = m := by omega
                    subst hcl
                    have y1 : (f : Int) ≤ (f : Int) + 1 := by omega
                    have y4 : (f : Int) + 1 ≤ (f : Int) + 1 := by omega
                    have y2 : IntKind.i64.wrap ((f : Int) + 1) = (f : Int) + 1 := by rw [IntKind.wrap_i64]; omega
                    have y3 : (0 : Int) ≤ (f : Int) + 1 := by omega
                    go_wp2_with fail
                    go_region_held3 (fun _ => True)
                      (trivial)
                      (first | (refine step_append_new rfl (.tmp 105) (.tmp 108) 30 rfl w.heap.size 92 i0 _ 5 40 Try.underlying30 hi0.out hz0.out hz1.out hz2.out rfl (by decide) (.slice (some ⟨w8.heap.size, 0, none⟩) 0 0) 0 (([] : List It).flatMap itLay.cells) rfl Z8.out (some ⟨lb, loff, none⟩) f (f + 1) ((xl.take f).flatMap itLay.cells) rfl (by rw [flat_len, htl.out]; rfl) (fun h => by cases h) T8.out.news (cells_one itLay _) (by unfold maxLen; omega) (by omega) (by have := BD.out.size; omega) ?_; intro v9 w9 o9' g9 f9; have o9 : w9.ownsRow w.heap.size 92 5 v9 f ((xl.take f).flatMap itLay.cells) := (by simpa using o9'); obtain ⟨a9, c9, rfl⟩ := owns_shape o9; have B9 := Lib.hid (BD.out.grown g9 BD.out.size (fun j hj => (World.ownsRow.lt Z8.out j hj).1)); have OL9 := Lib.hid ((OL8.out.below BL.out).keptApart g9 (ownS_blk OL8.out (Nat.le_refl _))); have R9 := Lib.hid (rdS_ownsP OL9.out)) | (refine step_append_new rfl (.tmp 109) (.tmp 113) 30 rfl w.heap.size 92 i0 _ 5 40 Try.underlying30 hi0.out hz0.out hz1.out hz2.out rfl (by decide) (.slice a9 f c9) f ((xl.take f).flatMap itLay.cells) rfl o9 (some ⟨lb, loff, none⟩) 0 0 (([] : List It).flatMap itLay.cells) rfl rfl (fun h => by cases h) (fun p hp j u hu => by simp at hu) (cells_one itLay _) (by unfold maxLen; omega) (by omega) B9.out.size ?_; intro v10 w10 o10 g10 f10; obtain ⟨a10, c10, rfl⟩ := owns_shape o10))
                    have OA9 := Lib.hid ((OA8.out.below BL.out).keptApart g9 (ownS_blk OA8.out (Nat.le_refl _)))
                    have OB9 := Lib.hid ((OB8.out.below BL.out).keptApart g9 (ownS_blk OB8.out (Nat.le_refl _)))
                    have F9 : From w8 (.slice none 0 0) (.slice a9 f c9) := fun g hg => .inr (by
                      rcases f9 g hg with h3 | h3
                      · have h4 : w8.heap.size = g := by simpa [Value.ownBlock] using h3
                        omega
                      · have := BL.out.size
                        omega)
                    have A9A : Apart (.slice a9 f c9) (.slice aa na ca) := F9.apart (fun g h3 _ => by cases h3) (fun g hg => (World.ownsRow.lt OA8.out g hg).2)
                    have A9B : Apart (.slice a9 f c9) (.slice a8 (nb + 1) c8) := F9.apart (fun g h3 _ => by cases h3) (fun g hg => (World.ownsRow.lt OB8.out g hg).2)
                    have OA10 := Lib.hid (OA9.out.keptApart g10 A9A.symm)
                    have OB10 := Lib.hid (OB9.out.keptApart g10 A9B.symm)
                    have ALA10 := Lib.hid (From.apart f10 A9A (fun g hg => (World.ownsRow.lt OA9.out g hg).2))
                    have ALB10 := Lib.hid (From.apart f10 A9B (fun g hg => (World.ownsRow.lt OB9.out g hg).2))
                    have B10 := Lib.hid (B9.out.grown g10 B9.out.size (fun j hj => (World.ownsRow.lt o9 j hj).1))
                    have hdr : Hid (xl.drop (f + 1) = []) := Lib.hid (List.drop_eq_nil_of_le (by rw [HLL.out]; omega))
                    have OL10 : Hid (OwnS itLay 92 w10 w.heap.size (.slice a10 f c10) (xl.take f ++ xl.drop (f + 1))) := by
                      have := o10
                      unfold OwnS
                      rw [hln.out, List.flatMap_append, hdr.out]
                      exact Lib.hid this
                    clear o10 g10 f10 g9 f9 o9 o9' F9 A9A A9B
                    go_wp2
                    go_roundw
                    case rel => exact ⟨aa, a8, a10, ca, c8, c10, na, nb + 1, f, xa, _, _, rfl, rfl, rfl, HA, HN8, hln, by omega, hT4, OA10, OB10, OL10, (Lib.hid A8.out.symm), ALA10, ALB10, B10⟩
                    case measure => simp [lenOf]
                  · have y1 : (m : Int) ≤ (cl : Int) := by omega
                    have y4 : (m : Int) + 1 ≤ (f : Int) + 1 := by omega
                    have y4' : (m : Int) ≤ (f : Int) := by omega
                    have y5 : (f : Int) + 1 ≤ (cl : Int) := by omega
                    have y6 : ((f + 1 : Nat) : Int) ≤ (cl : Int) := by omega
                    have y7 : (m : Int) + 1 ≤ ((f + 1 : Nat) : Int) := by omega
                    have y2 : IntKind.i64.wrap ((m : Int) + 1) = (m : Int) + 1 := by rw [IntKind.wrap_i64]; omega
                    have y3 : (0 : Int) ≤ (m : Int) + 1 := by omega
                    go_wp2_with fail
                    go_region_held3 (fun _ => True)
                      (trivial)
                      (first | (refine step_append_new rfl (.tmp 105) (.tmp 108) 30 rfl w.heap.size 92 i0 _ 5 40 Try.underlying30 hi0.out hz0.out hz1.out hz2.out rfl (by decide) (.slice (some ⟨w8.heap.size, 0, none⟩) 0 0) 0 (([] : List It).flatMap itLay.cells) rfl Z8.out (some ⟨lb, loff, none⟩) m cl ((xl.take m).flatMap itLay.cells) rfl (by rw [flat_len, htl.out]; rfl) (fun h => by cases h) T8.out.news (cells_one itLay _) (by unfold maxLen; omega) (by omega) (by have := BD.out.size; omega) ?_; intro v9 w9 o9' g9 f9; have o9 : w9.ownsRow w.heap.size 92 5 v9 m ((xl.take m).flatMap itLay.cells) := (by simpa using o9'); obtain ⟨a9, c9, rfl⟩ := owns_shape o9; have B9 := Lib.hid (BD.out.grown g9 BD.out.size (fun j hj => (World.ownsRow.lt Z8.out j hj).1)); have OL9 := Lib.hid ((OL8.out.below BL.out).keptApart g9 (ownS_blk OL8.out (Nat.le_refl _))); have R9 := Lib.hid (rdS_ownsP OL9.out)) | (have D9 := drop_news R9.out hcl (by omega : m + 1 ≤ f + 1); refine step_append_new rfl (.tmp 109) (.tmp 113) 30 rfl w.heap.size 92 i0 _ 5 40 Try.underlying30 hi0.out hz0.out hz1.out hz2.out rfl (by decide) (.slice a9 m c9) m ((xl.take m).flatMap itLay.cells) rfl o9 (some ⟨lb, loff + (m + 1) * 5, none⟩) (f - m) (cl - (m + 1)) ((xl.drop (m + 1)).flatMap itLay.cells) rfl (by rw [flat_len, List.length_drop, HLL.out, Nat.add_sub_add_right]; rfl) (fun h => by cases h) D9 (cells_one itLay _) (by unfold maxLen; omega) (by omega) B9.out.size ?_; intro v10 w10 o10 g10 f10; rw [show m + (f - m) = f by omega] at o10; obtain ⟨a10, c10, rfl⟩ := owns_shape o10))
                    have OA9 := Lib.hid ((OA8.out.below BL.out).keptApart g9 (ownS_blk OA8.out (Nat.le_refl _)))
                    have OB9 := Lib.hid ((OB8.out.below BL.out).keptApart g9 (ownS_blk OB8.out (Nat.le_refl _)))
                    have F9 : From w8 (.slice none 0 0) (.slice a9 m c9) := fun g hg => .inr (by
                      rcases f9 g hg with h3 | h3
                      · have h4 : w8.heap.size = g := by simpa [Value.ownBlock] using h3
                        omega
                      · have := BL.out.size
                        omega)
                    have A9A : Apart (.slice a9 m c9) (.slice aa na ca) := F9.apart (fun g h3 _ => by cases h3) (fun g hg => (World.ownsRow.lt OA8.out g hg).2)
                    have A9B : Apart (.slice a9 m c9) (.slice a8 (nb + 1) c8) := F9.apart (fun g h3 _ => by cases h3) (fun g hg => (World.ownsRow.lt OB8.out g hg).2)
                    have OA10 := Lib.hid (OA9.out.keptApart g10 A9A.symm)
                    have OB10 := Lib.hid (OB9.out.keptApart g10 A9B.symm)
                    have ALA10 := Lib.hid (From.apart f10 A9A (fun g hg => (World.ownsRow.lt OA9.out g hg).2))
                    have ALB10 := Lib.hid (From.apart f10 A9B (fun g hg => (World.ownsRow.lt OB9.out g hg).2))
                    have B10 := Lib.hid (B9.out.grown g10 B9.out.size (fun j hj => (World.ownsRow.lt o9 j hj).1))
                    skip
                    have OL10 : Hid (OwnS itLay 92 w10 w.heap.size (.slice a10 f c10) (xl.take m ++ xl.drop (m + 1))) := by
                      have := o10
                      unfold OwnS
                      rw [hln.out, List.flatMap_append]
                      exact Lib.hid this
                    clear o10 g10 f10 g9 f9 o9 o9' F9 A9A A9B
                    go_wp2
                    go_roundw
                    case rel => exact ⟨aa, a8, a10, ca, c8, c10, na, nb + 1, f, xa, _, _, rfl, rfl, rfl, HA, HN8, hln, by omega, hT4, OA10, OB10, OL10, (Lib.hid A8.out.symm), ALA10, ALB10, B10⟩
                    case measure => simp [lenOf]
end Go.Proofs.Ytfefggcfeppeiaa
