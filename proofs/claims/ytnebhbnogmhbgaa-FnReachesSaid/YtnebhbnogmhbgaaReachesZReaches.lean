/- FnReaches. -/
import Derived.Test.YtnebhbnogmhbgaaAnyL11ZReaches
import Derived.Test.YtnebhbnogmhbgaaBigZReaches
import Derived.Test.YtnebhbnogmhbgaaBookI9ZReaches
import Derived.Test.YtnebhbnogmhbgaaBookI3ZReaches
namespace Go.Proofs.Ytnebhbnogmhbgaa
open Go.RowKit

/-- What l11Any answers. -/
def L11Any : Prop := ∀ (g : Nat) (zs : List Int) (most : Int) (w : World), Cur g zs w → 0 ≤ most ∧ most ≤ 30 → Calls Try.prog 54 #[.pointer (some ⟨g, 0, none⟩), .int .i64 most] w (DrawnBook g zs 402 2000 w)
/-- A drawn book in new memory. -/
def NewBk (N B : Nat) (w : World) (e : Ending) (w' : World) : Prop := ∃ (root : Int) (v : Value) (ps : List PgV), e = .returned (.agg #[.int .i64 root, v]) ∧ Fits N B (ps.map PgV.pg) ∧ OwnP w' w.heap.size v ps ∧ Below w.heap.size w w'
theorem newBk {w w1 w2 : World} {g : Nat} {zs : List Int} {N B : Nat} {e : Ending} (hb : Below w.heap.size w w1) (hg : w.heap.size ≤ g) (h : DrawnBook g zs N B w1 e w2) : NewBk N B w e w2 := by
  obtain ⟨root, v, ps, he, hf, ho, hc, hw⟩ := h
  exact ⟨root, v, ps, he, hf, ho.mono hb.size, hb.grown hw hb.size (fun k e => by cases e; exact hg)⟩

set_option maxRecDepth 100000 in
set_option maxHeartbeats 800000 in
theorem drawReach_any (C11 : L11Any) (A : Option Addr) (cap : Nat) (zs : List Int) (w : World) (h : RdI .u8 w A zs.length cap zs) (hz : ∀ z ∈ zs, 0 ≤ z ∧ z ≤ 255) (hn : zs.length ≤ 1048576) :
    Calls Try.prog 32 #[.slice A zs.length cap] w (NewBk 402 2000 w) := by
  have B0 := new_below w (.cells #[.int .i64 0, .slice none 0 0] 26)
  have K0 := Lib.hid (Loc.new w #[.int .i64 0, .slice none 0 0] 26)
  have T0 := Lib.hid (TagT.new 26 w #[.int .i64 0, .slice none 0 0])
  have CN := Lib.hid (l1New_any A cap zs _ (h.below B0) hz hn)
  replace C11 := Lib.hid C11
  clear h hz
  go_enter Try.func32, Try.ntmps32
  go_wp2_with fail
  refine CN.out.mono ?_
  rintro e w1 ⟨g, rfl, cu, b1, hg⟩
  have s1 := b1.size
  simp at s1 hg
  have hb1 := B0.trans (b1.mono B0.size)
  have K1 := Lib.hid (K0.out.below b1)
  have T1 := Lib.hid (T0.out.of (b1.block _ K0.out.1))
  have CA := Lib.hid (C11.out g zs 30 w1 cu (by omega))
  clear cu b1 K0 T0
  go_wp2_with fail
  refine CA.out.mono ?_
  intro e w2 hd
  have hg2 : w.heap.size ≤ g := by omega
  obtain ⟨root, v, ps, rfl, hf, ho, hc, hw⟩ := hd
  obtain ⟨a, c, rfl⟩ := ho.shape
  have K2 := K1.out.grown hw (fun k e => by cases e; omega)
  have T2 := T1.out.of (hw.block _ K1.out.1 (fun e => by have := Option.some.inj e; omega))
  have HO := Lib.hid ho
  have HB := Lib.hid (hb1.grown hw hb1.size (fun k e => by cases e; exact hg2))
  have hw1 := hb1.size
  obtain ⟨hl, k2, f2⟩ := K2
  clear hw hc ho hb1
  go_wp2
  refine bodyPost_ret (v := .agg #[.int .i64 root, .slice a ps.length c]) (by simp [results, Try.results32, go_sem, k2]) rfl ⟨root, _, ps, rfl, hf, ?_, ?_⟩
  · exact (((HO.out.store T2 0 _).store (T2.set _ _ _) 1 _)).mono hw1
  · exact (HB.out.setCell (p := ⟨w.heap.size, 0, none⟩) (Nat.le_refl _) _).setCell (p := ⟨w.heap.size, 1, none⟩) (Nat.le_refl _) _

set_option maxRecDepth 100000 in
set_option maxHeartbeats 800000 in
theorem drawBookOk_any (C11 : L11Any) (A : Option Addr) (cap : Nat) (zs : List Int) (w : World) (h : RdI .u8 w A zs.length cap zs) (hz : ∀ z ∈ zs, 0 ≤ z ∧ z ≤ 255) (hn : zs.length ≤ 1048576) :
    Calls Try.prog 34 #[.slice A zs.length cap] w (NewBk 402 2000 w) := by
  have B0 := new_below w (.cells #[.int .i64 0, .slice none 0 0] 26)
  have K0 := Lib.hid (Loc.new w #[.int .i64 0, .slice none 0 0] 26)
  have T0 := Lib.hid (TagT.new 26 w #[.int .i64 0, .slice none 0 0])
  have CN := Lib.hid (l1New_any A cap zs _ (h.below B0) hz hn)
  replace C11 := Lib.hid C11
  clear h hz
  go_enter Try.func34, Try.ntmps34
  go_wp2_with fail
  refine CN.out.mono ?_
  rintro e w1 ⟨g, rfl, cu, b1, hg⟩
  have s1 := b1.size
  simp at s1 hg
  have hb1 := B0.trans (b1.mono B0.size)
  have K1 := Lib.hid (K0.out.below b1)
  have T1 := Lib.hid (T0.out.of (b1.block _ K0.out.1))
  have CA := Lib.hid (C11.out g zs 20 w1 cu (by omega))
  clear cu b1 K0 T0
  go_wp2_with fail
  refine CA.out.mono ?_
  intro e w2 hd
  have hg2 : w.heap.size ≤ g := by omega
  obtain ⟨root, v, ps, rfl, hf, ho, hc, hw⟩ := hd
  obtain ⟨a, c, rfl⟩ := ho.shape
  have K2 := K1.out.grown hw (fun k e => by cases e; omega)
  have T2 := T1.out.of (hw.block _ K1.out.1 (fun e => by have := Option.some.inj e; omega))
  have HO := Lib.hid ho
  have HB := Lib.hid (hb1.grown hw hb1.size (fun k e => by cases e; exact hg2))
  have hw1 := hb1.size
  obtain ⟨hl, k2, f2⟩ := K2
  clear hw hc ho hb1
  go_wp2
  refine bodyPost_ret (v := .agg #[.int .i64 root, .slice a ps.length c]) (by simp [results, Try.results34, go_sem, k2]) rfl ⟨root, _, ps, rfl, hf, ?_, ?_⟩
  · exact (((HO.out.store T2 0 _).store (T2.set _ _ _) 1 _)).mono hw1
  · exact (HB.out.setCell (p := ⟨w.heap.size, 0, none⟩) (Nat.le_refl _) _).setCell (p := ⟨w.heap.size, 1, none⟩) (Nat.le_refl _) _

set_option maxRecDepth 100000 in
set_option maxHeartbeats 800000 in
theorem sameInts_yes (a b : Option Addr) (n c1 c2 : Nat) (zs : List Int) (w : World) (h : RdI .i64 w a n c1 zs) (h' : RdI .i64 w b n c2 zs) :
    Calls Try.prog 35 #[.slice a n c1, .slice b n c2] w fun e w' => e = .returned (.bool true) ∧ Below w.heap.size w w' := by
  have hm := h.1.2.2.1
  have hnc := h.1.2.1
  have hnc' := h'.1.2.1
  unfold maxLen at hm
  have HR := Lib.hid h
  have HR' := Lib.hid h'
  clear h h'
  go_enter Try.func35, Try.ntmps35
  go_wp2
  go_loopw [5] (fun i wr => ∃ k : Nat, k ≤ n ∧ i = .int .i64 k ∧ Below w.heap.size w wr) (fun i _ => n - (intOf i).toNat)
  case atStart => exact ⟨0, Nat.zero_le _, rfl, Below.refl _ _⟩
  case round =>
    obtain ⟨k, hk, rfl, hB⟩ := hrel
    by_cases hlt : k < n
    · obtain ⟨x, off, rfl, hc⟩ := (HR.out.below hB).2 (by omega)
      obtain ⟨x', off', rfl, hc'⟩ := (HR'.out.below hB).2 (by omega)
      have e1 := hc k hlt
      have e2 := hc' k hlt
      obtain ⟨y, hy⟩ : ∃ y, zs.getD k 0 = y := ⟨_, rfl⟩
      rw [hy] at e1 e2
      have z0 : (0 : Int) ≤ k := by omega
      have z1 : (k : Int) < n := by omega
      clear hc hc' hy
      go_wp2
      go_big_region
      go_wp2
      go_roundw
      case rel => exact ⟨k + 1, by omega, by go_num, by first | exact hB | exact hB.drew⟩
      case measure => simp [intOf]; omega
    · go_wp2
      go_ret
      exact ⟨rfl, hB⟩

theorem reach_head (l : List Pg) (root : Int) : reachV l root = [] ∨ ∃ t, reachV l root = root :: t := by
  cases hu : (pageAt l root).used with
  | false => exact .inl (reach_none hu)
  | true =>
    right
    unfold reachV
    rw [walkV_succ, hu]
    show ∃ t, (kidsP (pageAt l root)).foldl _ ([] ++ [root]) = root :: t
    have h1 := (reach_ok l root).1
    exact fold_inv (P := fun acc => OutOk l acc ∧ ∃ t, acc = root :: t) _ _ ⟨(outOk_nil l).snoc (used_in hu) rfl, [], rfl⟩ (fun acc x _ hp => by
      obtain ⟨h2, t, rfl⟩ := hp
      obtain ⟨h3, t', e⟩ := walkV_ok l _ x.id _ h2
      exact ⟨h3, t ++ t', by rw [e]; rfl⟩) |>.2
theorem reach_page {ps : List PgV} {root : Int} {k : Nat} (h : k < (reachV (ps.map PgV.pg) root).length) : ∃ m : Nat, (reachV (ps.map PgV.pg) root).getD k 0 = (m : Int) ∧ m < ps.length ∧ ∃ p, ps[m]? = some p ∧ p.used = true := by
  have hx : (reachV (ps.map PgV.pg) root)[k] ∈ reachV (ps.map PgV.pg) root := List.getElem_mem h
  have hu := reach_used hx
  have hb := used_in hu
  have e : (reachV (ps.map PgV.pg) root).getD k 0 = (reachV (ps.map PgV.pg) root)[k] := by simp [h]
  rw [e]
  obtain ⟨x, hxx⟩ : ∃ x, x = (reachV (ps.map PgV.pg) root)[k] := ⟨_, rfl⟩
  rw [← hxx] at hu hb ⊢
  rw [List.length_map] at hb
  have hm : ((x.toNat : Nat) : Int) = x := by omega
  have hl : x.toNat < ps.length := by omega
  have hp : ps[x.toNat]? = some ps[x.toNat] := List.getElem?_eq_getElem hl
  rw [← hm, pageAt_yes hp] at hu
  exact ⟨x.toNat, hm.symm, hl, _, hp, hu⟩
theorem reach_ne {l : List Pg} {root : Int} {j k : Nat} (hj : j < k) (h : k < (reachV l root).length) : (reachV l root).getD j 0 ≠ (reachV l root).getD k 0 := by
  have h1 := List.pairwise_iff_getElem.1 (reach_ok l root).1 j k (by omega) h hj
  have hj2 : j < (reachV l root).length := by omega
  simpa [h, hj2] using h1
theorem reach_first {l : List Pg} {root : Int} (h : 0 < (reachV l root).length) : (reachV l root).getD 0 0 = root := by
  rcases reach_head l root with h1 | ⟨t, h1⟩
  · rw [h1] at h; cases h
  · rw [h1]; rfl
theorem newOk : bookOkV [⟨true, true, []⟩] 0 = true := by decide

set_option maxRecDepth 100000 in
set_option maxHeartbeats 6400000 in
theorem fnReaches_walk (C11 : L11Any) (A : Option Addr) (len cap : Nat) (zs : List Int) (w : World) (h : RdI .u8 w A len cap zs) (hz : ∀ z ∈ zs, 0 ≤ z ∧ z ≤ 255) :
    Calls Try.prog 4 #[.slice A len cap] w fun e w' => e = .returned (.bool true) ∧ Below w.heap.size w w' := by
  have hln := h.1.1
  subst hln
  by_cases hn : zs.length ≤ 1048576
  · have CD := Lib.hid (drawReach_any C11 A cap zs w h hz hn)
    have CE := Lib.hid (fun (V : World) (b : Below w.heap.size w V) => drawBookOk_any C11 A cap zs V (h.below b) hz hn)
    clear h hz C11
    go_enter Try.func4, Try.ntmps4
    go_wp2_with fail
    refine (big_no A _ cap _ hn).mono ?_
    rintro e w1 ⟨rfl, rfl⟩
    go_wp2_with fail
    refine CD.out.mono ?_
    rintro e w1 ⟨root, v, ps, rfl, HF, o1, b1⟩
    obtain ⟨a, c, rfl⟩ := o1.shape
    obtain ⟨n, hn1⟩ : ∃ n, n = ps.length := ⟨_, rfl⟩
    rw [← hn1] at o1 ⊢
    obtain ⟨G, hG⟩ : ∃ G, G = w1.heap.size := ⟨_, rfl⟩
    obtain ⟨w2, hw2⟩ : ∃ w2, w2 = w1.alloc (.cells #[.int .i64 root, .slice a n c] 26) := ⟨_, rfl⟩
    have b2 : Below w1.heap.size w1 w2 := by subst hw2; exact new_below _ _
    have KG : Hid (Loc w2 G #[.int .i64 root, .slice a n c]) := by subst hw2 hG; exact Lib.hid (Loc.new _ _ _)
    have HP := Lib.hid (o1.below b2).rd
    have HB2 := Lib.hid (b1.trans (b2.mono b1.size))
    have hnb : n ≤ 402 := by have := HF.1; rw [List.length_map] at this; omega
    have hpn : ∀ p ∈ ps, p.n ≤ 2000 := fun p hp => by
      have h1 := HF.2 p.pg (List.mem_map_of_mem hp)
      have h2 : p.xs.length = p.n := (o1.rd.2 p hp).1.1
      have h3 : p.pg.xs.length = p.xs.length := rfl
      omega
    have hT : totG (ps.map PgV.pg) ≤ 1099511627776 := by
      have h1 := totG_cap (ps.map PgV.pg) HF.2
      have h2 := HF.1
      have h3 : (ps.map PgV.pg).length * 2000 ≤ 402 * 2000 := Nat.mul_le_mul_right _ h2
      omega
    have CR := Lib.hid (fun (V : World) (b : Below w2.heap.size w2 V) => iReach_any root a n c ps V (HP.out.below b) (by omega) (fun p hp => by have := hpn p hp; omega) hT)
    have CRS := Lib.hid (fun (V : World) (b : Below w2.heap.size w2 V) => sReach_any root a n c ps V (HP.out.below b) (by omega))
    have kg0 := KG.out.2.1 0
    have kg1 := KG.out.2.1 1
    simp at kg0 kg1
    replace hG := Lib.hid hG
    replace hn1 := Lib.hid hn1
    clear b1 b2 o1 hpn hT CD
    go_upto_region 4 with (fail)
    rw [← hw2]
    try rw [← hG.out]
    clear hw2
    go_wp2_with fail
    refine (CR.out w2 (Below.refl _ _)).mono ?_
    rintro e w3 ⟨v3, rfl, o3, b3⟩
    obtain ⟨r, hr⟩ : ∃ r, r = reachV (ps.map PgV.pg) root := ⟨_, rfl⟩
    rw [← hr] at o3
    obtain ⟨a3, c3, rfl, -⟩ := Own.rd o3
    obtain ⟨nr, hnr⟩ : ∃ nr, nr = r.length := ⟨_, rfl⟩
    rw [← hnr] at o3 ⊢
    have KG3 := Lib.hid (KG.out.below b3)
    have O3 := Lib.hid o3
    have HB3 := Lib.hid (HB2.out.trans (b3.mono HB2.out.size))
    have b3h := Lib.hid b3
    replace hr := Lib.hid hr
    replace hnr := Lib.hid hnr
    have CE3 := Lib.hid (CE.out w3 HB3.out)
    clear b3 o3 kg0 kg1 CE CR KG
    go_wp2_with fail
    refine CE3.out.mono ?_
    rintro e w4 ⟨rt2, v4, os, rfl, HF4, o4, b4⟩
    obtain ⟨a2, c2, rfl⟩ := o4.shape
    obtain ⟨n2, hn2⟩ : ∃ n2, n2 = os.length := ⟨_, rfl⟩
    rw [← hn2] at o4 ⊢
    obtain ⟨G2, hG2⟩ : ∃ G2, G2 = w4.heap.size := ⟨_, rfl⟩
    obtain ⟨w5, hw5⟩ : ∃ w5, w5 = w4.alloc (.cells #[.int .i64 rt2, .slice a2 n2 c2] 26) := ⟨_, rfl⟩
    have b5 : Below w4.heap.size w4 w5 := by subst hw5; exact new_below _ _
    have KH : Hid (Loc w5 G2 #[.int .i64 rt2, .slice a2 n2 c2]) := by subst hw5 hG2; exact Lib.hid (Loc.new _ _ _)
    have b35 : Below w3.heap.size w3 w5 := b4.trans (b5.mono b4.size)
    have b25 : Below w2.heap.size w2 w5 := b3h.out.trans (b35.mono b3h.out.size)
    have KG5 := Lib.hid (KG3.out.below b35)
    have O5 := Lib.hid (Own.below O3.out b35)
    have HB5 := Lib.hid (HB3.out.trans (b35.mono HB3.out.size))
    have HO5 := Lib.hid (o4.below b5).rd
    have HP5 := Lib.hid (HP.out.below b25)
    have hnb2 : n2 ≤ 402 := by have := HF4.1; rw [List.length_map] at this; omega
    have hpn2 : ∀ p ∈ os, p.n ≤ 2000 := fun p hp => by
      have h1 := HF4.2 p.pg (List.mem_map_of_mem hp)
      have h2 : p.xs.length = p.n := (o4.rd.2 p hp).1.1
      have h3 : p.pg.xs.length = p.xs.length := rfl
      omega
    have hT2 : totG (os.map PgV.pg) ≤ 1099511627776 := by
      have h1 := totG_cap (os.map PgV.pg) HF4.2
      have h2 := HF4.1
      have h3 : (os.map PgV.pg).length * 2000 ≤ 402 * 2000 := Nat.mul_le_mul_right _ h2
      omega
    obtain ⟨ok, hok⟩ : ∃ ok, bookOkV (os.map PgV.pg) rt2 = ok := ⟨_, rfl⟩
    have CBI := Lib.hid (show ∀ V, Below w5.heap.size w5 V → Calls Try.prog 37 #[.agg #[.int .i64 rt2, .slice a2 n2 c2]] V (RetB ok V) from fun V b => by
      rw [← hok]
      exact iBookOk_any rt2 a2 n2 c2 os V (HO5.out.below b) (by omega) (fun p hp => by have := hpn2 p hp; omega) hT2)
    have CBS := Lib.hid (show ∀ V, Below w5.heap.size w5 V → Calls Try.prog 38 #[.agg #[.int .i64 rt2, .slice a2 n2 c2]] V (RetB ok V) from fun V b => by
      rw [← hok]
      exact sBookOk_any rt2 a2 n2 c2 os V (HO5.out.below b) (by omega) (fun p hp => by have := hpn2 p hp; omega))
    have CRS5 := Lib.hid (show ∀ V, Below w5.heap.size w5 V → Calls Try.prog 36 #[.agg #[.int .i64 root, .slice a n c]] V (RetI r V) from fun V b => by
      rw [hr.out]
      exact CRS.out V (b25.trans (b.mono b25.size)))
    have CSM := Lib.hid (show ∀ (a6 : Option Addr) (c6 : Nat) (V : World), Below w5.heap.size w5 V → RdI .i64 V a6 r.length c6 r → Calls Try.prog 35 #[.slice a3 nr c3, .slice a6 r.length c6] V (fun e w' => e = .returned (.bool true) ∧ Below V.heap.size V w') from fun a6 c6 V b h6 => by
      obtain ⟨a3', c3', ev, rd⟩ := Own.rd (Own.below O5.out b)
      obtain ⟨rfl, e2, rfl⟩ : a3 = a3' ∧ nr = r.length ∧ c3 = c3' := by simpa using ev
      rw [e2]
      exact sameInts_yes a3 a6 r.length c3 c6 r V rd h6)
    have CNW := Lib.hid (fun V : World => iBookNew_any V)
    have CNB := Lib.hid (show ∀ (a9 : Option Addr) (c9 : Nat) (p9 : List PgV) (V : World), RdP V a9 p9.length c9 p9 → p9.map PgV.pg = [⟨true, true, []⟩] → Calls Try.prog 37 #[.agg #[.int .i64 0, .slice a9 p9.length c9]] V (RetB true V) from fun a9 c9 p9 V h9 e9 => by
      have hl9 : p9.length = 1 := by have := congrArg List.length e9; simpa using this
      have h10 := iBookOk_any 0 a9 p9.length c9 p9 V h9 (by omega) (fun p hp => by
        have h1 : p.pg = ⟨true, true, []⟩ := by
          have := List.mem_map_of_mem (f := PgV.pg) hp
          rw [e9] at this
          exact List.mem_singleton.1 this
        have h2 : p.xs.length = p.n := (h9.2 p hp).1.1
        have h3 : p.pg.xs = p.xs := rfl
        rw [h1] at h3
        rw [← h2, ← h3]
        exact Nat.zero_le _) (by rw [e9]; decide)
      rw [e9, newOk] at h10
      exact h10)
    have kk := KG5.out.2.1
    have kk0 := kk 0
    have kk1 := kk 1
    simp at kk0 kk1
    have kh := KH.out.2.1
    have kh0 := kh 0
    have kh1 := kh 1
    simp at kh0 kh1
    have hg5 : G < w5.heap.size := KG5.out.1
    have hg52 : G2 < w5.heap.size := KH.out.1
    have KS := Lib.hid (show ∀ V, Below w5.heap.size w5 V → (fun V => V.cell? ⟨G, 0, none⟩ = some (.int .i64 root) ∧ V.cell? ⟨G, 1, none⟩ = some (.slice a n c) ∧ V.cell? ⟨G2, 0, none⟩ = some (.int .i64 rt2) ∧ V.cell? ⟨G2, 1, none⟩ = some (.slice a2 n2 c2)) V from fun V b => ⟨(b.cell (p := ⟨G, 0, none⟩) hg5).trans kk0, (b.cell (p := ⟨G, 1, none⟩) hg5).trans kk1, (b.cell (p := ⟨G2, 0, none⟩) hg52).trans kh0, (b.cell (p := ⟨G2, 1, none⟩) hg52).trans kh1⟩)
    replace hok := Lib.hid hok
    replace hn2 := Lib.hid hn2
    replace hG2 := Lib.hid hG2
    replace CRS := CRS5
    clear CRS5 b4 b5 b35 b25 o4 hpn2 hT2 KG3 O3 HB3 b3h HP CE3 HF4 kk kh HB2
    go_upto_region 6 with (fail)
    rw [← hw5]
    try rw [← hG2.out]
    clear hw5
    go_cut [32] (fun v V => v = .bool false ∧ Below w5.heap.size w5 V)
    case first => as_aux_lemma =>
      refine wp_region_noPanic ?_
      refine wp_region_held_drew (S := fun V => V.cell? ⟨G, 0, none⟩ = some (.int .i64 root) ∧ V.cell? ⟨G, 1, none⟩ = some (.slice a n c) ∧ V.cell? ⟨G2, 0, none⟩ = some (.int .i64 rt2) ∧ V.cell? ⟨G2, 1, none⟩ = some (.slice a2 n2 c2)) (by kernel_rfl) (KS.out _ (drew_below _)) (fun hHeld => ?_)
      refine wpAnyH_take (i := 0) (v := ?v0_11) rfl (by kernel_rfl) (by kernel_rfl) (by kernel_rfl) (fun _ _ _ h => h) (Or.inl ⟨by rfl, ?hy0_11⟩) (by assumption) ?rest0_11
      case hy0_11 => intro w hSw; go_simp; (try with_reducible rfl)
      simp only [List.getElem_toArray, List.getElem_cons_zero, Act.put, List.setIfInBounds_toArray, List.set_cons_zero, List.set_cons_succ]
      refine wpAnyH_take (i := 1) (v := ?v1_12) rfl (by kernel_rfl) (by kernel_rfl) (by kernel_rfl) (fun _ _ _ h => h) (Or.inl ⟨by rfl, ?hy1_12⟩) (by assumption) ?rest1_12
      case hy1_12 => intro w hSw; go_simp; (try with_reducible rfl)
      simp only [List.getElem_toArray, List.getElem_cons_zero, List.getElem_cons_succ, Act.put, List.setIfInBounds_toArray, List.set_cons_zero, List.set_cons_succ]
      refine wpAnyH_ready (rs := [2]) (by kernel_rfl) (by simp) ?_
      refine AllReadyH.cons rfl (fun K hK => ?_) AllReadyH.nil
      go_simp
      refine (CRS.out w5.drew (drew_below _)).mono ?_
      rintro e w6 ⟨v6, rfl, o6, hb⟩
      have B6 : Below w5.heap.size w5 w6 := (drew_below w5).trans hb
      obtain ⟨a6, c6, rfl, r6⟩ := Own.rd o6
      have CSI := Lib.hid (CSM.out a6 c6 w6 B6 r6)
      clear o6 r6 hb
      refine hK.out _ _ (KS.out _ (B6)) (fun hHeld => ?_)
      clear hK K
      refine wpAnyH_ready (rs := [3]) (by kernel_rfl) (by simp) ?_
      refine AllReadyH.cons rfl (fun K hK => ?_) AllReadyH.nil
      go_simp
      refine (CSI.out).mono ?_
      rintro e w7 ⟨rfl, hb⟩
      have B7 : Below w5.heap.size w5 w7 := (B6).trans (hb.mono (B6).size)
      clear hb
      refine hK.out _ _ (KS.out _ (B7)) (fun hHeld => ?_)
      clear hK K
      refine wpAnyH_take (i := 4) (v := ?v4_13) rfl (by kernel_rfl) (by kernel_rfl) (by kernel_rfl) (fun _ _ _ h => h) (Or.inl ⟨by rfl, ?hy4_13⟩) (by assumption) ?rest4_13
      case hy4_13 => intro w hSw; go_simp; (try with_reducible rfl)
      simp only [List.getElem_toArray, List.getElem_cons_zero, List.getElem_cons_succ, Act.put, List.setIfInBounds_toArray, List.set_cons_zero, List.set_cons_succ]
      refine wpAnyH_take (i := 5) (v := ?v5_14) rfl (by kernel_rfl) (by kernel_rfl) (by kernel_rfl) (fun _ _ _ h => h) (Or.inl ⟨by rfl, ?hy5_14⟩) (by assumption) ?rest5_14
      case hy5_14 => intro w hSw; go_simp; (try with_reducible rfl)
      simp only [List.getElem_toArray, List.getElem_cons_zero, List.getElem_cons_succ, Act.put, List.setIfInBounds_toArray, List.set_cons_zero, List.set_cons_succ]
      refine wpAnyH_take (i := 6) (v := ?v6_15) rfl (by kernel_rfl) (by kernel_rfl) (by kernel_rfl) (fun _ _ _ h => h) (Or.inl ⟨by rfl, ?hy6_15⟩) (by assumption) ?rest6_15
      case hy6_15 => intro w hSw; go_simp; (try with_reducible rfl)
      simp only [List.getElem_toArray, List.getElem_cons_zero, List.getElem_cons_succ, Act.put, List.setIfInBounds_toArray, List.set_cons_zero, List.set_cons_succ]
      refine wpAnyH_take (i := 8) (v := ?v8_16) rfl (by kernel_rfl) (by kernel_rfl) (by kernel_rfl) (fun _ _ _ h => h) (Or.inl ⟨by rfl, ?hy8_16⟩) (by assumption) ?rest8_16
      case hy8_16 => intro w hSw; go_simp; (try with_reducible rfl)
      simp only [List.getElem_toArray, List.getElem_cons_zero, List.getElem_cons_succ, Act.put, List.setIfInBounds_toArray, List.set_cons_zero, List.set_cons_succ]
      refine wpAnyH_ready (rs := [7]) (by kernel_rfl) (by simp) ?_
      refine AllReadyH.cons rfl (fun K hK => ?_) AllReadyH.nil
      go_simp
      refine (CBI.out w7 B7).mono ?_
      rintro e w8 ⟨rfl, hb⟩
      have B8 : Below w5.heap.size w5 w8 := (B7).trans (hb.mono (B7).size)
      clear hb
      refine hK.out _ _ (KS.out _ (B8)) (fun hHeld => ?_)
      clear hK K
      refine wpAnyH_ready (rs := [9]) (by kernel_rfl) (by simp) ?_
      refine AllReadyH.cons rfl (fun K hK => ?_) AllReadyH.nil
      go_simp
      refine (CBS.out w8 B8).mono ?_
      rintro e w9 ⟨rfl, hb⟩
      have B9 : Below w5.heap.size w5 w9 := (B8).trans (hb.mono (B8).size)
      clear hb
      refine hK.out _ _ (KS.out _ (B9)) (fun hHeld => ?_)
      clear hK K
      refine wpAnyH_take (i := 10) (v := ?v10_1) rfl (by kernel_rfl) (by kernel_rfl) (by kernel_rfl) (fun _ _ _ h => h) (Or.inl ⟨by rfl, ?hy10_1⟩) (by assumption) ?rest10_1
      case hy10_1 => intro w hSw; go_simp; (try with_reducible rfl)
      simp only [List.getElem_toArray, List.getElem_cons_zero, List.getElem_cons_succ, Act.put, List.setIfInBounds_toArray, List.set_cons_zero, List.set_cons_succ]
      refine wpAnyH_take (i := 11) (v := ?v11_2) rfl (by kernel_rfl) (by kernel_rfl) (by kernel_rfl) (fun _ _ _ h => h) (Or.inl ⟨by rfl, ?hy11_2⟩) (by assumption) ?rest11_2
      case hy11_2 => intro w hSw; go_simp; (try with_reducible rfl)
      simp only [List.getElem_toArray, List.getElem_cons_zero, List.getElem_cons_succ, Act.put, List.setIfInBounds_toArray, List.set_cons_zero, List.set_cons_succ]
      refine wpAnyH_take (i := 12) (v := ?v12_3) rfl (by kernel_rfl) (by kernel_rfl) (by kernel_rfl) (fun _ _ _ h => h) (Or.inl ⟨by rfl, ?hy12_3⟩) (by assumption) ?rest12_3
      case hy12_3 => intro w hSw; go_simp; (try with_reducible rfl)
      simp only [List.getElem_toArray, List.getElem_cons_zero, List.getElem_cons_succ, Act.put, List.setIfInBounds_toArray, List.set_cons_zero, List.set_cons_succ]
      refine wpAnyH_ready (rs := [13]) (by kernel_rfl) (by simp) ?_
      refine AllReadyH.cons rfl (fun K hK => ?_) AllReadyH.nil
      go_simp
      refine (CNW.out w9).mono ?_
      rintro e w10 ⟨v9, p9, rfl, hp9, o9, hb⟩
      have B10 : Below w5.heap.size w5 w10 := (B9).trans (hb.mono (B9).size)
      clear hb
      obtain ⟨a9, c9, rfl⟩ := o9.shape
      have CN9 := Lib.hid (CNB.out a9 c9 p9 w10 o9.rd hp9)
      clear o9 hp9
      refine hK.out _ _ (KS.out _ (B10)) (fun hHeld => ?_)
      clear hK K
      refine wpAnyH_ready (rs := [14]) (by kernel_rfl) (by simp) ?_
      refine AllReadyH.cons rfl (fun K hK => ?_) AllReadyH.nil
      go_simp
      refine (CN9.out).mono ?_
      rintro e w11 ⟨rfl, hb⟩
      have B11 : Below w5.heap.size w5 w11 := (B10).trans (hb.mono (B10).size)
      clear hb
      refine hK.out _ _ (KS.out _ (B11)) (fun hHeld => ?_)
      clear hK K
      refine wpAnyH_take (i := 15) (v := ?v15_4) rfl (by kernel_rfl) (by kernel_rfl) (by kernel_rfl) (fun _ _ _ h => h) (Or.inl ⟨by rfl, ?hy15_4⟩) (by assumption) ?rest15_4
      case hy15_4 => intro w hSw; go_simp; (try with_reducible rfl)
      simp only [List.getElem_toArray, List.getElem_cons_zero, List.getElem_cons_succ, Act.put, List.setIfInBounds_toArray, List.set_cons_zero, List.set_cons_succ]
      refine wpAnyH_take (i := 16) (v := ?v16_5) rfl (by kernel_rfl) (by kernel_rfl) (by kernel_rfl) (fun _ _ _ h => h) (Or.inl ⟨by rfl, ?hy16_5⟩) (by assumption) ?rest16_5
      case hy16_5 => intro w hSw; go_simp; (try with_reducible rfl)
      simp only [List.getElem_toArray, List.getElem_cons_zero, List.getElem_cons_succ, Act.put, List.setIfInBounds_toArray, List.set_cons_zero, List.set_cons_succ]
      refine wpAnyH_done (by kernel_rfl) ?_ _
      refine NoPanic.normal ?_
      clear hHeld
      go_wp2_with fail
      go_meet
      exact ⟨by simp, B11⟩
    case rest =>
      obtain ⟨rfl, b6⟩ := hcut
      have HU := Lib.hid (show ∀ k, k < nr → ∃ m : Nat, r.getD k 0 = (m : Int) ∧ m < n ∧ ∃ p, ps[m]? = some p ∧ p.used = true from fun k hk => by
        rw [hr.out]
        rw [hnr.out, hr.out] at hk
        rw [hn1.out]
        exact reach_page hk)
      have HD := Lib.hid (show ∀ j k, j < k → k < nr → r.getD j 0 ≠ r.getD k 0 from fun j k hj hk => by
        rw [hr.out]
        rw [hnr.out, hr.out] at hk
        exact reach_ne hj hk)
      have HH := Lib.hid (show 0 < nr → r.getD 0 0 = root from fun hk => by
        rw [hr.out]
        rw [hnr.out, hr.out] at hk
        exact reach_first hk)
      have RO := Lib.hid (show RdI .i64 wc a3 nr c3 r from by
        obtain ⟨a3', c3', ev, rd⟩ := Own.rd (Own.below O5.out b6)
        obtain ⟨rfl, e2, rfl⟩ : a3 = a3' ∧ nr = r.length ∧ c3 = c3' := by simpa using ev
        rw [e2]
        exact rd)
      have RP := Lib.hid (HP5.out.below b6)
      have KG6 := Lib.hid (KG5.out.below b6)
      have HB6 := Lib.hid (HB5.out.trans (b6.mono HB5.out.size))
      have hnrm : nr ≤ maxLen := by have := RO.out.1.2.2.1; have := RO.out.1.2.1; omega
      unfold maxLen at hnrm
      clear b6 O5 HP5 KG5 HB5 CBI CBS CSM CNW CNB CRS KS HO5 KH hok hn2 hG2 hr hnr hn1 hG HF kk0 kk1 kh0 kh1 hg5 hg52
      go_wp2_with fail
      go_loopw [6] (fun i wr => ∃ k : Nat, k ≤ nr ∧ i = .int .i64 k ∧ Below wc.heap.size wc wr) (fun i _ => nr - (intOf i).toNat)
      case atStart => exact ⟨0, Nat.zero_le _, rfl, Below.refl _ _⟩
      case round =>
        obtain ⟨k, hk, rfl, hB⟩ := hrel
        have KGr := (KG6.out.below hB).2.1
        have g0 := KGr 0
        have g1 := KGr 1
        simp at g0 g1
        clear KGr
        by_cases hlt : k < nr
        · obtain ⟨m, hm, hmn, p, hp, hpu⟩ := HU.out k hlt
          obtain ⟨x, off, rfl, hc⟩ := (RO.out.below hB).2 (by omega)
          have e1 := hc k hlt
          rw [hm] at e1
          have HC := Lib.hid (fun (V : World) (b : Below wr.heap.size wr V) => ((RO.out.below hB).below b).2)
          obtain ⟨y, offy, p', rfl, -, hp', -, c0, -, -⟩ := rdP_at (RP.out.below hB) hmn
          rw [hp] at hp'
          obtain rfl := Option.some.inj hp'
          rw [hpu] at c0
          have HD1 := Lib.hid (fun j hj => HD.out j k hj hlt)
          have z0 : (0 : Int) ≤ k := by omega
          have z1 : (k : Int) < nr := by omega
          have z2 : (0 : Int) ≤ m := by omega
          have z3 : (m : Int) < n := by omega
          clear hc hp hp' hpu HU HD HH
          go_wp2_with fail
          go_big_region
          have HC2 := Lib.hid (hB.drew)
          have g02 := Lib.hid g0
          clear e1 c0 g0 g1 HC
          go_wp2_with fail
          go_loopw [7] (fun j wr2 => ∃ i : Nat, i ≤ k ∧ j = .int .i64 i ∧ Below wc.heap.size wc wr2) (fun j _ => k - (intOf j).toNat)
          case atStart => exact ⟨0, Nat.zero_le _, rfl, HC2.out⟩
          case round =>
            obtain ⟨i, hi, rfl, hB2⟩ := hrel
            by_cases hlt2 : i < k
            · obtain ⟨x', off', ex, hc⟩ := (RO.out.below hB2).2 (by omega)
              obtain ⟨rfl, rfl⟩ : x = x' ∧ off = off' := by simpa using ex
              have e1 := hc i (by omega)
              have e2 := hc k hlt
              rw [hm] at e2
              obtain ⟨v, hv⟩ : ∃ v, v = r.getD i 0 := ⟨_, rfl⟩
              have hne : ¬ (v = (m : Int)) := by rw [hv, ← hm]; exact HD1.out i hlt2
              rw [← hv] at e1
              have y0 : (0 : Int) ≤ i := by omega
              have y1 : (i : Int) < nr := by omega
              clear hc hv ex hm
              go_wp2_with fail
              go_big_region
              go_wp2_with fail
              go_roundw
              case rel => exact ⟨i + 1, by omega, by go_num, by first | exact hB2 | exact hB2.drew⟩
              case measure => simp [intOf]; omega
            · go_wp2_with fail
              go_roundw
              case rel => exact ⟨k + 1, by omega, by go_num, by first | exact hB2 | exact hB2.drew⟩
              case measure => simp [intOf]; omega
        · obtain rfl : k = nr := by omega
          by_cases h0 : k = 0
          · subst h0
            go_wp2_with fail
            go_big_region
            go_wp2
            go_ret
            exact ⟨rfl, HB6.out.trans (by first | exact hB.mono HB6.out.size | exact hB.drew.mono HB6.out.size)⟩
          · have h1 : 0 < k := by omega
            obtain ⟨x, off, rfl, hc⟩ := (RO.out.below hB).2 h1
            have e1 := hc 0 h1
            rw [HH.out h1, Nat.add_zero] at e1
            have z0 : ¬ ((k : Int) = 0) := by omega
            have z1 : (0 : Int) < k := by omega
            clear hc
            have hd := Lib.hid h0
            go_wp2_with fail
            have zc : ((k : Int) == 0) = false := by rw [beq_eq_false_iff_ne]; exact (fun e => hd.out (by omega))
            go_big_region
            go_wp2
            go_ret
            exact ⟨rfl, HB6.out.trans (by first | exact hB.mono HB6.out.size | exact hB.drew.mono HB6.out.size)⟩
  · have hm := h.1.2.2.1
    go_enter Try.func4, Try.ntmps4
    go_wp2_with fail
    refine (big_yes A _ cap _ hn (by have := h.1.2.1; omega)).mono ?_
    rintro e w1 ⟨rfl, rfl⟩
    go_wp2
    go_ret
    exact ⟨rfl, Below.refl _ _⟩
end Go.Proofs.Ytnebhbnogmhbgaa
