/- The model's Insert. -/
import Derived.Test.YtfefggcfeppeiaaIn11ZPages
import Derived.Test.YtfefggcfeppeiaaDownZPages
import Derived.Test.YtfefggcfeppeiaaQPagesd
namespace Go.Proofs.Ytfefggcfeppeiaa
open Go.RowKit

/-- The old root's entry in a new root. -/
def oldE (l : List Pg) (root : Int) : It := ⟨root, (boxesV (pageAt l root).xs).x0, (boxesV (pageAt l root).xs).y0, (boxesV (pageAt l root).xs).x1, (boxesV (pageAt l root).xs).y1⟩
/-- Insert: the root, the pages, the code. -/
def insV (l : List Pg) (root : Int) (x : It) : Int × List Pg × Int :=
  if bookOkV l root && itOk x.id x.x0 x.y0 x.x1 x.y1 then
    if (findV l root x.id).2 then (root, l, 2)
    else if 40 ≤ (allV l root).length then (root, l, 3)
    else if (inV l x 12 root).2.2.2 then
      if (inV l x 12 root).2.1 then
        if (allocV (inV l x 12 root).1).2 < 0 then (root, l, 3)
        else ((allocV (inV l x 12 root).1).2, putV (allocV (inV l x 12 root).1).1 (allocV (inV l x 12 root).1).2 ⟨true, false, [oldE (inV l x 12 root).1 root, (inV l x 12 root).2.2.1]⟩, 0)
      else (root, (inV l x 12 root).1, 0)
    else (root, l, 3)
  else (root, l, 1)
def RetIns (o : Int × List Pg × Int) (w : World) : Ending → World → Prop := NewBookI o.1 (o.2.1, o.2.2) w

/-- A new entry lies in the block g. -/
def EntIn (w : World) (cs : Array Value) (g : Nat) (V : World) : Prop := Loc V g cs ∧ Below w.heap.size w V ∧ w.heap.size ≤ g
theorem entIn_new {w wc : World} {cs : Array Value} (B : Below w.heap.size w wc) : EntIn w cs wc.heap.size (wc.alloc (.cells cs 92)) := ⟨Loc.new wc cs _, B.alloc B.size _, B.size⟩
theorem entIn_old {w wc : World} {g : Nat} {z0 z1 z2 z3 z4 u0 u1 u2 u3 u4 : Value} (B : Below w.heap.size w wc) (hg : w.heap.size ≤ g) (hs : g < wc.heap.size) (K : (∀ o, wc.cell? ⟨g, o, none⟩ = (#[z0, z1, z2, z3, z4] : Array Value)[o]?) ∧ ∀ o, wc.frozen? ⟨g, o, none⟩ = false) :
    EntIn w #[u0, u1, u2, u3, u4] g (((((wc.setCell ⟨g, 0, none⟩ u0).setCell ⟨g, 1, none⟩ u1).setCell ⟨g, 2, none⟩ u2).setCell ⟨g, 3, none⟩ u3).setCell ⟨g, 4, none⟩ u4) :=
  ⟨five_loc ⟨hs, K.1, K.2⟩ u0 u1 u2 u3 u4, ((((B.setCell (p := ⟨g, 0, none⟩) hg _).setCell (p := ⟨g, 1, none⟩) hg _).setCell (p := ⟨g, 2, none⟩) hg _).setCell (p := ⟨g, 3, none⟩) hg _).setCell (p := ⟨g, 4, none⟩) hg _, hg⟩
theorem ent_st {w wc : World} {g : Nat} {u0 u1 u2 u3 u4 : Value} (B : Below w.heap.size w wc) (hg : w.heap.size ≤ g) : Below w.heap.size w (((((wc.setCell ⟨g, 0, none⟩ u0).setCell ⟨g, 1, none⟩ u1).setCell ⟨g, 2, none⟩ u2).setCell ⟨g, 3, none⟩ u3).setCell ⟨g, 4, none⟩ u4) :=
  ((((B.setCell (p := ⟨g, 0, none⟩) hg _).setCell (p := ⟨g, 1, none⟩) hg _).setCell (p := ⟨g, 2, none⟩) hg _).setCell (p := ⟨g, 3, none⟩) hg _).setCell (p := ⟨g, 4, none⟩) hg _

set_option maxRecDepth 100000 in
set_option maxHeartbeats 6400000 in
theorem sInsert_any (root : Int) (x : It) (a : Option Addr) (n cap : Nat) (ps : List PgV) (w : World) (h : RdP w a n cap ps) (N B : Nat) (hF : Fits N B (ps.map PgV.pg)) (hN : N + 12 ≤ 1000) (hB : B + 48 ≤ 1048000) :
    Calls Try.prog 113 #[.agg #[.int .i64 root, .slice a n cap], .agg #[.int .i64 x.id, .int .i64 x.x0, .int .i64 x.y0, .int .i64 x.x1, .int .i64 x.y1]] w (RetIns (insV (ps.map PgV.pg) root x) w) := by
  have hll : (ps.map PgV.pg).length = n := by rw [List.length_map]; exact h.1.1.1
  have hn : n ≤ 1000 := by have := hF.1; omega
  have hpn : ∀ p ∈ ps, p.n ≤ B := fun p hp => by
    have h1 := hF.2 p.pg (List.mem_map_of_mem hp)
    have h2 : p.xs.length = p.n := (h.2 p hp).1.1
    have h3 : p.pg.xs.length = p.xs.length := rfl
    omega
  have HL := Lib.hid h.1.1.1
  obtain ⟨W0, hW0⟩ : ∃ W0, W0 = (((w.alloc (.cells #[.int .i64 root, .slice a n cap] 26)).alloc (.cells #[.int .i64 x.id, .int .i64 x.x0, .int .i64 x.y0, .int .i64 x.x1, .int .i64 x.y1] 98)).alloc (.cells #[.int .i64 0, .slice none 0 0] 26)) := ⟨_, rfl⟩
  have hs0 : W0.heap.size = w.heap.size + 1 + 1 + 1 := by subst hW0; simp
  have B0 : Below w.heap.size w W0 := by subst hW0; exact ((((Below.refl _ _).alloc (Nat.le_refl _) _).alloc (by simp) _).alloc (by simp; omega) _)
  have KA : Loc W0 (w.heap.size) #[.int .i64 root, .slice a n cap] := by subst hW0; exact ((Loc.new w _ _).alloc _).alloc _
  have KX : Loc W0 (w.heap.size + 1) #[.int .i64 x.id, .int .i64 x.x0, .int .i64 x.y0, .int .i64 x.x1, .int .i64 x.y1] := by
    subst hW0
    have := (Loc.new (w.alloc (.cells #[.int .i64 root, .slice a n cap] 26)) #[.int .i64 x.id, .int .i64 x.x0, .int .i64 x.y0, .int .i64 x.x1, .int .i64 x.y1] 98).alloc (.cells #[.int .i64 0, .slice none 0 0] 26)
    rw [show (w.alloc (.cells #[.int .i64 root, .slice a n cap] 26)).heap.size = w.heap.size + 1 by simp] at this
    exact this
  have KR : Loc W0 (w.heap.size + 1 + 1) #[.int .i64 0, .slice none 0 0] := by
    subst hW0
    have := Loc.new ((w.alloc (.cells #[.int .i64 root, .slice a n cap] 26)).alloc (.cells #[.int .i64 x.id, .int .i64 x.x0, .int .i64 x.y0, .int .i64 x.x1, .int .i64 x.y1] 98)) #[.int .i64 0, .slice none 0 0] 26
    rw [show ((w.alloc (.cells #[.int .i64 root, .slice a n cap] 26)).alloc (.cells #[.int .i64 x.id, .int .i64 x.x0, .int .i64 x.y0, .int .i64 x.x1, .int .i64 x.y1] 98)).heap.size = w.heap.size + 1 + 1 by simp] at this
    exact this
  have HR := Lib.hid (fun (V : World) (b : Below w.heap.size w V) => h.below b)
  have C1 := Lib.hid (l7Copy_any root a n cap ps W0 (h.below B0) (by omega) (fun p hp => by have := hpn p hp; omega))
  have CK := Lib.hid (fun (V : World) (b : Below w.heap.size w V) => sBookOk_any root a n cap ps V (h.below b) (by omega) (fun p hp => by have := hpn p hp; omega))
  have CF := Lib.hid (fun (V : World) (b : Below w.heap.size w V) => sFind_any root x.id a n cap ps V (h.below b) (by omega) (fun p hp => by have := hpn p hp; omega))
  have CA := Lib.hid (fun (V : World) (b : Below w.heap.size w V) => sAll_any root a n cap ps V (h.below b) (by omega) (fun p hp => by have := hpn p hp; omega))
  have C7 := Lib.hid (fun (V : World) (b : Below w.heap.size w V) => l7Copy_any root a n cap ps V (h.below b) (by omega) (fun p hp => by have := hpn p hp; omega))
  have hbk : bookOkV (ps.map PgV.pg) root = true → Down (ps.map PgV.pg) 12 root ∧ 0 ≤ root ∧ root < (n : Int) := fun hk => by
    have hm : root ∈ reachV (ps.map PgV.pg) root := by
      rw [bookOk_refs] at hk
      simp only [Bool.and_eq_true] at hk
      exact (reach_grew _ _).2 hk.2.1
    have h1 := used_in (reach_used hm)
    rw [hll] at h1
    exact ⟨down_of_ok hk 12 root hm, h1⟩
  replace hbk := Lib.hid hbk
  replace KA := Lib.hid KA
  replace KX := Lib.hid KX
  replace KR := Lib.hid KR
  replace B0 := Lib.hid B0
  replace hpn := Lib.hid hpn
  replace hll := Lib.hid hll
  have HFF := Lib.hid hF
  obtain ⟨-, ka, -⟩ := KA.out
  have ka0 := ka 0
  have ka1 := ka 1
  simp at ka0 ka1
  clear h hF ka
  go_enter Try.func113, Try.ntmps113
  go_wp2_with fail
  rw [← hW0]
  clear hW0
  refine C1.out.mono ?_
  rintro e w3 ⟨v3, qs, rfl, hq, ho, hb⟩
  obtain ⟨va, vc, rfl⟩ := ho.shape
  have hql := len_pg hq
  rw [HL.out] at hql
  rw [hql]
  rw [hql] at ho
  have s3 := hb.size
  obtain ⟨W4, hW4⟩ : ∃ W4, W4 = w3.alloc (.cells #[.int .i64 root, .slice va n vc] 26) := ⟨_, rfl⟩
  have hs4 : W4.heap.size = w3.heap.size + 1 := by subst hW4; simp
  have b34 : Below w3.heap.size w3 W4 := by subst hW4; exact new_below _ _
  have KG : Hid (Loc W4 w3.heap.size #[.int .i64 root, .slice va n vc]) := by subst hW4; exact Lib.hid (Loc.new w3 _ _)
  have TG : Hid (TagT 26 W4 w3.heap.size) := by subst hW4; exact Lib.hid (TagT.new _ w3 _)
  have KA4 := Lib.hid ((KA.out.below hb).below b34)
  have KX4 := Lib.hid ((KX.out.below hb).below b34)
  have KR4 := Lib.hid ((KR.out.below hb).below b34)
  have HO := Lib.hid (ho.below b34)
  have HQ := Lib.hid hq
  have hB4 : Below w.heap.size w W4 := (B0.out.trans (hb.mono (by omega))).trans (b34.mono (show w.heap.size ≤ w3.heap.size by omega))
  have hB4h := Lib.hid hB4
  have hs1 : w.heap.size + 1 + 1 < W0.heap.size := by omega
  have hs34 : W0.heap.size ≤ w3.heap.size := s3
  replace hs0 := Lib.hid hs0
  replace hql := Lib.hid hql
  replace hs4 := Lib.hid hs4
  clear ho hq hb b34 C1 KA KX KR B0 ka0 ka1
  go_upto_region 2 with (fail)
  rw [← hW4]
  clear hW4
  obtain ⟨-, ka, -⟩ := KA4.out
  have ka0 := ka 0
  have ka1 := ka 1
  simp at ka0 ka1
  have CKW := CK.out W4 hB4
  clear ka
  cases hbo : bookOkV (ps.map PgV.pg) root with
  | false =>
    rw [hbo] at CKW
    have hv : Hid (insV (ps.map PgV.pg) root x = (root, (ps.map PgV.pg), 1)) := by
      show _ = _
      unfold insV
      rw [hbo]
      rfl
    replace CKW := Lib.hid CKW
    clear hbo hB4
    go_wp2_with fail
    refine CKW.out.mono ?_
    rintro e w5 ⟨rfl, b5⟩
    have s5 := b5.size
    have KG5 := (KG.out.below b5).2.1
    obtain ⟨hRl, r0, fr⟩ := KR4.out.below b5
    have HO5 := Lib.hid (HO.out.below b5)
    have HB5 := Lib.hid (hB4h.out.trans (b5.mono hB4h.out.size))
    have hRG : w.heap.size + 1 + 1 ≠ w3.heap.size := by omega
    clear b5
    go_wp2_with fail
    refine bodyPost_ret (v := .tuple #[.agg #[.int .i64 root, .slice va n vc], .int .i64 1]) (by simp [results, Try.results113, go_sem, r0]) rfl ?_
    rw [hv.out]
    exact bookI_end HO5.out HQ.out rfl HB5.out (by omega) (by omega) (by omega)
  | true =>
    rw [hbo] at CKW
    replace CKW := Lib.hid CKW
    obtain ⟨-, kx, -⟩ := KX4.out
    go_wp2_with fail
    refine CKW.out.mono ?_
    rintro e w5 ⟨rfl, b5⟩
    have s5 := b5.size
    have KG5 := Lib.hid (KG.out.below b5)
    have TG5 := Lib.hid (TG.out.of (b5.block _ KG.out.1))
    have KA5 := Lib.hid (KA4.out.below b5)
    have KX5 := Lib.hid (KX4.out.below b5)
    have KR5 := Lib.hid (KR4.out.below b5)
    have HO5 := Lib.hid (HO.out.below b5)
    have HB5 := Lib.hid (hB4h.out.trans (b5.mono hB4h.out.size))
    have hRG : w.heap.size + 1 + 1 ≠ w3.heap.size := by omega
    clear b5 KG TG KA4 KX4 KR4 HO hB4h kx ka0 ka1 hB4 CKW CK
    obtain ⟨-, kx, -⟩ := KX5.out
    have kx0 := kx 0
    have kx1 := kx 1
    have kx2 := kx 2
    have kx3 := kx 3
    have kx4 := kx 4
    simp at kx0 kx1 kx2 kx3 kx4
    clear kx
    have CI := sItemOk_any x.id x.x0 x.y0 x.x1 x.y1 w5
    cases hio : itOk x.id x.x0 x.y0 x.x1 x.y1 with
    | false =>
      rw [hio] at CI
      have hv : Hid (insV (ps.map PgV.pg) root x = (root, (ps.map PgV.pg), 1)) := by
        show _ = _
        unfold insV
        rw [hbo, hio]
        rfl
      replace CI := Lib.hid CI
      clear hbo hio
      go_wp2_with fail
      refine CI.out.mono ?_
      rintro e w6 ⟨rfl, b6⟩
      have s6 := b6.size
      have KG6 := (KG5.out.below b6).2.1
      obtain ⟨hRl, r0, fr⟩ := KR5.out.below b6
      have HO6 := Lib.hid (HO5.out.below b6)
      have HB6 := Lib.hid (HB5.out.trans (b6.mono HB5.out.size))
      clear b6
      go_wp2_with fail
      refine bodyPost_ret (v := .tuple #[.agg #[.int .i64 root, .slice va n vc], .int .i64 1]) (by simp [results, Try.results113, go_sem, r0]) rfl ?_
      rw [hv.out]
      exact bookI_end HO6.out HQ.out rfl HB6.out (by omega) (by omega) (by omega)
    | true =>
      rw [hio] at CI
      have hgo : Hid ((bookOkV (ps.map PgV.pg) root && itOk x.id x.x0 x.y0 x.x1 x.y1) = true) := by
        show _ = _
        rw [hbo, hio]
        rfl
      obtain ⟨hdn, hr0, hrn⟩ := hbk.out hbo
      replace hdn := Lib.hid hdn
      replace CI := Lib.hid CI
      clear hbo hio hbk
      go_wp2_with fail
      refine CI.out.mono ?_
      rintro e w6 ⟨rfl, b6⟩
      have s6 := b6.size
      have KG6 := Lib.hid (KG5.out.below b6)
      have TG6 := Lib.hid (TG5.out.of (b6.block _ KG5.out.1))
      have KA6 := Lib.hid (KA5.out.below b6)
      have KX6 := Lib.hid (KX5.out.below b6)
      have KR6 := Lib.hid (KR5.out.below b6)
      have HO6 := Lib.hid (HO5.out.below b6)
      have HB6 := Lib.hid (HB5.out.trans (b6.mono HB5.out.size))
      clear b6 KG5 TG5 KA5 KX5 KR5 HO5 HB5 kx0 kx1 kx2 kx3 kx4 CI
      obtain ⟨-, ka, -⟩ := KA6.out
      have ka0 := ka 0
      have ka1 := ka 1
      simp at ka0 ka1
      obtain ⟨-, kx, -⟩ := KX6.out
      have kx0 := kx 0
      simp at kx0
      clear ka kx
      have CFW := Lib.hid (CF.out w6 HB6.out)
      obtain ⟨fo, hfo⟩ : ∃ fo, findV (ps.map PgV.pg) root x.id = fo := ⟨_, rfl⟩
      rw [hfo] at CFW
      replace hfo := Lib.hid hfo
      obtain ⟨fb, ff⟩ := fo
      clear CF
      go_wp2_with fail
      refine CFW.out.mono ?_
      rintro e w7 ⟨rfl, b7⟩
      obtain ⟨W8, hW8⟩ : ∃ W8, W8 = w7.alloc (.cells #[.int .i64 fb.x0, .int .i64 fb.y0, .int .i64 fb.x1, .int .i64 fb.y1] 61) := ⟨_, rfl⟩
      have b8 : Below w6.heap.size w6 W8 := by subst hW8; exact b7.trans ((new_below _ _).mono b7.size)
      have s8 := b8.size
      have KG8 := Lib.hid (KG6.out.below b8)
      have TG8 := Lib.hid (TG6.out.of (b8.block _ KG6.out.1))
      have KA8 := Lib.hid (KA6.out.below b8)
      have KX8 := Lib.hid (KX6.out.below b8)
      have KR8 := Lib.hid (KR6.out.below b8)
      have HO8 := Lib.hid (HO6.out.below b8)
      have HB8 := Lib.hid (HB6.out.trans (b8.mono HB6.out.size))
      clear b7 b8 KG6 TG6 KA6 KX6 KR6 HO6 HB6 ka0 ka1 kx0 CFW
      cases ff with
      | true =>
        have hv : Hid (insV (ps.map PgV.pg) root x = (root, (ps.map PgV.pg), 2)) := by
          show _ = _
          unfold insV
          rw [if_pos hgo.out, hfo.out]
          rfl
        obtain ⟨-, g0, -⟩ := KG8.out
        obtain ⟨hRl, r0, fr⟩ := KR8.out
        go_upto_region 5 with (fail)
        rw [← hW8]
        clear hW8
        go_wp2_with fail
        refine bodyPost_ret (v := .tuple #[.agg #[.int .i64 root, .slice va n vc], .int .i64 2]) (by simp [results, Try.results113, go_sem, r0]) rfl ?_
        rw [hv.out]
        exact bookI_end HO8.out HQ.out rfl HB8.out (by omega) (by omega) (by omega)
      | false =>
        obtain ⟨-, ka, -⟩ := KA8.out
        have ka0 := ka 0
        have ka1 := ka 1
        simp at ka0 ka1
        clear ka
        have CAW := Lib.hid (CA.out W8 HB8.out)
        clear CA
        go_upto_region 7 with (fail)
        rw [← hW8]
        clear hW8
        go_wp2_with fail
        refine CAW.out.mono ?_
        rintro e w9 ⟨v9, rfl, o9, b9⟩
        obtain ⟨a9, c9, rfl, -⟩ := o9.rd
        obtain ⟨na, hna⟩ : ∃ na, na = (allV (ps.map PgV.pg) root).length := ⟨_, rfl⟩
        rw [← hna]
        have s9 := b9.size
        have KG9 := Lib.hid (KG8.out.below b9)
        have TG9 := Lib.hid (TG8.out.of (b9.block _ KG8.out.1))
        have KA9 := Lib.hid (KA8.out.below b9)
        have KX9 := Lib.hid (KX8.out.below b9)
        have KR9 := Lib.hid (KR8.out.below b9)
        have HO9 := Lib.hid (HO8.out.below b9)
        have HB9 := Lib.hid (HB8.out.trans (b9.mono HB8.out.size))
        clear o9 b9 KG8 TG8 KA8 KX8 KR8 HO8 HB8 ka0 ka1 CAW
        by_cases h40 : 40 ≤ na
        · have hv : Hid (insV (ps.map PgV.pg) root x = (root, (ps.map PgV.pg), 3)) := by
            show _ = _
            unfold insV
            rw [if_pos hgo.out, hfo.out, ← hna]
            show (if 40 ≤ na then _ else _) = _
            rw [if_pos h40]
          have z40 : (na : Int) ≥ 40 := by omega
          replace hna := Lib.hid hna
          obtain ⟨-, g0, -⟩ := KG9.out
          obtain ⟨hRl, r0, fr⟩ := KR9.out
          go_wp2_with fail
          refine bodyPost_ret (v := .tuple #[.agg #[.int .i64 root, .slice va n vc], .int .i64 3]) (by simp [results, Try.results113, go_sem, r0]) rfl ?_
          rw [hv.out]
          exact bookI_end HO9.out HQ.out rfl HB9.out (by omega) (by omega) (by omega)
        · have z40 : ¬ (na : Int) ≥ 40 := by omega
          have hv : Hid (insV (ps.map PgV.pg) root x = if (inV (ps.map PgV.pg) x 12 root).2.2.2 then
              if (inV (ps.map PgV.pg) x 12 root).2.1 then
                if (allocV (inV (ps.map PgV.pg) x 12 root).1).2 < 0 then (root, (ps.map PgV.pg), 3)
                else ((allocV (inV (ps.map PgV.pg) x 12 root).1).2, putV (allocV (inV (ps.map PgV.pg) x 12 root).1).1 (allocV (inV (ps.map PgV.pg) x 12 root).1).2 ⟨true, false, [oldE (inV (ps.map PgV.pg) x 12 root).1 root, (inV (ps.map PgV.pg) x 12 root).2.2.1]⟩, 0)
              else (root, (inV (ps.map PgV.pg) x 12 root).1, 0)
            else (root, (ps.map PgV.pg), 3)) := by
            show _ = _
            unfold insV
            rw [if_pos hgo.out, hfo.out, ← hna]
            show (if 40 ≤ na then _ else _) = _
            rw [if_neg h40]
          replace hna := Lib.hid hna
          have hq9 : w3.heap.size < w9.heap.size := KG9.out.1
          have hba : BookAt w9 w3.heap.size root (ps.map PgV.pg) va n vc qs := ⟨KG9.out, TG9.out, HO9.out.rd, HQ.out⟩
          have CIN := l11In_any x w3.heap.size root (ps.map PgV.pg) N B HFF.out 12 root va n vc qs w9 hba (Nat.le_refl _) hdn.out hN hB
          have e13 : (13 : Int) - ((12 : Nat) : Int) = 1 := rfl
          rw [e13] at CIN
          obtain ⟨r, hir⟩ : ∃ r, inV (ps.map PgV.pg) x 12 root = r := ⟨_, rfl⟩
          rw [hir] at CIN hv
          have hfr : Hid (Fits (N + 12) (B + 48) r.1) := by
            have := HFF.out.ins x 12 root
            rw [hir] at this
            exact Lib.hid this
          have hger : Hid (n ≤ r.1.length) := by
            have := inV_ge (ps.map PgV.pg) x 12 root
            rw [hir, hll.out] at this
            exact Lib.hid this
          have HOFF := Lib.hid (HO9.out.offB (some W0.heap.size) (fun B e => by cases e; exact Nat.le_refl _) (Z := fun _ => False) (fun _ e => e.elim))
          replace CIN := Lib.hid CIN
          replace hir := Lib.hid hir
          clear hba e13 HFF hdn hgo
          obtain ⟨-, ka, -⟩ := KA9.out
          have ka0 := ka 0
          simp at ka0
          obtain ⟨-, kx, -⟩ := KX9.out
          have kx0 := kx 0
          have kx1 := kx 1
          have kx2 := kx 2
          have kx3 := kx 3
          have kx4 := kx 4
          simp at kx0 kx1 kx2 kx3 kx4
          clear ka kx
          go_wp2_with fail
          refine CIN.out.mono ?_
          rintro e w10 ⟨rfl, a10, n10, c10, us, hb10, g10, hc10⟩
          have s10 := g10.size
          have hq10 : w3.heap.size < w10.heap.size := hb10.loc.1
          have O10 : OwnP w10 W0.heap.size (.slice a10 n10 c10) us := (hc10 (some W0.heap.size) (fun B e => by cases e; omega) (fun _ => False) (fun _ e => e.elim) HOFF.out).self
          obtain ⟨W11, hW11⟩ : ∃ W11, W11 = w10.alloc (.cells #[.int .i64 r.2.2.1.id, .int .i64 r.2.2.1.x0, .int .i64 r.2.2.1.y0, .int .i64 r.2.2.1.x1, .int .i64 r.2.2.1.y1] 92) := ⟨_, rfl⟩
          have b11 : Below w10.heap.size w10 W11 := by subst hW11; exact new_below _ _
          have s11 : W11.heap.size = w10.heap.size + 1 := by subst hW11; simp
          have E11 : Hid (Loc W11 w10.heap.size #[.int .i64 r.2.2.1.id, .int .i64 r.2.2.1.x0, .int .i64 r.2.2.1.y0, .int .i64 r.2.2.1.x1, .int .i64 r.2.2.1.y1]) := by subst hW11; exact Lib.hid (Loc.new _ _ _)
          have K11 := Lib.hid (hb10.loc.below b11)
          have T11 := Lib.hid (hb10.tag.of (b11.block _ hb10.loc.1))
          have KA11 := Lib.hid ((KA9.out.grown g10 (fun k e => by cases e; omega)).below b11)
          have KR11 := Lib.hid ((KR9.out.grown g10 (fun k e => by cases e; omega)).below b11)
          have HO11 := Lib.hid (O10.below b11)
          have HB11 : Below w.heap.size w W11 := (HB9.out.grown g10 HB9.out.size (fun k e => by cases e; omega)).trans (b11.mono (by have := HB9.out.size; omega))
          have HQ11 := Lib.hid hb10.eq
          replace s11 := Lib.hid s11
          have hWq : w10.heap.size < W11.heap.size := by have := s11.out; omega
          have hB11 := Lib.hid HB11
          clear b11 g10 hc10 hb10 O10 KG9 TG9 KA9 KX9 KR9 HO9 HB9 HOFF ka0 kx0 kx1 kx2 kx3 kx4 CIN
          go_upto_region 10 with (fail)
          rw [← hW11]
          clear hW11
          cases hok : r.2.2.2 with
          | false =>
            rw [hok] at hv
            replace hv := Lib.hid (show insV (ps.map PgV.pg) root x = (root, (ps.map PgV.pg), 3) from hv.out)
            clear hok
            have CC := Lib.hid (C7.out W11 hB11.out)
            obtain ⟨-, kz, -⟩ := KA11.out
            have kz0 := kz 0
            have kz1 := kz 1
            simp at kz0 kz1
            go_wp2_with fail
            refine CC.out.mono ?_
            rintro e wz ⟨vz, pz, rfl, hpz, oz, bz⟩
            obtain ⟨az, cz, rfl⟩ := oz.shape
            have sz := bz.size
            obtain ⟨hRl, r0, fr⟩ := KR11.out.below bz
            have HBz := Lib.hid (hB11.out.trans (bz.mono hB11.out.size))
            have OZ := Lib.hid oz
            have HPZ := Lib.hid hpz
            clear bz oz hpz CC kz
            go_wp2_with fail
            refine bodyPost_ret (v := .tuple #[.agg #[.int .i64 root, .slice az pz.length cz], .int .i64 3]) (by simp [results, Try.results113, go_sem, r0]) rfl ?_
            rw [hv.out]
            exact bookI_end OZ.out HPZ.out rfl HBz.out (by omega) (by omega) (by omega)
          | true =>
            rw [hok] at hv
            cases hmo : r.2.1 with
            | false =>
              rw [hmo] at hv
              replace hv := Lib.hid (show insV (ps.map PgV.pg) root x = (root, r.1, 0) from hv.out)
              obtain ⟨-, g0, -⟩ := K11.out
              obtain ⟨hRl, r0, fr⟩ := KR11.out
              clear hok hmo
              go_wp2_with fail
              refine bodyPost_ret (v := .tuple #[.agg #[.int .i64 root, .slice a10 n10 c10], .int .i64 0]) (by simp [results, Try.results113, go_sem, r0]) rfl ?_
              rw [hv.out]
              exact bookI_end HO11.out HQ11.out rfl HB11 (by omega) (by omega) (by omega)
            | true =>
              rw [hmo] at hv
              replace hv := Lib.hid (show insV (ps.map PgV.pg) root x = if (allocV r.1).2 < 0 then (root, (ps.map PgV.pg), 3) else ((allocV r.1).2, putV (allocV r.1).1 (allocV r.1).2 ⟨true, false, [oldE r.1 root, r.2.2.1]⟩, 0) from hv.out)
              clear hok hmo
              obtain ⟨rk, rfl⟩ := Int.eq_ofNat_of_zero_le hr0
              have hun := ownP_len HO11.out
              have hul : us.length = r.1.length := len_pgs HQ11.out
              have hrk : rk < n10 := by have := hger.out; omega
              obtain ⟨pb, poff, pk, hpa, hpbl, hpk, hprd, d0, d1, d2⟩ := rdP_at HO11.out.rd hrk
              subst hpa
              obtain ⟨ob, hob⟩ : ∃ ob, joinAll (pk.xs.map boxOf) = ob := ⟨_, rfl⟩
              have hoe : Hid (oldE r.1 rk = ⟨(rk : Int), ob.x0, ob.y0, ob.x1, ob.y1⟩) := by
                have e1 : pageAt r.1 rk = pk.pg := by rw [← HQ11.out]; exact pageAt_yes hpk
                show _ = _
                unfold oldE
                rw [e1]
                have e2 : boxesV pk.pg.xs = ob := hob
                rw [e2]
              have hpkn : pk.n ≤ B + 48 := by
                have h1 := hfr.out.2 pk.pg (by rw [← HQ11.out]; exact List.mem_map_of_mem (List.mem_of_getElem? hpk))
                have h2 : pk.xs.length = pk.n := hprd.1.1
                have h3 : pk.pg.xs.length = pk.xs.length := rfl
                omega
              have CB := Lib.hid (show ∀ V, Below W11.heap.size W11 V → Calls Try.prog 129 #[.agg #[.bool pk.leaf, .slice pk.a pk.n pk.cap]] V (RetBox ob V) from fun V bV => by
                rw [← hob]
                exact sBoundOf_any pk.leaf pk.a pk.n pk.cap pk.xs V (hprd.below bV) (by omega))
              obtain ⟨-, k0, -⟩ := K11.out
              have k00 := k0 0
              have k01 := k0 1
              simp at k00 k01
              have KS := Lib.hid (show ∀ V, Below W11.heap.size W11 V → (fun V => Below W11.heap.size W11 V ∧ V.cell? ⟨w3.heap.size, 0, none⟩ = some (.int .i64 (rk : Int)) ∧ V.cell? ⟨w3.heap.size, 1, none⟩ = some (.slice (some ⟨pb, poff, none⟩) n10 c10) ∧ V.cell? ⟨pb, poff + rk * 3 + 1, none⟩ = some (.bool pk.leaf) ∧ V.cell? ⟨pb, poff + rk * 3 + 1 + 1, none⟩ = some (.slice pk.a pk.n pk.cap)) V from fun V b => ⟨b, (b.cell (p := ⟨w3.heap.size, 0, none⟩) (show w3.heap.size < W11.heap.size by omega)).trans k00, (b.cell (p := ⟨w3.heap.size, 1, none⟩) (show w3.heap.size < W11.heap.size by omega)).trans k01, (b.cell (p := ⟨pb, poff + rk * 3 + 1, none⟩) hpbl).trans d1, (b.cell (p := ⟨pb, poff + rk * 3 + 1 + 1, none⟩) hpbl).trans d2⟩)
              have KT := Lib.hid (show ∀ V V' : World, Below W11.heap.size W11 V → Below V.heap.size V V' → Below W11.heap.size W11 V' from fun V V' b b' => b.trans (b'.mono b.size))
              have z0 : (0 : Int) ≤ rk := by omega
              have z1 : (rk : Int) < n10 := by omega
              replace hun := Lib.hid hun
              replace hul := Lib.hid hul
              clear hpk hprd d0 d1 d2 k0 k00 k01 hob
              go_upto_region 11 with (fail)
              go_cut [12] (fun s V => ∃ g, s = .pointer (some ⟨g, 0, none⟩) ∧ Hid (EntIn W11 #[.int .i64 (rk : Int), .int .i64 ob.x0, .int .i64 ob.y0, .int .i64 ob.x1, .int .i64 ob.y1] g V))
              case first => as_aux_lemma =>
                refine wp_region_noPanic ?_
                refine wp_region_held_drew (S := fun V => Below W11.heap.size W11 V ∧ V.cell? ⟨w3.heap.size, 0, none⟩ = some (.int .i64 (rk : Int)) ∧ V.cell? ⟨w3.heap.size, 1, none⟩ = some (.slice (some ⟨pb, poff, none⟩) n10 c10) ∧ V.cell? ⟨pb, poff + rk * 3 + 1, none⟩ = some (.bool pk.leaf) ∧ V.cell? ⟨pb, poff + rk * 3 + 1 + 1, none⟩ = some (.slice pk.a pk.n pk.cap)) (by kernel_rfl) (KS.out _ (drew_below _)) (fun hHeld => ?_)
                refine wpAnyH_take (i := 0) (v := ?v0_8) rfl (by kernel_rfl) (by kernel_rfl) (by kernel_rfl) (fun _ _ _ h => h) (Or.inl ⟨by rfl, ?hy0_8⟩) (by assumption) ?rest0_8
                case hy0_8 => intro w hSw; (try dsimp only at hSw); go_simp; (try with_reducible rfl)
                simp only [List.getElem_toArray, List.getElem_cons_zero, Act.put, List.setIfInBounds_toArray, List.set_cons_zero, List.set_cons_succ]
                refine wpAnyH_take (i := 1) (v := ?v1_9) rfl (by kernel_rfl) (by kernel_rfl) (by kernel_rfl) (fun _ _ _ h => h) (Or.inl ⟨by rfl, ?hy1_9⟩) (by assumption) ?rest1_9
                case hy1_9 => intro w hSw; (try dsimp only at hSw); go_simp; (try with_reducible rfl)
                simp only [List.getElem_toArray, List.getElem_cons_zero, List.getElem_cons_succ, Act.put, List.setIfInBounds_toArray, List.set_cons_zero, List.set_cons_succ]
                refine wpAnyH_take (i := 2) (v := ?v2_10) rfl (by kernel_rfl) (by kernel_rfl) (by kernel_rfl) (fun _ _ _ h => h) (Or.inl ⟨by rfl, ?hy2_10⟩) (by assumption) ?rest2_10
                case hy2_10 => intro w hSw; (try dsimp only at hSw); go_simp; (try with_reducible rfl)
                simp only [List.getElem_toArray, List.getElem_cons_zero, List.getElem_cons_succ, Act.put, List.setIfInBounds_toArray, List.set_cons_zero, List.set_cons_succ]
                refine wpAnyH_take (i := 3) (v := ?v3_11) rfl (by kernel_rfl) (by kernel_rfl) (by kernel_rfl) (fun _ _ _ h => h) (Or.inl ⟨by rfl, ?hy3_11⟩) (by assumption) ?rest3_11
                case hy3_11 => intro w hSw; (try dsimp only at hSw); go_simp; (try with_reducible rfl)
                simp only [List.getElem_toArray, List.getElem_cons_zero, List.getElem_cons_succ, Act.put, List.setIfInBounds_toArray, List.set_cons_zero, List.set_cons_succ]
                refine wpAnyH_take (i := 4) (v := ?v4_12) rfl (by kernel_rfl) (by kernel_rfl) (by kernel_rfl) (fun _ _ _ h => h) (Or.inl ⟨by rfl, ?hy4_12⟩) (by assumption) ?rest4_12
                case hy4_12 => intro w hSw; (try dsimp only at hSw); go_simp; (try with_reducible rfl)
                simp only [List.getElem_toArray, List.getElem_cons_zero, List.getElem_cons_succ, Act.put, List.setIfInBounds_toArray, List.set_cons_zero, List.set_cons_succ]
                refine wpAnyH_take (i := 5) (v := ?v5_13) rfl (by kernel_rfl) (by kernel_rfl) (by kernel_rfl) (fun _ _ _ h => h) (Or.inl ⟨by rfl, ?hy5_13⟩) (by assumption) ?rest5_13
                case hy5_13 => intro w hSw; (try dsimp only at hSw); go_simp; (try with_reducible rfl)
                simp only [List.getElem_toArray, List.getElem_cons_zero, List.getElem_cons_succ, Act.put, List.setIfInBounds_toArray, List.set_cons_zero, List.set_cons_succ]
                refine wpAnyH_ready (rs := [6, 11]) (by kernel_rfl) (by simp) ?_
                refine AllReadyH.cons rfl (fun K hK => ?_) (AllReadyH.cons rfl (fun K hK => ?_) AllReadyH.nil)
                · go_simp
                  refine hK.out _ _ (KS.out _ (drew_below _)) (fun hHeld => ?_)
                  clear hK K
                  refine wpAnyH_take (i := 7) (v := ?v7_3) rfl (by kernel_rfl) (by kernel_rfl) (by kernel_rfl) (fun _ _ _ h => h) (Or.inl ⟨by rfl, ?hy7_3⟩) (by assumption) ?rest7_3
                  case hy7_3 => intro w hSw; (try dsimp only at hSw); go_simp; (try with_reducible rfl)
                  simp only [List.getElem_toArray, List.getElem_cons_zero, List.getElem_cons_succ, Act.put, List.setIfInBounds_toArray, List.set_cons_zero, List.set_cons_succ]
                  refine wpAnyH_take (i := 8) (v := ?v8_4) rfl (by kernel_rfl) (by kernel_rfl) (by kernel_rfl) (fun _ _ _ h => h) (Or.inl ⟨by rfl, ?hy8_4⟩) (by assumption) ?rest8_4
                  case hy8_4 => intro w hSw; (try dsimp only at hSw); go_simp; (try with_reducible rfl)
                  simp only [List.getElem_toArray, List.getElem_cons_zero, List.getElem_cons_succ, Act.put, List.setIfInBounds_toArray, List.set_cons_zero, List.set_cons_succ]
                  refine wpAnyH_ready (rs := [9, 11]) (by kernel_rfl) (by simp) ?_
                  refine AllReadyH.cons rfl (fun K hK => ?_) (AllReadyH.cons rfl (fun K hK => ?_) AllReadyH.nil)
                  · go_simp
                    refine (CB.out _ (drew_below _)).mono ?_
                    rintro e wb ⟨rfl, hb⟩
                    have Bc : Below W11.heap.size W11 wb := (drew_below W11).trans hb
                    refine hK.out _ _ (KS.out _ (Bc)) (fun hHeld => ?_)
                    clear hK K
                    refine wpAnyH_take (i := 10) (v := ?v10_1) rfl (by kernel_rfl) (by kernel_rfl) (by kernel_rfl) (fun _ _ _ h => h) (Or.inl ⟨by rfl, ?hy10_1⟩) (by assumption) ?rest10_1
                    case hy10_1 => intro w hSw; (try dsimp only at hSw); go_simp; (try with_reducible rfl)
                    simp only [List.getElem_toArray, List.getElem_cons_zero, List.getElem_cons_succ, Act.put, List.setIfInBounds_toArray, List.set_cons_zero, List.set_cons_succ]
                    refine wpAnyH_ready (rs := [11]) (by kernel_rfl) (by simp) ?_
                    refine AllReadyH.cons rfl (fun K hK => ?_) AllReadyH.nil
                    go_simp
                    refine hK.out _ _ (KS.out _ (Bc.alloc Bc.size _)) (fun hHeld => ?_)
                    clear hK K
                    refine wpAnyH_ready (rs := [12]) (by kernel_rfl) (by simp) ?_
                    refine AllReadyH.cons rfl (fun K hK => ?_) AllReadyH.nil
                    go_simp
                    refine hK.out _ _ (KS.out _ (Bc.alloc Bc.size _)) (fun hHeld => ?_)
                    clear hK K
                    refine wpAnyH_done (by kernel_rfl) ?_ _
                    refine NoPanic.normal ?_
                    clear hHeld
                    go_wp2_with fail
                    go_meet
                    exact ⟨_, rfl, Lib.hid (entIn_new Bc)⟩
                  · go_simp
                    refine hK.out _ _ (KS.out _ ((new_below W11 (.cells #[.int .i64 0, .int .i64 0, .int .i64 0, .int .i64 0, .int .i64 0] 92)).drew)) (fun hHeld => ?_)
                    clear hK K
                    refine wpAnyH_ready (rs := [9]) (by kernel_rfl) (by simp) ?_
                    refine AllReadyH.cons rfl (fun K hK => ?_) AllReadyH.nil
                    go_simp
                    refine (CB.out _ ((new_below W11 (.cells #[.int .i64 0, .int .i64 0, .int .i64 0, .int .i64 0, .int .i64 0] 92)).drew)).mono ?_
                    rintro e wb ⟨rfl, hb⟩
                    have Bc : Below W11.heap.size W11 wb := ((new_below W11 (.cells #[.int .i64 0, .int .i64 0, .int .i64 0, .int .i64 0, .int .i64 0] 92)).drew).trans (hb.mono (by show _ ≤ (W11.alloc (.cells #[.int .i64 0, .int .i64 0, .int .i64 0, .int .i64 0, .int .i64 0] 92)).heap.size; simp))
                    obtain ⟨hl, k5, f5⟩ := ((Loc.new W11 #[.int .i64 0, .int .i64 0, .int .i64 0, .int .i64 0, .int .i64 0] 92).drew.below hb)
                    refine hK.out _ _ (KS.out _ (Bc)) (fun hHeld => ?_)
                    clear hK K
                    refine wpAnyH_take (i := 10) (v := ?v10_2) rfl (by kernel_rfl) (by kernel_rfl) (by kernel_rfl) (fun _ _ _ h => h) (Or.inl ⟨by rfl, ?hy10_2⟩) (by assumption) ?rest10_2
                    case hy10_2 => intro w hSw; (try dsimp only at hSw); go_simp; (try with_reducible rfl)
                    simp only [List.getElem_toArray, List.getElem_cons_zero, List.getElem_cons_succ, Act.put, List.setIfInBounds_toArray, List.set_cons_zero, List.set_cons_succ]
                    refine wpAnyH_ready (rs := [12]) (by kernel_rfl) (by simp) ?_
                    refine AllReadyH.cons rfl (fun K hK => ?_) AllReadyH.nil
                    go_simp
                    refine hK.out _ _ (KS.out _ (ent_st Bc (Nat.le_refl _))) (fun hHeld => ?_)
                    clear hK K
                    refine wpAnyH_done (by kernel_rfl) ?_ _
                    refine NoPanic.normal ?_
                    clear hHeld
                    go_wp2_with fail
                    go_meet
                    exact ⟨_, rfl, Lib.hid (entIn_old Bc (Nat.le_refl _) hl ⟨k5, f5⟩)⟩
                · go_simp
                  refine hK.out _ _ (KS.out _ ((new_below W11 (.cells #[.int .i64 0, .int .i64 0, .int .i64 0, .int .i64 0, .int .i64 0] 92)).drew)) (fun hHeld => ?_)
                  clear hK K
                  refine wpAnyH_ready (rs := [6]) (by kernel_rfl) (by simp) ?_
                  refine AllReadyH.cons rfl (fun K hK => ?_) AllReadyH.nil
                  go_simp
                  refine hK.out _ _ (KS.out _ ((new_below W11 (.cells #[.int .i64 0, .int .i64 0, .int .i64 0, .int .i64 0, .int .i64 0] 92)).drew)) (fun hHeld => ?_)
                  clear hK K
                  refine wpAnyH_take (i := 7) (v := ?v7_5) rfl (by kernel_rfl) (by kernel_rfl) (by kernel_rfl) (fun _ _ _ h => h) (Or.inl ⟨by rfl, ?hy7_5⟩) (by assumption) ?rest7_5
                  case hy7_5 => intro w hSw; (try dsimp only at hSw); go_simp; (try with_reducible rfl)
                  simp only [List.getElem_toArray, List.getElem_cons_zero, List.getElem_cons_succ, Act.put, List.setIfInBounds_toArray, List.set_cons_zero, List.set_cons_succ]
                  refine wpAnyH_take (i := 8) (v := ?v8_6) rfl (by kernel_rfl) (by kernel_rfl) (by kernel_rfl) (fun _ _ _ h => h) (Or.inl ⟨by rfl, ?hy8_6⟩) (by assumption) ?rest8_6
                  case hy8_6 => intro w hSw; (try dsimp only at hSw); go_simp; (try with_reducible rfl)
                  simp only [List.getElem_toArray, List.getElem_cons_zero, List.getElem_cons_succ, Act.put, List.setIfInBounds_toArray, List.set_cons_zero, List.set_cons_succ]
                  refine wpAnyH_ready (rs := [9]) (by kernel_rfl) (by simp) ?_
                  refine AllReadyH.cons rfl (fun K hK => ?_) AllReadyH.nil
                  go_simp
                  refine (CB.out _ ((new_below W11 (.cells #[.int .i64 0, .int .i64 0, .int .i64 0, .int .i64 0, .int .i64 0] 92)).drew)).mono ?_
                  rintro e wb ⟨rfl, hb⟩
                  have Bc : Below W11.heap.size W11 wb := ((new_below W11 (.cells #[.int .i64 0, .int .i64 0, .int .i64 0, .int .i64 0, .int .i64 0] 92)).drew).trans (hb.mono (by show _ ≤ (W11.alloc (.cells #[.int .i64 0, .int .i64 0, .int .i64 0, .int .i64 0, .int .i64 0] 92)).heap.size; simp))
                  obtain ⟨hl, k5, f5⟩ := ((Loc.new W11 #[.int .i64 0, .int .i64 0, .int .i64 0, .int .i64 0, .int .i64 0] 92).drew.below hb)
                  refine hK.out _ _ (KS.out _ (Bc)) (fun hHeld => ?_)
                  clear hK K
                  refine wpAnyH_take (i := 10) (v := ?v10_7) rfl (by kernel_rfl) (by kernel_rfl) (by kernel_rfl) (fun _ _ _ h => h) (Or.inl ⟨by rfl, ?hy10_7⟩) (by assumption) ?rest10_7
                  case hy10_7 => intro w hSw; (try dsimp only at hSw); go_simp; (try with_reducible rfl)
                  simp only [List.getElem_toArray, List.getElem_cons_zero, List.getElem_cons_succ, Act.put, List.setIfInBounds_toArray, List.set_cons_zero, List.set_cons_succ]
                  refine wpAnyH_ready (rs := [12]) (by kernel_rfl) (by simp) ?_
                  refine AllReadyH.cons rfl (fun K hK => ?_) AllReadyH.nil
                  go_simp
                  refine hK.out _ _ (KS.out _ (ent_st Bc (Nat.le_refl _))) (fun hHeld => ?_)
                  clear hK K
                  refine wpAnyH_done (by kernel_rfl) ?_ _
                  refine NoPanic.normal ?_
                  clear hHeld
                  go_wp2_with fail
                  go_meet
                  exact ⟨_, rfl, Lib.hid (entIn_old Bc (Nat.le_refl _) hl ⟨k5, f5⟩)⟩
              case rest =>
                obtain ⟨g12, rfl, hcut⟩ := hcut
                obtain ⟨E12, b12, hg12⟩ := hcut.out
                clear hcut KS KT CB
                have s12 := b12.size
                have K12 := Lib.hid (K11.out.below b12)
                have T12 := Lib.hid (T11.out.of (b12.block _ K11.out.1))
                have KA12 := Lib.hid (KA11.out.below b12)
                have KR12 := Lib.hid (KR11.out.below b12)
                have HO12 := Lib.hid (HO11.out.below b12)
                have E10 := Lib.hid (E11.out.below b12)
                have HB12 := Lib.hid (hB11.out.trans (b12.mono hB11.out.size))
                have hnb : n10 ≤ 1000 := by have h1 := hfr.out.1; have h2 := hun.out; have h3 := hul.out; omega
                have CA := sAlloc_any (rk : Int) (some ⟨pb, poff, none⟩) n10 c10 us wc HO12.out.rd (by omega) (fun p hp => by
                  have h1 := hfr.out.2 p.pg (by rw [← HQ11.out]; exact List.mem_map_of_mem hp)
                  have h2 : p.xs.length = p.n := (HO12.out.rd.2 p hp).1.1
                  have h3 : p.pg.xs.length = p.xs.length := rfl
                  omega)
                rw [HQ11.out] at CA
                replace CA := Lib.hid CA
                obtain ⟨-, k0, -⟩ := K12.out
                have k00 := k0 0
                have k01 := k0 1
                simp at k00 k01
                replace E12 := Lib.hid E12
                clear b12 K11 T11 KA11 KR11 HO11 E11 hB11 HB11 k0 hpbl z0 z1
                go_wp2_with fail
                refine CA.out.mono ?_
                rintro e w13 ⟨v13, ps13, rfl, hp13, o13, b13⟩
                obtain ⟨a13, c13, rfl⟩ := o13.shape
                obtain ⟨n13, hn13⟩ : ∃ n13, n13 = ps13.length := ⟨_, rfl⟩
                rw [← hn13] at o13 ⊢
                have s13 := b13.size
                obtain ⟨al, hal⟩ : ∃ al, (allocV r.1) = al := ⟨_, rfl⟩
                have hidx := allocV_idx r.1
                have hale := (Fits.alloc hfr.out)
                rw [hal] at hv hp13 hidx hale ⊢
                obtain ⟨W14, hW14⟩ : ∃ W14, W14 = w13.alloc (.cells #[.int .i64 (rk : Int), .slice a13 n13 c13] 26) := ⟨_, rfl⟩
                have b14 : Below w13.heap.size w13 W14 := by subst hW14; exact new_below _ _
                have s14 : W14.heap.size = w13.heap.size + 1 := by subst hW14; simp
                have Y14 : Hid (Loc W14 w13.heap.size #[.int .i64 (rk : Int), .slice a13 n13 c13]) := by subst hW14; exact Lib.hid (Loc.new _ _ _)
                have b124 : Below wc.heap.size wc W14 := b13.trans (b14.mono b13.size)
                have K14 := Lib.hid (K12.out.below b124)
                have T14 := Lib.hid (T12.out.of (b124.block _ K12.out.1))
                have KA14 := Lib.hid (KA12.out.below b124)
                have KR14 := Lib.hid (KR12.out.below b124)
                have E14 := Lib.hid (E12.out.below b124)
                have F14 := Lib.hid (E10.out.below b124)
                have O14 := Lib.hid (o13.below b14)
                have hB14 := Lib.hid (HB12.out.trans (b124.mono HB12.out.size))
                replace hal := Lib.hid hal
                replace hn13 := Lib.hid hn13
                replace s14 := Lib.hid s14
                have hp13h := Lib.hid hp13
                have h14q : w3.heap.size < W14.heap.size := K14.out.1
                clear b13 b14 b124 o13 K12 T12 KA12 KR12 HO12 E10 E12 HB12 CA k00 k01 hp13
                go_upto_region 13 with (fail)
                rw [← hW14]
                clear hW14
                by_cases hneg : al.2 < 0
                · replace hv := Lib.hid (show insV (ps.map PgV.pg) (rk : Int) x = ((rk : Int), (ps.map PgV.pg), 3) from hv.out.trans (if_pos hneg))
                  have z2 : ¬ al.2 ≥ 0 := by omega
                  have CC := Lib.hid (C7.out W14 hB14.out)
                  obtain ⟨-, kz, -⟩ := KA14.out
                  have kz0 := kz 0
                  have kz1 := kz 1
                  simp at kz0 kz1
                  go_wp2_with fail
                  refine CC.out.mono ?_
                  rintro e wz ⟨vz, pz, rfl, hpz, oz, bz⟩
                  obtain ⟨az, cz, rfl⟩ := oz.shape
                  have sz := bz.size
                  obtain ⟨hRl, r0, fr⟩ := KR14.out.below bz
                  have HBz := Lib.hid (hB14.out.trans (bz.mono hB14.out.size))
                  have OZ := Lib.hid oz
                  have HPZ := Lib.hid hpz
                  clear bz oz hpz CC kz
                  go_wp2_with fail
                  refine bodyPost_ret (v := .tuple #[.agg #[.int .i64 (rk : Int), .slice az pz.length cz], .int .i64 3]) (by simp [results, Try.results113, go_sem, r0]) rfl ?_
                  rw [hv.out]
                  exact bookI_end OZ.out HPZ.out rfl HBz.out (by omega) (by omega) (by omega)
                · replace hv := Lib.hid (show insV (ps.map PgV.pg) (rk : Int) x = (al.2, putV al.1 al.2 ⟨true, false, [oldE r.1 rk, r.2.2.1]⟩, 0) from hv.out.trans (if_neg hneg))
                  have z2 : al.2 ≥ 0 := by omega
                  have hl13 : ps13.length = al.1.length := len_pgs hp13h.out
                  have hn13b : n13 ≤ 2000 := by have := hale.1; have := hn13.out; omega
                  have hwf : (Lit.int .i64 al.2).wf = true := wf_small _ (by omega) (by have := hfr.out.1; omega)
                  have R := World.ownsRow_lit (base := W14.heap.size) (size := 5) (e := 92) W14 #[.int .i64 (rk : Int), .int .i64 ob.x0, .int .i64 ob.y0, .int .i64 ob.x1, .int .i64 ob.y1, .int .i64 r.2.2.1.id, .int .i64 r.2.2.1.x0, .int .i64 r.2.2.1.y0, .int .i64 r.2.2.1.x1, .int .i64 r.2.2.1.y1] 2 (Nat.le_refl _) (by simp [maxLen]) rfl
                  have RN : RdS itLay (W14.alloc (.cells #[.int .i64 (rk : Int), .int .i64 ob.x0, .int .i64 ob.y0, .int .i64 ob.x1, .int .i64 ob.y1, .int .i64 r.2.2.1.id, .int .i64 r.2.2.1.x0, .int .i64 r.2.2.1.y0, .int .i64 r.2.2.1.x1, .int .i64 r.2.2.1.y1] 92)) (some ⟨W14.heap.size, 0, none⟩) 2 2 [⟨(rk : Int), ob.x0, ob.y0, ob.x1, ob.y1⟩, r.2.2.1] := rdS_ownsP (show OwnS itLay 92 (W14.alloc (.cells #[.int .i64 (rk : Int), .int .i64 ob.x0, .int .i64 ob.y0, .int .i64 ob.x1, .int .i64 ob.y1, .int .i64 r.2.2.1.id, .int .i64 r.2.2.1.x0, .int .i64 r.2.2.1.y0, .int .i64 r.2.2.1.x1, .int .i64 r.2.2.1.y1] 92)) W14.heap.size (.slice (some ⟨W14.heap.size, 0, none⟩) 2 2) [⟨(rk : Int), ob.x0, ob.y0, ob.x1, ob.y1⟩, r.2.2.1] from R)
                  have CP := sPut_any (rk : Int) al.2 a13 n13 c13 ps13 false (some ⟨W14.heap.size, 0, none⟩) 2 2 [⟨(rk : Int), ob.x0, ob.y0, ob.x1, ob.y1⟩, r.2.2.1] (W14.alloc (.cells #[.int .i64 (rk : Int), .int .i64 ob.x0, .int .i64 ob.y0, .int .i64 ob.x1, .int .i64 ob.y1, .int .i64 r.2.2.1.id, .int .i64 r.2.2.1.x0, .int .i64 r.2.2.1.y0, .int .i64 r.2.2.1.x1, .int .i64 r.2.2.1.y1] 92)) (O14.out.rd.below (new_below W14 _)) RN hwf (by omega) (by omega) (fun p hp => by
                    have h1 := hale.2 p.pg (by rw [← hp13h.out]; exact List.mem_map_of_mem hp)
                    have h2 : p.xs.length = p.n := (O14.out.rd.2 p hp).1.1
                    have h3 : p.pg.xs.length = p.xs.length := rfl
                    omega)
                  rw [hp13h.out, ← hoe.out] at CP
                  replace CP := Lib.hid CP
                  obtain ⟨-, y0, -⟩ := Y14.out
                  have y00 := y0 0
                  have y01 := y0 1
                  simp at y00 y01
                  obtain ⟨-, e0, -⟩ := E14.out
                  have e00 := e0 0
                  have e01 := e0 1
                  have e02 := e0 2
                  have e03 := e0 3
                  have e04 := e0 4
                  simp at e00 e01 e02 e03 e04
                  obtain ⟨-, f0, -⟩ := F14.out
                  have f00 := f0 0
                  have f01 := f0 1
                  have f02 := f0 2
                  have f03 := f0 3
                  have f04 := f0 4
                  simp at f00 f01 f02 f03 f04
                  clear R RN y0 e0 f0 hl13 hwf hneg
                  go_wp2_with fail
                  refine CP.out.mono ?_
                  rintro e w16 ⟨v16, ps16, rfl, hp16, o16, b16⟩
                  obtain ⟨a16, c16, rfl⟩ := o16.shape
                  have b156 : Below W14.heap.size W14 w16 := (new_below W14 (.cells #[.int .i64 (rk : Int), .int .i64 ob.x0, .int .i64 ob.y0, .int .i64 ob.x1, .int .i64 ob.y1, .int .i64 r.2.2.1.id, .int .i64 r.2.2.1.x0, .int .i64 r.2.2.1.y0, .int .i64 r.2.2.1.x1, .int .i64 r.2.2.1.y1] 92)).trans (b16.mono (by simp))
                  have s16 := b16.size
                  simp at s16
                  have K16 := K14.out.below b156
                  have T16 := T14.out.of (b156.block _ K14.out.1)
                  have KR16 := KR14.out.below b156
                  have HB16 := hB14.out.trans (b156.mono hB14.out.size)
                  have O16 := o16.mono (show W14.heap.size ≤ (W14.alloc (.cells #[.int .i64 (rk : Int), .int .i64 ob.x0, .int .i64 ob.y0, .int .i64 ob.x1, .int .i64 ob.y1, .int .i64 r.2.2.1.id, .int .i64 r.2.2.1.x0, .int .i64 r.2.2.1.y0, .int .i64 r.2.2.1.x1, .int .i64 r.2.2.1.y1] 92)).heap.size by simp)
                  have hP16 := Lib.hid hp16
                  clear b16 b156 o16 hp16 CP y00 y01 e00 e01 e02 e03 e04 f00 f01 f02 f03 f04
                  have KF := Lib.hid (((K16.set 0 (.int .i64 (rk : Int)) (by show 0 < 2; decide)).set 1 (.slice a16 ps16.length c16) (by show 1 < 2; decide)).set 0 (.int .i64 al.2) (by show 0 < 2; decide))
                  have hqr : w3.heap.size ≠ w.heap.size + 1 + 1 := by omega
                  have KRF := Lib.hid (((KR16.other 0 (.int .i64 (rk : Int)) hqr).other 1 (.slice a16 ps16.length c16) hqr).other 0 (.int .i64 al.2) hqr)
                  have OF := Lib.hid (((O16.store T16 0 (.int .i64 (rk : Int))).store (T16.set _ _ _) 1 (.slice a16 ps16.length c16)).store ((T16.set _ _ _).set _ _ _) 0 (.int .i64 al.2))
                  have HBF := Lib.hid (((HB16.setCell (p := ⟨w3.heap.size, 0, none⟩) (show w.heap.size ≤ w3.heap.size by omega) (.int .i64 (rk : Int))).setCell (p := ⟨w3.heap.size, 1, none⟩) (show w.heap.size ≤ w3.heap.size by omega) (.slice a16 ps16.length c16)).setCell (p := ⟨w3.heap.size, 0, none⟩) (show w.heap.size ≤ w3.heap.size by omega) (.int .i64 al.2))
                  have h16q := K16.1
                  obtain ⟨W17, hW17⟩ : ∃ W17, W17 = ((w16.setCell ⟨w3.heap.size, 0, none⟩ (.int .i64 (rk : Int))).setCell ⟨w3.heap.size, 1, none⟩ (.slice a16 ps16.length c16)).setCell ⟨w3.heap.size, 0, none⟩ (.int .i64 al.2) := ⟨_, rfl⟩
                  rw [← hW17] at KF KRF OF HBF
                  obtain ⟨-, g0, gf⟩ := K16
                  go_upto_region 17 with (fail)
                  rw [← hW17]
                  clear hW17 g0 gf KR16 O16 HB16 T16
                  obtain ⟨-, g0, -⟩ := KF.out
                  obtain ⟨hRl, r0, fr⟩ := KRF.out
                  go_wp2_with fail
                  refine bodyPost_ret (v := .tuple #[.agg #[.int .i64 al.2, .slice a16 ps16.length c16], .int .i64 0]) (by simp [results, Try.results113, go_sem, r0]) rfl ?_
                  rw [hv.out]
                  exact bookI_end OF.out hP16.out rfl HBF.out (by omega) (by omega) (by omega)
end Go.Proofs.Ytfefggcfeppeiaa
