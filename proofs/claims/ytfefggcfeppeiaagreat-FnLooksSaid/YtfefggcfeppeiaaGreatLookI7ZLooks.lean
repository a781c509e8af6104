/- The program's visitedFrom: what it passes on. -/
import Derived.Test.YtfefggcfeppeiaaGreatLookI6ZLooks
namespace Go.Proofs.YtfefggcfeppeiaaGreat
open Go.RowKit Go.Shelf
attribute [local go_sem] Oper.semAt_some

section
variable {w0 W W' : World} {B q1 q2 q3 q4 qy q6 : Nat} {root i d : Int} {c : Bx} {a : Option Addr} {n cap l : Nat} {lf : Bool} {s : Value} {base : Nat} {Ds : List Nat}
theorem VisS.kp (h : VisS w0 B q1 q2 q3 q4 qy q6 root i d c a n cap l lf s base Ds W) (hk : KpB w0.heap.size B W W') (kf : KeepsFrom base W W') : VisS w0 B q1 q2 q3 q4 qy q6 root i d c a n cap l lf s base Ds W' :=
  ⟨h.b1.kp hk, h.b2.kp hk, h.b3.kp hk, h.b4.kp hk, h.by_.kp hk, h.b6.kp hk, h.below.trans hk.below, hk.lt h.bd, Nat.lt_of_lt_of_le h.lt hk.below.size, ⟨h.mks.nodup, fun D hD => ⟨(h.mks.all D hD).1, kf.same D _ (h.mks.all D hD).1 (h.mks.all D hD).2 rfl⟩⟩, Nat.le_trans h.sz hk.below.size⟩
theorem VisS.all (h : VisS w0 B q1 q2 q3 q4 qy q6 root i d c a n cap l lf s base Ds W) (hb : Below W.heap.size W W') : VisS w0 B q1 q2 q3 q4 qy q6 root i d c a n cap l lf s base Ds W' :=
  ⟨h.b1.below hb h.lt, h.b2.below hb h.lt, h.b3.below hb h.lt, h.b4.below hb h.lt, h.by_.below hb h.lt, h.b6.below hb h.lt, h.below.trans (hb.mono h.below.size), h.bd.below hb h.lt, Nat.lt_of_lt_of_le h.lt hb.size, h.mks.of (fun D hD => hb.block D (heap_lt (h.mks.all D hD).2)), Nat.le_trans h.sz hb.size⟩
theorem VisS.turn {A : Nat} {row : Option Nat} (h : VisS w0 B q1 q2 q3 q4 qy q6 root i d c a n cap l lf s base Ds W) (hg : W.grownBy W' row) (hr : ∀ r, row = some r → A ≤ r ∧ ∃ o : Obj, W.heap[r]? = some o ∧ o.isCells = false) (hB : B < A) (hA : w0.heap.size ≤ A) (hD : ∀ D ∈ Ds, D < A) : VisS w0 B q1 q2 q3 q4 qy q6 root i d c a n cap l lf s base Ds W' := by
  have hr2 : ∀ r, row = some r → r ≠ B ∧ ∃ o : Obj, W.heap[r]? = some o ∧ o.isCells = false := fun r e => ⟨by have := (hr r e).1; omega, (hr r e).2⟩
  exact ⟨h.b1.turn hg hr2 h.lt, h.b2.turn hg hr2 h.lt, h.b3.turn hg hr2 h.lt, h.b4.turn hg hr2 h.lt, h.by_.turn hg hr2 h.lt, h.b6.turn hg hr2 h.lt, h.below.grown hg h.below.size (fun k e => Nat.le_trans hA (hr k e).1), h.bd.turn hg (fun e => (hr2 B e).1 rfl) h.lt, Nat.lt_of_lt_of_le h.lt hg.size, h.mks.of (fun D hD' => hg.block D (heap_lt (h.mks.all D hD').2) (fun e => by have := (hr D e.symm).1; have := hD D hD'; omega)), Nat.le_trans h.sz hg.size⟩
end

theorem kid_pre {α : Type} {g : It → List α} {P : It → Bool} {xs : List It} {k : Nat} {x : It} (hx : xs[k]? = some x) (hP : P x = true) : ∃ t, ((xs.take k).filter P).flatMap g ++ g x ++ t = (xs.filter P).flatMap g := by
  have hk : k < xs.length := by
    rcases Nat.lt_or_ge k xs.length with h | h
    · exact h
    · rw [List.getElem?_eq_none h] at hx; cases hx
  have e : xs[k] = x := by
    rw [List.getElem?_eq_getElem hk] at hx
    simpa using hx
  have h1 : xs = xs.take k ++ x :: xs.drop (k + 1) := by rw [← e, ← List.drop_eq_getElem_cons hk, List.take_append_drop]
  refine ⟨((xs.drop (k + 1)).filter P).flatMap g, ?_⟩
  have h2 := congrArg (fun l => (l.filter P).flatMap g) h1
  simp only [List.filter_append, List.filter_cons, hP, if_true, List.flatMap_append, List.flatMap_cons] at h2
  rw [h2, List.append_assoc]
theorem held4 {B : Nat} {W : World} (hb : Bd B W) (hB : B < W.heap.size) (c1 c2 c3 c4 : Array Value) (T1 T2 T3 T4 : TypeId) :
    Below W.heap.size W ((((W.alloc (.cells c1 T1)).alloc (.cells c2 T2)).alloc (.cells c3 T3)).alloc (.cells c4 T4)) ∧ HeldB B ((((W.alloc (.cells c1 T1)).alloc (.cells c2 T2)).alloc (.cells c3 T3)).alloc (.cells c4 T4)) W.heap.size c1 T1 ∧ HeldB B ((((W.alloc (.cells c1 T1)).alloc (.cells c2 T2)).alloc (.cells c3 T3)).alloc (.cells c4 T4)) (W.heap.size + 1) c2 T2 ∧
    HeldB B ((((W.alloc (.cells c1 T1)).alloc (.cells c2 T2)).alloc (.cells c3 T3)).alloc (.cells c4 T4)) (W.heap.size + 1 + 1) c3 T3 ∧ HeldB B ((((W.alloc (.cells c1 T1)).alloc (.cells c2 T2)).alloc (.cells c3 T3)).alloc (.cells c4 T4)) (W.heap.size + 1 + 1 + 1) c4 T4 := by
  have n1 := new_below W (.cells c1 T1)
  have d1 := hb.below n1 hB
  have l1 : B < (W.alloc (.cells c1 T1)).heap.size := Nat.lt_of_lt_of_le hB n1.size
  have n2 := new_below (W.alloc (.cells c1 T1)) (.cells c2 T2)
  have d2 := d1.below n2 l1
  have l2 := Nat.lt_of_lt_of_le l1 n2.size
  have n3 := new_below ((W.alloc (.cells c1 T1)).alloc (.cells c2 T2)) (.cells c3 T3)
  have d3 := d2.below n3 l2
  have l3 := Nat.lt_of_lt_of_le l2 n3.size
  have n4 := new_below (((W.alloc (.cells c1 T1)).alloc (.cells c2 T2)).alloc (.cells c3 T3)) (.cells c4 T4)
  have h1 := HeldB.new hb hB c1 T1
  have h2 := HeldB.new d1 l1 c2 T2
  have h3 := HeldB.new d2 l2 c3 T3
  have h4 := HeldB.new d3 l3 c4 T4
  rw [World.size_alloc] at h2
  rw [World.size_alloc, World.size_alloc] at h3
  rw [World.size_alloc, World.size_alloc, World.size_alloc] at h4
  exact ⟨((n1.trans (n2.mono n1.size)).trans (n3.mono (Nat.le_trans n1.size n2.size))).trans (n4.mono (Nat.le_trans n1.size (Nat.le_trans n2.size n3.size))), ((h1.below n2 l1).below n3 l2).below n4 l3, (h2.below n3 l2).below n4 l3, h3.below n4 l3, h4⟩

set_option maxRecDepth 100000 in
set_option maxHeartbeats 3200000 in
theorem vis1_any (root : Int) (c : Bx) (a : Option Addr) (n cap : Nat) (ps : List PgV) (w0 : World) (h : RdP w0 a n cap ps) (hok : bookOkV (ps.map PgV.pg) root = true) (B : Nat) : ∀ (f : Nat) (i : Int) (q1 q2 q3 q4 : Nat) (w : World), f ≤ 11 → i ∈ reachV (ps.map PgV.pg) root →
    HeldB B w q1 #[.int .i64 root, .slice a n cap] 26 → HeldB B w q2 #[.int .i64 i] 3 → HeldB B w q3 #[.int .i64 (12 - (f : Int))] 3 → HeldB B w q4 #[.int .i64 c.x0, .int .i64 c.y0, .int .i64 c.x1, .int .i64 c.y1] 28 → Below w0.heap.size w0 w → Bd B w → B < w.heap.size →
    SeqO Tryz.prog 81 #[.pointer (some ⟨q1, 0, none⟩), .pointer (some ⟨q2, 0, none⟩), .pointer (some ⟨q3, 0, none⟩), .pointer (some ⟨q4, 0, none⟩)] (ndEnc (ps := ps)) (KpB w0.heap.size B) (fun xs => xs = visS ps c (f + 1) i) (fun pre => pre <+: visS ps c (f + 1) i) (visS ps c (f + 1) i).length w := by
  intro f
  induction f with
  | zero =>
    intro i q1 q2 q3 q4 w hf hi hb1 hb2 hb3 hb4 hw hbd hB l J Jx W hW hJ hJx hY h0
    have hu := reach_used hi
    have hin := used_in hu
    rw [List.length_map, h.1.1.1] at hin
    obtain ⟨m, rfl⟩ := Int.eq_ofNat_of_zero_le hin.1
    have hmn : m < n := by omega
    have z1 : (m : Int) < n := hin.2
    have z0 : (0 : Int) ≤ m := hin.1
    have hnc := h.1.1.2.1
    have hm := h.1.1.2.2.1
    unfold maxLen at hm
    have hW0 := hw.trans (hW.mono hw.size)
    obtain ⟨b, off, p, hpa, hbl, hp, hrd, d0, d1, d2⟩ := rdP_at (h.below hW0) hmn
    have hv : pageAt (ps.map PgV.pg) m = p.pg := pageAt_yes hp
    have hup : p.used = true := by rw [hv] at hu; exact hu
    have hmem := List.mem_of_getElem? hp
    have HS := Lib.hid (visS_succ (c := c) (f := 0) hp hup)
    obtain ⟨W2, hW2⟩ : ∃ W2, W2 = (W.alloc (.cells #[.func (.yield l) #[] #[]] 90)).alloc (.cells #[.bool p.leaf, .slice p.a p.n p.cap] 59) := ⟨_, rfl⟩
    have b2 : Below W.heap.size W W2 := by subst hW2; exact ((Below.refl _ _).alloc (Nat.le_refl _) _).alloc (by simp) _
    have hbdW := hbd.below hW hB
    have hBW : B < W.heap.size := Nat.lt_of_lt_of_le hB hW.size
    have H1 := (hb1.below hW hB)
    have H2 := (hb2.below hW hB)
    have H3 := (hb3.below hW hB)
    have H4 := (hb4.below hW hB)
    have hby : HeldB B W2 W.heap.size #[.func (.yield l) #[] #[]] 90 := by
      subst hW2
      exact (HeldB.new hbdW hBW _ _).below (new_below _ _) (by simp; omega)
    have hb6 : HeldB B W2 (W.heap.size + 1) #[.bool p.leaf, .slice p.a p.n p.cap] 59 := by
      have := HeldB.new (W := W.alloc (.cells #[.func (.yield l) #[] #[]] 90)) (hbdW.below (new_below _ _) hBW) (by simp; omega) #[.bool p.leaf, .slice p.a p.n p.cap] 59
      rw [World.size_alloc] at this
      subst hW2
      exact this
    have HV2 : Hid (VisS w0 B q1 q2 q3 q4 W.heap.size (W.heap.size + 1) root m (12 - ((0 : Nat) : Int)) c a n cap l p.leaf (.slice p.a p.n p.cap) W.heap.size [] W2) := Lib.hid ⟨H1.below b2 hBW, H2.below b2 hBW, H3.below b2 hBW, H4.below b2 hBW, hby, hb6, hW0.trans (b2.mono hW0.size), hbdW.below b2 hBW, Nat.lt_of_lt_of_le hBW b2.size, ⟨List.nodup_nil, fun D hD => by cases hD⟩, b2.size⟩
    have J2 := OwnFrom.below hJ h0 b2
    have hN : (visS ps c (0 + 1) m).length ≥ 1 := by rw [HS.out]; simp
    obtain ⟨fn, tmps, assign, body, hyl, hR⟩ := hY [] ⟨p, hmem⟩ W2 J2 (by rw [HS.out]; simp)
    dsimp only [ndEnc] at hyl
    have k1 := H1.loc.2.1 1
    have k2 := H2.loc.2.1 0
    simp at k1 k2
    rw [hpa] at k1
    have hq1l := heap_lt H1.heap
    have hq2l := heap_lt H2.heap
    obtain ⟨d, hd⟩ : ∃ d : Int, d = 12 - ((0 : Nat) : Int) := ⟨_, rfl⟩
    rw [← hd] at HV2
    have z12 : (d == 12) = true := by simp; omega
    replace hpa := Lib.hid hpa
    clear hby hb6 H1 H2 H3 H4 hb1 hb2 hb3 hb4 hN b2 J2 hrd d0 hv hu hW hbd hw h0 hd h hB
    refine (callsIn_wide (n := 4)).1 ?_
    refine callsIn_of_wp_marks Tryz.func81 rfl trivial ?_ rfl
    simp only [Tryz.ntmps81, List.size_toArray, List.length_cons, List.length_nil, Nat.reduceAdd, Nat.reduceSub, Array.replicate_succ, Array.replicate_zero, List.push_toArray, List.append_toArray, List.nil_append, List.cons_append]
    rw [hW2] at hyl hR
    gi_wp2_with fail
    refine (round_deep hR).mono ?_
    rintro e w3 ⟨kf3, (⟨rfl, j3, k3⟩ | ⟨rfl, x3⟩)⟩
    · rw [← hW2] at kf3 k3
      have HV3 := Lib.hid (HV2.out.kp k3 kf3)
      have J3 := Lib.hid j3
      have e0 := HV3.out.b6.loc.2.1 0
      have e1 := HV3.out.b6.loc.2.1 1
      have e3 := HV3.out.b3.loc.2.1 0
      simp at e0 e1 e3
      clear kf3 k3 j3 hR hyl HV2 hW2 k1 k2
      have hE : Hid (visS ps c (0 + 1) m = [⟨p, hmem⟩]) := by
        refine Lib.hid ?_
        rw [HS.out]
        simp [visS]
      cases hlf : p.leaf with
      | true =>
        rw [hlf] at e0
        clear hlf HS
        gi_wp2
        exact leaves_marks (B := W.heap.size) (fun V => J [⟨p, hmem⟩] V) (fun V D h1 h2 h3 => OwnFrom.putObj hJ _ h1 h2 h3 rfl) (fun V hV => ⟨_, results_none rfl _ _ _, ⟨_, rfl⟩, .inl ⟨_, hE.out.symm, hV⟩⟩) [] w3 ⟨List.nodup_nil, fun D hD => by cases hD⟩ J3.out
      | false =>
        rw [hlf] at e0
        clear hlf HS
        gi_wp2
        exact leaves_marks (B := W.heap.size) (fun V => J [⟨p, hmem⟩] V) (fun V D h1 h2 h3 => OwnFrom.putObj hJ _ h1 h2 h3 rfl) (fun V hV => ⟨_, results_none rfl _ _ _, ⟨_, rfl⟩, .inl ⟨_, hE.out.symm, hV⟩⟩) [] w3 ⟨List.nodup_nil, fun D hD => by cases hD⟩ J3.out
    · clear hW2 HV2
      gi_wp2
      exact leaves_marks (B := W.heap.size) (fun V => Jx [⟨p, hmem⟩] V) (fun V D h1 h2 h3 => OwnFrom.putObj hJx _ h1 h2 h3 rfl) (fun V hV => ⟨_, results_none rfl _ _ _, ⟨_, rfl⟩, .inr ⟨_, ⟨_, by rw [HS.out]; rfl⟩, hV⟩⟩) [] w3 ⟨List.nodup_nil, fun D hD => by cases hD⟩ x3
  | succ f ih =>
    intro i q1 q2 q3 q4 w hf hi hb1 hb2 hb3 hb4 hw hbd hB l J Jx W hW hJ hJx hY h0
    have hu := reach_used hi
    have hin := used_in hu
    have hkid := fun (x : It) (hx : x ∈ kidsP (pageAt (ps.map PgV.pg) i)) => reach_kid hok hi hx
    rw [List.length_map, h.1.1.1] at hin
    obtain ⟨m, rfl⟩ := Int.eq_ofNat_of_zero_le hin.1
    have hmn : m < n := by omega
    have z1 : (m : Int) < n := hin.2
    have z0 : (0 : Int) ≤ m := hin.1
    have hnc := h.1.1.2.1
    have hm := h.1.1.2.2.1
    unfold maxLen at hm
    have hW0 := hw.trans (hW.mono hw.size)
    obtain ⟨b, off, p, hpa, hbl, hp, hrd, d0, d1, d2⟩ := rdP_at (h.below hW0) hmn
    have hv : pageAt (ps.map PgV.pg) m = p.pg := pageAt_yes hp
    have hup : p.used = true := by rw [hv] at hu; exact hu
    rw [hv] at hkid
    have hmem := List.mem_of_getElem? hp
    have HS := Lib.hid (visS_succ (c := c) (f := f + 1) hp hup)
    obtain ⟨W2, hW2⟩ : ∃ W2, W2 = (W.alloc (.cells #[.func (.yield l) #[] #[]] 90)).alloc (.cells #[.bool p.leaf, .slice p.a p.n p.cap] 59) := ⟨_, rfl⟩
    have b2 : Below W.heap.size W W2 := by subst hW2; exact ((Below.refl _ _).alloc (Nat.le_refl _) _).alloc (by simp) _
    have hbdW := hbd.below hW hB
    have hBW : B < W.heap.size := Nat.lt_of_lt_of_le hB hW.size
    have H1 := (hb1.below hW hB)
    have H2 := (hb2.below hW hB)
    have H3 := (hb3.below hW hB)
    have H4 := (hb4.below hW hB)
    have hby : HeldB B W2 W.heap.size #[.func (.yield l) #[] #[]] 90 := by
      subst hW2
      exact (HeldB.new hbdW hBW _ _).below (new_below _ _) (by simp; omega)
    have hb6 : HeldB B W2 (W.heap.size + 1) #[.bool p.leaf, .slice p.a p.n p.cap] 59 := by
      have := HeldB.new (W := W.alloc (.cells #[.func (.yield l) #[] #[]] 90)) (hbdW.below (new_below _ _) hBW) (by simp; omega) #[.bool p.leaf, .slice p.a p.n p.cap] 59
      rw [World.size_alloc] at this
      subst hW2
      exact this
    have HV2 : Hid (VisS w0 B q1 q2 q3 q4 W.heap.size (W.heap.size + 1) root m (12 - ((f + 1 : Nat) : Int)) c a n cap l p.leaf (.slice p.a p.n p.cap) W.heap.size [] W2) := Lib.hid ⟨H1.below b2 hBW, H2.below b2 hBW, H3.below b2 hBW, H4.below b2 hBW, hby, hb6, hW0.trans (b2.mono hW0.size), hbdW.below b2 hBW, Nat.lt_of_lt_of_le hBW b2.size, ⟨List.nodup_nil, fun D hD => by cases hD⟩, b2.size⟩
    have J2 := OwnFrom.below hJ h0 b2
    have hN : (visS ps c (f + 1 + 1) m).length ≥ 1 := by rw [HS.out]; simp
    obtain ⟨fn, tmps, assign, body, hyl, hR⟩ := hY [] ⟨p, hmem⟩ W2 J2 (by simp; omega)
    dsimp only [ndEnc] at hyl
    have k1 := H1.loc.2.1 1
    have k2 := H2.loc.2.1 0
    simp at k1 k2
    rw [hpa] at k1
    have hq1l := heap_lt H1.heap
    have hq2l := heap_lt H2.heap
    obtain ⟨d, hd⟩ : ∃ d : Int, d = 12 - ((f + 1 : Nat) : Int) := ⟨_, rfl⟩
    rw [← hd] at HV2
    have hd1 : d ≤ 11 := by omega
    have hd0 : 1 ≤ d := by omega
    have HD := Lib.hid (show d + 1 = 12 - (f : Int) by omega)
    have HRW := Lib.hid h
    have HRP := Lib.hid (h.2 p hmem)
    have HPM := Lib.hid hmem
    replace hpa := Lib.hid hpa
    clear hby hb6 H1 H2 H3 H4 hb1 hb2 hb3 hb4 hN b2 J2 hrd d0 hv hu hW hbd hw h0 hd h hB
    refine (callsIn_wide (n := 4)).1 ?_
    refine callsIn_of_wp_marks Tryz.func81 rfl trivial ?_ rfl
    simp only [Tryz.ntmps81, List.size_toArray, List.length_cons, List.length_nil, Nat.reduceAdd, Nat.reduceSub, Array.replicate_succ, Array.replicate_zero, List.push_toArray, List.append_toArray, List.nil_append, List.cons_append]
    rw [hW2] at hyl hR
    gi_wp2_with fail
    refine (round_deep hR).mono ?_
    rintro e w3 ⟨kf3, (⟨rfl, j3, k3⟩ | ⟨rfl, x3⟩)⟩
    · rw [← hW2] at kf3 k3
      have HV3 := Lib.hid (HV2.out.kp k3 kf3)
      have J3 := Lib.hid j3
      have e0 := HV3.out.b6.loc.2.1 0
      have e1 := HV3.out.b6.loc.2.1 1
      have e3 := HV3.out.b3.loc.2.1 0
      simp at e0 e1 e3
      have HKF3 := Lib.hid kf3
      clear kf3 k3 j3 hR hyl HV2 hW2 k1 k2
      cases hlf : p.leaf with
      | true =>
        rw [hlf] at e0
        have hE : Hid (visS ps c (f + 1 + 1) m = [⟨p, hmem⟩]) := by
          refine Lib.hid ?_
          rw [HS.out]
          unfold kidsP
          rw [if_pos (show p.pg.leaf = true from hlf)]
          rfl
        clear hlf HS
        gi_wp2
        exact leaves_marks (B := W.heap.size) (fun V => J [⟨p, hmem⟩] V) (fun V D h1 h2 h3 => OwnFrom.putObj hJ _ h1 h2 h3 rfl) (fun V hV => ⟨_, results_none rfl _ _ _, ⟨_, rfl⟩, .inl ⟨_, hE.out.symm, hV⟩⟩) [] w3 ⟨List.nodup_nil, fun D hD => by cases hD⟩ J3.out
      | false =>
        rw [hlf] at e0
        have hkp : kidsP p.pg = p.xs := by
          unfold kidsP
          exact if_neg (by rw [show p.pg.leaf = p.leaf from rfl, hlf]; exact Bool.false_ne_true)
        rw [hkp] at HS hkid
        have z12 : (d == 12) = false := by simp; omega
        rw [hlf] at HV3
        clear hkp
        gi_wp2_with fail
        have h0L : Hid (VisS w0 B q1 q2 q3 q4 W.heap.size (W.heap.size + 1) root m d c a n cap l false (.slice p.a p.n p.cap) W.heap.size [] w3) := HV3
        have hT : p.xs.length = p.n := HRP.out.1.1
        have HPN := Lib.hid hT
        have hpn : p.n ≤ 4 := by
          have := ok_len hok p.pg (List.mem_map_of_mem hmem)
          have e : p.pg.xs = p.xs := rfl
          rw [e] at this
          omega
        clear hT e0 e1 e3
        refine wpIn_loop (fun a' w' => ∃ (u7 u8 u9 u10 u11 u12 u13 u14 u15 u16 u17 u18 u19 u20 u21 u22 u23 u24 u25 u26 u27 u28 u32 u33 u34 u35 u36 u37 u38 u39 u40 u41 u42 u43 u44 u45 u46 u47 u48 u49 u50 u51 u52 : Value) (Ds : List Nat) (k : Nat), (k ≤ p.n ∧ Hid (J (⟨p, hmem⟩ :: ((p.xs.take k).filter (meetsIt c)).flatMap (fun x => visS ps c (f + 1) x.id)) w') ∧ Hid (VisS w0 B q1 q2 q3 q4 W.heap.size (W.heap.size + 1) root m d c a n cap l false (.slice p.a p.n p.cap) W.heap.size Ds w')) ∧ a' = { tmps := #[.func (.yield l) #[] #[], .pointer (some ⟨q1, 0, none⟩), .pointer (some ⟨q2, 0, none⟩), .pointer (some ⟨q3, 0, none⟩), .pointer (some ⟨q4, 0, none⟩), .pointer (some ⟨W.heap.size, 0, none⟩), .pointer (some ⟨W.heap.size + 1, 0, none⟩), u7, u8, u9, u10, u11, u12, u13, u14, u15, u16, u17, u18, u19, u20, u21, u22, u23, u24, u25, u26, u27, u28, .slice p.a p.n p.cap, .int .i64 (p.n : Int), .int .i64 (k : Int), u32, u33, u34, u35, u36, u37, u38, u39, u40, u41, u42, u43, u44, u45, u46, u47, u48, u49, u50, u51, u52], defers := Ds.map markOf }) (fun a' _ => p.n - (intOf (a'.tmps.getD 31 undef)).toNat) ?h0 ?round
        case h0 =>
          exact ⟨_, _, _, _, _, _, _, _, _, _, _, _, _, _, _, _, _, _, _, _, _, _, _, _, _, _, _, _, _, _, _, _, _, _, _, _, _, _, _, _, _, _, _, [], 0, ⟨Nat.zero_le _, J3, h0L⟩, rfl⟩
        case round =>
          clear J3 HV3 h0L HKF3
          rintro _ wr ⟨u7, u8, u9, u10, u11, u12, u13, u14, u15, u16, u17, u18, u19, u20, u21, u22, u23, u24, u25, u26, u27, u28, u32, u33, u34, u35, u36, u37, u38, u39, u40, u41, u42, u43, u44, u45, u46, u47, u48, u49, u50, u51, u52, Ds, k, ⟨hk, HJ, HV⟩, rfl⟩
          by_cases hlt : k < p.n
          · obtain ⟨bb, offb, x, hea, hbl2, hx, e0, e1, e2, e3, e4⟩ := rdIt_at (HRP.out.below HV.out.below) hlt
            have hxm : x ∈ p.xs := List.mem_of_getElem? hx
            have z2 : (k : Int) < p.n := by omega
            have z3 : (0 : Int) ≤ k := by omega
            have HX := Lib.hid (filter_step (p := meetsIt c) hx)
            have HXX := Lib.hid hx
            obtain ⟨w4, hw4⟩ : ∃ w4, w4 = wr.alloc (.cells #[.int .i64 x.id, .int .i64 x.x0, .int .i64 x.y0, .int .i64 x.x1, .int .i64 x.y1] 77) := ⟨_, rfl⟩
            have b4 : Below wr.heap.size wr w4 := by subst hw4; exact new_below _ _
            have hq8 : HeldB B w4 wr.heap.size #[.int .i64 x.id, .int .i64 x.x0, .int .i64 x.y0, .int .i64 x.x1, .int .i64 x.y1] 77 := by subst hw4; exact HeldB.new HV.out.bd HV.out.lt _ _
            have HV4 := Lib.hid (HV.out.all b4)
            have J4 := Lib.hid (OwnFrom.below hJ HJ.out b4)
            have y0 := hq8.loc.2.1 0
            have y1 := hq8.loc.2.1 1
            have y2 := hq8.loc.2.1 2
            have y3 := hq8.loc.2.1 3
            have y4 := hq8.loc.2.1 4
            have v0 := HV4.out.b4.loc.2.1 0
            have v1 := HV4.out.b4.loc.2.1 1
            have v2 := HV4.out.b4.loc.2.1 2
            have v3 := HV4.out.b4.loc.2.1 3
            simp at y0 y1 y2 y3 y4 v0 v1 v2 v3
            have HQ8 := Lib.hid hq8
            have hsz4 : w4.heap.size = wr.heap.size + 1 := by subst hw4; simp
            rw [hw4] at y0 y1 y2 y3 y4 v0 v1 v2 v3
            rw [hea]
            have HEA := Lib.hid hea
            clear hx hq8 HV HJ hea
            cases hmt : meetsIt c x with
            | false =>
              have CM : Calls Tryz.prog 24 #[.agg #[.int .i64 x.x0, .int .i64 x.y0, .int .i64 x.x1, .int .i64 x.y1], .agg #[.int .i64 c.x0, .int .i64 c.y0, .int .i64 c.x1, .int .i64 c.y1]] w4 (fun e w' => e = .returned (.bool false) ∧ Below w4.heap.size w4 w') := by have := iMeets_any x.x0 x.y0 x.x1 x.y1 c.x0 c.y0 c.x1 c.y1 w4; rw [show meetsB x.x0 x.y0 x.x1 x.y1 c.x0 c.y0 c.x1 c.y1 = false from hmt] at this; exact this
              replace CM := Lib.hid CM
              have HX2 : Hid (((p.xs.take (k + 1)).filter (meetsIt c)).flatMap (fun x => visS ps c (f + 1) x.id) = ((p.xs.take k).filter (meetsIt c)).flatMap (fun x => visS ps c (f + 1) x.id)) := by
                refine Lib.hid ?_
                rw [HX.out, hmt, if_neg Bool.false_ne_true]
              clear hmt HX
              gi_wp2_with fail
              rw [← hw4]
              refine ⟨trivial, (callsIn_wide.2 CM.out).mono ?_⟩
              rintro e w5 ⟨rfl, b5⟩
              have HV5 := Lib.hid (HV4.out.all b5)
              have J5 := Lib.hid (OwnFrom.below hJ J4.out b5)
              clear HV4 J4 b5 b4 CM y0 y1 y2 y3 y4 v0 v1 v2 v3 e0 e1 e2 e3 e4 hw4
              gi_wp2
              rw [← HEA.out]
              refine ⟨⟨_, _, _, _, _, _, _, _, _, _, _, _, _, _, _, _, _, _, _, _, _, _, _, _, _, _, _, _, _, _, _, _, _, _, _, _, _, _, _, _, _, _, _, Ds, k + 1, ⟨by omega, by rw [HX2.out]; exact J5, HV5⟩, by go_num⟩, ?_⟩
              simp [intOf]
              omega
            | true =>
              have CM : Calls Tryz.prog 24 #[.agg #[.int .i64 x.x0, .int .i64 x.y0, .int .i64 x.x1, .int .i64 x.y1], .agg #[.int .i64 c.x0, .int .i64 c.y0, .int .i64 c.x1, .int .i64 c.y1]] w4 (fun e w' => e = .returned (.bool true) ∧ Below w4.heap.size w4 w') := by have := iMeets_any x.x0 x.y0 x.x1 x.y1 c.x0 c.y0 c.x1 c.y1 w4; rw [show meetsB x.x0 x.y0 x.x1 x.y1 c.x0 c.y0 c.x1 c.y1 = true from hmt] at this; exact this
              replace CM := Lib.hid CM
              have HX2 : Hid (((p.xs.take (k + 1)).filter (meetsIt c)).flatMap (fun x => visS ps c (f + 1) x.id) = ((p.xs.take k).filter (meetsIt c)).flatMap (fun x => visS ps c (f + 1) x.id) ++ visS ps c (f + 1) x.id) := by
                refine Lib.hid ?_
                rw [HX.out, hmt, if_pos rfl, List.flatMap_append]
                simp
              obtain ⟨tt, htt⟩ := kid_pre (g := fun x => visS ps c (f + 1) x.id) HXX.out hmt
              have HTT : Hid (⟨p, hmem⟩ :: (((p.xs.take k).filter (meetsIt c)).flatMap (fun x => visS ps c (f + 1) x.id) ++ visS ps c (f + 1) x.id ++ tt) = visS ps c (f + 1 + 1) m) := by
                refine Lib.hid ?_
                rw [HS.out, htt]
              have hxr := hkid x hxm
              clear hmt HX htt
              gi_wp2_with fail
              rw [← hw4]
              refine ⟨trivial, (callsIn_wide.2 CM.out).mono ?_⟩
              rintro e w5 ⟨rfl, b5⟩
              have HV5 := Lib.hid (HV4.out.all b5)
              have J5 := Lib.hid (OwnFrom.below hJ J4.out b5)
              have hq8 := (HQ8.out.below b5 HV4.out.lt).loc
              have hsz5 := b5.size
              clear HV4 J4 b5 b4 CM y0 y1 y2 y3 y4 v0 v1 v2 v3 e0 e1 e2 e3 e4 hw4 HQ8
              have y0 := hq8.2.1 0
              have g0 := HV5.out.b1.loc.2.1 0
              have g1 := HV5.out.b1.loc.2.1 1
              have g3 := HV5.out.b3.loc.2.1 0
              have v0 := HV5.out.b4.loc.2.1 0
              have v1 := HV5.out.b4.loc.2.1 1
              have v2 := HV5.out.b4.loc.2.1 2
              have v3 := HV5.out.b4.loc.2.1 3
              simp at y0 g0 g1 g3 v0 v1 v2 v3
              obtain ⟨h6, k1, k2, k4, k3⟩ := held4 HV5.out.bd HV5.out.lt #[.int .i64 root, .slice a n cap] #[.int .i64 x.id] #[.int .i64 c.x0, .int .i64 c.y0, .int .i64 c.x1, .int .i64 c.y1] #[.int .i64 (d + 1)] 26 3 28 3
              obtain ⟨w6, hw6⟩ : ∃ w6, w6 = (((w5.alloc (.cells #[.int .i64 root, .slice a n cap] 26)).alloc (.cells #[.int .i64 x.id] 3)).alloc (.cells #[.int .i64 c.x0, .int .i64 c.y0, .int .i64 c.x1, .int .i64 c.y1] 28)).alloc (.cells #[.int .i64 (d + 1)] 3) := ⟨_, rfl⟩
              rw [← hw6] at h6 k1 k2 k3 k4
              have HV6 := Lib.hid (HV5.out.all h6)
              have J6 := Lib.hid (OwnFrom.below hJ J5.out h6)
              rw [HD.out] at k3
              have ST := ih x.id _ _ _ _ w6 (by omega) hxr k1 k2 k3 k4 HV6.out.below HV6.out.bd HV6.out.lt
              have hs6 := h6.size
              clear k1 k2 k3 k4 h6 hq8 HV5 J5
              gi_wp2_with fail
              refine ⟨trivial, (callsIn_wide.2 (iVisitedFrom_any root x.id (d + 1) c a n cap w5)).mono ?_⟩
              rintro e w7 ⟨rfl, hw7⟩
              obtain rfl : w7 = w6 := hw7.trans hw6.symm
              clear hw6 hw7 g0 g1 g3 v0 v1 v2 v3 y0
              gi_wp2_with fail
              have hBs : B < w7.heap.size := HV6.out.lt
              have hws : W.heap.size ≤ w7.heap.size := HV6.out.sz
              have h0s : w0.heap.size ≤ w7.heap.size := HV6.out.below.size
              have hDs : ∀ D ∈ Ds, D < w7.heap.size := fun D hD => heap_lt (HV6.out.mks.all D hD).2
              have hlen : ∀ pre' : List {p : PgV // p ∈ ps}, pre'.length < (visS ps c (f + 1) x.id).length → (⟨p, hmem⟩ :: (((p.xs.take k).filter (meetsIt c)).flatMap (fun x => visS ps c (f + 1) x.id) ++ pre')).length < (visS ps c (f + 1 + 1) m).length := fun pre' hp' => by
                rw [← HTT.out]
                simp only [List.length_cons, List.length_append]
                omega
              refine range_O (gf := 81) (lb := #[.pointer (some ⟨w5.heap.size, 0, none⟩), .pointer (some ⟨w5.heap.size + 1, 0, none⟩), .pointer (some ⟨w5.heap.size + 1 + 1 + 1, 0, none⟩), .pointer (some ⟨w5.heap.size + 1 + 1, 0, none⟩)]) rfl (enters_of Tryz.func81 (by kernel_rfl) rfl) ST (fun h k => h.trans k)
                (fun V l o o' hl h1 h2 _ => KpB.putObj o' h1 h2 (by omega) (by omega)) (Below.refl _ _) (fun _ => rfl)
                (fun pre' V => J (⟨p, hmem⟩ :: (((p.xs.take k).filter (meetsIt c)).flatMap (fun x => visS ps c (f + 1) x.id) ++ pre')) V ∧ VisS w0 B q1 q2 q3 q4 W.heap.size (W.heap.size + 1) root m d c a n cap l false (.slice p.a p.n p.cap) W.heap.size Ds V)
                (fun pre' V => Jx (⟨p, hmem⟩ :: (((p.xs.take k).filter (meetsIt c)).flatMap (fun x => visS ps c (f + 1) x.id) ++ pre')) V ∧ Marks W.heap.size V Ds) ?hI ?hIx ⟨by rw [List.append_nil]; exact J6.out, HV6.out⟩
                (fun y a' V => ∃ Bx, V.heap[Bx]? = some (.cells #[.bool y.1.leaf, .slice y.1.a y.1.n y.1.cap] 59 (0, 0)) ∧ a' = { tmps := #[.func (.yield l) #[] #[], .pointer (some ⟨q1, 0, none⟩), .pointer (some ⟨q2, 0, none⟩), .pointer (some ⟨q3, 0, none⟩), .pointer (some ⟨q4, 0, none⟩), .pointer (some ⟨W.heap.size, 0, none⟩), .pointer (some ⟨W.heap.size + 1, 0, none⟩), u7, .pointer (some ⟨wr.heap.size, 0, none⟩), .pointer (some ⟨Bx, 0, none⟩), u10, u11, u12, u13, u14, u15, u16, u17, u18, u19, u20, u21, u22, u23, u24, u25, u26, u27, u28, .slice (some ⟨bb, offb, none⟩) p.n p.cap, .int .i64 (p.n : Int), .int .i64 (k : Int), .bool true, .pointer (some ⟨bb, offb + k * 5, none⟩), .agg #[.int .i64 x.id, .int .i64 x.x0, .int .i64 x.y0, .int .i64 x.x1, .int .i64 x.y1], .pointer (some ⟨wr.heap.size, 1, none⟩), .agg #[.int .i64 x.x0, .int .i64 x.y0, .int .i64 x.x1, .int .i64 x.y1], .agg #[.int .i64 c.x0, .int .i64 c.y0, .int .i64 c.x1, .int .i64 c.y1], .bool true, .bool false, .agg #[.int .i64 root, .slice a n cap], .pointer (some ⟨wr.heap.size, 0, none⟩), .int .i64 x.id, .agg #[.int .i64 c.x0, .int .i64 c.y0, .int .i64 c.x1, .int .i64 c.y1], .int .i64 d, .int .i64 (d + 1), .func (.func 81) #[] #[.pointer (some ⟨w5.heap.size, 0, none⟩), .pointer (some ⟨w5.heap.size + 1, 0, none⟩), .pointer (some ⟨w5.heap.size + 1 + 1 + 1, 0, none⟩), .pointer (some ⟨w5.heap.size + 1 + 1, 0, none⟩)], .agg #[.bool y.1.leaf, .slice y.1.a y.1.n y.1.cap], u48, u49, u50, u51, u52], defers := [] }) ?hAx ?assign ?body ?done ?stop
              case hI =>
                rintro pre' V V' row ⟨hj, hv⟩ hg hr
                exact ⟨hJ _ V V' row hj hg (fun r e => ⟨by have := (hr r e).1; omega, (hr r e).2⟩), hv.turn hg hr hBs h0s hDs⟩
              case hIx =>
                rintro pre' V V' row ⟨hj, hv⟩ hg hr
                exact ⟨hJx _ V V' row hj hg (fun r e => ⟨by have := (hr r e).1; omega, (hr r e).2⟩), hv.of (fun D hD => hg.block D (heap_lt (hv.all D hD).2) (fun e => by have := (hr D e.symm).1; have := hDs D hD; omega))⟩
              case hAx =>
                rintro y a' _ V V' row ⟨Bx, h1, h2⟩ hg hr
                refine ⟨Bx, (hg.block Bx (heap_lt h1) (fun e => ?_)).trans h1, h2⟩
                obtain ⟨-, ob, ho, hc⟩ := hr Bx e.symm
                rw [h1] at ho
                cases ho
                cases hc
              case assign =>
                rintro l' pre' y V K ⟨hj, hv⟩ hK
                have hal := new_below V (.cells #[.bool y.1.leaf, .slice y.1.a y.1.n y.1.cap] 59)
                have hres := hK { tmps := #[.func (.yield l) #[] #[], .pointer (some ⟨q1, 0, none⟩), .pointer (some ⟨q2, 0, none⟩), .pointer (some ⟨q3, 0, none⟩), .pointer (some ⟨q4, 0, none⟩), .pointer (some ⟨W.heap.size, 0, none⟩), .pointer (some ⟨W.heap.size + 1, 0, none⟩), u7, .pointer (some ⟨wr.heap.size, 0, none⟩), .pointer (some ⟨V.heap.size, 0, none⟩), u10, u11, u12, u13, u14, u15, u16, u17, u18, u19, u20, u21, u22, u23, u24, u25, u26, u27, u28, .slice (some ⟨bb, offb, none⟩) p.n p.cap, .int .i64 (p.n : Int), .int .i64 (k : Int), .bool true, .pointer (some ⟨bb, offb + k * 5, none⟩), .agg #[.int .i64 x.id, .int .i64 x.x0, .int .i64 x.y0, .int .i64 x.x1, .int .i64 x.y1], .pointer (some ⟨wr.heap.size, 1, none⟩), .agg #[.int .i64 x.x0, .int .i64 x.y0, .int .i64 x.x1, .int .i64 x.y1], .agg #[.int .i64 c.x0, .int .i64 c.y0, .int .i64 c.x1, .int .i64 c.y1], .bool true, .bool false, .agg #[.int .i64 root, .slice a n cap], .pointer (some ⟨wr.heap.size, 0, none⟩), .int .i64 x.id, .agg #[.int .i64 c.x0, .int .i64 c.y0, .int .i64 c.x1, .int .i64 c.y1], .int .i64 d, .int .i64 (d + 1), .func (.func 81) #[] #[.pointer (some ⟨w5.heap.size, 0, none⟩), .pointer (some ⟨w5.heap.size + 1, 0, none⟩), .pointer (some ⟨w5.heap.size + 1 + 1 + 1, 0, none⟩), .pointer (some ⟨w5.heap.size + 1 + 1, 0, none⟩)], .agg #[.bool y.1.leaf, .slice y.1.a y.1.n y.1.cap], u48, u49, u50, u51, u52], defers := [] } _ ((KeepsOthers.alloc V _).from _) (KpB.all hal hv.below.size hv.lt) ⟨OwnFrom.below hJ hj hal, hv.all hal⟩ ⟨V.heap.size, heap_alloc_new _ _, rfl⟩
                clear hK hal
                dsimp only [ndEnc]
                gi_wp2
                exact hres
              case body =>
                rintro l' pre' y a' V hl ⟨hj, hv⟩ ⟨Bx, hy, rfl⟩ hp'
                obtain ⟨fn, tmps, assign, body, hyl, hR⟩ := hY _ y V hj (hlen pre' hp')
                dsimp only [ndEnc] at hyl
                have hyc : ∀ o, V.cell? ⟨Bx, o, none⟩ = (#[Value.bool y.1.leaf, .slice y.1.a y.1.n y.1.cap] : Array Value)[o]? := fun o => by simp [World.cell?, hy]
                have t0 := hyc 0
                have t1 := hyc 1
                have t2 := hv.by_.loc.2.1 0
                simp at t0 t1 t2
                have HV := Lib.hid hv
                clear hyc hy hv hj
                gi_wp2_with fail
                refine RoundIn.mono (R := fun e V' => KeepsFrom W.heap.size V V' ∧ ((e = .returned (.bool true) ∧ J (⟨p, hmem⟩ :: (((p.xs.take k).filter (meetsIt c)).flatMap (fun x => visS ps c (f + 1) x.id) ++ pre') ++ [y]) V' ∧ KpB w0.heap.size B V V') ∨ (e = .returned (.bool false) ∧ Jx (⟨p, hmem⟩ :: (((p.xs.take k).filter (meetsIt c)).flatMap (fun x => visS ps c (f + 1) x.id) ++ pre') ++ [y]) V'))) (round_deep hR) ?_
                rintro e V' ⟨kf, (⟨rfl, j', k'⟩ | ⟨rfl, x'⟩)⟩
                · have HV' := Lib.hid (HV.out.kp k' kf)
                  have J' := Lib.hid j'
                  have KF := Lib.hid (KeepsFrom.mono kf hws)
                  have KP := Lib.hid k'
                  clear HV hR hyl
                  gi_wp2
                  exact ⟨KF.out, KP.out, by have := J'.out; simpa [List.append_assoc] using this, HV'.out⟩
                · have KF := Lib.hid (KeepsFrom.mono kf hws)
                  have MK : Hid (Marks W.heap.size V' Ds) := Lib.hid ⟨HV.out.mks.nodup, fun D hD => ⟨(HV.out.mks.all D hD).1, kf.same D _ (HV.out.mks.all D hD).1 (HV.out.mks.all D hD).2 rfl⟩⟩
                  have J' := Lib.hid x'
                  clear HV hR hyl kf
                  gi_wp2
                  exact ⟨KF.out, by have := J'.out; simpa [List.append_assoc] using this, MK.out⟩
              case done =>
                rintro D ys V hD rfl ⟨hj, hv⟩ hKD
                have hD2 : D ∉ Ds := fun h => by have := hDs D h; omega
                have HV' : Hid (VisS w0 B q1 q2 q3 q4 W.heap.size (W.heap.size + 1) root m d c a n cap l false (.slice p.a p.n p.cap) W.heap.size (D :: Ds) V) := Lib.hid ⟨hv.b1, hv.b2, hv.b3, hv.b4, hv.by_, hv.b6, hv.below, hv.bd, hv.lt, ⟨List.nodup_cons.2 ⟨hD2, hv.mks.nodup⟩, fun D' hD' => by
                  rcases List.mem_cons.1 hD' with e | e
                  · rw [e]; exact ⟨Nat.le_trans hws hD, hKD⟩
                  · exact hv.mks.all D' e⟩, hv.sz⟩
                have J' : Hid (J (⟨p, hmem⟩ :: ((p.xs.take (k + 1)).filter (meetsIt c)).flatMap (fun x => visS ps c (f + 1) x.id)) V) := by
                  rw [HX2.out]
                  exact Lib.hid hj
                clear hj hv
                gi_wp2
                rw [← HEA.out]
                refine ⟨⟨_, _, _, _, _, _, _, _, _, _, _, _, _, _, _, _, _, _, _, _, _, _, _, _, _, _, _, _, _, _, _, _, _, _, _, _, _, _, _, _, _, _, _, D :: Ds, k + 1, ⟨by omega, J', HV'⟩, by go_num⟩, ?_⟩
                simp [intOf]
                omega
              case stop =>
                rintro D pre' V hD ⟨t, ht⟩ ⟨hj, hm'⟩ hKD
                have hD2 : D ∉ Ds := fun h => by have := hDs D h; omega
                have MK : Hid (Marks W.heap.size V (D :: Ds)) := Lib.hid ⟨List.nodup_cons.2 ⟨hD2, hm'.nodup⟩, fun D' hD' => by
                  rcases List.mem_cons.1 hD' with e | e
                  · rw [e]; exact ⟨Nat.le_trans hws hD, hKD⟩
                  · exact hm'.all D' e⟩
                have J' := Lib.hid hj
                have hpre : Hid ((⟨p, hmem⟩ :: (((p.xs.take k).filter (meetsIt c)).flatMap (fun x => visS ps c (f + 1) x.id) ++ pre')) <+: visS ps c (f + 1 + 1) m) := by
                  refine Lib.hid ⟨t ++ tt, ?_⟩
                  rw [← HTT.out, ← ht]
                  simp [List.append_assoc]
                clear hj hm'
                gi_wp2
                exact leaves_marks (B := W.heap.size) (fun V => Jx (⟨p, hmem⟩ :: (((p.xs.take k).filter (meetsIt c)).flatMap (fun x => visS ps c (f + 1) x.id) ++ pre')) V) (fun V D h1 h2 h3 => OwnFrom.putObj hJx _ h1 h2 h3 rfl) (fun V hV => ⟨_, results_none rfl _ _ _, ⟨_, rfl⟩, .inr ⟨_, hpre.out, hV⟩⟩) (D :: Ds) V MK.out J'.out
          · obtain rfl : k = p.n := by omega
            have JE : Hid (J (visS ps c (f + 1 + 1) m) wr) := by
              have := HJ.out
              rw [List.take_of_length_le (by rw [HPN.out]; exact Nat.le_refl _)] at this
              rw [HS.out]
              exact Lib.hid this
            clear HJ
            gi_wp2
            exact leaves_marks (B := W.heap.size) (fun V => J (visS ps c (f + 1 + 1) m) V) (fun V D h1 h2 h3 => OwnFrom.putObj hJ _ h1 h2 h3 rfl) (fun V hV => ⟨_, results_none rfl _ _ _, ⟨_, rfl⟩, .inl ⟨_, rfl, hV⟩⟩) Ds wr HV.out.mks JE.out
    · clear hW2 HV2
      gi_wp2
      exact leaves_marks (B := W.heap.size) (fun V => Jx [⟨p, hmem⟩] V) (fun V D h1 h2 h3 => OwnFrom.putObj hJx _ h1 h2 h3 rfl) (fun V hV => ⟨_, results_none rfl _ _ _, ⟨_, rfl⟩, .inr ⟨_, ⟨_, by rw [HS.out]; rfl⟩, hV⟩⟩) [] w3 ⟨List.nodup_nil, fun D hD => by cases hD⟩ x3
end Go.Proofs.YtfefggcfeppeiaaGreat
