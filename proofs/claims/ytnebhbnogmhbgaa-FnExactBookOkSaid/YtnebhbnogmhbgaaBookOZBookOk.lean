/- The model's BookOk. -/
import Derived.Test.YtnebhbnogmhbgaaReach2ZBookOk
import Derived.Test.YtnebhbnogmhbgaaNodeOkZBookOk
namespace Go.Proofs.Ytnebhbnogmhbgaa
open Go.RowKit
attribute [local go_sem ↓] Go.wp_at_zero Go.wp_at_succ

/-- A page by itself. -/
def pgOk (p : Pg) : Bool := if p.used then nodeOkV p.leaf p.xs else !p.leaf && p.xs.isEmpty
def kidOk (r : List Int) (root : Int) (x : It) : Bool := r.contains x.id && decide (x.id ≠ root)
def kidsOk (l : List Pg) (r : List Int) (root : Int) (i : Int) : Bool := (kidsP (pageAt l i)).all (kidOk r root)
def edges (l : List Pg) (r : List Int) : Nat := (r.map fun i => (kidsP (pageAt l i)).length).sum
def bookOkV (l : List Pg) (root : Int) : Bool :=
  decide (1 ≤ l.length ∧ l.length ≤ 48) && (!(reachV l root).isEmpty && (l.all pgOk && ((reachV l root).all (kidsOk l (reachV l root) root) && decide ((edges l (reachV l root) : Int) = ((reachV l root).length : Int) - 1))))

theorem all_no {ps : List PgV} {k : Nat} {p : PgV} (h : ps[k]? = some p) (hp : pgOk p.pg = false) : (ps.map PgV.pg).all pgOk = false := by
  rw [List.all_eq_false]
  exact ⟨_, List.mem_map.2 ⟨p, List.mem_of_getElem? h, rfl⟩, by rw [hp]; exact Bool.false_ne_true⟩

theorem edges_more {l : List Pg} {r : List Int} {k : Nat} {y : Int} (h : r[k]? = some y) : edges l (r.take (k + 1)) = edges l (r.take k) + (kidsP (pageAt l y)).length := by
  unfold edges
  rw [List.take_add_one, h, List.map_append, List.sum_append]
  simp
theorem allk_no {l : List Pg} {r : List Int} {root : Int} {k : Nat} {y : Int} (h : r[k]? = some y) (hk : kidsOk l r root y = false) : r.all (kidsOk l r root) = false := by
  rw [List.all_eq_false]
  exact ⟨_, List.mem_of_getElem? h, by rw [hk]; exact Bool.false_ne_true⟩

theorem allk_yes {l : List Pg} {r : List Int} {root : Int} (h : ∀ (j : Nat) (y : Int), r[j]? = some y → kidsOk l r root y = true) : r.all (kidsOk l r root) = true := by
  rw [List.all_eq_true]
  intro y hy
  obtain ⟨j, hj⟩ := List.getElem?_of_mem hy
  exact h j y hj
theorem kids_no {l : List Pg} {r : List Int} {root y : Int} {xs : List It} {j : Nat} {x : It} (h : kidsP (pageAt l y) = xs) (hx : xs[j]? = some x) (hk : kidOk r root x = false) : kidsOk l r root y = false := by
  unfold kidsOk
  rw [h, List.all_eq_false]
  exact ⟨x, List.mem_of_getElem? hx, by rw [hk]; exact Bool.false_ne_true⟩

set_option maxRecDepth 100000 in
set_option maxHeartbeats 3200000 in
theorem sBookOk_any (root : Int) (a : Option Addr) (n cap : Nat) (ps : List PgV) (w : World) (h : RdP w a n cap ps) (hn : n ≤ 1099511627776) (hr : (Lit.int .i64 root).wf = true) (hps : ∀ p ∈ ps, p.n ≤ 1099511627776) (hw : ∀ p ∈ ps, ∀ x ∈ p.xs, (Lit.int .i64 x.id).wf = true) :
    Calls Try.prog 38 #[.agg #[.int .i64 root, .slice a n cap]] w fun e w' => e = .returned (.bool (bookOkV (ps.map PgV.pg) root)) ∧ Below w.heap.size w w' := by
  have HL := Lib.hid h.1.1.1
  have HW := Lib.hid hw
  have HN := Lib.hid hps
  have hnc := h.1.1.2.1
  have hm := h.1.1.2.2.1
  unfold maxLen at hm
  obtain ⟨W0, hW0⟩ : ∃ W0, W0 = w.alloc (.cells #[.int .i64 root, .slice a n cap] 26) := ⟨_, rfl⟩
  have b0 : Below w.heap.size w W0 := by subst hW0; exact new_below w _
  have K0 : Loc W0 w.heap.size #[.int .i64 root, .slice a n cap] := by subst hW0; exact Loc.new w _ _
  have HR := Lib.hid (h.below b0)
  have C := Lib.hid (sReach_any root a n cap ps W0 HR.out hn hr hw)
  have k0 := K0.2.1 0
  have k1 := K0.2.1 1
  simp at k0 k1
  clear h hw hps
  obtain ⟨r, hrr⟩ : ∃ r, reachV (ps.map PgV.pg) root = r := ⟨_, rfl⟩
  rw [hrr] at C
  have hE : bookOkV (ps.map PgV.pg) root = (decide (1 ≤ n ∧ n ≤ 48) && (!r.isEmpty && ((ps.map PgV.pg).all pgOk && (r.all (kidsOk (ps.map PgV.pg) r root) && decide ((edges (ps.map PgV.pg) r : Int) = (r.length : Int) - 1))))) := by
    unfold bookOkV
    rw [hrr, List.length_map, HL.out]
  obtain ⟨res, hres⟩ : ∃ res, bookOkV (ps.map PgV.pg) root = res := ⟨_, rfl⟩
  rw [hres] at hE
  rw [hres]
  have HOK : Hid (OutOk (ps.map PgV.pg) r) := by rw [← hrr]; exact Lib.hid (walkV_ok _ _ _ _ ⟨List.nodup_nil, fun z hz => by cases hz⟩).1
  replace hrr := Lib.hid hrr
  replace hE := Lib.hid hE
  clear hres
  go_enter Try.func38, Try.ntmps38
  go_wp2_with fail
  rw [← hW0]
  clear hW0
  refine C.out.mono ?_
  rintro e w1 ⟨v1, rfl, o1, b1⟩
  obtain ⟨va, vc, rfl, hrd⟩ := Own.rd o1
  have K1 := Lib.hid (K0.below b1)
  have B1 := Lib.hid (b0.trans (b1.mono b0.size))
  have HR1 := Lib.hid (HR.out.below b1)
  have RD1 := Lib.hid hrd
  have c1 := K1.out.2.1 1
  have c0 := K1.out.2.1 0
  simp at c0 c1
  clear o1 b1 hrd C K0 k0 k1 b0 HR
  have hrl : r.length ≤ maxLen := Nat.le_trans RD1.out.1.2.1 RD1.out.1.2.2.1
  unfold maxLen at hrl
  have hq := K1.out.1
  by_cases hin : 1 ≤ (n : Int) ∧ (n : Int) ≤ 48
  · obtain ⟨h1, h2⟩ := hin
    have hd : decide (1 ≤ n ∧ n ≤ 48) = true := decide_eq_true (by omega)
    by_cases hr0 : r.length = 0
    · have hF : Hid (res = false) := by
        show res = false
        rw [hE.out, List.eq_nil_of_length_eq_zero hr0]
        simp
      go_wp2_with fail
      refine (l1In_yes (n : Int) 1 48 _ h1 h2).mono ?_
      rintro e w2 ⟨rfl, rfl⟩
      go_wp2
      go_ret
      exact ⟨ret_bool hF.out.symm, B1.out⟩
    · have hE2 : Hid (res = ((ps.map PgV.pg).all pgOk && (r.all (kidsOk (ps.map PgV.pg) r root) && decide ((edges (ps.map PgV.pg) r : Int) = (r.length : Int) - 1)))) := by
        show res = _
        rw [hE.out, hd, Bool.true_and]
        cases r with
        | nil => simp at hr0
        | cons r0 rs => rfl
      obtain ⟨rb, roff, rfl, hrc⟩ := RD1.out.2 (by omega)
      replace hrc := Lib.hid hrc
      clear hE hd
      have z5 : ((r.length : Int) == 0) = false := by rw [beq_eq_false_iff_ne]; omega
      go_wp2_with fail
      refine (l1In_yes (n : Int) 1 48 _ h1 h2).mono ?_
      rintro e w2 ⟨rfl, rfl⟩
      go_wp2
      go_loopw [4] (fun i wr => ∃ k : Nat, k ≤ n ∧ i = .int .i64 (k : Int) ∧ Hid (∀ (j : Nat) (p : PgV), j < k → ps[j]? = some p → pgOk p.pg = true) ∧ Below w1.heap.size w1 wr) (fun i _ => n - (intOf i).toNat)
      case atStart => exact ⟨0, Nat.zero_le _, rfl, Lib.hid (fun j p hj => by omega), Below.refl _ _⟩
      case round =>
        obtain ⟨k, hk, rfl, HA, hB⟩ := hrel
        have k1 := (hB.cell (p := ⟨w.heap.size, 1, none⟩) hq).trans c1
        by_cases hlt : k < n
        · obtain ⟨b, off, p, hpa, hbl, hp, hrd, d0, d1, d2⟩ := rdP_at (HR1.out.below hB) hlt
          rw [hpa] at k1
          have HP := Lib.hid hp
          have RP := Lib.hid hrd
          have z0 : (0 : Int) ≤ k := by omega
          have z1 : (k : Int) < n := by omega
          replace hpa := Lib.hid hpa
          clear hp hrd
          cases hu : p.used with
          | true =>
            rw [hu] at d0
            have CN := sNodeOk_any p.leaf p.a p.n p.cap p.xs wr RP.out
            cases hv : nodeOkV p.leaf p.xs with
            | true =>
              have hpg : pgOk p.pg = true := by unfold pgOk PgV.pg; simp only [hu]; exact hv
              have HS : Hid (∀ (j : Nat) (p : PgV), j < k + 1 → ps[j]? = some p → pgOk p.pg = true) := Lib.hid (fun j p' hj h' => by
                by_cases hjk : j < k
                · exact HA.out j p' hjk h'
                · obtain rfl : j = k := by omega
                  rw [HP.out] at h'
                  cases h'
                  exact hpg)
              rw [hv] at CN
              replace CN := Lib.hid CN
              clear hpg hu hv
              go_wp2_with fail
              refine CN.out.mono ?_
              rintro e w3 ⟨rfl, b3⟩
              have B3 := hB.trans (b3.mono hB.size)
              have k3 := (b3.cell (p := ⟨w.heap.size, 1, none⟩) (show w.heap.size < wr.heap.size by have := hB.size; omega)).trans k1
              have d3 := (b3.cell (p := ⟨b, off + k * 3, none⟩) hbl).trans d0
              clear k1 d0 d1 d2
              go_wp2
              go_roundw
              case rel => exact ⟨k + 1, by omega, by go_num, HS, B3⟩
              case measure => simp [intOf]; omega
            | false =>
              have hpg : pgOk p.pg = false := by unfold pgOk PgV.pg; simp only [hu]; exact hv
              have hF : Hid (res = false) := by
                show res = false
                rw [hE2.out, all_no HP.out hpg, Bool.false_and]
              rw [hv] at CN
              replace CN := Lib.hid CN
              clear hpg hu hv
              go_wp2_with fail
              refine CN.out.mono ?_
              rintro e w3 ⟨rfl, b3⟩
              have B3 := hB.trans (b3.mono hB.size)
              go_wp2
              go_ret
              exact ⟨ret_bool hF.out.symm, B1.out.trans (B3.mono B1.out.size)⟩
          | false =>
            rw [hu] at d0
            cases hl : p.leaf with
            | true =>
              have hpg : pgOk p.pg = false := by unfold pgOk PgV.pg; simp only [hu, hl]; rfl
              have hF : Hid (res = false) := by
                show res = false
                rw [hE2.out, all_no HP.out hpg, Bool.false_and]
              rw [hl] at d1
              clear hpg hu hl
              go_wp2
              go_ret
              exact ⟨ret_bool hF.out.symm, B1.out.trans (hB.mono B1.out.size)⟩
            | false =>
              rw [hl] at d1
              have hpl := RP.out.1.1
              by_cases hn0 : p.n = 0
              · have hpg : pgOk p.pg = true := by
                  unfold pgOk PgV.pg
                  simp only [hu, hl]
                  have e : p.xs = [] := List.eq_nil_of_length_eq_zero (by rw [hpl]; exact hn0)
                  rw [e]
                  rfl
                have HS : Hid (∀ (j : Nat) (p : PgV), j < k + 1 → ps[j]? = some p → pgOk p.pg = true) := Lib.hid (fun j p' hj h' => by
                  by_cases hjk : j < k
                  · exact HA.out j p' hjk h'
                  · obtain rfl : j = k := by omega
                    rw [HP.out] at h'
                    cases h'
                    exact hpg)
                rw [hn0] at d2
                clear hpg hu hl hpl
                go_wp2
                go_roundw
                case rel => exact ⟨k + 1, by omega, by go_num, HS, hB⟩
                case measure => simp [intOf]; omega
              · have hpg : pgOk p.pg = false := by
                  unfold pgOk PgV.pg
                  simp only [hu, hl]
                  cases e : p.xs with
                  | nil => rw [e] at hpl; exact absurd hpl.symm hn0
                  | cons _ _ => rfl
                have hF : Hid (res = false) := by
                  show res = false
                  rw [hE2.out, all_no HP.out hpg, Bool.false_and]
                have z7 : (0 : Int) < p.n := by omega
                clear hpg hu hl hpl
                go_wp2
                go_ret
                exact ⟨ret_bool hF.out.symm, B1.out.trans (hB.mono B1.out.size)⟩
        · have hAll : (ps.map PgV.pg).all pgOk = true := by
            rw [List.all_eq_true]
            intro q hq
            obtain ⟨p, hp, rfl⟩ := List.mem_map.1 hq
            obtain ⟨j, hj⟩ := List.getElem?_of_mem hp
            exact HA.out j p (by have := (List.getElem?_eq_some_iff.1 hj).1; rw [HL.out] at this; omega) hj
          have hE3 : Hid (res = (r.all (kidsOk (ps.map PgV.pg) r root) && decide ((edges (ps.map PgV.pg) r : Int) = (r.length : Int) - 1))) := by
            show res = _
            rw [hE2.out, hAll, Bool.true_and]
          clear hE2 hAll HA
          go_wp2
          go_loopw [5, 6] (fun v i wr2 => ∃ (k e : Nat), k ≤ r.length ∧ v = .int .i64 (e : Int) ∧ i = .int .i64 (k : Int) ∧ Hid (e = edges (ps.map PgV.pg) (r.take k)) ∧ e ≤ k * 1099511627776 ∧ Hid (∀ (j : Nat) (y : Int), j < k → r[j]? = some y → kidsOk (ps.map PgV.pg) r root y = true) ∧ Below w1.heap.size w1 wr2) (fun _ i _ => r.length - (intOf i).toNat)
          case atStart => exact ⟨0, 0, Nat.zero_le _, rfl, rfl, Lib.hid rfl, Nat.zero_le _, Lib.hid (fun j y hj => by omega), hB⟩
          case round =>
            clear hB k1
            obtain ⟨k', e', hk', rfl, rfl, HE, he', HA, hB⟩ := hrel
            have k1 := (hB.cell (p := ⟨w.heap.size, 1, none⟩) hq).trans c1
            have k0 := (hB.cell (p := ⟨w.heap.size, 0, none⟩) hq).trans c0
            have hsB := hB.size
            by_cases hlt2 : k' < r.length
            · have rc := hrc.out k' hlt2
              have hrb : rb < w1.heap.size := World.block_lt_of_cell? w1 ⟨rb, roff + k', none⟩ rc
              have r0 := (hB.cell (p := ⟨rb, roff + k', none⟩) hrb).trans rc
              obtain ⟨y, hy⟩ : ∃ y, r.getD k' 0 = y := ⟨_, rfl⟩
              have hy2 : r[k']? = some y := by
                rw [← hy, List.getD_eq_getElem?_getD, List.getElem?_eq_getElem hlt2]
                rfl
              rw [hy] at r0
              have hyr := HOK.out.2 y (List.mem_of_getElem? hy2)
              rw [List.length_map, HL.out] at hyr
              obtain ⟨m, rfl⟩ := Int.eq_ofNat_of_zero_le hyr.1
              have hmn : (m : Int) < n := hyr.2
              obtain ⟨pb, poff, p, hpa, hpl, hp, hprd, d0, d1, d2⟩ := rdP_at (HR1.out.below hB) (show m < n by omega)
              have hpg : pageAt (ps.map PgV.pg) m = p.pg := pageAt_yes hp
              have hpx := Lib.hid (HW.out p (List.mem_of_getElem? hp))
              have hpn := HN.out p (List.mem_of_getElem? hp)
              have RP := Lib.hid hprd
              have hrbs : rb < wr.heap.size := by omega
              have hqs : w.heap.size < wr.heap.size := by omega
              rw [hpa] at k1
              replace hpa := Lib.hid hpa
              have z3 : (k' : Int) < r.length := by omega
              have z4 : (0 : Int) ≤ k' := by omega
              have z6 : (0 : Int) ≤ m := by omega
              have HPP := Lib.hid hp
              clear hp hprd rc hy hyr
              have KX := Lib.hid (Loc.new wr #[.bool p.leaf, .slice p.a p.n p.cap] 32).drew
              have TB := Lib.hid ((hB.alloc hB.size (.cells #[.bool p.leaf, .slice p.a p.n p.cap] 32)).drew)
              obtain ⟨q1, hq1⟩ : ∃ q1, q1 = wr.heap.size := ⟨_, rfl⟩
              go_wp2_with fail
              go_big_region
              obtain ⟨W3, hW3⟩ : ∃ W3, W3 = (wr.alloc (.cells #[.bool p.leaf, .slice p.a p.n p.cap] 32)).drew := ⟨_, rfl⟩
              rw [← hW3] at KX TB
              rw [← hW3]
              rw [← hq1] at KX
              rw [← hq1]
              clear hW3 hq1 d0 d1 d2 r0 k0 k1
              have m0 := KX.out.2.1 0
              have m1 := KX.out.2.1 1
              simp at m0 m1
              cases hlf : p.leaf with
              | true =>
                have HB1 : Hid (e' ≤ (k' + 1) * 1099511627776) := Lib.hid (Nat.le_trans he' (Nat.mul_le_mul_right _ (Nat.le_succ _)))
                have hkid : kidsP (pageAt (ps.map PgV.pg) m) = [] := by
                  rw [hpg]
                  unfold kidsP
                  exact if_pos hlf
                have HS : Hid (∀ (j : Nat) (y : Int), j < k' + 1 → r[j]? = some y → kidsOk (ps.map PgV.pg) r root y = true) := Lib.hid (fun j y hj h' => by
                  by_cases hjk : j < k'
                  · exact HA.out j y hjk h'
                  · obtain rfl : j = k' := by omega
                    rw [hy2] at h'
                    cases h'
                    unfold kidsOk
                    rw [hkid]
                    rfl)
                have HE2 : Hid (e' = edges (ps.map PgV.pg) (r.take (k' + 1))) := by
                  show e' = _
                  rw [edges_more hy2, hkid, ← HE.out]
                  rfl
                rw [hlf] at m0
                clear hkid hlf hpg hy2
                go_wp2
                go_loopw [5, 8] (fun v i wx => v = .int .i64 (e' : Int) ∧ i = .int .i64 0 ∧ wx = W3) (fun _ _ _ => 0)
                case atStart => exact ⟨rfl, rfl, rfl⟩
                case round =>
                  obtain ⟨rfl, rfl, rfl⟩ := hrel
                  go_wp2
                  all_goals
                    go_roundw
                    case rel => exact ⟨k' + 1, e', by omega, rfl, by go_num, HE2, HB1.out, HS, TB.out⟩
                    case measure => simp [intOf]; omega
              | false =>
                rw [hlf] at m0
                have hkid : kidsP (pageAt (ps.map PgV.pg) m) = p.xs := by
                  rw [hpg]
                  unfold kidsP
                  exact if_neg (by rw [show p.pg.leaf = p.leaf from rfl, hlf]; exact Bool.false_ne_true)
                have HPX := Lib.hid (HR1.out.2 p (List.mem_of_getElem? HPP.out))
                have hpxl := HPX.out.1.1
                have h48 : k' ≤ 48 := by
                  have h3 := HOK.out.len
                  rw [List.length_map, HL.out] at h3
                  omega
                have he48 : e' ≤ 52776558133248 := Nat.le_trans he' (Nat.mul_le_mul_right _ h48)
                have HB1 : Hid (e' + p.n ≤ (k' + 1) * 1099511627776) := Lib.hid (by rw [Nat.add_mul, Nat.one_mul]; exact Nat.add_le_add he' hpn)
                have hst := TB.out.size
                have hq1 := KX.out.1
                clear hlf hpg
                go_wp2
                go_loopw [5, 8] (fun v i wx => ∃ j : Nat, j ≤ p.n ∧ v = .int .i64 ((e' : Int) + j) ∧ i = .int .i64 (j : Int) ∧ Hid (∀ (t : Nat) (x : It), t < j → p.xs[t]? = some x → kidOk r root x = true) ∧ Below W3.heap.size W3 wx) (fun _ i _ => p.n - (intOf i).toNat)
                case atStart => exact ⟨0, Nat.zero_le _, by rw [show ((0 : Nat) : Int) = 0 from rfl, Int.add_zero], rfl, Lib.hid (fun t x ht => by omega), Below.refl _ _⟩
                case round =>
                  obtain ⟨j, hj, rfl, rfl, HK, hX⟩ := hrel
                  have hBX := TB.out.trans (hX.mono TB.out.size)
                  have k1 := (hBX.cell (p := ⟨w.heap.size, 1, none⟩) hq).trans c1
                  have k0 := (hBX.cell (p := ⟨w.heap.size, 0, none⟩) hq).trans c0
                  have n0 := (hX.cell (p := ⟨q1, 0, none⟩) hq1).trans m0
                  have n1 := (hX.cell (p := ⟨q1, 1, none⟩) hq1).trans m1
                  have hsX := hX.size
                  by_cases hlt3 : j < p.n
                  · obtain ⟨xb, xoff, x, hxa, hxl, hx, d0, d1, d2, d3, d4⟩ := rdIt_at (HPX.out.below hBX) hlt3
                    have hwx := hpx.out x (List.mem_of_getElem? hx)
                    rw [hxa] at n1
                    replace hxa := Lib.hid hxa
                    have HXX := Lib.hid hx
                    have z7 : (j : Int) < p.n := by omega
                    have z8 : (0 : Int) ≤ j := by omega
                    have hqx : w.heap.size < wr.heap.size := by omega
                    have hqx1 : q1 < wr.heap.size := by omega
                    have KS : Hid (∀ V, Below wr.heap.size wr V → (fun V => Below wr.heap.size wr V ∧ V.cell? ⟨w.heap.size, 0, none⟩ = some (.int .i64 root) ∧ V.cell? ⟨q1, 1, none⟩ = some (.slice (some ⟨xb, xoff, none⟩) p.n p.cap) ∧ V.cell? ⟨xb, xoff + j * 5, none⟩ = some (.int .i64 x.id)) V) := Lib.hid (fun V b => ⟨b, (b.cell (p := ⟨w.heap.size, 0, none⟩) hqx).trans k0, (b.cell (p := ⟨q1, 1, none⟩) hqx1).trans n1, (b.cell (p := ⟨xb, xoff + j * 5, none⟩) hxl).trans d0⟩)
                    have KT : Hid (∀ V V' : World, Below wr.heap.size wr V → Below V.heap.size V V' → Below wr.heap.size wr V') := Lib.hid (fun V V' b b' => b.trans (b'.mono b.size))
                    have CH : ∀ V, Below wr.heap.size wr V → Calls Try.prog 78 #[.slice (some ⟨rb, roff, none⟩) r.length vc, .int .i64 x.id] V fun e w' => e = .returned (.bool (r.contains x.id)) ∧ Below V.heap.size V w' := fun V bV => l7Has_any (some ⟨rb, roff, none⟩) r.length vc r x.id V ((RD1.out.below hBX).below bV)
                    clear hx d1 d2 d3 d4
                    cases hc : r.contains x.id with
                    | true =>
                      rw [hc] at CH
                      replace CH := Lib.hid CH
                      by_cases hxr : x.id = root
                      · have hkx : kidOk r root x = false := by unfold kidOk; rw [decide_eq_false (fun h => h hxr), Bool.and_false]
                        have hF : Hid (res = false) := by
                          show res = false
                          rw [hE3.out, allk_no hy2 (kids_no hkid HXX.out hkx), Bool.false_and]
                        have hbq : (x.id == root) = true := by rw [beq_iff_eq]; exact hxr
                        clear hkx hc hxr
                        go_wp2_with fail
                        go_region_held3 (fun V => Below wr.heap.size wr V ∧ V.cell? ⟨w.heap.size, 0, none⟩ = some (.int .i64 root) ∧ V.cell? ⟨q1, 1, none⟩ = some (.slice (some ⟨xb, xoff, none⟩) p.n p.cap) ∧ V.cell? ⟨xb, xoff + j * 5, none⟩ = some (.int .i64 x.id))
                          (first | exact KS.out _ (drew_below _) | exact KS.out _ (KT.out _ _ (And.left (by assumption)) hb))
                          (first | (go_at_call 78; (with_reducible refine (CH.out _ (by first | exact drew_below _ | exact And.left (by assumption))).mono ?_); rintro e wu ⟨rfl, hb⟩))
                        all_goals
                          rename_i hS
                          have hXn := hX.trans (hS.1.mono hX.size)
                          have hBn := hBX.trans (hS.1.mono hBX.size)
                          clear hS
                          go_wp2
                          go_ret
                          exact ⟨ret_bool hF.out.symm, B1.out.trans (hBn.mono B1.out.size)⟩
                      · have hkx : kidOk r root x = true := by unfold kidOk; rw [hc, decide_eq_true hxr]; rfl
                        have HKS : Hid (∀ (t : Nat) (y : It), t < j + 1 → p.xs[t]? = some y → kidOk r root y = true) := Lib.hid (fun t y ht h' => by
                          by_cases htj : t < j
                          · exact HK.out t y htj h'
                          · obtain rfl : t = j := by omega
                            rw [HXX.out] at h'
                            cases h'
                            exact hkx)
                        have hbq : (x.id == root) = false := by rw [beq_eq_false_iff_ne]; exact hxr
                        clear hkx hc hxr
                        go_wp2_with fail
                        go_region_held3 (fun V => Below wr.heap.size wr V ∧ V.cell? ⟨w.heap.size, 0, none⟩ = some (.int .i64 root) ∧ V.cell? ⟨q1, 1, none⟩ = some (.slice (some ⟨xb, xoff, none⟩) p.n p.cap) ∧ V.cell? ⟨xb, xoff + j * 5, none⟩ = some (.int .i64 x.id))
                          (first | exact KS.out _ (drew_below _) | exact KS.out _ (KT.out _ _ (And.left (by assumption)) hb))
                          (first | (go_at_call 78; (with_reducible refine (CH.out _ (by first | exact drew_below _ | exact And.left (by assumption))).mono ?_); rintro e wu ⟨rfl, hb⟩))
                        all_goals
                          rename_i hS
                          have hXn := hX.trans (hS.1.mono hX.size)
                          have hBn := hBX.trans (hS.1.mono hBX.size)
                          clear hS
                          go_wp2
                          go_roundw
                          case rel => exact ⟨j + 1, by omega, by go_num, by go_num, HKS, hXn⟩
                          case measure => simp [intOf]; omega
                    | false =>
                      rw [hc] at CH
                      replace CH := Lib.hid CH
                      have hkx : kidOk r root x = false := by unfold kidOk; rw [hc]; rfl
                      have hF : Hid (res = false) := by
                        show res = false
                        rw [hE3.out, allk_no hy2 (kids_no hkid HXX.out hkx), Bool.false_and]
                      clear hkx hc
                      go_wp2_with fail
                      refine wp_region_noPanic ?_
                      refine wp_region_held_drew (S := fun V => Below wr.heap.size wr V ∧ V.cell? ⟨w.heap.size, 0, none⟩ = some (.int .i64 root) ∧ V.cell? ⟨q1, 1, none⟩ = some (.slice (some ⟨xb, xoff, none⟩) p.n p.cap) ∧ V.cell? ⟨xb, xoff + j * 5, none⟩ = some (.int .i64 x.id)) (by kernel_rfl) (KS.out _ (drew_below _)) (fun hHeld => ?_)
                      refine wpAnyH_take (i := 0) (v := ?v0) rfl (by kernel_rfl) (by kernel_rfl) (by kernel_rfl) (fun _ _ _ h => h) (Or.inl ⟨by rfl, ?hy0⟩) (by assumption) ?rest0
                      case hy0 => intro w hSw; (try dsimp only at hSw); go_simp; (try with_reducible rfl)
                      simp only [List.getElem_toArray, List.getElem_cons_zero, Act.put, List.setIfInBounds_toArray, List.set_cons_zero, List.set_cons_succ]
                      refine wpAnyH_take (i := 1) (v := ?v1) rfl (by kernel_rfl) (by kernel_rfl) (by kernel_rfl) (fun _ _ _ h => h) (Or.inl ⟨by rfl, ?hy1⟩) (by assumption) ?rest1
                      case hy1 => intro w hSw; (try dsimp only at hSw); go_simp; (try with_reducible rfl)
                      simp only [List.getElem_toArray, List.getElem_cons_zero, List.getElem_cons_succ, Act.put, List.setIfInBounds_toArray, List.set_cons_zero, List.set_cons_succ]
                      refine wpAnyH_take (i := 2) (v := ?v2) rfl (by kernel_rfl) (by kernel_rfl) (by kernel_rfl) (fun _ _ _ h => h) (Or.inl ⟨by rfl, ?hy2⟩) (by assumption) ?rest2
                      case hy2 => intro w hSw; (try dsimp only at hSw); go_simp; (try with_reducible rfl)
                      simp only [List.getElem_toArray, List.getElem_cons_zero, List.getElem_cons_succ, Act.put, List.setIfInBounds_toArray, List.set_cons_zero, List.set_cons_succ]
                      refine wpAnyH_take (i := 3) (v := ?v3) rfl (by kernel_rfl) (by kernel_rfl) (by kernel_rfl) (fun _ _ _ h => h) (Or.inl ⟨by rfl, ?hy3⟩) (by assumption) ?rest3
                      case hy3 => intro w hSw; (try dsimp only at hSw); go_simp; (try with_reducible rfl)
                      simp only [List.getElem_toArray, List.getElem_cons_zero, List.getElem_cons_succ, Act.put, List.setIfInBounds_toArray, List.set_cons_zero, List.set_cons_succ]
                      refine wpAnyH_take (i := 4) (v := ?v4) rfl (by kernel_rfl) (by kernel_rfl) (by kernel_rfl) (fun _ _ _ h => h) (Or.inl ⟨by rfl, ?hy4⟩) (by assumption) ?rest4
                      case hy4 => intro w hSw; (try dsimp only at hSw); go_simp; (try with_reducible rfl)
                      simp only [List.getElem_toArray, List.getElem_cons_zero, List.getElem_cons_succ, Act.put, List.setIfInBounds_toArray, List.set_cons_zero, List.set_cons_succ]
                      refine wpAnyH_take (i := 5) (v := ?v5) rfl (by kernel_rfl) (by kernel_rfl) (by kernel_rfl) (fun _ _ _ h => h) (Or.inl ⟨by rfl, ?hy5⟩) (by assumption) ?rest5
                      case hy5 => intro w hSw; (try dsimp only at hSw); go_simp; (try with_reducible rfl)
                      simp only [List.getElem_toArray, List.getElem_cons_zero, List.getElem_cons_succ, Act.put, List.setIfInBounds_toArray, List.set_cons_zero, List.set_cons_succ]
                      refine wpAnyH_take (i := 6) (v := ?v6) rfl (by kernel_rfl) (by kernel_rfl) (by kernel_rfl) (fun _ _ _ h => h) (Or.inl ⟨by rfl, ?hy6⟩) (by assumption) ?rest6
                      case hy6 => intro w hSw; (try dsimp only at hSw); go_simp; (try with_reducible rfl)
                      simp only [List.getElem_toArray, List.getElem_cons_zero, List.getElem_cons_succ, Act.put, List.setIfInBounds_toArray, List.set_cons_zero, List.set_cons_succ]
                      refine wpAnyH_ready (rs := [7]) (by kernel_rfl) (by simp) ?_
                      refine AllReadyH.cons rfl (fun K hK => ?_) AllReadyH.nil
                      go_simp
                      (with_reducible refine (CH.out _ (by first | exact drew_below _ | exact And.left (by assumption))).mono ?_); rintro e wu ⟨rfl, hb⟩
                      refine hK.out _ _ (KS.out _ (KT.out _ _ (And.left (by assumption)) hb)) (fun hHeld => ?_)
                      clear hK K
                      refine wpAnyH_take (i := 8) (v := ?v8) rfl (by kernel_rfl) (by kernel_rfl) (by kernel_rfl) (fun _ _ _ h => h) (Or.inl ⟨by rfl, ?hy8⟩) (by assumption) ?rest8
                      case hy8 => intro w hSw; (try dsimp only at hSw); go_simp; (try with_reducible rfl)
                      simp only [List.getElem_toArray, List.getElem_cons_zero, List.getElem_cons_succ, Act.put, List.setIfInBounds_toArray, List.set_cons_zero, List.set_cons_succ]
                      refine wpAnyH_take (i := 9) (v := ?v9) rfl (by kernel_rfl) (by kernel_rfl) (by kernel_rfl) (fun _ _ _ h => h) (Or.inl ⟨by rfl, ?hy9⟩) (by assumption) ?rest9
                      case hy9 => intro w hSw; (try dsimp only at hSw); go_simp; (try with_reducible rfl)
                      simp only [List.getElem_toArray, List.getElem_cons_zero, List.getElem_cons_succ, Act.put, List.setIfInBounds_toArray, List.set_cons_zero, List.set_cons_succ]
                      refine wpAnyH_take (i := 10) (v := undef) rfl (by kernel_rfl) (by kernel_rfl) (by kernel_rfl) (fun _ _ _ h => h) (Or.inr ⟨by rfl, rfl⟩) (by assumption) ?_
                      simp only [List.getElem_toArray, List.getElem_cons_zero, List.getElem_cons_succ, Act.put, List.setIfInBounds_toArray, List.set_cons_zero, List.set_cons_succ]
                      refine wpAnyH_take (i := 11) (v := undef) rfl (by kernel_rfl) (by kernel_rfl) (by kernel_rfl) (fun _ _ _ h => h) (Or.inr ⟨by rfl, rfl⟩) (by assumption) ?_
                      simp only [List.getElem_toArray, List.getElem_cons_zero, List.getElem_cons_succ, Act.put, List.setIfInBounds_toArray, List.set_cons_zero, List.set_cons_succ]
                      refine wpAnyH_take (i := 12) (v := undef) rfl (by kernel_rfl) (by kernel_rfl) (by kernel_rfl) (fun _ _ _ h => h) (Or.inr ⟨by rfl, rfl⟩) (by assumption) ?_
                      simp only [List.getElem_toArray, List.getElem_cons_zero, List.getElem_cons_succ, Act.put, List.setIfInBounds_toArray, List.set_cons_zero, List.set_cons_succ]
                      refine wpAnyH_take (i := 13) (v := undef) rfl (by kernel_rfl) (by kernel_rfl) (by kernel_rfl) (fun _ _ _ h => h) (Or.inr ⟨by rfl, rfl⟩) (by assumption) ?_
                      simp only [List.getElem_toArray, List.getElem_cons_zero, List.getElem_cons_succ, Act.put, List.setIfInBounds_toArray, List.set_cons_zero, List.set_cons_succ]
                      refine wpAnyH_take (i := 14) (v := undef) rfl (by kernel_rfl) (by kernel_rfl) (by kernel_rfl) (fun _ _ _ h => h) (Or.inr ⟨by rfl, rfl⟩) (by assumption) ?_
                      simp only [List.getElem_toArray, List.getElem_cons_zero, List.getElem_cons_succ, Act.put, List.setIfInBounds_toArray, List.set_cons_zero, List.set_cons_succ]
                      refine wpAnyH_take (i := 15) (v := undef) rfl (by kernel_rfl) (by kernel_rfl) (by kernel_rfl) (fun _ _ _ h => h) (Or.inr ⟨by rfl, rfl⟩) (by assumption) ?_
                      simp only [List.getElem_toArray, List.getElem_cons_zero, List.getElem_cons_succ, Act.put, List.setIfInBounds_toArray, List.set_cons_zero, List.set_cons_succ]
                      refine wpAnyH_take (i := 16) (v := undef) rfl (by kernel_rfl) (by kernel_rfl) (by kernel_rfl) (fun _ _ _ h => h) (Or.inr ⟨by rfl, rfl⟩) (by assumption) ?_
                      simp only [List.getElem_toArray, List.getElem_cons_zero, List.getElem_cons_succ, Act.put, List.setIfInBounds_toArray, List.set_cons_zero, List.set_cons_succ]
                      refine wpAnyH_take (i := 17) (v := undef) rfl (by kernel_rfl) (by kernel_rfl) (by kernel_rfl) (fun _ _ _ h => h) (Or.inr ⟨by rfl, rfl⟩) (by assumption) ?_
                      simp only [List.getElem_toArray, List.getElem_cons_zero, List.getElem_cons_succ, Act.put, List.setIfInBounds_toArray, List.set_cons_zero, List.set_cons_succ]
                      refine wpAnyH_take (i := 18) (v := undef) rfl (by kernel_rfl) (by kernel_rfl) (by kernel_rfl) (fun _ _ _ h => h) (Or.inr ⟨by rfl, rfl⟩) (by assumption) ?_
                      simp only [List.getElem_toArray, List.getElem_cons_zero, List.getElem_cons_succ, Act.put, List.setIfInBounds_toArray, List.set_cons_zero, List.set_cons_succ]
                      refine wpAnyH_take (i := 19) (v := ?v19) rfl (by kernel_rfl) (by kernel_rfl) (by kernel_rfl) (fun _ _ _ h => h) (Or.inl ⟨by rfl, ?hy19⟩) (by assumption) ?rest19
                      case hy19 => intro w hSw; (try dsimp only at hSw); go_simp; (try with_reducible rfl)
                      simp only [List.getElem_toArray, List.getElem_cons_zero, List.getElem_cons_succ, Act.put, List.setIfInBounds_toArray, List.set_cons_zero, List.set_cons_succ]
                      refine wpAnyH_done (by kernel_rfl) ?_ _
                      refine NoPanic.normal ?_
                      have hBn := hBX.trans (hHeld.1.mono hBX.size)
                      clear hHeld
                      go_wp2
                      go_ret
                      exact ⟨ret_bool hF.out.symm, B1.out.trans (hBn.mono B1.out.size)⟩
                  · obtain rfl : j = p.n := by omega
                    have HS : Hid (∀ (j : Nat) (y : Int), j < k' + 1 → r[j]? = some y → kidsOk (ps.map PgV.pg) r root y = true) := Lib.hid (fun j y hj h' => by
                      by_cases hjk : j < k'
                      · exact HA.out j y hjk h'
                      · obtain rfl : j = k' := by omega
                        rw [hy2] at h'
                        cases h'
                        unfold kidsOk
                        rw [hkid, List.all_eq_true]
                        intro z hz
                        obtain ⟨t, ht⟩ := List.getElem?_of_mem hz
                        exact HK.out t z (by have := (List.getElem?_eq_some_iff.1 ht).1; omega) ht)
                    have HE2 : Hid (e' + p.n = edges (ps.map PgV.pg) (r.take (k' + 1))) := by
                      show e' + p.n = _
                      rw [edges_more hy2, hkid, ← HE.out, hpxl]
                    clear hkid hy2 HK
                    go_wp2
                    go_roundw
                    case rel => exact ⟨k' + 1, e' + p.n, by omega, by go_num, by go_num, HE2, HB1.out, HS, hBX⟩
                    case measure => simp [intOf]; omega
            · obtain rfl : k' = r.length := by omega
              have hE4 : Hid (res = decide ((e' : Int) = (r.length : Int) - 1)) := by
                show res = _
                rw [hE3.out, HE.out, List.take_length, allk_yes (fun j y hj => HA.out j y (List.getElem?_eq_some_iff.1 hj).1 hj), Bool.true_and]
              clear hE3 HA HE
              go_wp2
              go_ret
              exact ⟨ret_bool (by rw [hE4.out]; rfl), B1.out.trans (hB.mono B1.out.size)⟩
  · have hF : Hid (res = false) := by
      show res = false
      rw [hE.out, decide_eq_false (by omega), Bool.false_and]
    go_wp2_with fail
    refine (l1In_no (n : Int) 1 48 _ hin).mono ?_
    rintro e w2 ⟨rfl, rfl⟩
    go_wp2
    go_ret
    exact ⟨ret_bool hF.out.symm, B1.out⟩
end Go.Proofs.Ytnebhbnogmhbgaa
