/- The program's SameBook: the library's EqualFunc over pages; pageOk. -/
import Derived.Test.YtfefggcfeppeiaaBookI1ZPages
import Derived.Test.YtfefggcfeppeiaaQPagesd
import Derived.Test.YtfefggcfeppeiaaNodeI1ZPages
import Derived.Test.YtfefggcfeppeiaaNodeI4ZPages
namespace Go.Proofs.Ytfefggcfeppeiaa
open Go.RowKit

set_option maxRecDepth 100000 in
set_option maxHeartbeats 800000 in
theorem iSamePage_any (u c u' c' : Bool) (a a' : Option Addr) (n cap n' cap' : Nat) (xs ys : List It) (w : World) (h : RdS itLay w a n cap xs) (h' : RdS itLay w a' n' cap' ys) (r : Bool) (hr : samePg ⟨u, c, xs⟩ ⟨u', c', ys⟩ = r) :
    Calls Try.prog 66 #[.agg #[.bool u, .bool c, .slice a n cap], .agg #[.bool u', .bool c', .slice a' n' cap']] w fun e w' => e = .returned (.bool r) ∧ Below w.heap.size w w' := by
  have B0 : Below w.heap.size w ((w.alloc (.cells #[.bool u, .bool c, .slice a n cap] 48)).alloc (.cells #[.bool u', .bool c', .slice a' n' cap'] 48)) := ((Below.refl _ _).alloc (Nat.le_refl _) _).alloc (by simp) _
  have C := Lib.hid (iSameNode_any c c' a a' n n' cap cap' xs ys ((w.alloc (.cells #[.bool u, .bool c, .slice a n cap] 48)).alloc (.cells #[.bool u', .bool c', .slice a' n' cap'] 48)) (h.below B0) (h'.below B0))
  clear h h'
  by_cases he : u = u'
  · subst he
    have hv : Hid (((c == c') && sameV xs ys) = r) := by
      show _ = _
      rw [← hr]
      simp [samePg]
    clear hr
    go_enter Try.func66, Try.ntmps66
    go_wp2_with fail
    refine C.out.mono ?_
    rintro e w1 ⟨rfl, hb⟩
    rw [hv.out]
    go_wp2
    go_ret
    exact ⟨rfl, B0.trans (hb.mono B0.size)⟩
  · have hb : (u == u') = false := by rw [beq_eq_false_iff_ne]; exact he
    have hv : r = false := by
      rw [← hr]
      simp [samePg, hb]
    subst hv
    clear hr he C
    go_enter Try.func66, Try.ntmps66
    go_wp2
    go_ret
    exact ⟨rfl, B0⟩

set_option maxRecDepth 100000 in
set_option maxHeartbeats 1600000 in
theorem iEqualP_any (a b : Option Addr) (n m c1 c2 : Nat) (ps qs : List PgV) (w : World) (h : RdP w a n c1 ps) (h' : RdP w b m c2 qs) :
    Calls Try.prog 65 #[.slice a n c1, .slice b m c2, .func (.func 66) #[] #[]] w fun e w' => e = .returned (.bool (sameB 0 0 (ps.map PgV.pg) (qs.map PgV.pg))) ∧ Below w.heap.size w w' := by
  have hm := h.1.1.2.2.1
  have hnc := h.1.1.2.1
  have hm' := h'.1.1.2.2.1
  have hnc' := h'.1.1.2.1
  unfold maxLen at hm hm'
  have HR := Lib.hid h
  have HL := Lib.hid h.1.1.1
  have HR' := Lib.hid h'
  have HL' := Lib.hid h'.1.1.1
  clear h h'
  by_cases hnm : n = m
  · subst hnm
    go_enter Try.func65, Try.ntmps65
    go_wp2
    go_loopw [17] (fun i wr => ∃ k : Nat, k ≤ n ∧ i = .int .i64 k ∧ Hid (∀ (j : Nat) (p q : PgV), j < k → ps[j]? = some p → qs[j]? = some q → samePg p.pg q.pg = true) ∧ Below w.heap.size w wr) (fun i _ => n - (intOf i).toNat)
    case atStart => exact ⟨0, Nat.zero_le _, rfl, Lib.hid (fun j p q hj => by omega), Below.refl _ _⟩
    case round =>
      obtain ⟨k, hk, rfl, HA, hB⟩ := hrel
      by_cases hlt : k < n
      · obtain ⟨x, off, p, rfl, hbl, hp, hrd, d0, d1, d2⟩ := rdP_at (HR.out.below hB) hlt
        obtain ⟨x', off', q, rfl, hbl', hq, hrd', e0, e1, e2⟩ := rdP_at (HR'.out.below hB) hlt
        have HP := Lib.hid hp
        have HQ := Lib.hid hq
        have bA : Below wr.heap.size wr ((wr.alloc (.cells #[.bool p.used, .bool p.leaf, .slice p.a p.n p.cap] 48)).alloc (.cells #[.bool q.used, .bool q.leaf, .slice q.a q.n q.cap] 48)) := ((Below.refl _ _).alloc (Nat.le_refl _) _).alloc (by simp) _
        have f0 := (World.cell?_alloc_lt wr (.cells #[.bool p.used, .bool p.leaf, .slice p.a p.n p.cap] 48) ⟨x', off' + k * 3, none⟩ hbl').trans e0
        have f1 := (World.cell?_alloc_lt wr (.cells #[.bool p.used, .bool p.leaf, .slice p.a p.n p.cap] 48) ⟨x', off' + k * 3 + 1, none⟩ hbl').trans e1
        have f2 := (World.cell?_alloc_lt wr (.cells #[.bool p.used, .bool p.leaf, .slice p.a p.n p.cap] 48) ⟨x', off' + k * 3 + 1 + 1, none⟩ hbl').trans e2
        have z0 : (0 : Int) ≤ k := by omega
        have z1 : (k : Int) < n := by omega
        cases he : samePg p.pg q.pg with
        | true =>
          have C := Lib.hid (iSamePage_any p.used p.leaf q.used q.leaf p.a q.a p.n p.cap q.n q.cap p.xs q.xs _ (hrd.below bA) (hrd'.below bA) true he)
          have HS : Hid (∀ (j : Nat) (p q : PgV), j < k + 1 → ps[j]? = some p → qs[j]? = some q → samePg p.pg q.pg = true) := Lib.hid (fun j p' q' hj h1 h2 => by
            by_cases hjk : j < k
            · exact HA.out j p' q' hjk h1 h2
            · obtain rfl : j = k := by omega
              rw [HP.out] at h1
              rw [HQ.out] at h2
              obtain rfl : p = p' := by simpa using h1
              obtain rfl : q = q' := by simpa using h2
              exact he)
          clear hp hq hrd hrd' he
          go_wp2_with fail
          refine C.out.mono ?_
          rintro e w1 ⟨rfl, hb⟩
          replace hb := hB.trans ((bA.trans (hb.mono bA.size)).mono hB.size)
          go_wp2
          go_roundw
          case rel => exact ⟨k + 1, by omega, by go_num, HS, hb⟩
          case measure => simp [intOf]; omega
        | false =>
          have C := Lib.hid (iSamePage_any p.used p.leaf q.used q.leaf p.a q.a p.n p.cap q.n q.cap p.xs q.xs _ (hrd.below bA) (hrd'.below bA) false he)
          have HF : Hid (sameB 0 0 (ps.map PgV.pg) (qs.map PgV.pg) = false) := Lib.hid (sameB_no HP.out HQ.out he)
          clear hp hq hrd hrd' he
          go_wp2_with fail
          refine C.out.mono ?_
          rintro e w1 ⟨rfl, hb⟩
          replace hb := hB.trans ((bA.trans (hb.mono bA.size)).mono hB.size)
          go_wp2
          go_ret
          exact ⟨ret_bool HF.out.symm, hb⟩
      · obtain rfl : k = n := by omega
        have HF : Hid (sameB 0 0 (ps.map PgV.pg) (qs.map PgV.pg) = true) := Lib.hid (sameB_yes (by rw [HL.out, HL'.out]) (fun j p q hj => HA.out j p q (by rw [HL.out] at hj; exact hj)))
        go_wp2
        go_ret
        exact ⟨ret_bool HF.out.symm, hB⟩
  · have HF : Hid (sameB 0 0 (ps.map PgV.pg) (qs.map PgV.pg) = false) := by
      show _ = _
      unfold sameB
      rw [List.length_map, List.length_map, HL.out, HL'.out, decide_eq_false hnm]
      simp
    have hne : (n : Int) ≠ m := by omega
    have hnb : ((n : Int) == m) = false := by rw [beq_eq_false_iff_ne]; exact hne
    go_enter Try.func65, Try.ntmps65
    go_wp2
    go_ret
    exact ⟨ret_bool HF.out.symm, Below.refl _ _⟩

set_option maxRecDepth 100000 in
set_option maxHeartbeats 800000 in
theorem iSameBook_any : CSameBook 19 := by
  intro r s a b n m c1 c2 ps qs w h h' hn hm hps hqs
  have B0 : Below w.heap.size w ((w.alloc (.cells #[.int .i64 r, .slice a n c1] 26)).alloc (.cells #[.int .i64 s, .slice b m c2] 26)) := ((Below.refl _ _).alloc (Nat.le_refl _) _).alloc (by simp) _
  have C := Lib.hid (iEqualP_any a b n m c1 c2 ps qs ((w.alloc (.cells #[.int .i64 r, .slice a n c1] 26)).alloc (.cells #[.int .i64 s, .slice b m c2] 26)) (h.below B0) (h'.below B0))
  clear h h' hps hqs
  show Calls _ _ _ _ _
  by_cases he : r = s
  · subst he
    have hv : Hid (sameB 0 0 (ps.map PgV.pg) (qs.map PgV.pg) = sameB r r (ps.map PgV.pg) (qs.map PgV.pg)) := by
      show _ = _
      simp [sameB]
    go_enter Try.func19, Try.ntmps19
    go_wp2_with fail
    refine C.out.mono ?_
    rintro e w1 ⟨rfl, hb⟩
    rw [hv.out]
    go_wp2
    go_ret
    exact ⟨rfl, B0.trans (hb.mono B0.size)⟩
  · have hb : (r == s) = false := by rw [beq_eq_false_iff_ne]; exact he
    have hv : Hid (sameB r s (ps.map PgV.pg) (qs.map PgV.pg) = false) := by
      show _ = _
      simp [sameB, he]
    clear C
    go_enter Try.func19, Try.ntmps19
    go_wp2
    go_ret
    exact ⟨ret_bool hv.out.symm, B0⟩

theorem sameV_nil (xs : List It) : sameV xs [] = xs.isEmpty := by
  cases xs <;> simp [sameV]

set_option maxRecDepth 100000 in
set_option maxHeartbeats 800000 in
theorem iPageOk_any (u c : Bool) (a : Option Addr) (n cap : Nat) (xs : List It) (w : World) (h : RdS itLay w a n cap xs) (r : Bool) (hr : pgOk ⟨u, c, xs⟩ = r) :
    Calls Try.prog 122 #[.agg #[.bool u, .bool c, .slice a n cap]] w fun e w' => e = .returned (.bool r) ∧ Below w.heap.size w w' := by
  have B0 := new_below w (.cells #[.bool u, .bool c, .slice a n cap] 48)
  have h2 := Lib.hid (h.below B0)
  clear h
  cases u with
  | true =>
    have hv : Hid (nodeOkV c xs = r) := hr
    have C := Lib.hid (iNodeOk_any c a n cap xs _ h2.out)
    clear hr
    go_enter Try.func122, Try.ntmps122
    go_wp2_with fail
    refine C.out.mono ?_
    rintro e w1 ⟨rfl, hb⟩
    rw [hv.out]
    go_wp2
    go_ret
    exact ⟨rfl, B0.trans (hb.mono B0.size)⟩
  | false =>
    have hv : Hid (((c == false) && sameV xs []) = r) := by
      show _ = _
      rw [← hr, sameV_nil]
      cases c <;> rfl
    have C := Lib.hid (iSameNode_any c false a none n 0 cap 0 xs [] _ h2.out (rdS_nil _))
    clear hr
    go_enter Try.func122, Try.ntmps122
    go_wp2_with fail
    refine C.out.mono ?_
    rintro e w1 ⟨rfl, hb⟩
    rw [hv.out]
    go_wp2
    go_ret
    exact ⟨rfl, B0.trans (hb.mono B0.size)⟩
end Go.Proofs.Ytfefggcfeppeiaa
