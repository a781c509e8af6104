/- The program's ItemsOk. -/
import Derived.Test.YtgjbngfcllanmaaDoorItemsOk
import Derived.Test.YtgjbngfcllanmaaDoorItemI
namespace Go.Proofs.YtgjbngfcllanmaaDoor
open Go.RowKit

theorem Tryd.infoSeen : (Tryd.prog.info? 61).map (fun i => i.zero) = some (some (.agg (Array.replicate 1000 (.bool false)))) := by kernel_rfl
theorem zeroSeen (w : World) : Sem.run Tryd.prog (zeroValue 61) w = .ok (.agg (Array.replicate 1000 (.bool false))) w := by
  obtain ⟨i, hi, hz⟩ : ∃ i, Tryd.prog.info? 61 = some i ∧ i.zero = some (.agg (Array.replicate 1000 (.bool false))) := by
    have h := Tryd.infoSeen
    cases hi : Tryd.prog.info? 61 with
    | none => rw [hi] at h; cases h
    | some i => rw [hi] at h; exact ⟨i, rfl, by simpa using h⟩
  simp [zeroValue, typeInfo, hi, hz, go_sem]

/-- Whether one of the first k has this Id. -/
def seenB (xs : List It) (k : Nat) (j : Int) : Bool := (xs.take k).any fun x => x.id == j
theorem seenB_next {xs : List It} {k : Nat} {x : It} (hx : xs[k]? = some x) (j : Int) : seenB xs (k + 1) j = (seenB xs k j || x.id == j) := by
  unfold seenB
  rw [List.take_add_one, hx]
  simp
theorem atV_first (id : Int) : ∀ (pre : List It) (l : List It) (c : Int), 0 ≤ c → (∃ x l', l = x :: l' ∧ x.id = id) → (atV id (pre ++ l) c = c + pre.length ↔ pre.any (fun x => x.id == id) = false)
  | [], l, c, _, ⟨x, l', e, h⟩ => by subst e; simp [atV, h]
  | y :: pre, l, c, hc, hl => by
    by_cases h : y.id = id
    · simp [atV, h]; omega
    · have := atV_first id pre l (c + 1) (by omega) hl
      have hb : (y.id == id) = false := by simpa using h
      rw [List.cons_append, atV, if_neg h, List.any_cons, hb, Bool.false_or, ← this, List.length_cons]
      omega
theorem okAt_seen {xs : List It} {k : Nat} {x : It} (hx : xs[k]? = some x) : okAt xs x k = (itOk x.id x.x0 x.y0 x.x1 x.y1 && !seenB xs k x.id) := by
  have h := atV_first x.id (xs.take k) (xs.drop k) 0 (by omega) ⟨x, _, drop_at hx, rfl⟩
  have hk : k < xs.length := (List.getElem?_eq_some_iff.1 hx).1
  rw [List.take_append_drop, List.length_take, Nat.min_eq_left (by omega), Int.zero_add] at h
  unfold okAt seenB
  congr 1
  cases hs : (xs.take k).any (fun y => y.id == x.id) with
  | false => rw [h.2 hs]; simp
  | true =>
    have : atV x.id xs 0 ≠ k := fun e => by rw [h.1 e] at hs; cases hs
    simpa using this

set_option maxHeartbeats 1600000 in
theorem iItemsOk_any (a : Option Addr) (n cap : Nat) (xs : List It) (w : World) (h : RdS itLay w a n cap xs) :
    Calls Tryd.prog 24 #[.slice a n cap] w fun e w' => e = .returned (.bool (okAll xs xs 0)) ∧ Below w.heap.size w w' := by
  have hm := h.1.2.2.1
  have hnc := h.1.2.1
  unfold maxLen at hm
  have HR := Lib.hid h
  have HL := Lib.hid h.1.1
  clear h
  obtain ⟨B, hB0, hz⟩ : ∃ B : Array Value, Hid (∀ j, j < 1000 → B[j]? = some (.bool false)) ∧ ∀ W, Sem.run Tryd.prog (zeroValue 61) W = .ok (.agg B) W :=
    ⟨Array.replicate 1000 (.bool false), Lib.hid (fun j hj => by rw [Array.getElem?_replicate, if_pos hj]), zeroSeen⟩
  go_enter Tryd.func24, Tryd.ntmps24
  go_wp2
  clear hz
  go_loopw [8] (fun i wr => ∃ k : Nat, k ≤ n ∧ i = .int .i64 k ∧ Hid (okAll xs xs 0 = okAll xs (xs.drop k) k) ∧ Hid (∀ j : Nat, j < 1000 → wr.cell? ⟨w.heap.size, j, none⟩ = some (.bool (seenB xs k j))) ∧ Hid (∀ j, wr.frozen? ⟨w.heap.size, j, none⟩ = false) ∧ Below w.heap.size w wr ∧ w.heap.size < wr.heap.size) (fun i _ => n - (intOf i).toNat)
  case atStart =>
    refine ⟨0, Nat.zero_le _, rfl, rfl, Lib.hid (fun j hj => ?_), Lib.hid (fun j => (blk_new w B _).2 j), new_below _ _, by simp⟩
    rw [(blk_new w B _).1 j, hB0.out j hj]
    rfl
  case round =>
    clear hB0
    obtain ⟨k, hk, rfl, HA, HS, HF, hB, hgl⟩ := hrel
    by_cases hlt : k < n
    · obtain ⟨b, off, x, rfl, hbl, hx, d0, d1, d2, d3, d4⟩ := rdIt_at (HR.out.below hB) hlt
      have HX := Lib.hid hx
      have hok := Lib.hid (okAt_seen hx)
      have z0 : (0 : Int) ≤ k := by omega
      have z1 : (k : Int) < n := by omega
      clear hx
      have KX := Lib.hid (blk_new wr #[.int .i64 x.id, .int .i64 x.x0, .int .i64 x.y0, .int .i64 x.x1, .int .i64 x.y1] 30)
      have BX := Lib.hid (hB.alloc hB.size (.cells #[.int .i64 x.id, .int .i64 x.x0, .int .i64 x.y0, .int .i64 x.x1, .int .i64 x.y1] 30))
      cases h1 : itOk x.id x.x0 x.y0 x.x1 x.y1 with
      | false =>
        replace h1 := Lib.hid h1
        have hr : Hid (okAll xs xs 0 = false) := HA.out.trans (okAll_no HX.out (by rw [hok.out, h1.out]; rfl))
        go_wp2_with fail
        refine (iItemOk_any x.id x.x0 x.y0 x.x1 x.y1 _).mono ?_
        rw [h1.out]
        rintro e w1 ⟨rfl, hj⟩
        have hB2 := Lib.hid (BX.out.trans (hj.mono BX.out.size))
        clear hj
        go_wp2
        go_ret
        exact ⟨ret_bool hr.out.symm, hB2.out⟩
      | true =>
        have hid : 1 ≤ x.id ∧ x.id ≤ 999 := by
          unfold itOk inB at h1
          rw [Bool.and_eq_true, decide_eq_true_eq] at h1
          exact h1.1
        replace h1 := Lib.hid h1
        go_wp2_with fail
        refine (iItemOk_any x.id x.x0 x.y0 x.x1 x.y1 _).mono ?_
        rw [h1.out]
        rintro e w1 ⟨rfl, hj⟩
        have hB2 := Lib.hid (BX.out.trans (hj.mono BX.out.size))
        have q0 : w1.cell? ⟨wr.heap.size, 0, none⟩ = some (.int .i64 x.id) := (below_keep hj (by simp) _ _ KX.out).1 0
        obtain ⟨m, hm2⟩ : ∃ m : Nat, x.id = (m : Int) := ⟨x.id.toNat, by omega⟩
        have hm3 : m < 1000 := by omega
        have hgl2 : w.heap.size < (wr.alloc (.cells #[.int .i64 x.id, .int .i64 x.x0, .int .i64 x.y0, .int .i64 x.x1, .int .i64 x.y1] 30)).heap.size := by simp; omega
        have HS1 : Hid (∀ j : Nat, j < 1000 → w1.cell? ⟨w.heap.size, j, none⟩ = some (.bool (seenB xs k j))) := Lib.hid (fun j hj2 =>
          (hj.cell (p := ⟨w.heap.size, j, none⟩) hgl2).trans ((World.cell?_alloc_lt wr _ ⟨w.heap.size, j, none⟩ hgl).trans (HS.out j hj2)))
        have HF1 : Hid (∀ j, w1.frozen? ⟨w.heap.size, j, none⟩ = false) := Lib.hid (fun j =>
          (hj.frozen (p := ⟨w.heap.size, j, none⟩) hgl2).trans ((World.frozen?_alloc_old wr _ ⟨w.heap.size, j, none⟩ (Nat.ne_of_lt hgl)).trans (HF.out j)))
        have hgl3 : Hid (w.heap.size < w1.heap.size) := Lib.hid (Nat.lt_of_lt_of_le hgl2 hj.size)
        rw [hm2] at q0
        have zm : (m : Int) < 1000 := by omega
        have s0 := HS1.out m hm3
        have f0 := HF1.out m
        have hbx : wr.heap.size < w1.heap.size := by have := hj.size; simp at this; omega
        replace hm2 := Lib.hid hm2
        clear hj hid hgl2 HS HF hB BX KX d0 d1 d2 d3 d4 HR
        cases hz : seenB xs k m with
        | true =>
          rw [hz] at s0
          have hr : Hid (okAll xs xs 0 = false) := HA.out.trans (okAll_no HX.out (by rw [hok.out, h1.out, hm2.out, hz]; rfl))
          clear hz
          go_wp2
          go_ret
          exact ⟨ret_bool hr.out.symm, hB2.out⟩
        | false =>
          rw [hz] at s0
          have hr : Hid (okAll xs xs 0 = okAll xs (xs.drop (k + 1)) ((k + 1 : Nat) : Int)) := HA.out.trans (okAll_yes HX.out (by rw [hok.out, h1.out, hm2.out, hz]; rfl))
          replace hz := Lib.hid hz
          go_wp2
          go_roundw
          case rel =>
            refine ⟨k + 1, by omega, by go_num, hr, Lib.hid (fun j hj => ?_), Lib.hid (fun j => by rw [World.frozen?_setCell]; exact HF1.out j), hB2.out.setCell (p := ⟨w.heap.size, m, none⟩) (Nat.le_refl _) _, by have := hgl3.out; simpa using this⟩
            rw [seenB_next HX.out, hm2.out]
            by_cases e : j = m
            · subst e
              rw [World.cell?_setCell_same' _ _ _ (by rw [s0]; rfl)]
              simp
            · rw [World.cell?_setCell_other _ _ _ _ (by simp <;> omega), HS1.out j hj]
              have : ((m : Int) == (j : Int)) = false := by rw [beq_eq_false_iff_ne]; omega
              rw [this, Bool.or_false]
          case measure => simp [intOf]; omega
    · have hr : Hid (okAll xs xs 0 = true) := by
        obtain rfl : k = n := by omega
        exact HA.out.trans (okAll_end xs k (by rw [HL.out]; exact Nat.le_refl _))
      go_wp2
      go_ret
      exact ⟨ret_bool hr.out.symm, hB⟩
end Go.Proofs.YtgjbngfcllanmaaDoor
