/- The program's comparisons of items. -/
import Derived.Test.YtgjbngfcllanmaaDoorCurveI
import Derived.Test.YtgjbngfcllanmaaDoorItem
import Derived.Test.YtgjbngfcllanmaaDoorQuiet
import Derived.Test.YtgjbngfcllanmaaDoorItemAt
namespace Go.Proofs.YtgjbngfcllanmaaDoor
open Go.RowKit

def cmpV (a b : Int) : Int := if a < b then -1 else if b < a then 1 else 0
def orV (p q : Int) : Int := if p = 0 then q else p

set_option maxHeartbeats 400000 in
theorem isNaN_any (x : Int) (w : World) : Calls Tryd.prog 63 #[.int .i64 x] w fun e w' => e = .returned (.bool false) ∧ w = w' := by
  have h : (x != x) = false := by simp
  go_enter Tryd.func63, Tryd.ntmps63
  go_wp2
  go_ret
  exact ⟨rfl, rfl⟩
set_option maxHeartbeats 400000 in
theorem compare_any (x y : Int) (w : World) : Calls Tryd.prog 52 #[.int .i64 x, .int .i64 y] w fun e w' => e = .returned (.int .i64 (cmpV x y)) ∧ w = w' := by
  rcases (by omega : x < y ∨ (¬ x < y ∧ y < x) ∨ (¬ x < y ∧ ¬ y < x)) with h | ⟨h, h2⟩ | ⟨h, h2⟩
  · have hr : Hid (cmpV x y = -1) := if_pos h
    go_enter Tryd.func52, Tryd.ntmps52
    go_wp2_with (first | (go_at_call 63; refine (isNaN_any _ _).mono ?_; rintro e w1 ⟨rfl, rfl⟩))
    go_ret
    exact ⟨ret_i64' hr.out.symm, rfl⟩
  · have hr : Hid (cmpV x y = 1) := (if_neg h).trans (if_pos h2)
    go_enter Tryd.func52, Tryd.ntmps52
    go_wp2_with (first | (go_at_call 63; refine (isNaN_any _ _).mono ?_; rintro e w1 ⟨rfl, rfl⟩))
    go_ret
    exact ⟨ret_i64' hr.out.symm, rfl⟩
  · have hr : Hid (cmpV x y = 0) := (if_neg h).trans (if_neg h2)
    go_enter Tryd.func52, Tryd.ntmps52
    go_wp2_with (first | (go_at_call 63; refine (isNaN_any _ _).mono ?_; rintro e w1 ⟨rfl, rfl⟩))
    go_ret
    exact ⟨ret_i64' hr.out.symm, rfl⟩

theorem compare_is (x y r : Int) (h : cmpV x y = r) (w : World) : Calls Tryd.prog 52 #[.int .i64 x, .int .i64 y] w fun e w' => e = .returned (.int .i64 r) ∧ Below w.heap.size w w' := by
  subst h
  exact (compare_any x y w).mono fun e w' ⟨h1, h2⟩ => ⟨h1, by subst h2; exact Below.refl _ _⟩
set_option maxHeartbeats 800000 in
theorem or_any (p q : Int) (g : Nat) (w : World) (h0 : w.cell? ⟨g, 0, none⟩ = some (.int .i64 p)) (h1 : w.cell? ⟨g, 1, none⟩ = some (.int .i64 q)) :
    Calls Tryd.prog 51 #[.slice (some ⟨g, 0, none⟩) 2 2] w fun e w' => e = .returned (.int .i64 (orV p q)) ∧ Below w.heap.size w w' := by
  by_cases hp : p = 0
  · subst hp
    have hr : Hid (orV 0 q = q) := if_pos rfl
    by_cases hq : q = 0
    · subst hq
      go_enter Tryd.func51, Tryd.ntmps51
      go_wp2
      go_loopw [8] (fun vk wr => ∃ k : Nat, k ≤ 2 ∧ vk = .int .i64 k ∧ w = wr) (fun vk _ => 2 - (intOf vk).toNat)
      case atStart => exact ⟨0, by omega, rfl, rfl⟩
      case round =>
        obtain ⟨k, hk, rfl, rfl⟩ := hrel
        rcases (by omega : k = 0 ∨ k = 1 ∨ k = 2) with rfl | rfl | rfl
        · go_wp2
          go_roundw
          case rel => exact ⟨1, by omega, by go_num, by trivial⟩
          case measure => simp [intOf]
        · go_wp2
          go_roundw
          case rel => exact ⟨2, by omega, by go_num, by trivial⟩
          case measure => simp [intOf]
        · go_wp2
          go_ret
          exact ⟨ret_i64' hr.out.symm, Below.refl _ _⟩
    · have hb : (q != 0) = true := by rw [bne_iff_ne]; exact hq
      go_enter Tryd.func51, Tryd.ntmps51
      go_wp2
      go_loopw [8] (fun vk wr => ∃ k : Nat, k ≤ 1 ∧ vk = .int .i64 k ∧ w = wr) (fun vk _ => 2 - (intOf vk).toNat)
      case atStart => exact ⟨0, by omega, rfl, rfl⟩
      case round =>
        obtain ⟨k, hk, rfl, rfl⟩ := hrel
        rcases (by omega : k = 0 ∨ k = 1) with rfl | rfl
        · go_wp2
          go_roundw
          case rel => exact ⟨1, by omega, by go_num, by trivial⟩
          case measure => simp [intOf]
        · go_wp2
          go_ret
          exact ⟨ret_i64' hr.out.symm, Below.refl _ _⟩
  · have hb : (p != 0) = true := by rw [bne_iff_ne]; exact hp
    have hr : Hid (orV p q = p) := if_neg hp
    go_enter Tryd.func51, Tryd.ntmps51
    go_wp2
    go_loopw [8] (fun vk wr => vk = .int .i64 0 ∧ w = wr) (fun _ _ => 0)
    case atStart => exact ⟨rfl, rfl⟩
    case round =>
      obtain ⟨rfl, rfl⟩ := hrel
      go_wp2
      go_ret
      exact ⟨ret_i64' hr.out.symm, Below.refl _ _⟩

set_option maxHeartbeats 800000 in
theorem compareIds_any (i x0 y0 x1 y1 j u0 v0 u1 v1 : Int) (w : World) : Calls Tryd.prog 34 #[.agg #[.int .i64 i, .int .i64 x0, .int .i64 y0, .int .i64 x1, .int .i64 y1], .agg #[.int .i64 j, .int .i64 u0, .int .i64 v0, .int .i64 u1, .int .i64 v1]] w fun e w' =>
    e = .returned (.int .i64 (cmpV i j)) ∧ Below w.heap.size w w' := by
  go_enter Tryd.func34, Tryd.ntmps34
  go_wp2_with fail
  refine (compare_any i j _).mono ?_
  rintro e w1 ⟨rfl, rfl⟩
  go_wp2
  go_ret
  exact ⟨rfl, ((Below.refl _ _).alloc (Nat.le_refl _) _).alloc (by simp) _⟩

set_option maxHeartbeats 1600000 in
theorem compareOnCurve_core (i x0 y0 x1 y1 j u0 v0 u1 v1 p q : Int) (w : World) (hp : keyV x0 y0 x1 y1 = p) (hq : keyV u0 v0 u1 v1 = q) : Calls Tryd.prog 33 #[.agg #[.int .i64 i, .int .i64 x0, .int .i64 y0, .int .i64 x1, .int .i64 y1], .agg #[.int .i64 j, .int .i64 u0, .int .i64 v0, .int .i64 u1, .int .i64 v1]] w fun e w' =>
    e = .returned (.int .i64 (orV (cmpV p q) (cmpV i j))) ∧ Below w.heap.size w w' := by
  have c1 := iKeyOf_any x0 y0 x1 y1
  have c2 := iKeyOf_any u0 v0 u1 v1
  rw [hp] at c1
  rw [hq] at c2
  clear hp hq
  replace c1 := Lib.hid c1
  replace c2 := Lib.hid c2
  obtain ⟨r, hr⟩ : ∃ r, cmpV p q = r := ⟨_, rfl⟩
  obtain ⟨s, hs⟩ : ∃ s, cmpV i j = s := ⟨_, rfl⟩
  have c3 := Lib.hid (compare_is p q r hr)
  have c4 := compareIds_any i x0 y0 x1 y1 j u0 v0 u1 v1
  rw [hs] at c4
  replace c4 := Lib.hid c4
  rw [hr, hs]
  clear hr hs
  have K0 := blk_alloc (.cells #[.int .i64 j, .int .i64 u0, .int .i64 v0, .int .i64 u1, .int .i64 v1] 30) (by simp) _ _ (blk_new w #[.int .i64 i, .int .i64 x0, .int .i64 y0, .int .i64 x1, .int .i64 y1] 30)
  have K1 := blk_new1 w (.cells #[.int .i64 i, .int .i64 x0, .int .i64 y0, .int .i64 x1, .int .i64 y1] 30) #[.int .i64 j, .int .i64 u0, .int .i64 v0, .int .i64 u1, .int .i64 v1] 30
  have KS : ∀ V, Below (w.heap.size + 1 + 1) ((w.alloc (.cells #[.int .i64 i, .int .i64 x0, .int .i64 y0, .int .i64 x1, .int .i64 y1] 30)).alloc (.cells #[.int .i64 j, .int .i64 u0, .int .i64 v0, .int .i64 u1, .int .i64 v1] 30)) V → Below (w.heap.size + 1 + 1) ((w.alloc (.cells #[.int .i64 i, .int .i64 x0, .int .i64 y0, .int .i64 x1, .int .i64 y1] 30)).alloc (.cells #[.int .i64 j, .int .i64 u0, .int .i64 v0, .int .i64 u1, .int .i64 v1] 30)) V ∧ V.cell? ⟨w.heap.size, 0, none⟩ = some (.int .i64 i) ∧ V.cell? ⟨w.heap.size, 1, none⟩ = some (.int .i64 x0) ∧ V.cell? ⟨w.heap.size, 2, none⟩ = some (.int .i64 y0) ∧ V.cell? ⟨w.heap.size, 3, none⟩ = some (.int .i64 x1) ∧ V.cell? ⟨w.heap.size, 4, none⟩ = some (.int .i64 y1) ∧ V.cell? ⟨w.heap.size + 1, 0, none⟩ = some (.int .i64 j) ∧ V.cell? ⟨w.heap.size + 1, 1, none⟩ = some (.int .i64 u0) ∧ V.cell? ⟨w.heap.size + 1, 2, none⟩ = some (.int .i64 v0) ∧ V.cell? ⟨w.heap.size + 1, 3, none⟩ = some (.int .i64 u1) ∧ V.cell? ⟨w.heap.size + 1, 4, none⟩ = some (.int .i64 v1) := fun V b =>
    ⟨b, (b.cell (p := ⟨w.heap.size, 0, none⟩) (by simp; try omega)).trans (K0.1 0), (b.cell (p := ⟨w.heap.size, 1, none⟩) (by simp; try omega)).trans (K0.1 1), (b.cell (p := ⟨w.heap.size, 2, none⟩) (by simp; try omega)).trans (K0.1 2), (b.cell (p := ⟨w.heap.size, 3, none⟩) (by simp; try omega)).trans (K0.1 3), (b.cell (p := ⟨w.heap.size, 4, none⟩) (by simp; try omega)).trans (K0.1 4), (b.cell (p := ⟨w.heap.size + 1, 0, none⟩) (by simp; try omega)).trans (K1.1 0), (b.cell (p := ⟨w.heap.size + 1, 1, none⟩) (by simp; try omega)).trans (K1.1 1), (b.cell (p := ⟨w.heap.size + 1, 2, none⟩) (by simp; try omega)).trans (K1.1 2), (b.cell (p := ⟨w.heap.size + 1, 3, none⟩) (by simp; try omega)).trans (K1.1 3), (b.cell (p := ⟨w.heap.size + 1, 4, none⟩) (by simp; try omega)).trans (K1.1 4)⟩
  have KT : ∀ V V' : World, Below (w.heap.size + 1 + 1) ((w.alloc (.cells #[.int .i64 i, .int .i64 x0, .int .i64 y0, .int .i64 x1, .int .i64 y1] 30)).alloc (.cells #[.int .i64 j, .int .i64 u0, .int .i64 v0, .int .i64 u1, .int .i64 v1] 30)) V → Below V.heap.size V V' → Below (w.heap.size + 1 + 1) ((w.alloc (.cells #[.int .i64 i, .int .i64 x0, .int .i64 y0, .int .i64 x1, .int .i64 y1] 30)).alloc (.cells #[.int .i64 j, .int .i64 u0, .int .i64 v0, .int .i64 u1, .int .i64 v1] 30)) V' := fun V V' b b' => b.trans (b'.mono (by have := b.size; simp at this; omega))
  have KA : ∀ (V : World) (O : Obj), Below (w.heap.size + 1 + 1) ((w.alloc (.cells #[.int .i64 i, .int .i64 x0, .int .i64 y0, .int .i64 x1, .int .i64 y1] 30)).alloc (.cells #[.int .i64 j, .int .i64 u0, .int .i64 v0, .int .i64 u1, .int .i64 v1] 30)) V → Below (w.heap.size + 1 + 1) ((w.alloc (.cells #[.int .i64 i, .int .i64 x0, .int .i64 y0, .int .i64 x1, .int .i64 y1] 30)).alloc (.cells #[.int .i64 j, .int .i64 u0, .int .i64 v0, .int .i64 u1, .int .i64 v1] 30)) (V.alloc O) := fun V O b => b.alloc (by have := b.size; simp at this; omega) O
  have KD : Below (w.heap.size + 1 + 1) ((w.alloc (.cells #[.int .i64 i, .int .i64 x0, .int .i64 y0, .int .i64 x1, .int .i64 y1] 30)).alloc (.cells #[.int .i64 j, .int .i64 u0, .int .i64 v0, .int .i64 u1, .int .i64 v1] 30)) ((w.alloc (.cells #[.int .i64 i, .int .i64 x0, .int .i64 y0, .int .i64 x1, .int .i64 y1] 30)).alloc (.cells #[.int .i64 j, .int .i64 u0, .int .i64 v0, .int .i64 u1, .int .i64 v1] 30)).drew := (Below.refl _ _).drew
  have KE : ∀ V, Below (w.heap.size + 1 + 1) ((w.alloc (.cells #[.int .i64 i, .int .i64 x0, .int .i64 y0, .int .i64 x1, .int .i64 y1] 30)).alloc (.cells #[.int .i64 j, .int .i64 u0, .int .i64 v0, .int .i64 u1, .int .i64 v1] 30)) V → Below w.heap.size w V := fun V b => (((Below.refl _ _).alloc (Nat.le_refl _) _).alloc (by simp) _).trans (b.mono (by omega))
  clear K0 K1
  replace KS := Lib.hid KS
  replace KT := Lib.hid KT
  replace KA := Lib.hid KA
  replace KD := Lib.hid KD
  replace KE := Lib.hid KE
  go_enter Tryd.func33, Tryd.ntmps33
  go_wp2_with fail
  go_region_held3 (fun V => Below (w.heap.size + 1 + 1) ((w.alloc (.cells #[.int .i64 i, .int .i64 x0, .int .i64 y0, .int .i64 x1, .int .i64 y1] 30)).alloc (.cells #[.int .i64 j, .int .i64 u0, .int .i64 v0, .int .i64 u1, .int .i64 v1] 30)) V ∧ V.cell? ⟨w.heap.size, 0, none⟩ = some (.int .i64 i) ∧ V.cell? ⟨w.heap.size, 1, none⟩ = some (.int .i64 x0) ∧ V.cell? ⟨w.heap.size, 2, none⟩ = some (.int .i64 y0) ∧ V.cell? ⟨w.heap.size, 3, none⟩ = some (.int .i64 x1) ∧ V.cell? ⟨w.heap.size, 4, none⟩ = some (.int .i64 y1) ∧ V.cell? ⟨w.heap.size + 1, 0, none⟩ = some (.int .i64 j) ∧ V.cell? ⟨w.heap.size + 1, 1, none⟩ = some (.int .i64 u0) ∧ V.cell? ⟨w.heap.size + 1, 2, none⟩ = some (.int .i64 v0) ∧ V.cell? ⟨w.heap.size + 1, 3, none⟩ = some (.int .i64 u1) ∧ V.cell? ⟨w.heap.size + 1, 4, none⟩ = some (.int .i64 v1))
    (first | exact KS.out _ KD.out | exact KS.out _ (KT.out _ _ (And.left (by assumption)) hb) | exact KS.out _ (KA.out _ _ (And.left (by assumption))))
    (first
      | (go_at_call 53; (first | (with_reducible refine (c1.out _).mono ?_) | (with_reducible refine (c2.out _).mono ?_)); rintro e w1 ⟨rfl, hb⟩)
      | (go_at_call 52; (with_reducible refine (c3.out _).mono ?_); rintro e w1 ⟨rfl, hb⟩)
      | (go_at_call 34; (with_reducible refine (c4.out _).mono ?_); rintro e w1 ⟨rfl, hb⟩)
      | (go_at_call 51; refine (or_any r s _ _ ((blk_new _ _ _).1 0) ((blk_new _ _ _).1 1)).mono ?_; rintro e w1 ⟨rfl, hb⟩))
  all_goals
    rename_i hS
    have hB := KE.out _ hS.1
    clear hS
    go_wp2
    go_ret
    exact ⟨rfl, hB⟩
theorem compareOnCurve_any (i x0 y0 x1 y1 j u0 v0 u1 v1 : Int) (w : World) : Calls Tryd.prog 33 #[.agg #[.int .i64 i, .int .i64 x0, .int .i64 y0, .int .i64 x1, .int .i64 y1], .agg #[.int .i64 j, .int .i64 u0, .int .i64 v0, .int .i64 u1, .int .i64 v1]] w fun e w' =>
    e = .returned (.int .i64 (orV (cmpV (keyV x0 y0 x1 y1) (keyV u0 v0 u1 v1)) (cmpV i j))) ∧ Below w.heap.size w w' := compareOnCurve_core i x0 y0 x1 y1 j u0 v0 u1 v1 _ _ w rfl rfl
end Go.Proofs.YtgjbngfcllanmaaDoor
