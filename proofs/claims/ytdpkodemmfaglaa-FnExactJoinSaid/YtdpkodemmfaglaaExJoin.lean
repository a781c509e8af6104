/- The exact law of Join. -/
import Derived.Test.YtdpkodemmfaglaaBox2
import Derived.Test.YtdpkodemmfaglaaKeep
namespace Go.Proofs.Ytdpkodemmfaglaa
open Go.RowKit

theorem size_alloc (w : World) (o : Obj) : (w.alloc o).heap.size = w.heap.size + 1 := by simp

set_option maxHeartbeats 3200000 in
theorem exJoin_walk (x0 y0 x1 y1 u0 v0 u1 v1 : Int) (w : World) : Calls Try.prog 7 #[.agg #[.int .i64 x0, .int .i64 y0, .int .i64 x1, .int .i64 y1], .agg #[.int .i64 u0, .int .i64 v0, .int .i64 u1, .int .i64 v1]] w fun e w' => e = .returned (.bool true) ∧ Below w.heap.size w w' := by
  have he := boxEq_self (lst x0 u0) (lst y0 v0) (mst x1 u1) (mst y1 v1)
  go_enter Try.func7, Try.ntmps7
  go_upto_region 1 with (fail)
  go_cut [5] (fun s5 wx => ∃ g : Nat, s5 = .pointer (some ⟨g, 0, none⟩) ∧ (fun w' => (Below w.heap.size w w' ∧ w.heap.size < w'.heap.size ∧ w.heap.size + 1 < w'.heap.size ∧ g < w'.heap.size) ∧ (w'.cell? ⟨w.heap.size, 0, none⟩ = some (.int .i64 x0) ∧ w'.cell? ⟨w.heap.size, 1, none⟩ = some (.int .i64 y0) ∧ w'.cell? ⟨w.heap.size, 2, none⟩ = some (.int .i64 x1) ∧ w'.cell? ⟨w.heap.size, 3, none⟩ = some (.int .i64 y1)) ∧ (w'.cell? ⟨w.heap.size + 1, 0, none⟩ = some (.int .i64 u0) ∧ w'.cell? ⟨w.heap.size + 1, 1, none⟩ = some (.int .i64 v0) ∧ w'.cell? ⟨w.heap.size + 1, 2, none⟩ = some (.int .i64 u1) ∧ w'.cell? ⟨w.heap.size + 1, 3, none⟩ = some (.int .i64 v1)) ∧ (w'.cell? ⟨g, 0, none⟩ = some (.int .i64 (lst x0 u0)) ∧ w'.cell? ⟨g, 1, none⟩ = some (.int .i64 (lst y0 v0)) ∧ w'.cell? ⟨g, 2, none⟩ = some (.int .i64 (mst x1 u1)) ∧ w'.cell? ⟨g, 3, none⟩ = some (.int .i64 (mst y1 v1)))) wx)
  case first =>
    go_region_held3 (fun w' => (Below w.heap.size w w' ∧ w.heap.size < w'.heap.size ∧ w.heap.size + 1 < w'.heap.size) ∧ (w'.cell? ⟨w.heap.size, 0, none⟩ = some (.int .i64 x0) ∧ w'.cell? ⟨w.heap.size, 1, none⟩ = some (.int .i64 y0) ∧ w'.cell? ⟨w.heap.size, 2, none⟩ = some (.int .i64 x1) ∧ w'.cell? ⟨w.heap.size, 3, none⟩ = some (.int .i64 y1)) ∧ (w'.cell? ⟨w.heap.size + 1, 0, none⟩ = some (.int .i64 u0) ∧ w'.cell? ⟨w.heap.size + 1, 1, none⟩ = some (.int .i64 v0) ∧ w'.cell? ⟨w.heap.size + 1, 2, none⟩ = some (.int .i64 u1) ∧ w'.cell? ⟨w.heap.size + 1, 3, none⟩ = some (.int .i64 v1)))
      (first | exact keep2 (by assumption) hj | exact keep2 (by assumption) (new_below _ _) | exact keepSwap2 (by assumption) (by omega) _ | exact keepSet2 (keepSet2 (keepSet2 (keepSet2 (by assumption) _ _ _ (by omega)) _ _ _ (by omega)) _ _ _ (by omega)) _ _ _ (by omega) | (refine ⟨⟨((new_below w _).trans ((new_below _ _).mono (show w.heap.size ≤ _ by simp))).drew, by simp; omega, by simp⟩, ?_⟩; simp; done))
      (first | ((with_reducible refine (toBox_any _ _ _ _ _).mono ?_); rintro e w1 ⟨rfl, hj⟩; have hz := hj.size; (try simp at hz); (first | (have k5 := below_keep hj (by simp) _ _ (blk_new _ _ _)) | (have k5 := below_keep hj (by omega) _ _ k5) | skip); (try simp only [size_alloc] at k5)) | ((with_reducible refine (sJoin_any _ _ _ _ _ _ _ _ _).mono ?_); rintro e w1 ⟨rfl, hj⟩; have hz := hj.size; (try simp at hz); (first | (have k5 := below_keep hj (by simp) _ _ (blk_new _ _ _)) | (have k5 := below_keep hj (by omega) _ _ k5) | skip); (try simp only [size_alloc] at k5)))
    all_goals
      rename_i hS
      go_wp2_with fail
      go_meet
      refine ⟨_, rfl, ⟨hS.1.1, hS.1.2.1, hS.1.2.2, ?_⟩, hS.2.1, hS.2.2, ?_⟩
      · clear hS
        simp
        try omega
      · clear hS
        first | (simp [go_sem]; done) | simp [go_sem, k5]
  case rest =>
    obtain ⟨g, rfl, hcut⟩ := hcut
    have hS0 := Lib.hid hcut
    have hg := hcut.1.2.2.2
    have hg1 := hcut.1.2.1
    have hg2 := hcut.1.2.2.1
    clear hcut
    go_upto_region 2 with (fail)
    go_cut [6] (fun s6 wx => ∃ q : Nat, s6 = .pointer (some ⟨q, 0, none⟩) ∧ (fun w' => (Below w.heap.size w w' ∧ w.heap.size < w'.heap.size ∧ w.heap.size + 1 < w'.heap.size ∧ g < w'.heap.size ∧ q < w'.heap.size) ∧ (w'.cell? ⟨w.heap.size, 0, none⟩ = some (.int .i64 x0) ∧ w'.cell? ⟨w.heap.size, 1, none⟩ = some (.int .i64 y0) ∧ w'.cell? ⟨w.heap.size, 2, none⟩ = some (.int .i64 x1) ∧ w'.cell? ⟨w.heap.size, 3, none⟩ = some (.int .i64 y1)) ∧ (w'.cell? ⟨w.heap.size + 1, 0, none⟩ = some (.int .i64 u0) ∧ w'.cell? ⟨w.heap.size + 1, 1, none⟩ = some (.int .i64 v0) ∧ w'.cell? ⟨w.heap.size + 1, 2, none⟩ = some (.int .i64 u1) ∧ w'.cell? ⟨w.heap.size + 1, 3, none⟩ = some (.int .i64 v1)) ∧ (w'.cell? ⟨g, 0, none⟩ = some (.int .i64 (lst x0 u0)) ∧ w'.cell? ⟨g, 1, none⟩ = some (.int .i64 (lst y0 v0)) ∧ w'.cell? ⟨g, 2, none⟩ = some (.int .i64 (mst x1 u1)) ∧ w'.cell? ⟨g, 3, none⟩ = some (.int .i64 (mst y1 v1))) ∧ (w'.cell? ⟨q, 0, none⟩ = some (.int .i64 (lst x0 u0)) ∧ w'.cell? ⟨q, 1, none⟩ = some (.int .i64 (lst y0 v0)) ∧ w'.cell? ⟨q, 2, none⟩ = some (.int .i64 (mst x1 u1)) ∧ w'.cell? ⟨q, 3, none⟩ = some (.int .i64 (mst y1 v1)))) wx)
    case first =>
      go_region_held3 (fun w' => (Below w.heap.size w w' ∧ w.heap.size < w'.heap.size ∧ w.heap.size + 1 < w'.heap.size ∧ g < w'.heap.size) ∧ (w'.cell? ⟨w.heap.size, 0, none⟩ = some (.int .i64 x0) ∧ w'.cell? ⟨w.heap.size, 1, none⟩ = some (.int .i64 y0) ∧ w'.cell? ⟨w.heap.size, 2, none⟩ = some (.int .i64 x1) ∧ w'.cell? ⟨w.heap.size, 3, none⟩ = some (.int .i64 y1)) ∧ (w'.cell? ⟨w.heap.size + 1, 0, none⟩ = some (.int .i64 u0) ∧ w'.cell? ⟨w.heap.size + 1, 1, none⟩ = some (.int .i64 v0) ∧ w'.cell? ⟨w.heap.size + 1, 2, none⟩ = some (.int .i64 u1) ∧ w'.cell? ⟨w.heap.size + 1, 3, none⟩ = some (.int .i64 v1)) ∧ (w'.cell? ⟨g, 0, none⟩ = some (.int .i64 (lst x0 u0)) ∧ w'.cell? ⟨g, 1, none⟩ = some (.int .i64 (lst y0 v0)) ∧ w'.cell? ⟨g, 2, none⟩ = some (.int .i64 (mst x1 u1)) ∧ w'.cell? ⟨g, 3, none⟩ = some (.int .i64 (mst y1 v1))))
        (first | exact keep3 (by assumption) hj | exact keep3 (by assumption) (new_below _ _) | exact keepSwap3 (by assumption) (by omega) _ | exact keepSet3 (keepSet3 (keepSet3 (keepSet3 (by assumption) _ _ _ (by omega)) _ _ _ (by omega)) _ _ _ (by omega)) _ _ _ (by omega) | exact keep3 hS0.out (drew_below _))
        (first | ((with_reducible refine (toBox_any _ _ _ _ _).mono ?_); rintro e w1 ⟨rfl, hj⟩; have hz := hj.size; (try simp at hz); (first | (have k5 := below_keep hj (by simp) _ _ (blk_new _ _ _)) | (have k5 := below_keep hj (by omega) _ _ k5) | skip); (try simp only [size_alloc] at k5)) | ((with_reducible refine (iJoin_any _ _ _ _ _ _ _ _ _).mono ?_); rintro e w1 ⟨rfl, hj⟩; have hz := hj.size; (try simp at hz); (first | (have k5 := below_keep hj (by simp) _ _ (blk_new _ _ _)) | (have k5 := below_keep hj (by omega) _ _ k5) | skip); (try simp only [size_alloc] at k5)))
      all_goals
        rename_i hS
        go_wp2_with fail
        go_meet
        refine ⟨_, rfl, ⟨hS.1.1, hS.1.2.1, hS.1.2.2.1, hS.1.2.2.2, ?_⟩, hS.2.1, hS.2.2.1, hS.2.2.2, ?_⟩
        · clear hS
          simp
          try omega
        · clear hS
          first | (simp [go_sem]; done) | simp [go_sem, k5]
    case rest =>
      obtain ⟨q, rfl, ⟨B, -, -, -, -⟩, -, -, cg, cq⟩ := hcut
      clear hS0
      go_wp2_with fail
      refine (eqBox_any _ _ _ _ _ _ _ _ _).mono ?_
      rintro e w3 ⟨rfl, hb⟩
      go_wp2
      go_ret
      exact ⟨rfl, B.trans (hb.mono B.size)⟩
end Go.Proofs.Ytdpkodemmfaglaa
