/- The library's stable sort: two neighbouring parts of a row change places; a part is sorted by insertion. -/
import Derived.Test.YtgjbngfcllanmaaDoorStabM
namespace Go.Proofs.YtgjbngfcllanmaaDoor
open Go.RowKit

set_option maxHeartbeats 1600000 in
set_option maxRecDepth 100000 in
theorem rotate_any (g n cap base f a m b : Nat) (P X Y S : List It) (w : World) (h : RowI g n cap base (P ++ X ++ Y ++ S) w) (hn : n ≤ 1099511627776) (ha : a = P.length) (hm : m = P.length + X.length) (hb : b = P.length + X.length + Y.length) (hX : 0 < X.length) (hY : 0 < Y.length) :
    Calls Tryd.prog 75 #[.slice (some ⟨g, 0, none⟩) n cap, .int .i64 a, .int .i64 m, .int .i64 b, .func (.func f) #[] #[]] w fun e w' =>
      e = .returned (.tuple #[]) ∧ RowI g n cap base (P ++ Y ++ X ++ S) w' ∧ Below base w w' := by
  have H := Lib.hid h
  have hl : P.length + X.length + Y.length ≤ n := by have := h.2; simp at this; omega
  have G := Lib.hid h.lt
  have HX := Lib.hid hX
  have HY := Lib.hid hY
  obtain ⟨i0, hi0⟩ : ∃ i, i = X.length := ⟨_, rfl⟩
  obtain ⟨j0, hj0⟩ : ∃ j, j = Y.length := ⟨_, rfl⟩
  have e1 : IntKind.i64.wrap ((m : Int) - (a : Int)) = (i0 : Int) := by rw [IntKind.wrap_i64]; omega
  have e2 : IntKind.i64.wrap ((b : Int) - (m : Int)) = (j0 : Int) := by rw [IntKind.wrap_i64]; omega
  have HA := Lib.hid (And.intro ha (And.intro hm (And.intro hb (And.intro hi0 (And.intro hj0 hl)))))
  clear h hl hX hY ha hm hb hi0 hj0
  go_enter Tryd.func75, Tryd.ntmps75
  go_wp2
  go_loopw [10, 11] (fun vi vj wr => ∃ (i j : Nat) (P' X' Y' S' : List It), vi = .int .i64 i ∧ vj = .int .i64 j ∧ Hid (X'.length = i ∧ Y'.length = j ∧ 0 < i ∧ 0 < j ∧ P'.length + i = m ∧ m + j ≤ n ∧ P' ++ Y' ++ X' ++ S' = P ++ Y ++ X ++ S) ∧ RowI g n cap base (P' ++ X' ++ Y' ++ S') wr ∧ Below base w wr) (fun vi vj _ => (intOf vi).toNat + (intOf vj).toNat)
  case atStart =>
    obtain ⟨ha, hm, hb, hi0, hj0, hl⟩ := HA.out
    exact ⟨i0, j0, P, X, Y, S, rfl, rfl, Lib.hid ⟨hi0.symm, hj0.symm, by rw [hi0]; exact HX.out, by rw [hj0]; exact HY.out, by omega, by omega, rfl⟩, H.out, Below.refl _ _⟩
  case round =>
    obtain ⟨i, j, P', X', Y', S', rfl, rfl, HI, hr, hB⟩ := hrel
    have hj2 : m + j ≤ n ∧ i ≤ m ∧ 0 < i ∧ 0 < j := by have := HI.out; omega
    obtain ⟨hmj, him, hi0, hj0⟩ := hj2
    have R := Lib.hid hr
    have BB := Lib.hid hB
    clear hr hB
    obtain ⟨p, hp⟩ : ∃ p, p = m - i := ⟨_, rfl⟩
    have ep : IntKind.i64.wrap ((m : Int) - (i : Int)) = (p : Int) := by rw [IntKind.wrap_i64]; omega
    have HP : Hid (p = P'.length) := by show _ = _; have := HI.out; omega
    clear hp
    rcases (by omega : i = j ∨ j < i ∨ i < j) with hij | hij | hij
    · subst hij
      have C := Lib.hid (swapRange_any g n cap base f p m i _ _ R.out hn (by have := HI.out; have := HP.out; omega) (by omega))
      go_wp2_with fail
      refine C.out.mono ?_
      rintro e w1 ⟨rfl, hr1, hb1⟩
      go_wp2
      go_end0
      obtain ⟨hx, hy, -, -, hP, -, hE⟩ := HI.out
      have Q := swpR_parts i P' X' [] Y' S' p m HP.out (by simp; omega) hx hy
      rw [List.append_nil, List.append_nil] at Q
      rw [Q, hE] at hr1
      exact ⟨rfl, hr1, BB.out.trans hb1⟩
    · have hne : ((i : Int) != (j : Int)) = true := by rw [bne_iff_ne]; omega
      have hgt : (j : Int) < (i : Int) := by omega
      have C := Lib.hid (swapRange_any g n cap base f p m j _ _ R.out hn (by have := HI.out; have := HP.out; omega) (by omega))
      have ei : IntKind.i64.wrap ((i : Int) - (j : Int)) = ((i - j : Nat) : Int) := by rw [IntKind.wrap_i64]; omega
      go_wp2_with fail
      refine C.out.mono ?_
      rintro e w1 ⟨rfl, hr1, hb1⟩
      go_wp2
      go_roundw
      case rel =>
        obtain ⟨hx, hy, -, -, hP, -, hE⟩ := HI.out
        refine ⟨i - j, j, P' ++ Y', X'.drop j, X'.take j, S', rfl, rfl, Lib.hid ⟨by simp [hx], by simp [hx]; omega, by omega, by omega, by simp [hy]; omega, by omega, ?_⟩, ?_, BB.out.trans hb1⟩
        · rw [← hE, List.append_assoc (P' ++ Y'), List.take_append_drop]
        · have Q := swpR_parts j P' (X'.take j) (X'.drop j) Y' S' p m HP.out (by simp [hx]; omega) (by simp [hx]; omega) hy
          rw [List.append_assoc P', List.take_append_drop] at Q
          rw [Q] at hr1
          exact hr1
      case measure => simp [intOf]; omega
    · have hne : ((i : Int) != (j : Int)) = true := by rw [bne_iff_ne]; omega
      have hgt : ¬ (j : Int) < (i : Int) := by omega
      obtain ⟨q, hq⟩ : ∃ q, q = m + j - i := ⟨_, rfl⟩
      have eq1 : IntKind.i64.wrap ((m : Int) + (j : Int)) = (m : Int) + (j : Int) := by rw [IntKind.wrap_i64]; omega
      have eq : IntKind.i64.wrap ((m : Int) + (j : Int) - (i : Int)) = (q : Int) := by rw [IntKind.wrap_i64]; omega
      have C := Lib.hid (swapRange_any g n cap base f p q i _ _ R.out hn (by have := HI.out; have := HP.out; omega) (by omega))
      have ei : IntKind.i64.wrap ((j : Int) - (i : Int)) = ((j - i : Nat) : Int) := by rw [IntKind.wrap_i64]; omega
      replace hq := Lib.hid hq
      go_wp2_with fail
      refine C.out.mono ?_
      rintro e w1 ⟨rfl, hr1, hb1⟩
      go_wp2
      go_roundw
      case rel =>
        obtain ⟨hx, hy, -, -, hP, -, hE⟩ := HI.out
        refine ⟨i, j - i, P', Y'.drop (j - i), Y'.take (j - i), X' ++ S', rfl, rfl, Lib.hid ⟨by simp [hy]; omega, by simp [hy], by omega, by omega, by omega, by omega, ?_⟩, ?_, BB.out.trans hb1⟩
        · rw [← hE, List.append_assoc P', List.take_append_drop, List.append_assoc (P' ++ Y')]
        · have Q := swpR_parts i P' X' (Y'.take (j - i)) (Y'.drop (j - i)) S' p q HP.out (by have := hq.out; simp [hx, hy]; omega) hx (by simp [hy]; omega)
          rw [List.append_assoc (P' ++ X'), List.take_append_drop] at Q
          rw [Q] at hr1
          simpa using hr1
      case measure => simp [intOf]; omega
end Go.Proofs.YtgjbngfcllanmaaDoor
