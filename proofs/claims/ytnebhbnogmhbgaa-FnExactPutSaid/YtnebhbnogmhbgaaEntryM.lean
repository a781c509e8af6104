/- Entries that are marked, and their reading. -/
import Derived.Test.YtnebhbnogmhbgaaItemM
import Derived.Test.YtnebhbnogmhbgaaEntryS
namespace Go.Proofs.Ytnebhbnogmhbgaa
open Go.RowKit

set_option maxRecDepth 100000 in
set_option maxHeartbeats 800000 in
/-- laws.heldEntryS: a slice that reads as it was marked. -/
theorem heldEntryS_any (a : Option Addr) (n cap : Nat) (k : Int) (w : World) (h : RdS itLay w a n cap (markedI n k)) (hk0 : 0 ≤ k) (hk : k ≤ 1000000000) (hn : n ≤ 1000000000) :
    Calls Try.prog 86 #[.slice a n cap, .int .i64 k] w fun e w' => e = .returned (.int .i64 (k + 5 * n)) ∧ w = w' := by
  have HR := Lib.hid h
  have hnc := h.1.2.1
  have hm := h.1.2.2.1
  unfold maxLen at hm
  clear h
  go_enter Try.func86, Try.ntmps86
  go_wp2
  go_loopw [1, 5] (fun q i wr => ∃ m : Nat, m ≤ n ∧ i = .int .i64 m ∧ q = .int .i64 (k + 5 * m) ∧ wr = w) (fun _ i _ => n - (intOf i).toNat)
  case atStart => exact ⟨0, Nat.zero_le _, rfl, by simp, rfl⟩
  case round =>
    obtain ⟨m, hm, rfl, rfl, rfl⟩ := hrel
    by_cases hlt : m < n
    · obtain ⟨b, off, x, rfl, hbl, hx, d0, d1, d2, d3, d4⟩ := rdIt_at HR.out hlt
      rw [markedI, gen_at n _ m hlt] at hx
      obtain rfl : markIt k m = x := by simpa using hx
      simp only [markIt] at d0 d1 d2 d3 d4
      have z0 : (0 : Int) ≤ m := by omega
      have z1 : (m : Int) < n := by omega
      clear hx
      go_wp2
      go_roundw
      case rel => exact ⟨m + 1, by omega, by go_num, by go_num, by trivial⟩
      case measure => simp [intOf]; omega
    · obtain rfl : m = n := by omega
      go_wp2
      go_ret
      exact ⟨rfl, rfl⟩

set_option maxRecDepth 100000 in
set_option maxHeartbeats 1600000 in
/-- laws.markEntryS: writes k, k + 1, .. into a slice that is owned. -/
theorem markEntryS_any (a : Option Addr) (n cap : Nat) (xs : List It) (k : Int) (base : Nat) (w : World) (h : w.ownsRow base 91 5 (.slice a n cap) n (xs.flatMap itLay.cells)) (hz : xs.length = n) (hk0 : 0 ≤ k) (hk : k ≤ 1000000000) (hn : n ≤ 1000000000) :
    Calls Try.prog 85 #[.slice a n cap, .int .i64 k] w fun e w' =>
      e = .returned (.int .i64 (k + 5 * n)) ∧ w'.ownsRow base 91 5 (.slice a n cap) n ((markedI n k).flatMap itLay.cells) ∧ w.grownBy w' (Value.slice a n cap).ownBlock := by
  have HN := Lib.hid hz
  clear hz
  have H0 := Lib.hid h
  clear h
  go_enter Try.func85, Try.ntmps85
  go_wp2
  go_loopw [1, 5] (fun q i wr => ∃ m : Nat, m ≤ n ∧ i = .int .i64 m ∧ q = .int .i64 (k + 5 * m) ∧
      Hid (wr.ownsRow base 91 5 (.slice a n cap) n ((halfI xs n k m).flatMap itLay.cells)) ∧ Hid (w.grownBy wr (Value.slice a n cap).ownBlock))
    (fun _ i _ => n - (intOf i).toNat)
  case atStart =>
    refine ⟨0, Nat.zero_le _, rfl, by simp, ?_, Lib.hid (World.grownBy.refl _ _)⟩
    rw [halfI_start xs n k HN.out]
    exact H0
  case round =>
    obtain ⟨m, hm, rfl, rfl, ho, hg⟩ := hrel
    by_cases hlt : m < n
    · have hl := halfI_len xs n k m
      obtain ⟨g, rfl⟩ := own_head ho.out (by omega)
      obtain ⟨y, e0, e1, e2, e3, e4⟩ := ownIt_at ho.out hl hlt
      have hfz := ho.out.frozenAt
      have hlw : g < wr.heap.size := (ho.out.lt g rfl).2
      have hst := Lib.hid (halfI_set xs n k m)
      have z0 : (0 : Int) ≤ m := by omega
      have z1 : (m : Int) < n := by omega
      have hcap : n ≤ cap ∧ cap ≤ maxLen := by
        obtain ⟨a', c', hv, hr⟩ := OwnS.rd (L := itLay) (e := 91) (xs := halfI xs n k m) (by unfold OwnS; rw [hl]; exact ho.out)
        simp only [Value.slice.injEq] at hv
        obtain ⟨-, -, rfl⟩ := hv
        exact ⟨by have := hr.1.2.1; omega, hr.1.2.2.1⟩
      unfold maxLen at hcap
      have S0 := Lib.hid (ho.out.stored (m * 5) (.int .i64 (k + 5 * m)))
      have S1 := Lib.hid (S0.out.1.stored (m * 5 + 1) (.int .i64 (k + 5 * m + 1)))
      have S2 := Lib.hid (S1.out.1.stored (m * 5 + 1 + 1) (.int .i64 (k + 5 * m + 1 + 1)))
      have S3 := Lib.hid (S2.out.1.stored (m * 5 + 1 + 2) (.int .i64 (k + 5 * m + 1 + 1 + 1)))
      have S4 := Lib.hid (S3.out.1.stored (m * 5 + 1 + 3) (.int .i64 (k + 5 * m + 1 + 1 + 1 + 1)))
      have hfl := Lib.hid (flat_setI (halfI xs n k m) m (markIt k m) (by omega))
      clear ho
      go_wp2
      go_roundw
      case rel =>
        refine ⟨m + 1, by omega, by go_num, by go_num, Lib.hid ?_, Lib.hid ?_⟩
        · rw [hst.out, ← hfl.out]
          exact S4.out.1
        · exact grown_trans hg.out (grown_trans S0.out.2 (grown_trans S1.out.2 (grown_trans S2.out.2 (grown_trans S3.out.2 S4.out.2))))
      case measure => simp [intOf]; omega
    · obtain rfl : m = n := by omega
      go_wp2
      go_ret
      refine ⟨rfl, ?_, hg.out⟩
      rw [← halfI_end xs m k]
      exact ho.out
end Go.Proofs.Ytnebhbnogmhbgaa
