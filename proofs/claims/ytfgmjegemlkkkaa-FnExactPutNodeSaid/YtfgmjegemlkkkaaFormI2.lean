/- The program's PutEntry. -/
import Derived.Test.YtfgmjegemlkkkaaFormC
namespace Go.Proofs.Ytfgmjegemlkkkaa
open Go.RowKit

set_option maxHeartbeats 3200000 in
set_option maxRecDepth 100000 in
theorem iPutEntry_any : CPutEntry 21 := by
  intro x w
  obtain ⟨W0, hW0⟩ : ∃ W0, W0 = w.alloc (.cells #[.int .i64 x.id, .int .i64 x.x0, .int .i64 x.y0, .int .i64 x.x1, .int .i64 x.y1] 35) := ⟨_, rfl⟩
  have hs0 : W0.heap.size = w.heap.size + 1 := by subst hW0; simp
  have B0 : Hid (Below w.heap.size w W0) := by subst hW0; exact new_below w _
  have K : Hid (∀ o, W0.cell? ⟨w.heap.size, o, none⟩ = #[Value.int .i64 x.id, .int .i64 x.x0, .int .i64 x.y0, .int .i64 x.x1, .int .i64 x.y1][o]?) := by subst hW0; exact (blk_new w _ _).1
  have k := K.out
  by_cases h : 0 ≤ x.id ∧ x.id ≤ 65535
  · obtain ⟨h1, h2⟩ := h
    have CB := iBoxOk_any x.x0 x.y0 x.x1 x.y1
    cases hb : okB x.x0 x.y0 x.x1 x.y1 with
    | true =>
      have hr : Hid (putE x = [x.id / 256, x.id % 256, x.x0, x.y0, x.x1, x.y1]) := if_pos ⟨⟨h1, h2⟩, hb⟩
      rw [hb] at CB
      replace CB := Lib.hid CB
      have hp : Hid (put2 [] x.id = [x.id / 256, x.id % 256]) := by show put2 [] x.id = _; unfold put2; rw [if_pos ⟨h1, h2⟩]; rfl
      have hwf := Lib.hid (wf_small x.id (by omega) (by omega))
      have hbd := (okB_iff _ _ _ _).1 hb
      obtain ⟨b0, b1, b2, b3, b4, b5, b6, b7⟩ : 0 ≤ x.x0 ∧ x.x0 ≤ 255 ∧ 0 ≤ x.y0 ∧ x.y0 ≤ 255 ∧ 0 ≤ x.x1 ∧ x.x1 ≤ 255 ∧ 0 ≤ x.y1 ∧ x.y1 ≤ 255 := by omega
      clear hbd hb
      have HL0 : ([x.id / 256, x.id % 256] ++ [IntKind.u8.wrap x.x0, IntKind.u8.wrap x.y0, IntKind.u8.wrap x.x1, IntKind.u8.wrap x.y1] : List Int) = putE x := by
        rw [hr.out, u8_wrap b0 b1, u8_wrap b2 b3, u8_wrap b4 b5, u8_wrap b6 b7]
        rfl
      replace HL0 := Lib.hid HL0
      have KS := Lib.hid (show ∀ V, Below W0.heap.size W0 V → (fun V => Below W0.heap.size W0 V ∧ V.cell? ⟨w.heap.size, 0, none⟩ = some (.int .i64 x.id) ∧ V.cell? ⟨w.heap.size, 1, none⟩ = some (.int .i64 x.x0) ∧ V.cell? ⟨w.heap.size, 2, none⟩ = some (.int .i64 x.y0) ∧ V.cell? ⟨w.heap.size, 3, none⟩ = some (.int .i64 x.x1) ∧ V.cell? ⟨w.heap.size, 4, none⟩ = some (.int .i64 x.y1)) V from fun V b => ⟨b, (b.cell (p := ⟨w.heap.size, 0, none⟩) (show w.heap.size < W0.heap.size by omega)).trans (K.out 0), (b.cell (p := ⟨w.heap.size, 1, none⟩) (show w.heap.size < W0.heap.size by omega)).trans (K.out 1), (b.cell (p := ⟨w.heap.size, 2, none⟩) (show w.heap.size < W0.heap.size by omega)).trans (K.out 2), (b.cell (p := ⟨w.heap.size, 3, none⟩) (show w.heap.size < W0.heap.size by omega)).trans (K.out 3), (b.cell (p := ⟨w.heap.size, 4, none⟩) (show w.heap.size < W0.heap.size by omega)).trans (K.out 4)⟩)
      have KT := Lib.hid (show ∀ V V' : World, Below W0.heap.size W0 V → Below V.heap.size V V' → Below W0.heap.size W0 V' from fun V V' b b' => b.trans (b'.mono b.size))
      have KA := Lib.hid (show ∀ (V : World) (O : Obj), Below W0.heap.size W0 V → Below W0.heap.size W0 (V.alloc O) from fun V O b => b.alloc b.size O)
      have RN := Lib.hid (fun W : World => rdI_new W .u8 [IntKind.u8.wrap x.x0, IntKind.u8.wrap x.y0, IntKind.u8.wrap x.x1, IntKind.u8.wrap x.y1] #[.int .u8 (IntKind.u8.wrap x.x0), .int .u8 (IntKind.u8.wrap x.y0), .int .u8 (IntKind.u8.wrap x.x1), .int .u8 (IntKind.u8.wrap x.y1)] 5 4 rfl rfl (by simp [maxLen]))
      go_enter Try.func21, Try.ntmps21
      go_wp2_with fail
      rw [← hW0]
      refine (CB.out _).mono ?_
      rintro e w2 ⟨rfl, hb2⟩
      have KD := Lib.hid (show Below W0.heap.size W0 w2.drew from hb2.drew)
      have KX1 := Lib.hid (show ∀ O : Obj, Below W0.heap.size W0 (w2.alloc O).drew from fun O => (hb2.alloc hb2.size O).drew)
      go_wp2_with fail
      go_region_held3 (fun V => Below W0.heap.size W0 V ∧ V.cell? ⟨w.heap.size, 0, none⟩ = some (.int .i64 x.id) ∧ V.cell? ⟨w.heap.size, 1, none⟩ = some (.int .i64 x.x0) ∧ V.cell? ⟨w.heap.size, 2, none⟩ = some (.int .i64 x.y0) ∧ V.cell? ⟨w.heap.size, 3, none⟩ = some (.int .i64 x.x1) ∧ V.cell? ⟨w.heap.size, 4, none⟩ = some (.int .i64 x.y1))
        (first | exact KS.out _ KD.out | exact KS.out _ (KX1.out _) | exact KS.out _ hbw.out | exact KS.out _ hbx.out | exact KS.out _ (KA.out _ _ hbw.out))
        (first
          | (go_at_call 57; (with_reducible refine (put2_any none 0 0 [] x.id _ (rdI_nil _ _) (by omega) hwf.out).mono ?_); rintro e w3 ⟨v3, rfl, o3, hb⟩; rw [hp.out] at o3; obtain ⟨a3, c3, rfl, r3⟩ := o3.rd; have hbw := Lib.hid (KT.out _ _ (And.left (by assumption)) hb))
          | (go_at_call 56; (with_reducible refine (joined_any a3 (some ⟨w3.heap.size, 0, none⟩) 2 c3 4 4 [x.id / 256, x.id % 256] [IntKind.u8.wrap x.x0, IntKind.u8.wrap x.y0, IntKind.u8.wrap x.x1, IntKind.u8.wrap x.y1] _ (RdI.below r3 (new_below w3 (.cells #[.int .u8 (IntKind.u8.wrap x.x0), .int .u8 (IntKind.u8.wrap x.y0), .int .u8 (IntKind.u8.wrap x.x1), .int .u8 (IntKind.u8.wrap x.y1)] 5))) (RN.out w3) (by omega) (by omega)).mono ?_); rintro e w5 ⟨v5, rfl, o5, b5⟩; have hbx := Lib.hid (KT.out _ _ (KA.out w3 (.cells #[.int .u8 (IntKind.u8.wrap x.x0), .int .u8 (IntKind.u8.wrap x.y0), .int .u8 (IntKind.u8.wrap x.x1), .int .u8 (IntKind.u8.wrap x.y1)] 5) hbw.out) b5); have hsz := Lib.hid (KA.out w3 (.cells #[.int .u8 (IntKind.u8.wrap x.x0), .int .u8 (IntKind.u8.wrap x.y0), .int .u8 (IntKind.u8.wrap x.x1), .int .u8 (IntKind.u8.wrap x.y1)] 5) hbw.out).size)
          | (go_at_call 56; (with_reducible refine (joined_any a3 (some ⟨w2.heap.size, 0, none⟩) 2 c3 4 4 [x.id / 256, x.id % 256] [IntKind.u8.wrap x.x0, IntKind.u8.wrap x.y0, IntKind.u8.wrap x.x1, IntKind.u8.wrap x.y1] _ r3 (by have := ((RN.out w2).below (drew_below _)).below hb; simpa using this) (by omega) (by omega)).mono ?_); rintro e w5 ⟨v5, rfl, o5, b5⟩; have hbx := Lib.hid (KT.out _ _ hbw.out b5); have hsz := Lib.hid hbw.out.size))
      all_goals
        rw [HL0.out] at o5
        have H5 := Lib.hid o5
        clear o5
        go_wp2
        go_ret
        exact ⟨_, rfl, Own.mono H5.out (by have := hsz.out; omega), B0.out.trans (hbx.out.mono (by omega))⟩
    | false =>
      have hr : Hid (putE x = []) := if_neg (fun h => by rw [hb] at h; exact Bool.noConfusion h.2)
      rw [hb] at CB
      replace CB := Lib.hid CB
      clear hb
      go_enter Try.func21, Try.ntmps21
      go_wp2_with fail
      rw [← hW0]
      refine (CB.out _).mono ?_
      rintro e w2 ⟨rfl, hb2⟩
      replace hb2 := Lib.hid (B0.out.trans (hb2.mono B0.out.size))
      go_wp2
      go_ret
      refine ⟨_, rfl, ?_, hb2.out.alloc hb2.out.size _⟩
      rw [hr.out]
      exact own8_nil w2 w.heap.size w2.heap.size rfl hb2.out.size
  · have hr : Hid (putE x = []) := if_neg (fun h' => h h'.1)
    by_cases h0 : x.id < 0
    · go_enter Try.func21, Try.ntmps21
      go_wp2
      go_ret
      subst hW0
      refine ⟨_, rfl, ?_, B0.out.alloc B0.out.size _⟩
      rw [hr.out]
      exact own8_nil (w.alloc (.cells #[.int .i64 x.id, .int .i64 x.x0, .int .i64 x.y0, .int .i64 x.x1, .int .i64 x.y1] 35)) w.heap.size (w.heap.size + 1) (by simp) (by omega)
    · have h1 : 65535 < x.id := by omega
      go_enter Try.func21, Try.ntmps21
      go_wp2
      go_ret
      subst hW0
      refine ⟨_, rfl, ?_, B0.out.alloc B0.out.size _⟩
      rw [hr.out]
      exact own8_nil (w.alloc (.cells #[.int .i64 x.id, .int .i64 x.x0, .int .i64 x.y0, .int .i64 x.x1, .int .i64 x.y1] 35)) w.heap.size (w.heap.size + 1) (by simp) (by omega)
end Go.Proofs.Ytfgmjegemlkkkaa
