/- The model's encoding of an entry. -/
import Derived.Test.YtfgmjegemlkkkaaNum
import Derived.Test.YtfgmjegemlkkkaaBox2
import Derived.Test.YtfgmjegemlkkkaaItem
import Derived.Test.YtfgmjegemlkkkaaItemAt
import Derived.Test.YtfgmjegemlkkkaaSlice
import Derived.Test.YtfgmjegemlkkkaaDraw
namespace Go.Proofs.Ytfgmjegemlkkkaa
open Go.RowKit

theorem own8_nil (w : World) (base g : Nat) (hg : w.heap.size = g) (hb : base ≤ g) : Own .u8 5 (w.alloc (.cells #[] 5)) base (.slice (some ⟨g, 0, none⟩) 0 0) [] := own_nil w 5 1 base g hg hb
theorem u8_wrap {n : Int} (h : 0 ≤ n) (h2 : n ≤ 255) : IntKind.u8.wrap n = n := by show n % 256 = n; omega
/-- The six bytes of an entry; none where it is not valid. -/
def putE (x : It) : List Int := if (0 ≤ x.id ∧ x.id ≤ 65535) ∧ okB x.x0 x.y0 x.x1 x.y1 = true then [x.id / 256, x.id % 256, x.x0, x.y0, x.x1, x.y1] else []
theorem rdI_emp (k : IntKind) (w : World) (b : Addr) : RdI k w (some b) 0 0 [] := ⟨⟨rfl, Nat.le_refl _, by simp [maxLen], fun h => by cases h⟩, fun h => by omega⟩

set_option maxHeartbeats 3200000 in
set_option maxRecDepth 100000 in
theorem sPutEntry_any (x : It) (w : World) : Calls Try.prog 22 #[.agg #[.int .i64 x.id, .int .i64 x.x0, .int .i64 x.y0, .int .i64 x.x1, .int .i64 x.y1]] w (Fresh8 w (putE x)) := by
  obtain ⟨i0, hi, hz0, hz1, hz2⟩ := info_parts Try.infoU8
  replace hi := Lib.hid hi
  replace hz0 := Lib.hid hz0
  replace hz1 := Lib.hid hz1
  replace hz2 := Lib.hid hz2
  obtain ⟨W0, hW0⟩ : ∃ W0, W0 = w.alloc (.cells #[.int .i64 x.id, .int .i64 x.x0, .int .i64 x.y0, .int .i64 x.x1, .int .i64 x.y1] 35) := ⟨_, rfl⟩
  have hs0 : W0.heap.size = w.heap.size + 1 := by subst hW0; simp
  have B0 : Hid (Below w.heap.size w W0) := by subst hW0; exact new_below w _
  have K : Hid (∀ o, W0.cell? ⟨w.heap.size, o, none⟩ = #[Value.int .i64 x.id, .int .i64 x.x0, .int .i64 x.y0, .int .i64 x.x1, .int .i64 x.y1][o]?) := by subst hW0; exact (blk_new w _ _).1
  by_cases h : 0 ≤ x.id ∧ x.id ≤ 65535
  · obtain ⟨h1, h2⟩ := h
    cases hb : okB x.x0 x.y0 x.x1 x.y1 with
    | true =>
      have hr : Hid (putE x = [x.id / 256, x.id % 256, x.x0, x.y0, x.x1, x.y1]) := if_pos ⟨⟨h1, h2⟩, hb⟩
      have HL0 : ([IntKind.u8.wrap x.x0, IntKind.u8.wrap x.y0, IntKind.u8.wrap x.x1, IntKind.u8.wrap x.y1] : List Int) = [x.x0, x.y0, x.x1, x.y1] := by
        obtain ⟨b0, b1, b2, b3, b4, b5, b6, b7⟩ : 0 ≤ x.x0 ∧ x.x0 ≤ 255 ∧ 0 ≤ x.y0 ∧ x.y0 ≤ 255 ∧ 0 ≤ x.x1 ∧ x.x1 ≤ 255 ∧ 0 ≤ x.y1 ∧ x.y1 ≤ 255 := by have := (okB_iff _ _ _ _).1 hb; omega
        rw [u8_wrap b0 b1, u8_wrap b2 b3, u8_wrap b4 b5, u8_wrap b6 b7]
      have HL : Hid (([.int .u8 (x.id / 256), .int .u8 (x.id % 256)] ++ [.int .u8 (IntKind.u8.wrap x.x0), .int .u8 (IntKind.u8.wrap x.y0), .int .u8 (IntKind.u8.wrap x.x1), .int .u8 (IntKind.u8.wrap x.y1)] : List Value) = [x.id / 256, x.id % 256, x.x0, x.y0, x.x1, x.y1].map (Value.int .u8)) := by
        show _ = _
        have := congrArg (List.map (Value.int .u8)) HL0
        simp only [List.map_cons, List.map_nil] at this
        rw [this]
        rfl
      clear HL0
      have hp : Hid (put2 [] x.id = [x.id / 256, x.id % 256]) := by show put2 [] x.id = _; unfold put2; rw [if_pos ⟨h1, h2⟩]; rfl
      have hwf := Lib.hid (wf_small x.id (by omega) (by omega))
      have hbd := (okB_iff _ _ _ _).1 hb
      obtain ⟨b0, b1, b2, b3, b4, b5, b6, b7⟩ : 0 ≤ x.x0 ∧ x.x0 ≤ 255 ∧ 0 ≤ x.y0 ∧ x.y0 ≤ 255 ∧ 0 ≤ x.x1 ∧ x.x1 ≤ 255 ∧ 0 ≤ x.y1 ∧ x.y1 ≤ 255 := by omega
      have KS := Lib.hid (show ∀ V, Below W0.heap.size W0 V → (fun V => Below W0.heap.size W0 V ∧ V.cell? ⟨w.heap.size, 0, none⟩ = some (.int .i64 x.id) ∧ V.cell? ⟨w.heap.size, 1, none⟩ = some (.int .i64 x.x0) ∧ V.cell? ⟨w.heap.size, 2, none⟩ = some (.int .i64 x.y0) ∧ V.cell? ⟨w.heap.size, 3, none⟩ = some (.int .i64 x.x1) ∧ V.cell? ⟨w.heap.size, 4, none⟩ = some (.int .i64 x.y1)) V from fun V b => ⟨b, (b.cell (p := ⟨w.heap.size, 0, none⟩) (show w.heap.size < W0.heap.size by omega)).trans (K.out 0), (b.cell (p := ⟨w.heap.size, 1, none⟩) (show w.heap.size < W0.heap.size by omega)).trans (K.out 1), (b.cell (p := ⟨w.heap.size, 2, none⟩) (show w.heap.size < W0.heap.size by omega)).trans (K.out 2), (b.cell (p := ⟨w.heap.size, 3, none⟩) (show w.heap.size < W0.heap.size by omega)).trans (K.out 3), (b.cell (p := ⟨w.heap.size, 4, none⟩) (show w.heap.size < W0.heap.size by omega)).trans (K.out 4)⟩)
      have KT := Lib.hid (show ∀ V V' : World, Below W0.heap.size W0 V → Below V.heap.size V V' → Below W0.heap.size W0 V' from fun V V' b b' => b.trans (b'.mono b.size))
      have KA := Lib.hid (show ∀ (V : World) (O : Obj), Below W0.heap.size W0 V → Below W0.heap.size W0 (V.alloc O) from fun V O b => b.alloc b.size O)
      have k := K.out
      clear hbd
      go_enter Try.func22, Try.ntmps22
      go_wp2_with fail
      rw [← hW0]
      refine (l1In_yes x.id 0 65535 _ h1 h2).mono ?_
      rintro e w2 ⟨rfl, rfl⟩
      go_wp2_with fail
      have CB := sBoxOk_any x.x0 x.y0 x.x1 x.y1
      rw [hb] at CB
      refine (CB _).mono ?_
      rintro e w2 ⟨rfl, hb2⟩
      rw [← hW0] at hb2
      clear CB hb
      have KD := Lib.hid (show Below W0.heap.size W0 w2.drew from hb2.drew)
      have KX1 := Lib.hid (show ∀ O : Obj, Below W0.heap.size W0 (w2.alloc O).drew from fun O => (hb2.alloc hb2.size O).drew)
      have KX2 := Lib.hid (show ∀ O O' : Obj, Below W0.heap.size W0 ((w2.alloc O).alloc O').drew from fun O O' => ((hb2.alloc hb2.size O).alloc (by have := hb2.size; simp; omega) O').drew)
      have RN := Lib.hid (fun W : World => rdI_new W .u8 [IntKind.u8.wrap x.x0, IntKind.u8.wrap x.y0, IntKind.u8.wrap x.x1, IntKind.u8.wrap x.y1] #[.int .u8 (IntKind.u8.wrap x.x0), .int .u8 (IntKind.u8.wrap x.y0), .int .u8 (IntKind.u8.wrap x.x1), .int .u8 (IntKind.u8.wrap x.y1)] 5 4 rfl rfl (by simp [maxLen]))
      go_wp2_with fail
      go_region_held3 (fun V => Below W0.heap.size W0 V ∧ V.cell? ⟨w.heap.size, 0, none⟩ = some (.int .i64 x.id) ∧ V.cell? ⟨w.heap.size, 1, none⟩ = some (.int .i64 x.x0) ∧ V.cell? ⟨w.heap.size, 2, none⟩ = some (.int .i64 x.y0) ∧ V.cell? ⟨w.heap.size, 3, none⟩ = some (.int .i64 x.x1) ∧ V.cell? ⟨w.heap.size, 4, none⟩ = some (.int .i64 x.y1))
        (first | exact KS.out _ KD.out | exact KS.out _ (KX1.out _) | exact KS.out _ (KX2.out _ _) | exact KS.out _ hbw.out | exact KS.out _ hbx.out | exact KS.out _ (KA.out _ _ hbw.out))
        (first
          | (go_at_call 59; (with_reducible refine (sPut2_any _ 0 0 [] x.id _ (rdI_emp _ _ _) (by omega) hwf.out).mono ?_); rintro e w3 ⟨v3, rfl, o3, hb⟩; rw [hp.out] at o3; obtain ⟨a3, c3, rfl, r3⟩ := o3.rd; have hbw := Lib.hid (KT.out _ _ (And.left (by assumption)) hb); replace o3 := Lib.hid (Own.mono o3 (And.left (show Below W0.heap.size W0 _ ∧ True from ⟨And.left (by assumption), trivial⟩)).size))
          | (refine step_append_src rfl (.tmp 17) (.tmp 34) 22 rfl W0.heap.size 5 i0 _ 1 1 Try.underlying22 hi.out hz0.out hz1.out hz2.out rfl (by decide) (.slice a3 2 c3) 2 [.int .u8 (x.id / 256), .int .u8 (x.id % 256)] rfl (World.ownsRow.alloc o3.out _) (some ⟨w3.heap.size, 0, none⟩) 4 4 [.int .u8 (IntKind.u8.wrap x.x0), .int .u8 (IntKind.u8.wrap x.y0), .int .u8 (IntKind.u8.wrap x.x1), .int .u8 (IntKind.u8.wrap x.y1)] rfl rfl (fun h => by cases h) (RdI.news (zs := [IntKind.u8.wrap x.x0, IntKind.u8.wrap x.y0, IntKind.u8.wrap x.x1, IntKind.u8.wrap x.y1]) (RN.out w3)) (ints_oneCell .u8 [IntKind.u8.wrap x.x0, IntKind.u8.wrap x.y0, IntKind.u8.wrap x.x1, IntKind.u8.wrap x.y1]) (by unfold maxLen; omega) (by omega) (KA.out w3 (.cells #[.int .u8 (IntKind.u8.wrap x.x0), .int .u8 (IntKind.u8.wrap x.y0), .int .u8 (IntKind.u8.wrap x.x1), .int .u8 (IntKind.u8.wrap x.y1)] 5) hbw.out).size ?_; intro v5 w5 o5 g5; have hbx := Lib.hid (Below.grown (KA.out w3 (.cells #[.int .u8 (IntKind.u8.wrap x.x0), .int .u8 (IntKind.u8.wrap x.y0), .int .u8 (IntKind.u8.wrap x.x1), .int .u8 (IntKind.u8.wrap x.y1)] 5) hbw.out) g5 (KA.out w3 (.cells #[.int .u8 (IntKind.u8.wrap x.x0), .int .u8 (IntKind.u8.wrap x.y0), .int .u8 (IntKind.u8.wrap x.x1), .int .u8 (IntKind.u8.wrap x.y1)] 5) hbw.out).size (fun j hj => (World.ownsRow.lt o3.out j hj).1)))
          | (refine step_append_src rfl (.tmp 17) (.tmp 34) 22 rfl W0.heap.size 5 i0 _ 1 1 Try.underlying22 hi.out hz0.out hz1.out hz2.out rfl (by decide) (.slice a3 2 c3) 2 [.int .u8 (x.id / 256), .int .u8 (x.id % 256)] rfl (o3.out) (some ⟨w2.heap.size + 1, 0, none⟩) 4 4 [.int .u8 (IntKind.u8.wrap x.x0), .int .u8 (IntKind.u8.wrap x.y0), .int .u8 (IntKind.u8.wrap x.x1), .int .u8 (IntKind.u8.wrap x.y1)] rfl rfl (fun h => by cases h) (RdI.news (zs := [IntKind.u8.wrap x.x0, IntKind.u8.wrap x.y0, IntKind.u8.wrap x.x1, IntKind.u8.wrap x.y1]) (by have := ((RN.out (w2.alloc (.cells #[] 5))).below (drew_below _)).below hb; simpa using this)) (ints_oneCell .u8 [IntKind.u8.wrap x.x0, IntKind.u8.wrap x.y0, IntKind.u8.wrap x.x1, IntKind.u8.wrap x.y1]) (by unfold maxLen; omega) (by omega) (hbw.out).size ?_; intro v5 w5 o5 g5; have hbx := Lib.hid (Below.grown (hbw.out) g5 (hbw.out).size (fun j hj => (World.ownsRow.lt o3.out j hj).1)))
          | (refine step_append_src rfl (.tmp 17) (.tmp 34) 22 rfl W0.heap.size 5 i0 _ 1 1 Try.underlying22 hi.out hz0.out hz1.out hz2.out rfl (by decide) (.slice a3 2 c3) 2 [.int .u8 (x.id / 256), .int .u8 (x.id % 256)] rfl (o3.out) (some ⟨w2.heap.size, 0, none⟩) 4 4 [.int .u8 (IntKind.u8.wrap x.x0), .int .u8 (IntKind.u8.wrap x.y0), .int .u8 (IntKind.u8.wrap x.x1), .int .u8 (IntKind.u8.wrap x.y1)] rfl rfl (fun h => by cases h) (RdI.news (zs := [IntKind.u8.wrap x.x0, IntKind.u8.wrap x.y0, IntKind.u8.wrap x.x1, IntKind.u8.wrap x.y1]) (by have := (((RN.out w2).below (new_below _ (.cells #[] 5))).below (drew_below _)).below hb; simpa using this)) (ints_oneCell .u8 [IntKind.u8.wrap x.x0, IntKind.u8.wrap x.y0, IntKind.u8.wrap x.x1, IntKind.u8.wrap x.y1]) (by unfold maxLen; omega) (by omega) (hbw.out).size ?_; intro v5 w5 o5 g5; have hbx := Lib.hid (Below.grown (hbw.out) g5 (hbw.out).size (fun j hj => (World.ownsRow.lt o3.out j hj).1))))
      all_goals
        have H5 := Lib.hid o5
        clear o5 g5
        go_wp2
        go_ret
        refine ⟨_, rfl, Own.mono (base' := W0.heap.size) ?_ (by omega), B0.out.trans (hbx.out.mono (by omega))⟩
        unfold Own
        rw [hr.out]
        exact HL.out ▸ H5.out
    | false =>
      have hr : Hid (putE x = []) := if_neg (fun h => by rw [hb] at h; exact Bool.noConfusion h.2)
      have k := K.out
      have CB := sBoxOk_any x.x0 x.y0 x.x1 x.y1
      rw [hb] at CB
      replace CB := Lib.hid CB
      clear hb
      go_enter Try.func22, Try.ntmps22
      go_wp2_with fail
      rw [← hW0]
      refine (l1In_yes x.id 0 65535 _ h1 h2).mono ?_
      rintro e w2 ⟨rfl, rfl⟩
      go_wp2_with fail
      refine (CB.out _).mono ?_
      rintro e w2 ⟨rfl, hb2⟩
      rw [← hW0] at hb2
      replace hb2 := Lib.hid (B0.out.trans (hb2.mono B0.out.size))
      go_wp2
      go_ret
      refine ⟨_, rfl, ?_, hb2.out.alloc hb2.out.size _⟩
      rw [hr.out]
      exact own8_nil w2 w.heap.size w2.heap.size rfl hb2.out.size
  · have hr : Hid (putE x = []) := if_neg (fun h' => h h'.1)
    have k := K.out
    go_enter Try.func22, Try.ntmps22
    go_wp2_with fail
    rw [← hW0]
    refine (l1In_no x.id 0 65535 _ h).mono ?_
    rintro e w2 ⟨rfl, rfl⟩
    go_wp2
    go_ret
    subst hW0
    refine ⟨_, rfl, ?_, B0.out.alloc B0.out.size _⟩
    rw [hr.out]
    exact own8_nil (w.alloc (.cells #[.int .i64 x.id, .int .i64 x.x0, .int .i64 x.y0, .int .i64 x.x1, .int .i64 x.y1] 35)) w.heap.size (w.heap.size + 1) (by simp) (by omega)
end Go.Proofs.Ytfgmjegemlkkkaa
