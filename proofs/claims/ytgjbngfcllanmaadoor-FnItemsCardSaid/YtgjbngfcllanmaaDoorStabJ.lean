/- The library's stable sort, of a row that the call owns or of no row at all; a sorted copy. -/
import Derived.Test.YtgjbngfcllanmaaDoorStabI
namespace Go.Proofs.YtgjbngfcllanmaaDoor
open Go.RowKit

set_option maxHeartbeats 1600000 in
theorem insertion_nil (f : Nat) (w : World) :
    Calls Tryd.prog 69 #[.slice none 0 0, .int .i64 0, .int .i64 0, .func (.func f) #[] #[]] w fun e w' => e = .returned (.tuple #[]) ∧ w = w' := by
  go_enter Tryd.func69, Tryd.ntmps69
  go_wp2
  go_loopw [8] (fun vi wr => vi = .int .i64 1 ∧ w = wr) (fun _ _ => 0)
  case atStart => exact ⟨rfl, rfl⟩
  case round =>
    obtain ⟨rfl, rfl⟩ := hrel
    go_wp2
    go_end0
    exact ⟨rfl, rfl⟩
set_option maxHeartbeats 1600000 in
theorem stable_nil (f : Nat) (w : World) :
    Calls Tryd.prog 62 #[.slice none 0 0, .int .i64 0, .func (.func f) #[] #[]] w fun e w' => e = .returned (.tuple #[]) ∧ w = w' := by
  go_enter Tryd.func62, Tryd.ntmps62
  go_wp2
  go_loopw [7, 8] (fun va vb wr => va = .int .i64 0 ∧ vb = .int .i64 20 ∧ w = wr) (fun _ _ _ => 0)
  case atStart => exact ⟨rfl, rfl, rfl⟩
  case round =>
    obtain ⟨rfl, rfl, rfl⟩ := hrel
    go_wp2_with fail
    refine (insertion_nil f _).mono ?_
    rintro e w1 ⟨rfl, rfl⟩
    go_wp2
    go_loopw [6] (fun vk wr => vk = .int .i64 20 ∧ w = wr) (fun _ _ => 0)
    case atStart => exact ⟨rfl, rfl⟩
    case round =>
      obtain ⟨rfl, rfl⟩ := hrel
      go_wp2
      go_end0
      exact ⟨rfl, rfl⟩

theorem sortStable_any (g n cap base f : Nat) (cf : It → It → Int) (lt : It → It → Bool) (eg : ∀ args w, (callFunc f args).run Tryd.prog w = .ok (.enter f args) w) (hc : CmpI f cf) (hlt : ∀ x y, lt x y = decide (cf x y < 0)) (hs : Strict lt) (hn : n ≤ 1099511627776)
    (xs : List It) (w : World) (h : RowI g n cap base xs w) :
    Calls Tryd.prog 50 #[.slice (some ⟨g, 0, none⟩) n cap, .func (.func f) #[] #[]] w fun e w' => e = .returned (.tuple #[]) ∧ RowI g n cap base (sortB lt xs) w' ∧ Below base w w' := by
  have C := Lib.hid (stable_any g n cap base f cf lt eg hc hlt hs hn xs w h (fun e w' => e = .returned (.tuple #[]) ∧ RowI g n cap base (sortB lt xs) w' ∧ Below base w w') fun w' h1 h2 => ⟨rfl, h1, h2⟩)
  clear h hc hlt
  go_enter Tryd.func50, Tryd.ntmps50
  go_wp2_with fail
  refine C.out.mono ?_
  rintro e w1 ⟨rfl, hr1, hb1⟩
  go_wp2
  go_end0
  exact ⟨rfl, hr1, hb1⟩
theorem sortStable_nil (f : Nat) (w : World) :
    Calls Tryd.prog 50 #[.slice none 0 0, .func (.func f) #[] #[]] w fun e w' => e = .returned (.tuple #[]) ∧ w = w' := by
  go_enter Tryd.func50, Tryd.ntmps50
  go_wp2_with fail
  refine (stable_nil f _).mono ?_
  rintro e w1 ⟨rfl, rfl⟩
  go_wp2
  go_end0
  exact ⟨rfl, rfl⟩

/-- Whatever the call owns, sorted where it lies. -/
theorem sortStable_own (v : Value) (base f : Nat) (cf : It → It → Int) (lt : It → It → Bool) (eg : ∀ args w, (callFunc f args).run Tryd.prog w = .ok (.enter f args) w) (hc : CmpI f cf) (hlt : ∀ x y, lt x y = decide (cf x y < 0)) (hs : Strict lt)
    (xs : List It) (hn : xs.length ≤ 1099511627776) (w : World) (h : OwnS itLay 30 w base v xs) :
    Calls Tryd.prog 50 #[v, .func (.func f) #[] #[]] w fun e w' => e = .returned (.tuple #[]) ∧ OwnS itLay 30 w' base v (sortB lt xs) ∧ Below base w w' := by
  rcases h.2 with ⟨rfl, h0⟩ | ⟨g, cap, cur, rfl, r⟩
  · obtain rfl := List.length_eq_zero_iff.1 h0
    exact (sortStable_nil f w).mono fun e w' ⟨h1, h2⟩ => ⟨h1, by subst h2; exact h, by subst h2; exact Below.refl _ _⟩
  · exact (sortStable_any g xs.length cap base f cf lt eg hc hlt hs hn xs w ⟨h, rfl⟩).mono fun e w' ⟨h1, h2, h3⟩ => ⟨h1, h2.1, h3⟩

set_option maxHeartbeats 1600000 in
theorem sorted_any (a : Option Addr) (n cap f : Nat) (cf : It → It → Int) (lt : It → It → Bool) (eg : ∀ args w, (callFunc f args).run Tryd.prog w = .ok (.enter f args) w) (hc : CmpI f cf) (hlt : ∀ x y, lt x y = decide (cf x y < 0)) (hs : Strict lt)
    (xs : List It) (w : World) (h : RdS itLay w a n cap xs) (hn : n ≤ 1099511627776) :
    Calls Tryd.prog 32 #[.slice a n cap, .func (.func f) #[] #[]] w (NewItems (sortB lt xs) w) := by
  obtain ⟨i0, hi, hz0, hz1, hz2⟩ := info_parts Tryd.infoItem
  have HR := Lib.hid h
  replace hi := Lib.hid hi
  replace hz0 := Lib.hid hz0
  replace hz1 := Lib.hid hz1
  replace hz2 := Lib.hid hz2
  have SO := Lib.hid (fun (v : Value) (w1 : World) (ho : OwnS itLay 30 w1 w.heap.size v xs) => sortStable_own v w.heap.size f cf lt eg hc hlt hs xs (by rw [h.1.1]; exact hn) w1 ho)
  clear h hc hlt
  go_enter Tryd.func32, Tryd.ntmps32
  go_wp2_with (at_make; refine wpList_make_own _ rfl _ _ 24 rfl w.heap.size 30 i0 (.agg #[.int .i64 0, .int .i64 0, .int .i64 0, .int .i64 0, .int .i64 0]) 5 Tryd.underlying24 hi.out hz0.out hz1.out .i64 .i64 (n : Int) n rfl rfl rfl ?_ ?_ ?_ ?_)
  case refine_1 => rw [hz2.out]; omega
  case refine_2 => unfold maxLen; omega
  case refine_3 => exact Nat.le_refl _
  intro w1 hown hgrow
  have B1 := Lib.hid (grownNone_below hgrow)
  replace hown := Lib.hid hown
  clear hgrow
  have HR1 := Lib.hid (HR.out.below B1.out)
  go_wp2_with (at_builtin; refine append_src rfl _ _ 24 rfl w.heap.size 30 i0 _ 5 40 Tryd.underlying24 hi.out hz0.out hz1.out hz2.out rfl (by decide) (.slice (some ⟨w.heap.size, 0, none⟩) 0 n) 0 [] rfl hown.out a n cap (xs.flatMap itLay.cells) rfl HR1.out.len HR1.out.nil HR1.out.news (flat_one itLay _) ?_ ?_ ?_ ?_)
  case refine_1 => unfold maxLen; omega
  case refine_2 => omega
  case refine_3 => exact B1.out.size
  intro v w2 ho2 hg2
  have B2 := Lib.hid (B1.out.grown hg2 B1.out.size (fun k hk => by simp [Value.ownBlock] at hk; omega))
  have HO : Hid (OwnS itLay 30 w2 w.heap.size v xs) := by
    show OwnS _ _ _ _ _ _
    unfold OwnS
    rw [HR.out.1.1]
    exact ho2
  clear ho2 hg2 hown HR1
  go_wp2_with fail
  refine (SO.out v w2 HO.out).mono ?_
  rintro e w3 ⟨rfl, ho3, hb3⟩
  go_wp2
  go_ret
  exact ⟨v, rfl, ho3, B2.out.trans hb3⟩
end Go.Proofs.YtgjbngfcllanmaaDoor
