/- Layer 1, on two bytes: the program's functions and the model's, each by its contract. -/
import Derived.Test.YtfgmjegemlkkkaaBytes
import Derived.Test.YtfgmjegemlkkkaaIn
namespace Go.Proofs.Ytfgmjegemlkkkaa
open Go.RowKit

/-- A result in memory of the call's own that reads as the bytes zs; nothing that was there has turned. -/
def Fresh8 (w : World) (zs : List Int) (e : Ending) (w' : World) : Prop := ∃ v, e = .returned v ∧ Own .u8 5 w' w.heap.size v zs ∧ Below w.heap.size w w'

set_option maxRecDepth 100000 in
set_option maxHeartbeats 400000 in
theorem joined_any (a b : Option Addr) (n c m c' : Nat) (zs ys : List Int) (w : World) (h : RdI .u8 w a n c zs) (h' : RdI .u8 w b m c' ys) (hn : n ≤ 1000000000) (hm : m ≤ 1000000000) :
    Calls Try.prog 56 #[.slice a n c, .slice b m c'] w (Fresh8 w (zs ++ ys)) := by
  obtain ⟨i0, hi, hz0, hz1, hz2⟩ := info_parts Try.infoU8
  have HR := Lib.hid h; clear h
  have HR' := Lib.hid h'; clear h'
  replace hz2 := Lib.hid hz2
  go_enter Try.func56, Try.ntmps56
  go_wp2_with (at_make; refine wpList_make_own _ rfl _ _ 22 rfl w.heap.size 5 i0 (.int .u8 0) 1 Try.underlying22 hi hz0 hz1 .i64 .i64 _ (n + m) rfl rfl (by omega) ?_ ?_ ?_ ?_)
  case refine_1 => rw [hz2.out]; omega
  case refine_2 => unfold maxLen; omega
  case refine_3 => exact Nat.le_refl _
  intro w1 hown hgrow
  have hb := grownNone_below hgrow
  clear hgrow
  have H1 := Lib.hid (HR.out.below hb)
  go_wp2_with (at_builtin; refine wpList_append_fits_any _ rfl (.tmp 12) (.tmp 13) 22 rfl w.heap.size 5 i0 1 Try.underlying22 hi hz1 w.heap.size 0 (n + m) [] rfl hown a n c (zs.map (Value.int .u8)) rfl ?_ ?_ ?_ ?_ ?_ ?_)
  case refine_1 => rw [List.length_map, HR.out.1.1, Nat.mul_one]
  case refine_2 => exact HR.out.1.2.2.2
  case refine_3 => exact H1.out.news
  case refine_4 => exact ints_oneCell _ _
  case refine_5 => omega
  intro w2 hown2 hgrow2
  have hb2 : Below w.heap.size w w2 := hb.grown hgrow2 hb.size (fun k hk => by simp at hk; omega)
  have H2 := Lib.hid (HR'.out.below hb2)
  clear hown hgrow2
  go_wp2_with (at_builtin; refine wpList_append_fits_any _ rfl (.tmp 15) (.tmp 16) 22 rfl w.heap.size 5 i0 1 Try.underlying22 hi hz1 w.heap.size n (n + m) (zs.map (Value.int .u8)) rfl hown2 b m c' (ys.map (Value.int .u8)) rfl ?_ ?_ ?_ ?_ ?_ ?_)
  case refine_1 => rw [List.length_map, HR'.out.1.1, Nat.mul_one]
  case refine_2 => exact HR'.out.1.2.2.2
  case refine_3 => exact H2.out.news
  case refine_4 => exact ints_oneCell _ _
  case refine_5 => omega
  intro w3 hown3 hgrow3
  have hb3 : Below w.heap.size w w3 := hb2.grown hgrow3 hb2.size (fun k hk => by simp at hk; omega)
  clear hown2 hgrow3 hb2 hb
  have HL : Hid (zs.length + ys.length = n + m) := by have h1 := HR.out.1.1; have h2 := HR'.out.1.1; show _ = _; omega
  go_wp2
  go_ret
  refine ⟨_, rfl, ?_, hb3⟩
  unfold Own
  rw [List.length_append, HL.out, List.map_append]
  exact hown3

/-- Put2: the bytes with the number's two behind them, or the bytes alone. -/
def put2 (zs : List Int) (n : Int) : List Int := if 0 ≤ n ∧ n ≤ 65535 then zs ++ [n / 256, n % 256] else zs

/-- Pad: zeros behind the bytes till there are x, x at most 64. -/
def pad (zs : List Int) (x : Int) : List Int := if (zs.length : Int) < x ∧ x ≤ 64 then zs ++ List.replicate (x - zs.length).toNat 0 else zs

set_option maxRecDepth 100000 in
set_option maxHeartbeats 400000 in
theorem put2_any (a : Option Addr) (n c : Nat) (zs : List Int) (x : Int) (w : World) (h : RdI .u8 w a n c zs) (hn : n ≤ 100000000) (hx : (Lit.int .i64 x).wf = true) :
    Calls Try.prog 57 #[.slice a n c, .int .i64 x] w (Fresh8 w (put2 zs x)) := by
  obtain ⟨l0, u0⟩ := bounds_i64 hx
  have HR := Lib.hid h; clear h
  by_cases h1 : x < 0
  · have HE : Hid (zs ++ [] = put2 zs x) := by show _ = _; unfold put2; rw [if_neg (by omega)]; simp
    go_enter Try.func57, Try.ntmps57
    go_wp2_with (go_at_call 56; refine (joined_any a none n c 0 0 zs [] _ HR.out (rdI_nil _ _) (by omega) (by omega)).mono ?_; rintro e w1 ⟨v, rfl, ho, hb⟩)
    go_ret
    rw [HE.out] at ho
    exact ⟨_, rfl, ho, hb⟩
  · by_cases h2 : 65535 < x
    · have HE : Hid (zs ++ [] = put2 zs x) := by show _ = _; unfold put2; rw [if_neg (by omega)]; simp
      go_enter Try.func57, Try.ntmps57
      go_wp2_with (go_at_call 56; refine (joined_any a none n c 0 0 zs [] _ HR.out (rdI_nil _ _) (by omega) (by omega)).mono ?_; rintro e w1 ⟨v, rfl, ho, hb⟩)
      go_ret
      rw [HE.out] at ho
      exact ⟨_, rfl, ho, hb⟩
    · go_enter Try.func57, Try.ntmps57
      have HE : Hid (zs ++ [x / 256, x % 256] = put2 zs x) := by show _ = _; unfold put2; rw [if_pos (by omega)]
      go_wp2_with (go_at_call 56; refine (joined_any a (some ⟨w.heap.size, 0, none⟩) n c 2 2 zs [x / 256, x % 256] _ (HR.out.below ((Below.refl _ _).alloc (Nat.le_refl _) _)) (rdI_new w .u8 _ _ _ 2 rfl rfl (by simp [maxLen])) (by omega) (by omega)).mono ?_; rintro e w1 ⟨v, rfl, ho, hb⟩)
      go_ret
      rw [HE.out] at ho
      exact ⟨_, rfl, ho.mono (by simp), ((Below.refl _ _).alloc (Nat.le_refl _) _).trans (hb.mono (by simp))⟩

set_option maxRecDepth 100000 in
set_option maxHeartbeats 400000 in
theorem pad_any (a : Option Addr) (n c : Nat) (zs : List Int) (x : Int) (w : World) (h : RdI .u8 w a n c zs) (hn : n ≤ 100000000) (hx : (Lit.int .i64 x).wf = true) :
    Calls Try.prog 37 #[.slice a n c, .int .i64 x] w (Fresh8 w (pad zs x)) := by
  obtain ⟨l0, u0⟩ := bounds_i64 hx
  have HR := Lib.hid h; clear h
  obtain ⟨i0, hi, hz0, hz1, hz2⟩ := info_parts Try.infoU8
  replace hz2 := Lib.hid hz2
  by_cases h1 : x ≤ n
  · have HE : Hid (zs ++ [] = pad zs x) := by have := HR.out.1.1; show _ = _; unfold pad; rw [if_neg (by omega)]; simp
    go_enter Try.func37, Try.ntmps37
    go_wp2_with (go_at_call 56; refine (joined_any a none n c 0 0 zs [] _ HR.out (rdI_nil _ _) (by omega) (by omega)).mono ?_; rintro e w1 ⟨v, rfl, ho, hb⟩)
    go_ret
    rw [HE.out] at ho
    exact ⟨_, rfl, ho, hb⟩
  · by_cases h2 : 64 < x
    · have HE : Hid (zs ++ [] = pad zs x) := by have := HR.out.1.1; show _ = _; unfold pad; rw [if_neg (by omega)]; simp
      go_enter Try.func37, Try.ntmps37
      go_wp2_with (go_at_call 56; refine (joined_any a none n c 0 0 zs [] _ HR.out (rdI_nil _ _) (by omega) (by omega)).mono ?_; rintro e w1 ⟨v, rfl, ho, hb⟩)
      go_ret
      rw [HE.out] at ho
      exact ⟨_, rfl, ho, hb⟩
    · obtain ⟨m, hm⟩ : ∃ m : Nat, x = n + m := ⟨(x - n).toNat, by omega⟩
      subst hm
      have HE : Hid (zs ++ List.replicate m 0 = pad zs (n + m)) := by have := HR.out.1.1; show _ = _; unfold pad; rw [if_pos (by omega), this]; congr 2; omega
      go_enter Try.func37, Try.ntmps37
      go_wp2_with (at_make; refine wpList_make_full _ rfl _ _ 22 rfl w.heap.size 5 i0 (.int .u8 0) 1 Try.underlying22 hi hz0 hz1 .i64 .i64 _ _ m rfl rfl (by omega) (by omega) ?_ ?_ ?_ ?_)
      case refine_1 => rw [hz2.out]; omega
      case refine_2 => unfold maxLen; omega
      intro w1 hown hgrow
      have hb := grownNone_below hgrow
      clear hgrow
      rw [toList_madeCells_one] at hown
      have HR1 : Hid (RdI .u8 w1 (some ⟨w.heap.size, 0, none⟩) m m (List.replicate m 0)) := rdI_owns (base := w.heap.size) (e := 5) (by rw [List.map_replicate]; exact hown) (by simp)
      clear hown
      go_wp2_with (go_at_call 56; refine (joined_any a (some ⟨w.heap.size, 0, none⟩) n c m m zs (List.replicate m 0) _ (HR.out.below hb) HR1.out (by omega) (by omega)).mono ?_; rintro e w2 ⟨v, rfl, ho, hb2⟩)
      go_ret
      rw [HE.out] at ho
      exact ⟨_, rfl, ho.mono hb.size, hb.trans (hb2.mono hb.size)⟩

theorem put2_le (zs : List Int) (x : Int) : (put2 zs x).length ≤ zs.length + 2 := by
  unfold put2
  split <;> simp
theorem pad_le (zs : List Int) (x : Int) : (pad zs x).length ≤ zs.length + 64 := by
  unfold pad
  split
  · rw [List.length_append, List.length_replicate]; omega
  · omega

/-! ### the model -/
set_option maxRecDepth 100000 in
set_option maxHeartbeats 400000 in
theorem sPut2_any (a : Option Addr) (n c : Nat) (zs : List Int) (x : Int) (w : World) (h : RdI .u8 w a n c zs) (hn : n ≤ 100000000) (hx : (Lit.int .i64 x).wf = true) :
    Calls Try.prog 59 #[.slice a n c, .int .i64 x] w (Fresh8 w (put2 zs x)) := by
  obtain ⟨l0, u0⟩ := bounds_i64 hx
  have HR := Lib.hid h; clear h
  obtain ⟨i0, hi, hz0, hz1, hz2⟩ := info_parts Try.infoU8
  go_enter Try.func59, Try.ntmps59
  have HZ2 := Lib.hid hz2
  clear hz2
  go_wp2_with (at_builtin; refine append_src rfl (.tmp 6) (.tmp 7) 22 rfl w.heap.size 5 i0 (.int .u8 0) 1 1 Try.underlying22 hi hz0 hz1 HZ2.out rfl (by decide) (.slice (some ⟨w.heap.size, 0, none⟩) 0 0) 0 [] rfl (World.ownsRow_lit w #[] 0 (Nat.le_refl _) (by simp [maxLen]) rfl) a n c (zs.map (Value.int .u8)) rfl ?_ HR.out.1.2.2.2 ?_ (ints_oneCell _ _) ?_ ?_ ?_ ?_)
  case refine_1 => rw [List.length_map, HR.out.1.1, Nat.mul_one]
  case refine_2 => exact (HR.out.below ((Below.refl _ _).alloc (Nat.le_refl _) _)).news
  case refine_3 => unfold maxLen; omega
  case refine_4 => omega
  case refine_5 => simp
  intro v w1 hown hgrow
  have hb : Below w.heap.size w w1 := ((Below.refl w.heap.size w).alloc (Nat.le_refl _) _).grown hgrow (by simp) (fun k hk => by simp [Value.ownBlock] at hk; omega)
  clear hgrow
  have HO := Lib.hid hown
  have HB := Lib.hid hb
  have hsz := hb.size
  clear hown hb
  by_cases h1 : 0 ≤ x ∧ x ≤ 65535
  · obtain ⟨h1, h2⟩ := h1
    have HE : Hid (zs ++ [x / 256, x % 256] = put2 zs x) := by show _ = _; unfold put2; rw [if_pos ⟨h1, h2⟩]
    have hN := rdI_new w1 .u8 [x / 256, x % 256] #[.int .u8 (x / 256), .int .u8 (x % 256)] 5 2 rfl rfl (by simp [maxLen])
    have HN := Lib.hid hN
    clear hN
    go_wp2_with (first | (go_at_call 58; refine (l1In_yes x 0 65535 _ h1 h2).mono ?_; rintro e w2 ⟨rfl, rfl⟩) | (at_builtin; refine append_src rfl (.tmp 13) (.tmp 20) 22 rfl w.heap.size 5 i0 (.int .u8 0) 1 1 Try.underlying22 hi hz0 hz1 HZ2.out rfl (by decide) v n (zs.map (Value.int .u8)) rfl (HO.out.alloc _) (some ⟨w1.heap.size, 0, none⟩) 2 2 [.int .u8 (x / 256), .int .u8 (x % 256)] rfl rfl (fun h => by cases h) HN.out.news (ints_oneCell .u8 [x / 256, x % 256]) ?_ ?_ ?_ ?_))
    case refine_1 => unfold maxLen; omega
    case refine_2 => omega
    case refine_3 => simp; omega
    intro v' w2 hown2 hgrow2
    have hb2 : Below w.heap.size w w2 := (HB.out.alloc HB.out.size _).grown hgrow2 (by simp; omega) (fun k hk => (HO.out.lt k hk).1)
    have HO2 := Lib.hid hown2
    clear hown2 hgrow2
    go_wp2
    go_ret
    refine ⟨_, rfl, ?_, hb2⟩
    rw [← HE.out]
    unfold Own
    rw [List.length_append, HR.out.1.1, List.map_append]
    exact HO2.out
  · have HE : Hid (zs = put2 zs x) := by show _ = _; unfold put2; rw [if_neg h1]
    go_wp2_with (go_at_call 58; refine (l1In_no x 0 65535 _ h1).mono ?_; rintro e w2 ⟨rfl, rfl⟩)
    go_ret
    refine ⟨_, rfl, ?_, HB.out⟩
    rw [← HE.out]
    unfold Own
    rw [HR.out.1.1]
    exact HO.out

set_option maxRecDepth 100000 in
set_option maxHeartbeats 400000 in
theorem sPad_any (a : Option Addr) (n c : Nat) (zs : List Int) (x : Int) (w : World) (h : RdI .u8 w a n c zs) (hn : n ≤ 100000000) (hx : (Lit.int .i64 x).wf = true) :
    Calls Try.prog 54 #[.slice a n c, .int .i64 x] w (Fresh8 w (pad zs x)) := by
  obtain ⟨l0, u0⟩ := bounds_i64 hx
  have HR := Lib.hid h; clear h
  obtain ⟨i0, hi, hz0, hz1, hz2⟩ := info_parts Try.infoU8
  go_enter Try.func54, Try.ntmps54
  have HZ2 := Lib.hid hz2
  clear hz2
  go_wp2_with (at_builtin; refine append_src rfl (.tmp 6) (.tmp 7) 22 rfl w.heap.size 5 i0 (.int .u8 0) 1 1 Try.underlying22 hi hz0 hz1 HZ2.out rfl (by decide) (.slice (some ⟨w.heap.size, 0, none⟩) 0 0) 0 [] rfl (World.ownsRow_lit w #[] 0 (Nat.le_refl _) (by simp [maxLen]) rfl) a n c (zs.map (Value.int .u8)) rfl ?_ HR.out.1.2.2.2 ?_ (ints_oneCell _ _) ?_ ?_ ?_ ?_)
  case refine_1 => rw [List.length_map, HR.out.1.1, Nat.mul_one]
  case refine_2 => exact (HR.out.below ((Below.refl _ _).alloc (Nat.le_refl _) _)).news
  case refine_3 => unfold maxLen; omega
  case refine_4 => omega
  case refine_5 => simp
  intro v w1 hown hgrow
  have hb : Below w.heap.size w w1 := ((Below.refl w.heap.size w).alloc (Nat.le_refl _) _).grown hgrow (by simp) (fun k hk => by simp [Value.ownBlock] at hk; omega)
  clear hgrow
  go_wp2
  go_loopw [5] (fun v wr => ∃ m : Nat, (m : Int) ≤ 64 ∧ (m = 0 ∨ (n : Int) + m ≤ x) ∧ (m = 0 ∨ x ≤ 64) ∧ wr.ownsRow w.heap.size 5 1 v (n + m) ((zs ++ List.replicate m 0).map (Value.int .u8)) ∧ Below w.heap.size w wr)
    (fun v _ => (x - lenOf v).toNat)
  case atStart => exact ⟨0, by omega, .inl rfl, .inl rfl, by simpa using hown, hb⟩
  case round =>
    obtain ⟨m, hm, hm1, hm2, ho, hB⟩ := hrel
    obtain ⟨a', c', hv⟩ := owns_shape ho
    subst hv
    have HO := Lib.hid ho
    have HB := Lib.hid hB
    have hsz := hB.size
    clear ho hB hown hb
    by_cases h1 : (n : Int) + m < x
    · by_cases h2 : x ≤ 64
      · have hN := rdI_new wr .u8 [0] #[.int .u8 0] 5 1 rfl rfl (by simp [maxLen])
        have HN := Lib.hid hN
        clear hN
        go_wp2_with (at_builtin; refine append_src rfl (.tmp 17) (.tmp 18) 22 rfl w.heap.size 5 i0 (.int .u8 0) 1 1 Try.underlying22 hi hz0 hz1 HZ2.out rfl (by decide) (.slice a' (n + m) c') (n + m) _ rfl (HO.out.alloc _) (some ⟨wr.heap.size, 0, none⟩) 1 1 [.int .u8 0] rfl rfl (fun h => by cases h) HN.out.news (ints_oneCell .u8 [0]) ?_ ?_ ?_ ?_)
        case refine_1 => unfold maxLen; omega
        case refine_2 => omega
        case refine_3 => simp; omega
        intro v' w2 hown2 hgrow2
        have HB2 := Lib.hid ((HB.out.alloc HB.out.size _).grown hgrow2 (by simp; omega) (fun k hk => (HO.out.lt k hk).1))
        have HO2 := Lib.hid hown2
        clear hown2 hgrow2
        obtain ⟨a2, c2, hv2⟩ := owns_shape HO2.out
        subst hv2
        go_wp2
        go_roundw
        case rel =>
          refine ⟨m + 1, by omega, .inr (by omega), .inr h2, ?_, HB2.out⟩
          have := HO2.out
          rw [← Nat.add_assoc, List.replicate_succ']
          simp only [List.map_append, List.map_replicate, List.map_cons, List.map_nil] at this ⊢
          exact this
        case measure => simp [lenOf]; omega
      · have HE : Hid (zs ++ List.replicate m 0 = pad zs x) := by
          obtain rfl : m = 0 := by rcases hm2 with h | h <;> omega
          show _ = _; unfold pad; rw [if_neg (by omega)]; simp
        go_wp2
        go_ret
        refine ⟨_, rfl, ?_, HB.out⟩
        rw [← HE.out]
        unfold Own
        rw [List.length_append, HR.out.1.1, List.length_replicate]
        exact HO.out
    · have HE : Hid (zs ++ List.replicate m 0 = pad zs x) := by
        have := HR.out.1.1
        show _ = _; unfold pad
        by_cases h0 : m = 0
        · subst h0; rw [if_neg (by omega)]; simp
        · rw [if_pos (by omega)]; congr 2; omega
      go_wp2
      go_ret
      refine ⟨_, rfl, ?_, HB.out⟩
      rw [← HE.out]
      unfold Own
      rw [List.length_append, HR.out.1.1, List.length_replicate]
      exact HO.out

theorem ret_num2 {k : IntKind} {a b : Int} {c d : Bool} (h : a = b) (h2 : c = d) : Ending.returned (.tuple #[.int k a, .bool c]) = Ending.returned (.tuple #[.int k b, .bool d]) := by rw [h, h2]
theorem wraps_i64 (n : Int) (h₀ : 0 ≤ n) (h₁ : n < 2 ^ 16) : IntKind.i64.wrap n = n := by rw [IntKind.wrap_i64]; omega
theorem or_bytes (a b : Int) (h0 : 0 ≤ a) (h1 : a ≤ 255) (h2 : 0 ≤ b) (h3 : b ≤ 255) : bits .or .i64 (a * 256) b = a * 256 + b :=
  bits_join .i64 16 (by decide) wraps_i64 8 (a * 256) b (by omega) (by omega) (by omega) h2 (by omega) (by omega)

/-- Get2: the number that the two bytes at x hold. -/
def get2 (zs : List Int) (x : Int) : Int := if 0 ≤ x ∧ x ≤ (zs.length : Int) - 2 then 256 * zs.getD x.toNat 0 + zs.getD (x.toNat + 1) 0 else 0
def has2 (zs : List Int) (x : Int) : Bool := decide (0 ≤ x ∧ x ≤ (zs.length : Int) - 2)

set_option maxRecDepth 100000 in
set_option maxHeartbeats 400000 in
theorem get2_any (a : Option Addr) (n c : Nat) (zs : List Int) (x : Int) (w : World) (h : RdI .u8 w a n c zs) (hz : ∀ j, 0 ≤ zs.getD j 0 ∧ zs.getD j 0 ≤ 255) (hn : n ≤ 100000000) (hx : (Lit.int .i64 x).wf = true) :
    Calls Try.prog 49 #[.slice a n c, .int .i64 x] w fun e w' => e = .returned (.tuple #[.int .i64 (get2 zs x), .bool (has2 zs x)]) ∧ Below w.heap.size w w' := by
  obtain ⟨l0, u0⟩ := bounds_i64 hx
  have HR := Lib.hid h; clear h
  by_cases h1 : 0 ≤ x
  · by_cases h2 : x ≤ (n : Int) - 2
    · obtain ⟨m, rfl⟩ := Int.eq_ofNat_of_zero_le h1
      have HE : Hid (256 * zs.getD m 0 + zs.getD (m + 1) 0 = get2 zs m ∧ has2 zs m = true) := by
        have := HR.out.1.1
        constructor
        · unfold get2; rw [if_pos (by omega)]; simp
        · unfold has2; exact decide_eq_true (by omega)
      have HR0 := HR.out.2 (by omega)
      obtain ⟨b, off, rfl, hc⟩ := HR0
      have c0 := hc m (by omega)
      have c1 := hc (m + 1) (by omega)
      obtain ⟨q0, e0⟩ : ∃ q, q = zs.getD m 0 := ⟨_, rfl⟩
      obtain ⟨q1, e1⟩ : ∃ q, q = zs.getD (m + 1) 0 := ⟨_, rfl⟩
      have b0 := hz m
      have b1 := hz (m + 1)
      rw [← e0] at c0 b0
      rw [← e1] at c1 b1
      rw [← e0, ← e1] at HE
      obtain ⟨b00, b01⟩ := b0
      obtain ⟨b10, b11⟩ := b1
      clear e0 e1 hc hz
      go_enter Try.func49, Try.ntmps49
      go_wp2
      go_quiet (fail)
      go_wp2
      go_ret2
      refine ⟨ret_num2 ?_ HE.out.2.symm, below_drewN (Below.refl _ _) _⟩
      rw [or_bytes q0 q1 b00 b01 b10 b11, ← HE.out.1]
      omega
    · have HE : Hid (0 = get2 zs x ∧ false = has2 zs x) := by
        have := HR.out.1.1
        constructor
        · unfold get2; rw [if_neg (by omega)]
        · unfold has2; exact (decide_eq_false (by omega)).symm
      go_enter Try.func49, Try.ntmps49
      go_wp2
      go_ret2
      exact ⟨ret_num2 HE.out.1 HE.out.2, Below.refl _ _⟩
  · have HE : Hid (0 = get2 zs x ∧ false = has2 zs x) := by
      have := HR.out.1.1
      constructor
      · unfold get2; rw [if_neg (by omega)]
      · unfold has2; exact (decide_eq_false (by omega)).symm
    go_enter Try.func49, Try.ntmps49
    go_wp2
    go_ret2
    exact ⟨ret_num2 HE.out.1 HE.out.2, Below.refl _ _⟩
set_option maxRecDepth 100000 in
set_option maxHeartbeats 400000 in
theorem sGet2_any (a : Option Addr) (n c : Nat) (zs : List Int) (x : Int) (w : World) (h : RdI .u8 w a n c zs) (hz : ∀ j, 0 ≤ zs.getD j 0 ∧ zs.getD j 0 ≤ 255) (hn : n ≤ 100000000) (hx : (Lit.int .i64 x).wf = true) :
    Calls Try.prog 51 #[.slice a n c, .int .i64 x] w fun e w' => e = .returned (.tuple #[.int .i64 (get2 zs x), .bool (has2 zs x)]) ∧ Below w.heap.size w w' := by
  obtain ⟨l0, u0⟩ := bounds_i64 hx
  have HR := Lib.hid h; clear h
  by_cases h1 : 0 ≤ x
  · by_cases h2 : x ≤ (n : Int) - 2
    · obtain ⟨m, rfl⟩ := Int.eq_ofNat_of_zero_le h1
      have HE : Hid (256 * zs.getD m 0 + zs.getD (m + 1) 0 = get2 zs m ∧ has2 zs m = true) := by
        have := HR.out.1.1
        constructor
        · unfold get2; rw [if_pos (by omega)]; simp
        · unfold has2; exact decide_eq_true (by omega)
      have HR0 := HR.out.2 (by omega)
      obtain ⟨b, off, rfl, hc⟩ := HR0
      have c0 := hc m (by omega)
      have c1 := hc (m + 1) (by omega)
      obtain ⟨q0, e0⟩ : ∃ q, q = zs.getD m 0 := ⟨_, rfl⟩
      obtain ⟨q1, e1⟩ : ∃ q, q = zs.getD (m + 1) 0 := ⟨_, rfl⟩
      have b0 := hz m
      have b1 := hz (m + 1)
      rw [← e0] at c0 b0
      rw [← e1] at c1 b1
      rw [← e0, ← e1] at HE
      obtain ⟨b00, b01⟩ := b0
      obtain ⟨b10, b11⟩ := b1
      clear e0 e1 hc hz
      go_enter Try.func51, Try.ntmps51
      go_wp2
      go_quiet (fail)
      go_wp2
      go_ret2
      refine ⟨ret_num2 ?_ HE.out.2.symm, below_drewN (Below.refl _ _) _⟩
      rw [← HE.out.1]

    · have HE : Hid (0 = get2 zs x ∧ false = has2 zs x) := by
        have := HR.out.1.1
        constructor
        · unfold get2; rw [if_neg (by omega)]
        · unfold has2; exact (decide_eq_false (by omega)).symm
      go_enter Try.func51, Try.ntmps51
      go_wp2
      go_ret2
      exact ⟨ret_num2 HE.out.1 HE.out.2, Below.refl _ _⟩
  · have HE : Hid (0 = get2 zs x ∧ false = has2 zs x) := by
      have := HR.out.1.1
      constructor
      · unfold get2; rw [if_neg (by omega)]
      · unfold has2; exact (decide_eq_false (by omega)).symm
    go_enter Try.func51, Try.ntmps51
    go_wp2
    go_ret2
    exact ⟨ret_num2 HE.out.1 HE.out.2, Below.refl _ _⟩
end Go.Proofs.Ytfgmjegemlkkkaa
