/- The laws' own helpers on slices of ints: copy, equality, marking. -/
import Derived.Test.YtnebhbnogmhbgaaQReacha
namespace Go.Proofs.Ytnebhbnogmhbgaa
open Go.RowKit

theorem Try.infoI64 : (Try.prog.info? 3).map (fun i => (i.zero, i.size, i.bytes)) = some (some (.int .i64 0), 1, 8) := by kernel_rfl

set_option maxRecDepth 100000 in
set_option maxHeartbeats 400000 in
/-- laws.toIntS: a copy in new memory. -/
theorem toIntS_any (a : Option Addr) (n cap : Nat) (zs : List Int) (w : World) (h : RdI .i64 w a n cap zs) (hn : n ≤ 17592186043904) :
    Calls Try.prog 49 #[.slice a n cap] w fun e w' =>
      ∃ v, e = .returned v ∧ Own .i64 3 w' w.heap.size v zs ∧ Below w.heap.size w w' := by
  obtain ⟨i0, hi, hz0, hz1, hz2⟩ := info_parts Try.infoI64
  have HR := Lib.hid h; clear h
  replace hz2 := Lib.hid hz2
  go_enter Try.func49, Try.ntmps49
  go_wp2_with (at_make; refine wpList_make_full _ rfl _ _ 36 rfl w.heap.size 3 i0 (.int .i64 0) 1 Try.underlying36 hi hz0 hz1 .i64 .i64 (n : Int) (n : Int) n rfl rfl rfl rfl ?_ ?_ ?_ ?_)
  case refine_1 => rw [hz2.out]; omega
  case refine_2 => unfold maxLen; omega
  case refine_3 => exact Nat.le_refl _
  intro w1 hown hgrow
  have hb := grownNone_below hgrow
  clear hgrow
  rw [toList_madeCells_one] at hown
  go_wp2
  go_loopw [4] (fun i wr => ∃ k : Nat, k ≤ n ∧ i = .int .i64 k ∧
      wr.ownsRow w.heap.size 3 1 (.slice (some ⟨w.heap.size, 0, none⟩) n n) n ((copied zs n k).map (Value.int .i64)) ∧ Below w.heap.size w wr)
    (fun i _ => n - (intOf i).toNat)
  case atStart => exact ⟨0, Nat.zero_le _, rfl, by rw [copied_start, List.map_replicate]; exact hown, hb⟩
  case round =>
    obtain ⟨k, hk, rfl, ho, hB⟩ := hrel
    by_cases hlt : k < n
    · have HR0 := HR.out.2 (by omega)
      have hlen := HR.out.1.1
      obtain ⟨b, off, rfl, hc⟩ := HR0
      have hck := hc k hlt
      have hbw : b < w.heap.size := World.block_lt_of_cell? w ⟨b, off + k, none⟩ hck
      rw [← hB.cell (p := ⟨b, off + k, none⟩) hbw] at hck
      have hd := ho.cellAt k (by omega)
      rw [List.getElem?_map, copied_at zs n k hlt] at hd
      have hfz := ho.frozenAt k
      have hst := (ho.stored k (.int .i64 (zs.getD k 0))).1
      have hst' := copied_set zs n k
      have HS : Hid (copied zs n (k + 1) = (copied zs n k).set k (zs.getD k 0)) := hst'
      have HO := Lib.hid hst
      have HL := Lib.hid hlen
      clear hst hst' hlen ho hc
      go_wp2
      go_roundw
      case rel =>
        refine ⟨k + 1, by omega, by go_num, ?_, hB.setCell (Nat.le_refl _) _⟩
        rw [HS.out, List.map_set]
        exact HO.out
      case measure => simp [intOf]; omega
    · have HF : Hid (copied zs n k = zs) := by
        have := HR.out.1.1
        obtain rfl : k = n := by omega
        exact copied_end zs k this
      go_wp2
      go_ret
      refine ⟨_, rfl, ?_, hB⟩
      have := HR.out.1.1
      unfold Own
      rw [this]
      rw [HF.out] at ho
      exact ho

set_option maxRecDepth 100000 in
set_option maxHeartbeats 400000 in
/-- laws.eqIntS: two slices that read alike. -/
theorem eqIntS_same (a b : Option Addr) (n c1 c2 : Nat) (zs : List Int) (w : World) (h : RdI .i64 w a n c1 zs) (h' : RdI .i64 w b n c2 zs) (hn : n ≤ 17592186043904) :
    Calls Try.prog 50 #[.slice a n c1, .slice b n c2] w fun e w' =>
      e = .returned (.bool true) ∧ Below w.heap.size w w' := by
  have HR := Lib.hid h; clear h
  have HR' := Lib.hid h'; clear h'
  go_enter Try.func50, Try.ntmps50
  go_wp2
  go_loopw [5] (fun i wr => ∃ k : Nat, k ≤ n ∧ i = .int .i64 k ∧ Below w.heap.size w wr)
    (fun i _ => n - (intOf i).toNat)
  case atStart => exact ⟨0, Nat.zero_le _, rfl, Below.refl _ _⟩
  case round =>
    obtain ⟨k, hk, rfl, hB⟩ := hrel
    by_cases hlt : k < n
    · have HR0 := HR.out.2 (by omega)
      have HR0' := HR'.out.2 (by omega)
      obtain ⟨x, off, rfl, hc⟩ := HR0
      obtain ⟨x', off', rfl, hc'⟩ := HR0'
      have hck := hc k hlt
      have hck' := hc' k hlt
      have hbw : x < w.heap.size := World.block_lt_of_cell? w ⟨x, off + k, none⟩ hck
      have hbw' : x' < w.heap.size := World.block_lt_of_cell? w ⟨x', off' + k, none⟩ hck'
      rw [← hB.cell (p := ⟨x, off + k, none⟩) hbw] at hck
      rw [← hB.cell (p := ⟨x', off' + k, none⟩) hbw'] at hck'
      clear hc hc'
      have h0 : (0 : Int) ≤ k := by omega
      have h1 : (k : Int) < n := by omega
      go_wp2
      go_quiet (fail)
      go_wp2
      go_roundw
      case rel => exact ⟨k + 1, by omega, by go_num, below_drewN hB _⟩
      case measure => simp [intOf]; omega
    · go_wp2
      go_ret
      exact ⟨rfl, hB⟩

set_option maxRecDepth 100000 in
set_option maxHeartbeats 400000 in
/-- laws.markIntS: writes k, k + 1, .. into a slice that is owned. -/
theorem markIntS_any (a : Option Addr) (n cap : Nat) (zs : List Int) (k : Int) (base : Nat) (w : World) (h : w.ownsRow base 3 1 (.slice a n cap) n (zs.map (Value.int .i64))) (hz : zs.length = n) (hk0 : 0 ≤ k) (hk : k ≤ 1000000000) (hn : n ≤ 1000000000) :
    Calls Try.prog 51 #[.slice a n cap, .int .i64 k] w fun e w' =>
      e = .returned (.int .i64 (k + n)) ∧ w'.ownsRow base 3 1 (.slice a n cap) n ((gen n fun j => (k + j)).map (Value.int .i64)) ∧ w.grownBy w' (Value.slice a n cap).ownBlock := by
  have HN := Lib.hid hz
  clear hz
  go_enter Try.func51, Try.ntmps51
  go_wp2
  go_loopw [1, 5] (fun q i wr => ∃ m : Nat, m ≤ n ∧ i = .int .i64 m ∧ q = .int .i64 (k + m) ∧
      wr.ownsRow base 3 1 (.slice a n cap) n ((gen n fun j => if j < m then (k + j) else zs.getD j 0).map (Value.int .i64)) ∧ w.grownBy wr (Value.slice a n cap).ownBlock)
    (fun _ i _ => n - (intOf i).toNat)
  case atStart =>
    refine ⟨0, Nat.zero_le _, rfl, by simp, ?_, World.grownBy.refl _ _⟩
    simp only [Nat.not_lt_zero, if_false]
    rw [gen_list zs 0 n HN.out]
    exact h
  case round =>
    obtain ⟨m, hm, rfl, rfl, ho, hg⟩ := hrel
    by_cases hlt : m < n
    · obtain ⟨g, rfl⟩ := own_head ho (by omega)
      have hd := ho.cellAt m (by omega)
      rw [List.getElem?_map, gen_at n _ m hlt, if_neg (Nat.lt_irrefl m)] at hd
      have hfz := ho.frozenAt m
      have hst := ho.stored m (.int .i64 (k + m))
      rw [← List.map_set, gen_set] at hst
      have HO := Lib.hid hst
      clear hst ho
      have hg' := Lib.hid hg
      clear hg h
      go_wp2
      go_roundw
      case rel =>
        refine ⟨m + 1, by omega, by go_num, by go_num, ?_, ?_⟩
        · have := HO.out.1
          rw [gen_congr n _ (fun j => if j < m + 1 then (k + j) else zs.getD j 0) ?_] at this
          · exact this
          · intro j _
            by_cases e : j = m
            · subst e; simp
            · rw [if_neg e]
              by_cases h' : j < m
              · rw [if_pos h', if_pos (by omega)]
              · rw [if_neg h', if_neg (by omega)]
        · exact grown_trans hg'.out HO.out.2
      case measure => simp [intOf]; omega
    · obtain rfl : m = n := by omega
      clear h
      go_wp2
      go_ret
      refine ⟨rfl, ?_, hg⟩
      rw [gen_congr m _ (fun j => if j < m then (k + j) else zs.getD j 0) (fun j hj => by rw [if_pos hj])]
      exact ho

set_option maxRecDepth 100000 in
set_option maxHeartbeats 400000 in
/-- laws.heldIntS: a slice that reads k, k + 1, .. as it was marked. -/
theorem heldIntS_any (a : Option Addr) (n cap : Nat) (k : Int) (w : World) (h : RdI .i64 w a n cap (gen n fun j => (k + j))) (hk0 : 0 ≤ k) (hk : k ≤ 1000000000) (hn : n ≤ 1000000000) :
    Calls Try.prog 52 #[.slice a n cap, .int .i64 k] w fun e w' =>
      e = .returned (.int .i64 (k + n)) ∧ w = w' := by
  have HR := Lib.hid h
  clear h
  go_enter Try.func52, Try.ntmps52
  go_wp2
  go_loop [1, 5] (fun q i => ∃ m : Nat, m ≤ n ∧ i = .int .i64 m ∧ q = .int .i64 (k + m))
    (fun _ i => n - (intOf i).toNat)
  case atStart => exact ⟨0, Nat.zero_le _, rfl, by simp⟩
  case round =>
    obtain ⟨m, hm, rfl, rfl⟩ := hrel
    by_cases hlt : m < n
    · have HR0 := HR.out.2 (by omega)
      obtain ⟨x, off, rfl, hc⟩ := HR0
      have hck := hc m hlt
      rw [gen_getD n _ 0 m hlt] at hck
      clear hc
      go_wp2
      go_round
      case rel => exact ⟨m + 1, by omega, by go_num, by go_num⟩
      case measure => simp [intOf]; omega
    · obtain rfl : m = n := by omega
      go_wp2
      go_ret
      exact ⟨rfl, rfl⟩

end Go.Proofs.Ytnebhbnogmhbgaa
