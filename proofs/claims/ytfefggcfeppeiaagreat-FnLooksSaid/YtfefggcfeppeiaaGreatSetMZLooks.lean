/- A set of numbers in a map that the call made. -/
import Derived.Test.YtfefggcfeppeiaaGreatBookI7ZLooks
import Derived.Maps.OwnIn
import Derived.Carry
namespace Go.Proofs.YtfefggcfeppeiaaGreat
open Go.RowKit

theorem Tryz.zeroBool (w : World) : (zeroValue 4).run Tryz.prog w = .ok (.bool false) w := by kernel_rfl
/-- The numbers of a set, as a map's datum. -/
def setD (S : List Int) : DataW Unit := S.foldl (fun m x => m.put (.int .i64 x) (.lit (.bool true))) (.map [])
/-- Block b is a map that reads as the set S. -/
def SetM (w : World) (b n : Nat) (S : List Int) : Prop := w.ownsMap Tryz.prog 3 (plainElem (H := Unit) Tryz.prog 4) b n (setD S)
theorem setD_snoc (S : List Int) (x : Int) : setD (S ++ [x]) = (setD S).put (.int .i64 x) (.lit (.bool true)) := by simp [setD, List.foldl_append]
theorem setD_fold (x : Int) : ∀ (S : List Int) (m : DataW Unit), Maps.IsMap m → (S.foldl (fun m x => m.put (.int .i64 x) (.lit (.bool true))) m).atKey (.int .i64 x) (.lit (.bool false)) = if S.contains x then .lit (.bool true) else m.atKey (.int .i64 x) (.lit (.bool false))
  | [], m, _ => by simp
  | y :: S, m, hm => by
    rw [List.foldl_cons, setD_fold x S _ (hm.put _ _)]
    by_cases h : x = y
    · subst h
      rw [Maps.atKey_put_same hm (by simp [WideAt.IsKeyLit])]
      simp
    · rw [Maps.atKey_put_other (by intro e; exact h (by simpa using e))]
      have e : (y :: S).contains x = S.contains x := by
        rw [List.contains_cons]
        have : (x == y) = false := by rw [beq_eq_false_iff_ne]; exact h
        rw [this, Bool.false_or]
      rw [e]
theorem setD_at (S : List Int) (x : Int) : (setD S).atKey (.int .i64 x) (.lit (.bool false)) = .lit (.bool (S.contains x)) := by
  unfold setD
  rw [setD_fold x S _ Maps.isMap_empty]
  cases S.contains x <;> rfl
theorem plain_bool_inv {P : Program} {e : TypeId} (he : P.underlying e = some .bool) {v : Value} {c : Bool} {ps : List MemPlace} (h : plainElem (H := Unit) P e v = some (.lit (.bool c), ps)) : v = .bool c := by
  unfold plainElem at h
  rw [he] at h
  split at h
  · simp only [Option.some.injEq, Prod.mk.injEq, DataW.lit.injEq, Lit.bool.injEq] at h
    rw [h.1]
  · rename_i e1
    cases e1
  · rename_i e1
    cases e1
  · cases h
theorem SetM.look {w : World} {b n : Nat} {S : List Int} (h : SetM w b n S) (x : Int) (hx : (Lit.int .i64 x).wf = true) : (Instr.lookup 81 (.map (some b)) (.int .i64 x) false).run Tryz.prog w = .ok (.bool (S.contains x)) w := by
  obtain ⟨v, ps, hrun, hv⟩ := World.ownsMap.lookup h (Maps.int_keyed Tryz.underlying3) Tryz.underlying81 (Tryz.zeroBool w) (plainElem_bool Tryz.underlying4 false) (Maps.keyOf_int_mk Tryz.underlying3 hx)
  rw [setD_at] at hv
  rw [hrun, plain_bool_inv Tryz.underlying4 hv]
theorem SetM.put {w : World} {b n : Nat} {S : List Int} (h : SetM w b n S) (hn : n < maxLen) (x : Int) (hx : (Lit.int .i64 x).wf = true) : ∃ w', (Instr.mapUpdate 81 (.map (some b)) (.int .i64 x) (.bool true)).run Tryz.prog w = .ok () w' ∧ SetM w' b (n + 1) (S ++ [x]) ∧ w.grownBy w' (some b) := by
  obtain ⟨w', hrun, h1, h2⟩ := World.ownsMap.update h (Maps.int_keyed Tryz.underlying3) Tryz.underlying81 hn (Maps.keyOf_int_mk Tryz.underlying3 hx) (plainElem_bool Tryz.underlying4 true)
  refine ⟨w', hrun, ?_, h2⟩
  unfold SetM
  rw [setD_snoc]
  exact h1
theorem SetM.made (w : World) : SetM (w.alloc (.map #[] 0)) w.heap.size 0 [] := World.ownsMap_made w _ _ _
theorem SetM.lt {w : World} {b n : Nat} {S : List Int} (h : SetM w b n S) : b < w.heap.size := World.ownsMap.lt h
theorem SetM.below {w w' : World} {b n : Nat} {S : List Int} (h : SetM w b n S) (hB : Below w.heap.size w w') : SetM w' b n S := World.ownsMap.kept h (Below.toGrown hB none) (by simp)
theorem SetM.grown {w w' : World} {b n : Nat} {S : List Int} {row : Option Nat} (h : SetM w b n S) (hg : w.grownBy w' row) (hne : some b ≠ row) : SetM w' b n S := World.ownsMap.kept h hg hne
/-- A block of cells is no map. -/
theorem SetM.ne {w : World} {b n q : Nat} {S : List Int} (h : SetM w b n S) {cs : Array Value} {T : TypeId} {fr : Nat × Nat} (hq : w.heap[q]? = some (.cells cs T fr)) : b ≠ q := by
  rintro rfl
  obtain ⟨es, clock, hb, _⟩ := h
  rw [hb] at hq
  cases hq
theorem SetM.row {w : World} {b n base m s : Nat} {S : List Int} {e : TypeId} {v : Value} {xs : List Value} (h : SetM w b n S) (ho : w.ownsRow base e s v m xs) : ∀ k, v.ownBlock = some k → k ≠ b := by
  rintro k hk rfl
  rcases ho.2 with ⟨hv, _⟩ | ⟨g, cap, cur, rfl, hg, hh, r⟩
  · rw [hv] at hk
    cases hk
  · have e : g = k := by simpa [Value.ownBlock] using hk
    subst e
    exact h.ne hh rfl
end Go.Proofs.YtfefggcfeppeiaaGreat
