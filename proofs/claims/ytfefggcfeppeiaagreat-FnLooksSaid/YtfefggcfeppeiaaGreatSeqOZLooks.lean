/- A range over a function whose iterator may itself loop over another one: its contract lets the iterator lay and turn blocks that hold no cells; a round keeps such blocks as they are. -/
import Derived.RangeFuncNested
import Derived.RangeFuncBound
import Derived.Test.YtfefggcfeppeiaaGreatReachI2ZLooks
namespace Go.Proofs.YtfefggcfeppeiaaGreat
open Go.RowKit Go.Shelf

variable {α : Type} {P : Program}

theorem round_deep {m m' : Nat} {l : Nat} {f : FuncId} {tmps : Array Value} {assign body : Code} {w : World} {R : Ending → World → Prop}
    (h : RoundIn Fence.wide m P l f tmps assign body w R) : RoundIn Fence.wide m' P l f tmps assign body w R := ⟨h.1, fun c cs _ => h.2 c cs (fun d h => by cases h)⟩
theorem yield_deep {m m' : Nat} {l : Nat} {args : Array Value} {W : World} {R : Ending → World → Prop} (h : YieldAt Fence.wide m P l args W R) : YieldAt Fence.wide m' P l args W R := by
  obtain ⟨fn, tmps, assign, body, hy, hR⟩ := h
  exact ⟨fn, tmps, assign, body, hy, round_deep hR⟩

/-- The iterator's contract, over whatever loop. -/
def SeqO (P : Program) (g : Nat) (lb : Array Value) (encs : α → Array Value) (Kp : World → World → Prop) (S Sp : List α → Prop) (N : Nat) (w : World) : Prop :=
  ∀ (l : Nat) (J Jx : List α → World → Prop) (W : World), Below w.heap.size w W → OwnFrom W.heap.size J → OwnFrom W.heap.size Jx →
    (∀ pre x V, J pre V → pre.length < N → YieldAt Fence.wide 0 P l (encs x) V fun e V' => KeepsFrom W.heap.size V V' ∧
      ((e = .returned (.bool true) ∧ J (pre ++ [x]) V' ∧ Kp V V') ∨ (e = .returned (.bool false) ∧ Jx (pre ++ [x]) V'))) →
    J [] W →
    Calls P g (#[.func (.yield l) #[] #[]] ++ lb) W fun e W' => (∃ v, e = .returned v) ∧ ((∃ xs, S xs ∧ J xs W') ∨ (∃ pre, Sp pre ∧ Jx pre W'))

theorem SeqO.later {g : Nat} {lb : Array Value} {encs : α → Array Value} {Kp : World → World → Prop} {S Sp : List α → Prop} {N : Nat} {w w' : World}
    (h : SeqO P g lb encs Kp S Sp N w) (hb : Below w.heap.size w w') : SeqO P g lb encs Kp S Sp N w' :=
  fun l J Jx W hW hJ hJx hY h0 => h l J Jx W (hb.trans (hW.mono hb.size)) hJ hJx hY h0

theorem KeepsFrom.mono {A B : Nat} {W W' : World} (h : KeepsFrom A W W') (hAB : A ≤ B) : KeepsFrom B W W' := ⟨h.size, fun k o hk ho hc => h.same k o (Nat.le_trans hAB hk) ho hc⟩
theorem KeepsFrom.putObj {B l : Nat} {W : World} (o : Obj) (h : l < B) : KeepsFrom B W (W.putObj l o) := KeepsFrom.of_grownBy (grownBy_putObj' W l o) (fun j e => by cases e; exact h)

/-- How a round is left: it goes on, or it returns. -/
def leftO (B : Nat) (Kp : World → World → Prop) (I Ix : List α → World → Prop) (xs : List α) (W : World) : Exit → Act → World → Prop
  | .normal, _, W' => KeepsFrom B W W' ∧ Kp W W' ∧ I xs W'
  | .ret, _, W' => KeepsFrom B W W' ∧ Ix xs W'
  | _, _, _ => False

theorem range_O {n : Nat} {g : Operand} {ps : Array Tmp} {assign body : Code} {Q : Exit → Act → World → Prop} {a : Act} {w : World}
    {gf : Nat} {lb : Array Value} (hg : a.eval g = .func (.func gf) #[] lb) (eg : ∀ args w, (callFunc gf args).run P w = .ok (.enter gf args) w)
    {encs : α → Array Value} {Kp : World → World → Prop} {S Sp : List α → Prop} {N : Nat} {w0 : World} (hseq : SeqO P gf lb encs Kp S Sp N w0)
    (hKt : ∀ {A B C : World}, Kp A B → Kp B C → Kp A C) (hKb : ∀ (W : World) (l : Nat) (o o' : Obj), w.heap.size ≤ l → W.heap[l]? = some o → o.isCells = false → o.isWalk = false → Kp W (W.putObj l o')) (hb0 : Below w0.heap.size w0 w) (hps : ∀ x, (encs x).size = ps.size)
    (I Ix : List α → World → Prop) (hI : OwnFrom w.heap.size I) (hIx : OwnFrom w.heap.size Ix) (h0 : I [] w) (Ax : α → Act → World → Prop) (hAx : ∀ x a', OwnFrom w.heap.size (fun (_ : Unit) W => Ax x a' W))
    (hassign : ∀ (l : Nat) (pre : List α) (x : α) (W : World) (K : Act → World → Prop), I pre W → (∀ a' W', KeepsFrom w.heap.size W W' → Kp W W' → I pre W' → Ax x a' W' → K a' W') →
      assign.wpIn (Fence.wide.inRound l) 4 P (Exit.then K (fun _ _ _ => False)) { tmps := (ps.zip (encs x)).foldl (fun t (p, v) => t.setIfInBounds p v) a.tmps, defers := [] } W)
    (hbody : ∀ (l : Nat) (pre : List α) (x : α) (a' : Act) (W : World), w.heap.size ≤ l → I pre W → Ax x a' W → pre.length < N → body.wpIn (Fence.wide.inRound l) 4 P (leftO w.heap.size Kp I Ix (pre ++ [x]) W) a' W)
    (hdone : ∀ (D : Nat) (xs : List α) (W : World), w.heap.size ≤ D → S xs → I xs W → W.heap[D]? = some (.deferred (some [])) → Q .normal { a with defers := { target := .collected D, args := #[] } :: a.defers } W)
    (hstop : ∀ (D : Nat) (pre : List α) (W : World), w.heap.size ≤ D → Sp pre → Ix pre W → W.heap[D]? = some (.deferred (some [])) → Code.ret.wpIn Fence.wide n P Q { a with defers := { target := .collected D, args := #[] } :: a.defers } W) :
    (Code.rangeFunc g ps assign body).wpIn Fence.wide n P Q a w := by
  refine wpIn_rangeFunc ?_
  intro fn hfn
  obtain ⟨rec, hrec⟩ : ∃ rec : LoopState → Option Code → Loop, rec = fun st pe => { state := st, pending := pe, fn, tmps := a.tmps, params := ps, assign, body, defers := w.heap.size } := ⟨_, rfl⟩
  obtain ⟨L, hL⟩ : ∃ L, L = w.heap.size + 1 := ⟨_, rfl⟩
  obtain ⟨W1, hW1⟩ : ∃ W1, (w.alloc (.deferred (some []))).alloc (.loop (rec .ready none)) = W1 := ⟨_, rfl⟩
  have s1 : W1.heap.size = w.heap.size + 1 + 1 := by rw [← hW1]; simp
  have r1 : W1.heap[L]? = some (.loop (rec .ready none)) := by
    have := World.alloc_heap_new (w.alloc (.deferred (some []))) (.loop (rec .ready none))
    rw [World.size_alloc, ← hL] at this
    rw [← hW1]
    exact this
  have d1 : W1.heap[w.heap.size]? = some (.deferred (some [])) := by
    rw [← hW1]
    exact (Below.heap_alloc _ _ _ (by simp)).trans (World.alloc_heap_new w _)
  have i1 : I [] W1 := by rw [← hW1]; exact hI.alloc _ (hI.alloc _ h0)
  have b1 : Below w0.heap.size w0 W1 := by
    rw [← hW1]
    exact hb0.trans ((((Below.refl _ w).alloc (Nat.le_refl _) _).alloc (by simp) _).mono hb0.size)
  refine ⟨L, [{ target := .collected w.heap.size, args := #[] }], W1, { target := .fn (.func gf) lb, args := #[.func (.yield L) #[] #[]] }, W1, gf, #[.func (.yield L) #[] #[]] ++ lb, W1, ?_, ?_, fun _ _ => trivial, ?_, (fun h => by cases h), ?_⟩
  · rw [← hW1, hrec, hL]; exact run_enterLoop_outer _ _ _ _ _
  · simp only [resolve, hg]
    simp [go_sem]
  · simp [invoke, go_sem, eg]
  · have off : ∀ {β : Type} {A B : World} {row : Option Nat} {k : Nat} {o : Obj}, k < W1.heap.size → A.heap[k]? = some o → A.grownBy B row → (∀ r, row = some r → W1.heap.size ≤ r ∧ ∃ o : Obj, A.heap[r]? = some o ∧ o.isCells = false) → B.heap[k]? = some o :=
      fun {β A B row k o} hk ho hg' hr => (hg'.block k (heap_lt ho) (fun e => by have := (hr k e.symm).1; omega)).trans ho
    refine callsIn_wide.2 ((hseq L (fun pre W => I pre W ∧ W.heap[L]? = some (.loop (rec .ready none)) ∧ W.heap[w.heap.size]? = some (.deferred (some [])))
      (fun pre W => Ix pre W ∧ W.heap[L]? = some (.loop (rec .done (some .ret))) ∧ W.heap[w.heap.size]? = some (.deferred (some []))) W1 b1 ?_ ?_ ?_ ⟨i1, r1, d1⟩).mono ?_)
    · rintro s A B row ⟨x1, x2, x3⟩ hg' hr
      exact ⟨hI s A B row x1 hg' (fun r e => ⟨by have := (hr r e).1; omega, (hr r e).2⟩), off (β := Unit) (by omega) x2 hg' hr, off (β := Unit) (by omega) x3 hg' hr⟩
    · rintro s A B row ⟨x1, x2, x3⟩ hg' hr
      exact ⟨hIx s A B row x1 hg' (fun r e => ⟨by have := (hr r e).1; omega, (hr r e).2⟩), off (β := Unit) (by omega) x2 hg' hr, off (β := Unit) (by omega) x3 hg' hr⟩
    · rintro pre x V ⟨hi, hl, hk⟩ hlen
      have hy := run_yield (P := P) (args := encs x) hl (by rw [hrec]; exact hps x)
      rw [hrec] at hy
      refine ⟨fn, _, assign, body, hy, round_deep (m := 4) (roundIn_of_wpIn hfn (hassign _ pre x V _ hi ?_))⟩
      clear hy
      intro a' Va kf kp hi2 hax
      have hl2 := kf.same _ _ (by omega) hl rfl
      have hk2 := kf.same _ _ (Nat.le_refl _) hk rfl
      have lt2 := heap_lt hl2
      refine ⟨_, run_beginRound hl2 (by rw [hrec]), ?_⟩
      obtain ⟨Vb, hVb⟩ : ∃ Vb, Va.putObj L (.loop { rec .ready none with state := .busy }) = Vb := ⟨_, rfl⟩
      have hl3 : Vb.heap[L]? = some (.loop { rec .ready none with state := .busy }) := by rw [← hVb]; exact World.putObj_heap_same lt2
      have hk3 : Vb.heap[w.heap.size]? = some (.deferred (some [])) := by rw [← hVb]; exact (World.putObj_heap_other (by omega)).trans hk2
      have kp3 : Kp Va Vb := by rw [← hVb]; exact hKb _ _ _ _ (by omega) hl2 rfl rfl
      have hi3 : I pre Vb := by rw [← hVb]; exact hI.putObj _ hi2 (by omega) hl2 rfl
      have ax3 : Ax x a' Vb := by rw [← hVb]; exact (hAx x a').putObj (s := ()) _ hax (by omega) hl2 rfl
      have kf3 : KeepsFrom W1.heap.size V Vb := by
        rw [← hVb]
        exact (KeepsFrom.mono kf (by omega)).trans (KeepsFrom.putObj _ (by omega))
      rw [hVb]
      refine wpIn_mono (hbody _ pre x a' _ (by omega) hi3 ax3 hlen) ?_
      have fin : ∀ (jump : Option Code) (Vc : World), KeepsFrom w.heap.size Vb Vc → (Instr.endRound L jump).run P Vc = .ok (.bool jump.isNone) (Vc.putObj L (.loop (rec (if jump.isNone then .ready else .done) jump))) ∧
          Vc.heap[L]? = some (.loop { rec .ready none with state := .busy }) ∧ (Vc.putObj L (.loop (rec (if jump.isNone then .ready else .done) jump))).heap[L]? = some (.loop (rec (if jump.isNone then .ready else .done) jump)) ∧
          (Vc.putObj L (.loop (rec (if jump.isNone then .ready else .done) jump))).heap[w.heap.size]? = some (.deferred (some [])) := fun jump Vc kfc => by
        have hl4 := kfc.same _ _ (by omega) hl3 rfl
        have e := run_endRound (P := P) jump hl4
        rw [hrec] at e ⊢
        refine ⟨e, ?_, World.putObj_heap_same (heap_lt hl4), (World.putObj_heap_other (by omega)).trans (kfc.same _ _ (Nat.le_refl _) hk3 rfl)⟩
        rw [hrec] at hl4
        exact hl4
      rintro e a3 Vc hp
      cases e with
      | normal =>
        obtain ⟨kfc, kpc, ic⟩ := hp
        obtain ⟨hr, h4, h5, h6⟩ := fin none Vc kfc
        exact ⟨_, _, hr, (kf3.trans (KeepsFrom.mono kfc (by omega))).trans (KeepsFrom.putObj _ (by omega)), .inl ⟨rfl, ⟨hI.putObj _ ic (by omega) h4 rfl, h5, h6⟩, hKt kp (hKt (hKt kp3 kpc) (hKb _ _ _ _ (by omega) h4 rfl rfl))⟩⟩
      | ret =>
        obtain ⟨kfc, ic⟩ := hp
        obtain ⟨hr, h4, h5, h6⟩ := fin (some .ret) Vc kfc
        exact ⟨_, _, hr, (kf3.trans (KeepsFrom.mono kfc (by omega))).trans (KeepsFrom.putObj _ (by omega)), .inr ⟨rfl, hIx.putObj _ ic (by omega) h4 rfl, h5, h6⟩⟩
      | exit id => exact hp.elim
      | goto t => exact hp.elim
      | panic ch => exact hp.elim
      | outgrown => exact hp.elim
    · rintro e W2 ⟨⟨v, rfl⟩, (⟨xs, hS, hi, hl, hk⟩ | ⟨pre, hSp, hi, hl, hk⟩)⟩
      · exact ⟨none, _, by have := run_endLoop (P := P) hl (by rw [hrec]; simp); rw [hrec] at this; exact this, hdone _ xs _ (Nat.le_refl _) hS (hI.putObj _ hi (by omega) hl rfl) ((World.putObj_heap_other (by omega)).trans hk)⟩
      · exact ⟨some .ret, _, by have := run_endLoop (P := P) hl (by rw [hrec]; simp); rw [hrec] at this; exact this, hstop _ pre _ (Nat.le_refl _) hSp (hIx.putObj _ hi (by omega) hl rfl) ((World.putObj_heap_other (by omega)).trans hk)⟩
end Go.Proofs.YtfefggcfeppeiaaGreat
