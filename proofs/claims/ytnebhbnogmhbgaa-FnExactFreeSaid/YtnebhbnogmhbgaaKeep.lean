/- For a region whose order is open: boxes that it loads, kept while callees make memory alone. Below: nothing that was in the first world has turned. -/
import Derived.Test.YtnebhbnogmhbgaaBase
import Derived.Deep.RegionHeld3
import Derived.Deep.DeepCutAuto
namespace Go.Proofs.Ytnebhbnogmhbgaa
open Go.RowKit

theorem keep1 {w W w1 : World} {b0 : Nat} {x00 x01 x02 x03 : Value} (hS : (Below w.heap.size w W ∧ b0 < W.heap.size) ∧ (W.cell? ⟨b0, 0, none⟩ = some x00 ∧ W.cell? ⟨b0, 1, none⟩ = some x01 ∧ W.cell? ⟨b0, 2, none⟩ = some x02 ∧ W.cell? ⟨b0, 3, none⟩ = some x03)) (hb : Below W.heap.size W w1) : (Below w.heap.size w w1 ∧ b0 < w1.heap.size) ∧ (w1.cell? ⟨b0, 0, none⟩ = some x00 ∧ w1.cell? ⟨b0, 1, none⟩ = some x01 ∧ w1.cell? ⟨b0, 2, none⟩ = some x02 ∧ w1.cell? ⟨b0, 3, none⟩ = some x03) := by
  obtain ⟨⟨hB, h0⟩, r0⟩ := hS
  have hs := hb.size
  have hw := hB.size
  have k0 : ∀ o, w1.cell? ⟨b0, o, none⟩ = W.cell? ⟨b0, o, none⟩ := fun o => hb.cell (p := ⟨b0, o, none⟩) h0
  simp only [k0]
  exact ⟨⟨hB.trans (hb.mono (by omega)), by omega⟩, r0⟩
theorem keep2 {w W w1 : World} {b0 b1 : Nat} {x00 x01 x02 x03 x10 x11 x12 x13 : Value} (hS : (Below w.heap.size w W ∧ b0 < W.heap.size ∧ b1 < W.heap.size) ∧ (W.cell? ⟨b0, 0, none⟩ = some x00 ∧ W.cell? ⟨b0, 1, none⟩ = some x01 ∧ W.cell? ⟨b0, 2, none⟩ = some x02 ∧ W.cell? ⟨b0, 3, none⟩ = some x03) ∧ (W.cell? ⟨b1, 0, none⟩ = some x10 ∧ W.cell? ⟨b1, 1, none⟩ = some x11 ∧ W.cell? ⟨b1, 2, none⟩ = some x12 ∧ W.cell? ⟨b1, 3, none⟩ = some x13)) (hb : Below W.heap.size W w1) : (Below w.heap.size w w1 ∧ b0 < w1.heap.size ∧ b1 < w1.heap.size) ∧ (w1.cell? ⟨b0, 0, none⟩ = some x00 ∧ w1.cell? ⟨b0, 1, none⟩ = some x01 ∧ w1.cell? ⟨b0, 2, none⟩ = some x02 ∧ w1.cell? ⟨b0, 3, none⟩ = some x03) ∧ (w1.cell? ⟨b1, 0, none⟩ = some x10 ∧ w1.cell? ⟨b1, 1, none⟩ = some x11 ∧ w1.cell? ⟨b1, 2, none⟩ = some x12 ∧ w1.cell? ⟨b1, 3, none⟩ = some x13) := by
  obtain ⟨⟨hB, h0, h1⟩, r0, r1⟩ := hS
  have hs := hb.size
  have hw := hB.size
  have k0 : ∀ o, w1.cell? ⟨b0, o, none⟩ = W.cell? ⟨b0, o, none⟩ := fun o => hb.cell (p := ⟨b0, o, none⟩) h0
  have k1 : ∀ o, w1.cell? ⟨b1, o, none⟩ = W.cell? ⟨b1, o, none⟩ := fun o => hb.cell (p := ⟨b1, o, none⟩) h1
  simp only [k0, k1]
  exact ⟨⟨hB.trans (hb.mono (by omega)), by omega, by omega⟩, r0, r1⟩
theorem keep3 {w W w1 : World} {b0 b1 b2 : Nat} {x00 x01 x02 x03 x10 x11 x12 x13 x20 x21 x22 x23 : Value} (hS : (Below w.heap.size w W ∧ b0 < W.heap.size ∧ b1 < W.heap.size ∧ b2 < W.heap.size) ∧ (W.cell? ⟨b0, 0, none⟩ = some x00 ∧ W.cell? ⟨b0, 1, none⟩ = some x01 ∧ W.cell? ⟨b0, 2, none⟩ = some x02 ∧ W.cell? ⟨b0, 3, none⟩ = some x03) ∧ (W.cell? ⟨b1, 0, none⟩ = some x10 ∧ W.cell? ⟨b1, 1, none⟩ = some x11 ∧ W.cell? ⟨b1, 2, none⟩ = some x12 ∧ W.cell? ⟨b1, 3, none⟩ = some x13) ∧ (W.cell? ⟨b2, 0, none⟩ = some x20 ∧ W.cell? ⟨b2, 1, none⟩ = some x21 ∧ W.cell? ⟨b2, 2, none⟩ = some x22 ∧ W.cell? ⟨b2, 3, none⟩ = some x23)) (hb : Below W.heap.size W w1) : (Below w.heap.size w w1 ∧ b0 < w1.heap.size ∧ b1 < w1.heap.size ∧ b2 < w1.heap.size) ∧ (w1.cell? ⟨b0, 0, none⟩ = some x00 ∧ w1.cell? ⟨b0, 1, none⟩ = some x01 ∧ w1.cell? ⟨b0, 2, none⟩ = some x02 ∧ w1.cell? ⟨b0, 3, none⟩ = some x03) ∧ (w1.cell? ⟨b1, 0, none⟩ = some x10 ∧ w1.cell? ⟨b1, 1, none⟩ = some x11 ∧ w1.cell? ⟨b1, 2, none⟩ = some x12 ∧ w1.cell? ⟨b1, 3, none⟩ = some x13) ∧ (w1.cell? ⟨b2, 0, none⟩ = some x20 ∧ w1.cell? ⟨b2, 1, none⟩ = some x21 ∧ w1.cell? ⟨b2, 2, none⟩ = some x22 ∧ w1.cell? ⟨b2, 3, none⟩ = some x23) := by
  obtain ⟨⟨hB, h0, h1, h2⟩, r0, r1, r2⟩ := hS
  have hs := hb.size
  have hw := hB.size
  have k0 : ∀ o, w1.cell? ⟨b0, o, none⟩ = W.cell? ⟨b0, o, none⟩ := fun o => hb.cell (p := ⟨b0, o, none⟩) h0
  have k1 : ∀ o, w1.cell? ⟨b1, o, none⟩ = W.cell? ⟨b1, o, none⟩ := fun o => hb.cell (p := ⟨b1, o, none⟩) h1
  have k2 : ∀ o, w1.cell? ⟨b2, o, none⟩ = W.cell? ⟨b2, o, none⟩ := fun o => hb.cell (p := ⟨b2, o, none⟩) h2
  simp only [k0, k1, k2]
  exact ⟨⟨hB.trans (hb.mono (by omega)), by omega, by omega, by omega⟩, r0, r1, r2⟩
theorem keep4 {w W w1 : World} {b0 b1 b2 b3 : Nat} {x00 x01 x02 x03 x10 x11 x12 x13 x20 x21 x22 x23 x30 x31 x32 x33 : Value} (hS : (Below w.heap.size w W ∧ b0 < W.heap.size ∧ b1 < W.heap.size ∧ b2 < W.heap.size ∧ b3 < W.heap.size) ∧ (W.cell? ⟨b0, 0, none⟩ = some x00 ∧ W.cell? ⟨b0, 1, none⟩ = some x01 ∧ W.cell? ⟨b0, 2, none⟩ = some x02 ∧ W.cell? ⟨b0, 3, none⟩ = some x03) ∧ (W.cell? ⟨b1, 0, none⟩ = some x10 ∧ W.cell? ⟨b1, 1, none⟩ = some x11 ∧ W.cell? ⟨b1, 2, none⟩ = some x12 ∧ W.cell? ⟨b1, 3, none⟩ = some x13) ∧ (W.cell? ⟨b2, 0, none⟩ = some x20 ∧ W.cell? ⟨b2, 1, none⟩ = some x21 ∧ W.cell? ⟨b2, 2, none⟩ = some x22 ∧ W.cell? ⟨b2, 3, none⟩ = some x23) ∧ (W.cell? ⟨b3, 0, none⟩ = some x30 ∧ W.cell? ⟨b3, 1, none⟩ = some x31 ∧ W.cell? ⟨b3, 2, none⟩ = some x32 ∧ W.cell? ⟨b3, 3, none⟩ = some x33)) (hb : Below W.heap.size W w1) : (Below w.heap.size w w1 ∧ b0 < w1.heap.size ∧ b1 < w1.heap.size ∧ b2 < w1.heap.size ∧ b3 < w1.heap.size) ∧ (w1.cell? ⟨b0, 0, none⟩ = some x00 ∧ w1.cell? ⟨b0, 1, none⟩ = some x01 ∧ w1.cell? ⟨b0, 2, none⟩ = some x02 ∧ w1.cell? ⟨b0, 3, none⟩ = some x03) ∧ (w1.cell? ⟨b1, 0, none⟩ = some x10 ∧ w1.cell? ⟨b1, 1, none⟩ = some x11 ∧ w1.cell? ⟨b1, 2, none⟩ = some x12 ∧ w1.cell? ⟨b1, 3, none⟩ = some x13) ∧ (w1.cell? ⟨b2, 0, none⟩ = some x20 ∧ w1.cell? ⟨b2, 1, none⟩ = some x21 ∧ w1.cell? ⟨b2, 2, none⟩ = some x22 ∧ w1.cell? ⟨b2, 3, none⟩ = some x23) ∧ (w1.cell? ⟨b3, 0, none⟩ = some x30 ∧ w1.cell? ⟨b3, 1, none⟩ = some x31 ∧ w1.cell? ⟨b3, 2, none⟩ = some x32 ∧ w1.cell? ⟨b3, 3, none⟩ = some x33) := by
  obtain ⟨⟨hB, h0, h1, h2, h3⟩, r0, r1, r2, r3⟩ := hS
  have hs := hb.size
  have hw := hB.size
  have k0 : ∀ o, w1.cell? ⟨b0, o, none⟩ = W.cell? ⟨b0, o, none⟩ := fun o => hb.cell (p := ⟨b0, o, none⟩) h0
  have k1 : ∀ o, w1.cell? ⟨b1, o, none⟩ = W.cell? ⟨b1, o, none⟩ := fun o => hb.cell (p := ⟨b1, o, none⟩) h1
  have k2 : ∀ o, w1.cell? ⟨b2, o, none⟩ = W.cell? ⟨b2, o, none⟩ := fun o => hb.cell (p := ⟨b2, o, none⟩) h2
  have k3 : ∀ o, w1.cell? ⟨b3, o, none⟩ = W.cell? ⟨b3, o, none⟩ := fun o => hb.cell (p := ⟨b3, o, none⟩) h3
  simp only [k0, k1, k2, k3]
  exact ⟨⟨hB.trans (hb.mono (by omega)), by omega, by omega, by omega, by omega⟩, r0, r1, r2, r3⟩

theorem keepSet2 {w W : World} {b0 b1 : Nat} {x00 x01 x02 x03 x10 x11 x12 x13 : Value} (hS : (Below w.heap.size w W ∧ b0 < W.heap.size ∧ b1 < W.heap.size) ∧ (W.cell? ⟨b0, 0, none⟩ = some x00 ∧ W.cell? ⟨b0, 1, none⟩ = some x01 ∧ W.cell? ⟨b0, 2, none⟩ = some x02 ∧ W.cell? ⟨b0, 3, none⟩ = some x03) ∧ (W.cell? ⟨b1, 0, none⟩ = some x10 ∧ W.cell? ⟨b1, 1, none⟩ = some x11 ∧ W.cell? ⟨b1, 2, none⟩ = some x12 ∧ W.cell? ⟨b1, 3, none⟩ = some x13)) (p j : Nat) (u : Value) (hp : w.heap.size ≤ p ∧ b0 ≠ p ∧ b1 ≠ p) : (Below w.heap.size w (W.setCell ⟨p, j, none⟩ u) ∧ b0 < (W.setCell ⟨p, j, none⟩ u).heap.size ∧ b1 < (W.setCell ⟨p, j, none⟩ u).heap.size) ∧ ((W.setCell ⟨p, j, none⟩ u).cell? ⟨b0, 0, none⟩ = some x00 ∧ (W.setCell ⟨p, j, none⟩ u).cell? ⟨b0, 1, none⟩ = some x01 ∧ (W.setCell ⟨p, j, none⟩ u).cell? ⟨b0, 2, none⟩ = some x02 ∧ (W.setCell ⟨p, j, none⟩ u).cell? ⟨b0, 3, none⟩ = some x03) ∧ ((W.setCell ⟨p, j, none⟩ u).cell? ⟨b1, 0, none⟩ = some x10 ∧ (W.setCell ⟨p, j, none⟩ u).cell? ⟨b1, 1, none⟩ = some x11 ∧ (W.setCell ⟨p, j, none⟩ u).cell? ⟨b1, 2, none⟩ = some x12 ∧ (W.setCell ⟨p, j, none⟩ u).cell? ⟨b1, 3, none⟩ = some x13) := by
  obtain ⟨⟨hB, h0, h1⟩, r0, r1⟩ := hS
  obtain ⟨p0, n0, n1⟩ := hp
  have k0 : ∀ o, (W.setCell ⟨p, j, none⟩ u).cell? ⟨b0, o, none⟩ = W.cell? ⟨b0, o, none⟩ := fun o => World.cell?_setCell_far _ _ _ _ (fun e => n0 e.symm)
  have k1 : ∀ o, (W.setCell ⟨p, j, none⟩ u).cell? ⟨b1, o, none⟩ = W.cell? ⟨b1, o, none⟩ := fun o => World.cell?_setCell_far _ _ _ _ (fun e => n1 e.symm)
  simp only [k0, k1]
  exact ⟨⟨hB.setCell p0 u, by simpa using h0, by simpa using h1⟩, r0, r1⟩
theorem keepSwap2 {w W : World} {b0 b1 : Nat} {x00 x01 x02 x03 x10 x11 x12 x13 : Value} {O : Obj} (hS : (Below w.heap.size w (W.alloc O) ∧ b0 < (W.alloc O).heap.size ∧ b1 < (W.alloc O).heap.size) ∧ ((W.alloc O).cell? ⟨b0, 0, none⟩ = some x00 ∧ (W.alloc O).cell? ⟨b0, 1, none⟩ = some x01 ∧ (W.alloc O).cell? ⟨b0, 2, none⟩ = some x02 ∧ (W.alloc O).cell? ⟨b0, 3, none⟩ = some x03) ∧ ((W.alloc O).cell? ⟨b1, 0, none⟩ = some x10 ∧ (W.alloc O).cell? ⟨b1, 1, none⟩ = some x11 ∧ (W.alloc O).cell? ⟨b1, 2, none⟩ = some x12 ∧ (W.alloc O).cell? ⟨b1, 3, none⟩ = some x13)) (hp : w.heap.size ≤ W.heap.size ∧ b0 < W.heap.size ∧ b1 < W.heap.size) (O' : Obj) : (Below w.heap.size w (W.alloc O') ∧ b0 < (W.alloc O').heap.size ∧ b1 < (W.alloc O').heap.size) ∧ ((W.alloc O').cell? ⟨b0, 0, none⟩ = some x00 ∧ (W.alloc O').cell? ⟨b0, 1, none⟩ = some x01 ∧ (W.alloc O').cell? ⟨b0, 2, none⟩ = some x02 ∧ (W.alloc O').cell? ⟨b0, 3, none⟩ = some x03) ∧ ((W.alloc O').cell? ⟨b1, 0, none⟩ = some x10 ∧ (W.alloc O').cell? ⟨b1, 1, none⟩ = some x11 ∧ (W.alloc O').cell? ⟨b1, 2, none⟩ = some x12 ∧ (W.alloc O').cell? ⟨b1, 3, none⟩ = some x13) := by
  obtain ⟨⟨hB, h0, h1⟩, r0, r1⟩ := hS
  obtain ⟨p0, n0, n1⟩ := hp
  have k0 : ∀ o, (W.alloc O').cell? ⟨b0, o, none⟩ = (W.alloc O).cell? ⟨b0, o, none⟩ := fun o => (World.cell?_alloc_lt W O' ⟨b0, o, none⟩ n0).trans (World.cell?_alloc_lt W O ⟨b0, o, none⟩ n0).symm
  have k1 : ∀ o, (W.alloc O').cell? ⟨b1, o, none⟩ = (W.alloc O).cell? ⟨b1, o, none⟩ := fun o => (World.cell?_alloc_lt W O' ⟨b1, o, none⟩ n1).trans (World.cell?_alloc_lt W O ⟨b1, o, none⟩ n1).symm
  simp only [k0, k1]
  refine ⟨⟨?_, by simp; omega, by simp; omega⟩, r0, r1⟩
  refine ⟨hB.os, hB.tape, hB.output, by simp; omega, fun i hi => ?_⟩
  rw [heap_alloc_old W O' (by omega), ← heap_alloc_old W O (by omega)]
  exact hB.block i hi
theorem keepSet3 {w W : World} {b0 b1 b2 : Nat} {x00 x01 x02 x03 x10 x11 x12 x13 x20 x21 x22 x23 : Value} (hS : (Below w.heap.size w W ∧ b0 < W.heap.size ∧ b1 < W.heap.size ∧ b2 < W.heap.size) ∧ (W.cell? ⟨b0, 0, none⟩ = some x00 ∧ W.cell? ⟨b0, 1, none⟩ = some x01 ∧ W.cell? ⟨b0, 2, none⟩ = some x02 ∧ W.cell? ⟨b0, 3, none⟩ = some x03) ∧ (W.cell? ⟨b1, 0, none⟩ = some x10 ∧ W.cell? ⟨b1, 1, none⟩ = some x11 ∧ W.cell? ⟨b1, 2, none⟩ = some x12 ∧ W.cell? ⟨b1, 3, none⟩ = some x13) ∧ (W.cell? ⟨b2, 0, none⟩ = some x20 ∧ W.cell? ⟨b2, 1, none⟩ = some x21 ∧ W.cell? ⟨b2, 2, none⟩ = some x22 ∧ W.cell? ⟨b2, 3, none⟩ = some x23)) (p j : Nat) (u : Value) (hp : w.heap.size ≤ p ∧ b0 ≠ p ∧ b1 ≠ p ∧ b2 ≠ p) : (Below w.heap.size w (W.setCell ⟨p, j, none⟩ u) ∧ b0 < (W.setCell ⟨p, j, none⟩ u).heap.size ∧ b1 < (W.setCell ⟨p, j, none⟩ u).heap.size ∧ b2 < (W.setCell ⟨p, j, none⟩ u).heap.size) ∧ ((W.setCell ⟨p, j, none⟩ u).cell? ⟨b0, 0, none⟩ = some x00 ∧ (W.setCell ⟨p, j, none⟩ u).cell? ⟨b0, 1, none⟩ = some x01 ∧ (W.setCell ⟨p, j, none⟩ u).cell? ⟨b0, 2, none⟩ = some x02 ∧ (W.setCell ⟨p, j, none⟩ u).cell? ⟨b0, 3, none⟩ = some x03) ∧ ((W.setCell ⟨p, j, none⟩ u).cell? ⟨b1, 0, none⟩ = some x10 ∧ (W.setCell ⟨p, j, none⟩ u).cell? ⟨b1, 1, none⟩ = some x11 ∧ (W.setCell ⟨p, j, none⟩ u).cell? ⟨b1, 2, none⟩ = some x12 ∧ (W.setCell ⟨p, j, none⟩ u).cell? ⟨b1, 3, none⟩ = some x13) ∧ ((W.setCell ⟨p, j, none⟩ u).cell? ⟨b2, 0, none⟩ = some x20 ∧ (W.setCell ⟨p, j, none⟩ u).cell? ⟨b2, 1, none⟩ = some x21 ∧ (W.setCell ⟨p, j, none⟩ u).cell? ⟨b2, 2, none⟩ = some x22 ∧ (W.setCell ⟨p, j, none⟩ u).cell? ⟨b2, 3, none⟩ = some x23) := by
  obtain ⟨⟨hB, h0, h1, h2⟩, r0, r1, r2⟩ := hS
  obtain ⟨p0, n0, n1, n2⟩ := hp
  have k0 : ∀ o, (W.setCell ⟨p, j, none⟩ u).cell? ⟨b0, o, none⟩ = W.cell? ⟨b0, o, none⟩ := fun o => World.cell?_setCell_far _ _ _ _ (fun e => n0 e.symm)
  have k1 : ∀ o, (W.setCell ⟨p, j, none⟩ u).cell? ⟨b1, o, none⟩ = W.cell? ⟨b1, o, none⟩ := fun o => World.cell?_setCell_far _ _ _ _ (fun e => n1 e.symm)
  have k2 : ∀ o, (W.setCell ⟨p, j, none⟩ u).cell? ⟨b2, o, none⟩ = W.cell? ⟨b2, o, none⟩ := fun o => World.cell?_setCell_far _ _ _ _ (fun e => n2 e.symm)
  simp only [k0, k1, k2]
  exact ⟨⟨hB.setCell p0 u, by simpa using h0, by simpa using h1, by simpa using h2⟩, r0, r1, r2⟩
theorem keepSwap3 {w W : World} {b0 b1 b2 : Nat} {x00 x01 x02 x03 x10 x11 x12 x13 x20 x21 x22 x23 : Value} {O : Obj} (hS : (Below w.heap.size w (W.alloc O) ∧ b0 < (W.alloc O).heap.size ∧ b1 < (W.alloc O).heap.size ∧ b2 < (W.alloc O).heap.size) ∧ ((W.alloc O).cell? ⟨b0, 0, none⟩ = some x00 ∧ (W.alloc O).cell? ⟨b0, 1, none⟩ = some x01 ∧ (W.alloc O).cell? ⟨b0, 2, none⟩ = some x02 ∧ (W.alloc O).cell? ⟨b0, 3, none⟩ = some x03) ∧ ((W.alloc O).cell? ⟨b1, 0, none⟩ = some x10 ∧ (W.alloc O).cell? ⟨b1, 1, none⟩ = some x11 ∧ (W.alloc O).cell? ⟨b1, 2, none⟩ = some x12 ∧ (W.alloc O).cell? ⟨b1, 3, none⟩ = some x13) ∧ ((W.alloc O).cell? ⟨b2, 0, none⟩ = some x20 ∧ (W.alloc O).cell? ⟨b2, 1, none⟩ = some x21 ∧ (W.alloc O).cell? ⟨b2, 2, none⟩ = some x22 ∧ (W.alloc O).cell? ⟨b2, 3, none⟩ = some x23)) (hp : w.heap.size ≤ W.heap.size ∧ b0 < W.heap.size ∧ b1 < W.heap.size ∧ b2 < W.heap.size) (O' : Obj) : (Below w.heap.size w (W.alloc O') ∧ b0 < (W.alloc O').heap.size ∧ b1 < (W.alloc O').heap.size ∧ b2 < (W.alloc O').heap.size) ∧ ((W.alloc O').cell? ⟨b0, 0, none⟩ = some x00 ∧ (W.alloc O').cell? ⟨b0, 1, none⟩ = some x01 ∧ (W.alloc O').cell? ⟨b0, 2, none⟩ = some x02 ∧ (W.alloc O').cell? ⟨b0, 3, none⟩ = some x03) ∧ ((W.alloc O').cell? ⟨b1, 0, none⟩ = some x10 ∧ (W.alloc O').cell? ⟨b1, 1, none⟩ = some x11 ∧ (W.alloc O').cell? ⟨b1, 2, none⟩ = some x12 ∧ (W.alloc O').cell? ⟨b1, 3, none⟩ = some x13) ∧ ((W.alloc O').cell? ⟨b2, 0, none⟩ = some x20 ∧ (W.alloc O').cell? ⟨b2, 1, none⟩ = some x21 ∧ (W.alloc O').cell? ⟨b2, 2, none⟩ = some x22 ∧ (W.alloc O').cell? ⟨b2, 3, none⟩ = some x23) := by
  obtain ⟨⟨hB, h0, h1, h2⟩, r0, r1, r2⟩ := hS
  obtain ⟨p0, n0, n1, n2⟩ := hp
  have k0 : ∀ o, (W.alloc O').cell? ⟨b0, o, none⟩ = (W.alloc O).cell? ⟨b0, o, none⟩ := fun o => (World.cell?_alloc_lt W O' ⟨b0, o, none⟩ n0).trans (World.cell?_alloc_lt W O ⟨b0, o, none⟩ n0).symm
  have k1 : ∀ o, (W.alloc O').cell? ⟨b1, o, none⟩ = (W.alloc O).cell? ⟨b1, o, none⟩ := fun o => (World.cell?_alloc_lt W O' ⟨b1, o, none⟩ n1).trans (World.cell?_alloc_lt W O ⟨b1, o, none⟩ n1).symm
  have k2 : ∀ o, (W.alloc O').cell? ⟨b2, o, none⟩ = (W.alloc O).cell? ⟨b2, o, none⟩ := fun o => (World.cell?_alloc_lt W O' ⟨b2, o, none⟩ n2).trans (World.cell?_alloc_lt W O ⟨b2, o, none⟩ n2).symm
  simp only [k0, k1, k2]
  refine ⟨⟨?_, by simp; omega, by simp; omega, by simp; omega⟩, r0, r1, r2⟩
  refine ⟨hB.os, hB.tape, hB.output, by simp; omega, fun i hi => ?_⟩
  rw [heap_alloc_old W O' (by omega), ← heap_alloc_old W O (by omega)]
  exact hB.block i hi
end Go.Proofs.Ytnebhbnogmhbgaa
