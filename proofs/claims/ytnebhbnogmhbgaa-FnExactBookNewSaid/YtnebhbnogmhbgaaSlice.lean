/- Slices of slices: what l[:k] and l[k:] read; append from any source at a step of a region that draws. -/
import Derived.Test.YtnebhbnogmhbgaaRow
import Derived.Deep.RegionHeld3
import Derived.Deep.AppendLies
import Derived.Laws.OwnMore
namespace Go.Proofs.Ytnebhbnogmhbgaa
open Go.RowKit

section
variable {α : Type} {L : Lay α} {w w' : World} {a : Option Addr} {n cap : Nat} {xs : List α}
theorem RdS.take (h : RdS L w a n cap xs) (k : Nat) (hk : k ≤ n) : RdS L w a k cap (xs.take k) := by
  obtain ⟨⟨h1, h2, h3, h4⟩, h5⟩ := h
  refine ⟨⟨by rw [List.length_take]; omega, by omega, h3, fun ha => ⟨by have := (h4 ha).1; omega, (h4 ha).2⟩⟩, fun hn => ?_⟩
  obtain ⟨b, off, e, hc⟩ := h5 (by omega)
  refine ⟨b, off, e, fun i x hi => hc i x ?_⟩
  rw [List.getElem?_take] at hi
  split at hi
  · exact hi
  · cases hi
theorem add_lit (b off m : Nat) : (⟨b, off, none⟩ : Addr).add m = ⟨b, off + m, none⟩ := Addr.add_lit b off m
theorem RdS.drop (h : RdS L w a n cap xs) (k : Nat) (hk : k ≤ n) : RdS L w (if cap = k then a else a.map (·.add (k * L.sz))) (n - k) (cap - k) (xs.drop k) := by
  obtain ⟨⟨h1, h2, h3, h4⟩, h5⟩ := h
  refine ⟨⟨by rw [List.length_drop]; omega, by omega, by omega, fun ha => ?_⟩, fun hn => ?_⟩
  · have ha' : a = none := by
      split at ha
      · exact ha
      · cases a with
        | none => rfl
        | some p => cases ha
    have := h4 ha'
    omega
  · obtain ⟨b, off, e, hc⟩ := h5 (by omega)
    refine ⟨b, off + k * L.sz, ?_, fun i x hi j u hj => ?_⟩
    · rw [if_neg (by omega), e]
      simp [add_lit]
    · rw [List.getElem?_drop] at hi
      have := hc (k + i) x hi j u hj
      rw [Nat.add_mul] at this
      rw [show off + k * L.sz + (i * L.sz + j) = off + (k * L.sz + i * L.sz + j) by omega]
      exact this
theorem RdS.news (h : RdS L w a n cap xs) : ∀ p, a = some p → ∀ j u, (xs.flatMap L.cells)[j]? = some u → w.cell? (p.add j) = some u := by
  intro p hp j u hu
  have hs := L.pos
  have hd := Nat.div_add_mod j L.sz
  have hm := Nat.mod_lt j hs
  rw [Nat.mul_comm] at hd
  have hf := flat_at L xs (j / L.sz) (j % L.sz) hm
  rw [hd, hu] at hf
  cases hx : xs[j / L.sz]? with
  | none => rw [hx] at hf; cases hf
  | some x =>
    rw [hx] at hf
    have hlt : j / L.sz < n := by have := (List.getElem?_eq_some_iff.1 hx).1; rw [h.1.1] at this; exact this
    obtain ⟨b, off, e, hc⟩ := h.2 (Nat.lt_of_le_of_lt (Nat.zero_le _) hlt)
    rw [hp] at e
    obtain rfl := Option.some.inj e
    rw [Addr.add_lit]
    have := hc _ x hx _ u hf.symm
    rw [hd] at this
    exact this
theorem RdS.alloc (h : RdS L w a n cap xs) (o : Obj) : RdS L (w.alloc o) a n cap xs := h.below ((Below.refl _ _).alloc (Nat.le_refl _) _)
theorem RdS.nil (h : RdS L w a n cap xs) : a = none → n = 0 ∧ cap = 0 := h.1.2.2.2
theorem RdS.len (h : RdS L w a n cap xs) : (xs.flatMap L.cells).length = n * L.sz := by rw [flat_len, h.1.1]
end

/-- An empty literal. -/
theorem own_nil (w : World) (e : TypeId) (size base g : Nat) (hg : w.heap.size = g) (hb : base ≤ g) : (w.alloc (.cells #[] e)).ownsRow base e size (.slice (some ⟨g, 0, none⟩) 0 0) 0 [] := by
  subst hg
  exact World.ownsRow_lit (size := size) w #[] 0 hb (by simp [maxLen]) (by simp)
/-- 'append(out, xs...)' at a step of a region that draws: out the call's own, xs whatever: nil, empty or not. -/
theorem step_append_src {P : Program} {w : World} {ops : Array Oper} {o : Oper} {a : Act} {K : Act → World → Prop} {Q : Exit → Act → World → Prop} {E : Prop} (hgd : o.guard = none) (s x : Operand) (t : TypeId)
    (ho : o.op = .call { callee := .builtin .append, args := #[s, x], argTypes := #[t, t] })
    (base : Nat) (e : TypeId) (i : TypeInfo) (z : Value) (size bytes : Nat) (ht : P.underlying t = some (.slice e)) (hi : P.info? e = some i) (hz : i.zero = some z)
    (hsize : i.size = size) (hby : i.bytes = bytes) (hzs : z.cells.size = size) (hsz : 0 < size)
    (v : Value) (n : Nat) (xs : List Value) (hs : a.eval s = v) (hown : w.ownsRow base e size v n xs)
    (ad : Option Addr) (m c : Nat) (news : List Value) (hx : a.eval x = .slice ad m c) (hl : news.length = m * size) (hnil : ad = none → m = 0 ∧ c = 0)
    (hnews : ∀ p, ad = some p → ∀ j u, news[j]? = some u → w.cell? (p.add j) = some u) (h1 : ∀ u ∈ news, u.oneCell' = true)
    (h63 : n + m ≤ maxLen) (hbytes : (n + m) * bytes ≤ 140737488355328) (hbase : base ≤ w.heap.size)
    (h : ∀ v' w', w'.ownsRow base e size v' (n + m) (xs ++ news) → w.grownBy w' v.ownBlock → K (a.put o.dst v') w') :
    if Region.wanted o (yielded ops a.tmps) = true then Oper.wp P o a w K Q else E := by
  have hw : Region.wanted o (yielded ops a.tmps) = true := by simp [Region.wanted, hgd]
  rw [if_pos hw]
  cases ad with
  | some p => exact wp_append_own w s x t ho base e i z size bytes ht hi hz hsize hby hzs hsz v n xs hs hown p m c news hx hl (hnews p rfl) h1 h63 hbytes hbase fun v' w' p1 p2 _ => h v' w' p1 p2
  | none =>
    obtain ⟨rfl, rfl⟩ := hnil rfl
    have hn : news = [] := List.eq_nil_of_length_eq_zero (by simpa using hl)
    subst hn
    have hrun := run_append_owned_none (P := P) (w := w) base t o.type e i size ht hi v n xs hown
    unfold Oper.wp
    simp [execOp, ho, resolve, invoke, builtin, hs, hx, hrun, Result.andThen]
    exact h v w (by simpa using hown) (World.grownBy.refl _ _)
end Go.Proofs.Ytnebhbnogmhbgaa
