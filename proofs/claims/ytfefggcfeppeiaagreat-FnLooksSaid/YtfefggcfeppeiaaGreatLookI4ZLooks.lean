/- The library's AppendSeq over reachableItems; All. -/
import Derived.Test.YtfefggcfeppeiaaGreatLookI3ZLooks
namespace Go.Proofs.YtfefggcfeppeiaaGreat
open Go.RowKit Go.Shelf
attribute [local go_sem] Oper.semAt_some

theorem box_kp {n₀ B : Nat} {V w1 : World} {T e : TypeId} {s m : Nat} {v v' : Value} {ys : List Value} {lit : Obj} (hv : Boxed V B T v) (hg : (V.alloc lit).grownBy w1 v.ownBlock) (hf : ∀ g, v'.ownBlock = some g → v.ownBlock = some g ∨ V.heap.size ≤ g)
    (h2 : Boxed (w1.setCell ⟨B, 0, none⟩ v') B T v') (ho : (w1.setCell ⟨B, 0, none⟩ v').ownsRow n₀ e s v' m ys) (hb : Below n₀ V (w1.setCell ⟨B, 0, none⟩ v')) : KpB n₀ B V (w1.setCell ⟨B, 0, none⟩ v') where
  below := hb
  cells k cs T fr hk hm := by
    rw [Below.heap_setCell _ _ _ _ (by intro e; exact hm (.inl e)), hg.block k (by have := heap_lt hk; simp; omega) (fun e => hm (.inr ⟨v, hv.cell, e.symm⟩)), Below.heap_alloc _ _ k (heap_lt hk)]
    exact hk
  more k hk := by
    rcases hk with e | ⟨u, hu, hown⟩
    · exact .inl (.inl e)
    · rw [h2.cell] at hu
      cases hu
      rcases hf k hown with e | e
      · exact .inl (.inr ⟨v, hv.cell, e⟩)
      · exact .inr e
  lt _ k hk := by
    rcases hk with e | ⟨u, hu, hown⟩
    · rw [e]; exact h2.lt
    · rw [h2.cell] at hu
      cases hu
      exact (World.ownsRow.lt ho k hown).2
def RetA (w0 : World) (xs : List It) (e : Ending) (w' : World) : Prop := ∃ v, e = .returned v ∧ OwnS itLay 47 w' w0.heap.size v xs ∧ Below w0.heap.size w0 w'

set_option maxRecDepth 100000 in
set_option maxHeartbeats 400000 in
theorem iItemsSeq_any (root : Int) (a : Option Addr) (n cap : Nat) (w : World) : Calls Tryz.prog 34 #[.agg #[.int .i64 root, .slice a n cap]] w fun e w' => e = .returned (.func (.func 62) #[] #[.pointer (some ⟨w.heap.size, 0, none⟩)]) ∧ w' = w.alloc (.cells #[.int .i64 root, .slice a n cap] 26) := by
  go_enter Tryz.func34, Tryz.ntmps34
  go_wp2
  go_ret
  exact ⟨rfl, rfl⟩

set_option maxRecDepth 100000 in
set_option maxHeartbeats 3200000 in
theorem iAppendSeq_any (root : Int) (a : Option Addr) (n cap : Nat) (ps : List PgV) (w0 : World) (h : RdP w0 a n cap ps) (hn : n ≤ 1048576) (hp : ∀ p ∈ ps, p.n ≤ 1048576) (ht : totG (ps.map PgV.pg) ≤ 1048576) (q k0 c0 : Nat) (W : World) (hq : W.heap[q]? = some (.cells #[.int .i64 root, .slice a n cap] 26 (0, 0))) (hW : Below w0.heap.size w0 W)
    (ho : W.ownsRow w0.heap.size 47 5 (.slice (some ⟨k0, 0, none⟩) 0 c0) 0 []) (hne : k0 ≠ q) :
    Calls Tryz.prog 39 #[.slice (some ⟨k0, 0, none⟩) 0 c0, .func (.func 62) #[] #[.pointer (some ⟨q, 0, none⟩)]] W (RetA w0 (allV (ps.map PgV.pg) root)) := by
  obtain ⟨i0, hi, hz0, hz1, hz2⟩ := info_parts Tryz.infoItem
  replace hi := Lib.hid hi
  replace hz0 := Lib.hid hz0
  replace hz1 := Lib.hid hz1
  replace hz2 := Lib.hid hz2
  obtain ⟨W4, hW4⟩ : ∃ W4, W4 = W.alloc (.cells #[.slice (some ⟨k0, 0, none⟩) 0 c0] 31) := ⟨_, rfl⟩
  obtain ⟨B, hBe⟩ : ∃ B, B = W.heap.size := ⟨_, rfl⟩
  have b4 : Below W.heap.size W W4 := by subst hW4; exact new_below _ _
  have s4 : W4.heap.size = B + 1 := by subst hW4; subst hBe; simp
  have hbx : Boxed W4 B 31 (.slice (some ⟨k0, 0, none⟩) 0 c0) := by subst hW4; subst hBe; exact Boxed.new _ _ _
  have ho4 : W4.ownsRow w0.heap.size 47 5 (.slice (some ⟨k0, 0, none⟩) 0 c0) 0 [] := by subst hW4; exact World.ownsRow.alloc ho _
  have hk0 := (World.ownsRow.lt ho k0 rfl).2
  have hql := heap_lt hq
  have hbd : Bd B W4 := fun k hk => by
    rcases hk with rfl | ⟨v, hv, hown⟩
    · omega
    · rw [hbx.cell] at hv
      cases hv
      obtain rfl : k0 = k := by simpa [Value.ownBlock] using hown
      omega
  have hHq : HeldB B W4 q #[.int .i64 root, .slice a n cap] 26 := ⟨(b4.block q hql).trans hq, fun hm => by
    rcases hm with e | ⟨v, hv, hown⟩
    · omega
    · rw [hbx.cell] at hv
      cases hv
      have : k0 = q := by simpa [Value.ownBlock] using hown
      exact hne this⟩
  have hW4' : Below w0.heap.size w0 W4 := hW.trans (b4.mono hW.size)
  have ST := items1_any root a n cap ps w0 h hn hp ht B q W4 hHq hW4' hbd (by omega)
  have hN : (allV (ps.map PgV.pg) root).length ≤ 1048576 := Nat.le_trans (allV_tot _ _) ht
  have hsB : w0.heap.size ≤ B := by have := hW.size; omega
  clear hHq hbd hk0 hql h hp hq hW ho hne
  refine (callsIn_wide (n := 4)).1 ?_
  refine callsIn_of_wp_marks Tryz.func39 rfl trivial ?_ rfl
  simp only [Tryz.ntmps39, List.size_toArray, List.length_cons, List.length_nil, Nat.reduceAdd, Nat.reduceSub, Array.replicate_succ, Array.replicate_zero, List.push_toArray, List.append_toArray, List.nil_append, List.cons_append]
  gi_wp2_with fail
  rw [← hW4, ← hBe]
  clear hW4 hBe
  refine range_O (gf := 62) (lb := #[.pointer (some ⟨q, 0, none⟩)]) rfl (enters_of Tryz.func62 (by kernel_rfl) rfl) ST (fun h k => h.trans k)
    (fun V l o o' hl h1 h2 _ => KpB.putObj o' h1 h2 (by omega) (by omega)) (Below.refl _ _) (fun _ => rfl)
    (fun pre V => ∃ v, Boxed V B 31 v ∧ OwnS itLay 47 V w0.heap.size v pre ∧ Below w0.heap.size w0 V) (fun _ _ => False) ?hI (fun _ _ _ _ h _ _ => h) ⟨_, hbx, ho4, hW4'⟩
    (fun x a' V => ∃ Bx, V.heap[Bx]? = some (.cells #[.int .i64 x.id, .int .i64 x.x0, .int .i64 x.y0, .int .i64 x.x1, .int .i64 x.y1] 47 (0, 0)) ∧ a' = { tmps := #[.slice (some ⟨k0, 0, none⟩) 0 c0, .func (.func 62) #[] #[.pointer (some ⟨q, 0, none⟩)], .pointer (some ⟨B, 0, none⟩), undef, .slice none 0 0, .pointer (some ⟨Bx, 0, none⟩), .func (.func 62) #[] #[.pointer (some ⟨q, 0, none⟩)], .agg #[.int .i64 x.id, .int .i64 x.x0, .int .i64 x.y0, .int .i64 x.x1, .int .i64 x.y1], undef, undef, undef, undef, undef], defers := [] }) ?hAx ?assign ?body ?done ?stop
  case hI =>
    rintro pre V V' row ⟨v, h1, h2, h3⟩ hg hr
    refine ⟨v, h1.kept hg (fun e => by have := (hr B e.symm).1; omega), OwnS.kept h2 hg ?_, h3.grown hg h3.size (fun k e => by have := (hr k e).1; have := h3.size; omega)⟩
    rcases h2.2 with ⟨e2, _⟩ | ⟨g', c', cur, e2, _, hh, _⟩
    · exact .inl (by rw [e2]; rfl)
    · refine .inr (fun e => ?_)
      obtain ⟨-, ob, ho, hc⟩ := hr g' (by rw [← e, e2]; rfl)
      rw [hh] at ho
      cases ho
      cases hc
  case hAx =>
    rintro x a' _ V V' row ⟨Bx, h1, h2⟩ hg hr
    refine ⟨Bx, (hg.block Bx (heap_lt h1) (fun e => ?_)).trans h1, h2⟩
    obtain ⟨-, ob, ho, hc⟩ := hr Bx e.symm
    rw [h1] at ho
    cases ho
    cases hc
  case assign =>
    rintro l pre x V K ⟨v, h1, h2, h3⟩ hK
    have hal := new_below V (.cells #[.int .i64 x.id, .int .i64 x.x0, .int .i64 x.y0, .int .i64 x.x1, .int .i64 x.y1] 47)
    have hres := hK { tmps := #[.slice (some ⟨k0, 0, none⟩) 0 c0, .func (.func 62) #[] #[.pointer (some ⟨q, 0, none⟩)], .pointer (some ⟨B, 0, none⟩), undef, .slice none 0 0, .pointer (some ⟨V.heap.size, 0, none⟩), .func (.func 62) #[] #[.pointer (some ⟨q, 0, none⟩)], .agg #[.int .i64 x.id, .int .i64 x.x0, .int .i64 x.y0, .int .i64 x.x1, .int .i64 x.y1], undef, undef, undef, undef, undef], defers := [] } _ ((KeepsOthers.alloc V _).from _) (KpB.all hal h3.size h1.lt) ⟨v, h1.alloc _, OwnS.below h2 hal, h3.trans (hal.mono h3.size)⟩ ⟨V.heap.size, heap_alloc_new _ _, rfl⟩
    clear hK hal
    dsimp only [itEnc]
    gi_wp2
    exact hres
  case body =>
    rintro l pre x a' V hl ⟨v, h1, h2, h3⟩ ⟨Bx, hx, rfl⟩ hlen
    obtain ⟨av, cv, rfl, -⟩ := OwnS.rd h2
    obtain ⟨np, hnp⟩ : ∃ np, np = pre.length := ⟨_, rfl⟩
    have h2' : V.ownsRow w0.heap.size 47 5 (.slice av np cv) np (pre.flatMap itLay.cells) := by
      have := h2
      unfold OwnS at this
      rw [← hnp] at this
      exact this
    rw [← hnp] at h1 hlen
    have c0 := h1.cell
    have f0 := h1.frozen
    have hxc : ∀ o, V.cell? ⟨Bx, o, none⟩ = (#[Value.int .i64 x.id, .int .i64 x.x0, .int .i64 x.y0, .int .i64 x.x1, .int .i64 x.y1] : Array Value)[o]? := fun o => by simp [World.cell?, hx]
    have x0 := hxc 0
    have x1 := hxc 1
    have x2 := hxc 2
    have x3 := hxc 3
    have x4 := hxc 4
    simp at x0 x1 x2 x3 x4
    have H1 := Lib.hid h1
    have H2 := Lib.hid h2'
    have HN := Lib.hid hnp
    have hsV := h3.size
    have H3 := Lib.hid h3
    have hnews := Lib.hid (World.news_of_block (cs := #[.int .i64 x.id, .int .i64 x.x0, .int .i64 x.y0, .int .i64 x.x1, .int .i64 x.y1]) (t := 47) (fr := (0, 0)) (heap_alloc_new V (.cells #[.int .i64 x.id, .int .i64 x.x0, .int .i64 x.y0, .int .i64 x.x1, .int .i64 x.y1] 47)))
    clear h1 h2 h2' h3 hxc hx hnp
    gi_wp2_with (gi_at_builtin; refine wpListIn_append_new _ rfl (.tmp 8) (.tmp 10) 31 rfl w0.heap.size 47 i0 _ 5 40 Tryz.underlying31 hi.out hz0.out hz1.out hz2.out rfl (by decide) (.slice av np cv) np (pre.flatMap itLay.cells) rfl (World.ownsRow.alloc H2.out _) ⟨V.heap.size, 0, none⟩ 1 1 (itLay.cells x) rfl rfl hnews.out (fun u hu => itLay.one x u hu) ?_ ?_ ?_ ?_)
    case refine_1 => unfold maxLen; omega
    case refine_2 => omega
    case refine_3 => first | omega | (simp; omega)
    intro v' w1 o1 g1 f1
    obtain ⟨a1, c1, rfl⟩ := owns_shape o1
    obtain ⟨k1, k2, k3, k4, k5⟩ := Boxed.appended H1.out (by decide) H2.out hsV hsB o1 g1
    have c1' := k1.cell
    have f1' := k1.frozen
    have KP := Lib.hid (box_kp H1.out g1 (fun g hg => by
      rcases f1 g hg with e | e
      · exact .inl e
      · refine .inr ?_
        simp at e
        omega) k2 k3 k5)
    have HF := Lib.hid (k4.from (W4.heap.size))
    have HO : Hid (OwnS itLay 47 (w1.setCell ⟨B, 0, none⟩ (.slice a1 (np + 1) c1)) w0.heap.size (.slice a1 (np + 1) c1) (pre ++ [x])) := by
      refine Lib.hid ?_
      unfold OwnS
      rw [List.length_append, ← HN.out, List.flatMap_append]
      have := k3
      show World.ownsRow _ _ _ 5 _ _ _
      simpa using this
    have HB2 := Lib.hid (H3.out.trans k5)
    have HK2 := Lib.hid k2
    clear o1 g1 f1 k1 k2 k3 k4 k5 hnews c0 f0 x0 x1 x2 x3 x4
    gi_wp2
    exact ⟨HF.out, KP.out, _, HK2.out, HO.out, HB2.out⟩
  case done =>
    rintro D ys V hD rfl ⟨v, h1, h2, h3⟩ hK
    obtain ⟨av, cv, rfl, -⟩ := OwnS.rd h2
    have c0 := h1.cell
    gi_wp2
    refine ⟨by simp, .inl ⟨_, _, rfl, run_takeDeferred hK, ?_⟩⟩
    refine ⟨_, results_tmp rfl _ _ _, .slice av (allV (ps.map PgV.pg) root).length cv, rfl, ?_, h3.grown (grownBy_putObj' V D _) h3.size (fun k e => by cases e; have := h3.size; omega)⟩
    exact ownsRow_putObj h2 _ hK rfl
  case stop =>
    rintro D pre V _ _ h _
    exact h.elim

set_option maxRecDepth 100000 in
set_option maxHeartbeats 800000 in
theorem iAll_any : CAll 15 := by
  intro root a n cap ps w h hn hp ht
  obtain ⟨W2, hW2⟩ : ∃ W2, W2 = (w.alloc (.cells #[.int .i64 root, .slice a n cap] 26)).alloc (.cells #[] 47) := ⟨_, rfl⟩
  have b2 : Below w.heap.size w W2 := by subst hW2; exact ((Below.refl _ _).alloc (Nat.le_refl _) _).alloc (by simp) _
  have s2 : W2.heap.size = w.heap.size + 1 + 1 := by subst hW2; simp
  have o2 : W2.ownsRow w.heap.size 47 5 (.slice (some ⟨w.heap.size + 1, 0, none⟩) 0 0) 0 [] := by
    subst hW2
    exact own_nil (w.alloc (.cells #[.int .i64 root, .slice a n cap] 26)) 47 5 w.heap.size (w.heap.size + 1) (by simp) (by omega)
  have k1 : Loc W2 w.heap.size #[.int .i64 root, .slice a n cap] := by subst hW2; exact (Loc.new w _ _).alloc _
  have CA := Lib.hid (iAppendSeq_any root a n cap ps w h hn hp ht W2.heap.size (w.heap.size + 1) 0 (W2.alloc (.cells #[.int .i64 root, .slice a n cap] 26)) (heap_alloc_new _ _) (b2.trans ((new_below W2 _).mono b2.size)) (World.ownsRow.alloc o2 _) (by omega))
  clear h hp o2 b2 s2
  go_enter Tryz.func15, Tryz.ntmps15
  go_wp2_with fail
  rw [← hW2]
  clear hW2
  refine (iItemsSeq_any root a n cap W2).mono ?_
  rintro e w3 ⟨rfl, rfl⟩
  go_wp2_with fail
  refine CA.out.mono ?_
  rintro e w4 ⟨v4, rfl, o4, b4⟩
  obtain ⟨a4, c4, rfl, -⟩ := OwnS.rd o4
  go_wp2
  go_ret
  exact ⟨_, rfl, o4, b4⟩
end Go.Proofs.YtfefggcfeppeiaaGreat
