/- The program's visitedNodes and Visited. -/
import Derived.Test.YtfefggcfeppeiaaGreatLookI7ZLooks
import Derived.Test.YtfefggcfeppeiaaGreatBookI9ZLooks
import Derived.Test.YtfefggcfeppeiaaGreatLookI4ZLooks
namespace Go.Proofs.YtfefggcfeppeiaaGreat
open Go.RowKit Go.Shelf
attribute [local go_sem] Oper.semAt_some

theorem KeepsFrom.of_below {A : Nat} {W W' : World} (h : Below W.heap.size W W') : KeepsFrom A W W' := ⟨h.size, fun k _ _ ho _ => (h.block k (heap_lt ho)).trans ho⟩
theorem box_int {n₀ B : Nat} {V : World} {T : TypeId} {x : Int} {v : Value} (hv : Boxed V B T v) (hb : Below n₀ V (V.setCell ⟨B, 0, none⟩ (.int .i64 x))) : KpB n₀ B V (V.setCell ⟨B, 0, none⟩ (.int .i64 x)) where
  below := hb
  cells k cs T fr hk hm := by
    rw [Below.heap_setCell _ _ _ _ (by intro e; exact hm (.inl e))]
    exact hk
  more k hk := by
    rcases hk with e | ⟨u, hu, hown⟩
    · exact .inl (.inl e)
    · rw [(hv.set (.int .i64 x)).cell] at hu
      cases hu
      cases hown
  lt _ k hk := by
    rcases hk with e | ⟨u, hu, hown⟩
    · rw [e]; exact (hv.set (.int .i64 x)).lt
    · rw [(hv.set (.int .i64 x)).cell] at hu
      cases hu
      cases hown
theorem below_turn2 {n A : Nat} {w W W' : World} {row : Option Nat} (h : Below n w W) (hA : n ≤ A) (hg : W.grownBy W' row) (hr : ∀ r, row = some r → A ≤ r ∧ ∃ o : Obj, W.heap[r]? = some o ∧ o.isCells = false) (hn : n ≤ w.heap.size := by exact Nat.le_refl _) : Below n w W' :=
  h.grown hg (Nat.le_trans hn h.size) (fun k e => Nat.le_trans hA (hr k e).1)
/-- What visitedNodes hands back: an iterator. -/
def RetV (ps : List PgV) (w0 : World) (B : Nat) (M : List Pg) (w : World) (e : Ending) (w' : World) : Prop :=
  ∃ (gf : Nat) (lb : Array Value) (L : List {p : PgV // p ∈ ps}), e = .returned (.func (.func gf) #[] lb) ∧ Below w.heap.size w w' ∧ (∀ args w, (callFunc gf args).run Tryz.prog w = .ok (.enter gf args) w) ∧ L.map (fun p => p.1.pg) = M ∧
    ((∀ k, Mine B w' k → k < w.heap.size) → SeqO Tryz.prog gf lb (ndEnc (ps := ps)) (KpB w0.heap.size B) (fun xs => xs = L) (fun pre => pre <+: L) L.length w')

set_option maxRecDepth 100000 in
set_option maxHeartbeats 800000 in
theorem none1_any (ps : List PgV) (Kp : World → World → Prop) (w : World) : SeqO Tryz.prog 58 #[] (ndEnc (ps := ps)) Kp (fun xs => xs = []) (fun pre => pre <+: []) ([] : List {p : PgV // p ∈ ps}).length w := by
  intro l J Jx W _ _ _ _ h0
  go_enter Tryz.func58, Tryz.ntmps58
  go_wp2
  go_end0
  exact ⟨⟨_, rfl⟩, .inl ⟨_, rfl, h0⟩⟩

set_option maxRecDepth 100000 in
set_option maxHeartbeats 1600000 in
theorem iVN_any (root : Int) (c : Bx) (a : Option Addr) (n cap : Nat) (ps : List PgV) (w0 : World) (h : RdP w0 a n cap ps) (hn : n ≤ 1048576) (hp : ∀ p ∈ ps, p.n ≤ 1048576) (ht : totG (ps.map PgV.pg) ≤ 1048576) (B : Nat) (w : World) (hw : Below w0.heap.size w0 w) :
    Calls Tryz.prog 31 #[.agg #[.int .i64 root, .slice a n cap], .agg #[.int .i64 c.x0, .int .i64 c.y0, .int .i64 c.x1, .int .i64 c.y1]] w (RetV ps w0 B (if bookOkV (ps.map PgV.pg) root then visV (ps.map PgV.pg) c 12 root else []) w) := by
  obtain ⟨W0, hW0⟩ : ∃ W0, W0 = (w.alloc (.cells #[.int .i64 root, .slice a n cap] 26)).alloc (.cells #[.int .i64 c.x0, .int .i64 c.y0, .int .i64 c.x1, .int .i64 c.y1] 28) := ⟨_, rfl⟩
  have b0 : Below w.heap.size w W0 := by subst hW0; exact ((Below.refl _ _).alloc (Nat.le_refl _) _).alloc (by simp) _
  have K0 : Loc W0 w.heap.size #[.int .i64 root, .slice a n cap] := by subst hW0; exact (Loc.new w _ _).alloc _
  have KW : Loc W0 (w.heap.size + 1) #[.int .i64 c.x0, .int .i64 c.y0, .int .i64 c.x1, .int .i64 c.y1] := by
    subst hW0
    have := Loc.new (w.alloc (.cells #[.int .i64 root, .slice a n cap] 26)) #[.int .i64 c.x0, .int .i64 c.y0, .int .i64 c.x1, .int .i64 c.y1] 28
    rwa [World.size_alloc] at this
  have C := Lib.hid (iBookOk_any root a n cap ps W0 (h.below (hw.trans (b0.mono hw.size))) (by omega) (fun p hq => Nat.le_trans (hp p hq) (by decide)) (Nat.le_trans ht (by decide)))
  cases hok : bookOkV (ps.map PgV.pg) root with
  | false =>
    rw [hok] at C
    clear hok hp ht h
    go_enter Tryz.func31, Tryz.ntmps31
    go_wp2_with fail
    rw [← hW0]
    clear hW0
    refine C.out.mono ?_
    rintro e w1 ⟨rfl, b1⟩
    have HB := Lib.hid (b0.trans (b1.mono b0.size))
    clear K0 KW C b0 b1
    go_wp2
    go_ret
    exact ⟨_, _, [], rfl, HB.out, enters_of Tryz.func58 (by kernel_rfl) rfl, rfl, fun _ => none1_any ps _ w1⟩
  | true =>
    have HOK := Lib.hid hok
    have HR := Lib.hid h
    rw [hok] at C
    clear hok hp ht h
    go_enter Tryz.func31, Tryz.ntmps31
    go_wp2_with fail
    rw [← hW0]
    clear hW0
    refine C.out.mono ?_
    rintro e w1 ⟨rfl, b1⟩
    have K1 := K0.below b1
    have KW1 := KW.below b1
    have y0 := K1.2.1 0
    have y1 := K1.2.1 1
    have x0 := KW1.2.1 0
    have x1 := KW1.2.1 1
    have x2 := KW1.2.1 2
    have x3 := KW1.2.1 3
    simp at y0 y1 x0 x1 x2 x3
    have HB := Lib.hid (b0.trans (b1.mono b0.size))
    clear K0 KW K1 KW1 C b0 b1
    go_wp2_with fail
    refine (iVisitedFrom_any root root 1 c a n cap w1).mono ?_
    rintro e w2 ⟨rfl, hw2⟩
    have hs := HB.out.size
    have b2 : Below w1.heap.size w1 w2 := by subst hw2; exact ((((Below.refl _ _).alloc (Nat.le_refl _) _).alloc (by simp) _).alloc (by simp; omega) _).alloc (by simp; omega) _
    have HB2 := Lib.hid (HB.out.trans (b2.mono HB.out.size))
    have HF : Hid ((∀ k, Mine B w2 k → k < w.heap.size) → SeqO Tryz.prog 81 #[.pointer (some ⟨w1.heap.size, 0, none⟩), .pointer (some ⟨w1.heap.size + 1, 0, none⟩), .pointer (some ⟨w1.heap.size + 1 + 1 + 1, 0, none⟩), .pointer (some ⟨w1.heap.size + 1 + 1, 0, none⟩)] (ndEnc (ps := ps)) (KpB w0.heap.size B) (fun xs => xs = visS ps c 12 root) (fun pre => pre <+: visS ps c 12 root) (visS ps c 12 root).length w2) := by
      refine Lib.hid (fun hm => ?_)
      have hB : B < w.heap.size := hm B (.inl rfl)
      have hB1 : B < w1.heap.size := by omega
      have hbd : Bd B w1 := fun k hk => by
        have := hm k ((mine_same (b2.block B hB1)).2 hk)
        omega
      obtain ⟨h6, k1, k2, k4, k3⟩ := held4 hbd hB1 #[.int .i64 root, .slice a n cap] #[.int .i64 root] #[.int .i64 c.x0, .int .i64 c.y0, .int .i64 c.x1, .int .i64 c.y1] #[.int .i64 1] 26 3 28 3
      rw [← hw2] at k1 k2 k3 k4
      exact vis1_any root c a n cap ps w0 HR.out HOK.out B 11 root _ _ _ _ w2 (Nat.le_refl _) (reach_root HOK.out) k1 k2 k3 k4 (hw.trans (HB2.out.mono hw.size)) (hbd.below b2 hB1) (Nat.lt_of_lt_of_le hB1 b2.size)
    clear hw2 b2 y0 y1 x0 x1 x2 x3
    go_wp2
    go_ret
    exact ⟨_, _, visS ps c 12 root, rfl, HB2.out, enters_of Tryz.func81 (by kernel_rfl) rfl, visS_map ps c 12 root, HF.out⟩

set_option maxRecDepth 100000 in
set_option maxHeartbeats 1600000 in
theorem iVisited_any : CVisited 22 := by
  intro root c a n cap ps w h hn hp ht
  obtain ⟨W3, hW3⟩ : ∃ W3, W3 = ((w.alloc (.cells #[.int .i64 root, .slice a n cap] 26)).alloc (.cells #[.int .i64 c.x0, .int .i64 c.y0, .int .i64 c.x1, .int .i64 c.y1] 28)).alloc (.cells #[.int .i64 0] 3) := ⟨_, rfl⟩
  have b3 : Below w.heap.size w W3 := by subst hW3; exact (((Below.refl _ _).alloc (Nat.le_refl _) _).alloc (by simp) _).alloc (by simp; omega) _
  have s3 : W3.heap.size = w.heap.size + 1 + 1 + 1 := by subst hW3; simp
  have hbx : Boxed W3 (w.heap.size + 1 + 1) 3 (.int .i64 ((0 : Nat) : Int)) := by
    subst hW3
    have := Boxed.new ((w.alloc (.cells #[.int .i64 root, .slice a n cap] 26)).alloc (.cells #[.int .i64 c.x0, .int .i64 c.y0, .int .i64 c.x1, .int .i64 c.y1] 28)) 3 (.int .i64 0)
    rw [World.size_alloc, World.size_alloc] at this
    exact this
  have C := Lib.hid (iVN_any root c a n cap ps w h hn hp ht (w.heap.size + 1 + 1) W3 b3)
  have hVL : (if bookOkV (ps.map PgV.pg) root then visV (ps.map PgV.pg) c 12 root else []).length = visitedV (ps.map PgV.pg) root c := by
    unfold visitedV
    split <;> rfl
  have hVB : visitedV (ps.map PgV.pg) root c ≤ 5592405 := by
    unfold visitedV
    split
    · rename_i hk
      have := vis_len c (ok_len hk) 12 root
      rw [visN12] at this
      exact this
    · exact Nat.zero_le _
  clear h hp ht
  refine (callsIn_wide (n := 4)).1 ?_
  refine callsIn_of_wp_marks Tryz.func22 rfl trivial ?_ rfl
  simp only [Tryz.ntmps22, List.size_toArray, List.length_cons, List.length_nil, Nat.reduceAdd, Nat.reduceSub, Array.replicate_succ, Array.replicate_zero, List.push_toArray, List.append_toArray, List.nil_append, List.cons_append]
  gi_wp2_with fail
  rw [← hW3]
  refine ⟨trivial, (callsIn_wide.2 C.out).mono ?_⟩
  rintro e w4 ⟨gf, lb, L, rfl, b4, heg, hLM, hST⟩
  have hb4 : Boxed w4 (w.heap.size + 1 + 1) 3 (.int .i64 ((0 : Nat) : Int)) := (b4.block _ (by omega)).trans hbx
  have ST := hST (fun k hk => by
    rcases hk with e | ⟨v, hv, hown⟩
    · omega
    · rw [hb4.cell] at hv
      cases hv
      cases hown)
  have hLL : L.length = visitedV (ps.map PgV.pg) root c := by rw [← hVL, ← hLM, List.length_map]
  have hB4 := b3.trans (b4.mono b3.size)
  have hs4 := b4.size
  clear C hST hW3 b3 b4 hbx hLM hVL
  gi_wp2_with fail
  refine range_O (gf := gf) (lb := lb) rfl heg ST (fun h k => h.trans k)
    (fun V l o o' hl h1 h2 _ => KpB.putObj o' h1 h2 (by omega) (by omega)) (Below.refl _ _) (fun _ => rfl)
    (fun pre V => Boxed V (w.heap.size + 1 + 1) 3 (.int .i64 (pre.length : Int)) ∧ Below w.heap.size w V) (fun _ _ => False) ?hI (fun _ _ _ _ h _ _ => h) ⟨hb4, hB4⟩
    (fun y a' _ => a' = { tmps := #[.agg #[.int .i64 root, .slice a n cap], .agg #[.int .i64 c.x0, .int .i64 c.y0, .int .i64 c.x1, .int .i64 c.y1], .pointer (some ⟨w.heap.size, 0, none⟩), .pointer (some ⟨w.heap.size + 1, 0, none⟩), .int .i64 0, .pointer (some ⟨w.heap.size + 1 + 1, 0, none⟩), .agg #[.int .i64 root, .slice a n cap], .agg #[.int .i64 c.x0, .int .i64 c.y0, .int .i64 c.x1, .int .i64 c.y1], .func (.func gf) #[] lb, .agg #[.bool y.1.leaf, .slice y.1.a y.1.n y.1.cap], undef, undef, undef], defers := [] }) (fun _ _ _ _ _ _ h _ _ => h) ?assign ?body ?done ?stop
  case hI =>
    rintro pre V V' row ⟨h1, h2⟩ hg hr
    exact ⟨h1.kept hg (fun e => by have := (hr _ e.symm).1; omega), below_turn2 h2 (by omega) hg hr⟩
  case assign =>
    rintro l pre y V K hi hK
    have hres := hK { tmps := #[.agg #[.int .i64 root, .slice a n cap], .agg #[.int .i64 c.x0, .int .i64 c.y0, .int .i64 c.x1, .int .i64 c.y1], .pointer (some ⟨w.heap.size, 0, none⟩), .pointer (some ⟨w.heap.size + 1, 0, none⟩), .int .i64 0, .pointer (some ⟨w.heap.size + 1 + 1, 0, none⟩), .agg #[.int .i64 root, .slice a n cap], .agg #[.int .i64 c.x0, .int .i64 c.y0, .int .i64 c.x1, .int .i64 c.y1], .func (.func gf) #[] lb, .agg #[.bool y.1.leaf, .slice y.1.a y.1.n y.1.cap], undef, undef, undef], defers := [] } V (KeepsFrom.refl _ _) (KpB.refl _ _ _) hi rfl
    clear hK
    dsimp only [ndEnc]
    simp
    gi_wp2
    exact hres
  case body =>
    rintro l pre y a' V hl ⟨h1, h2⟩ rfl hlen
    have c0 := h1.cell
    have f0 := h1.frozen
    have hnp : pre.length + 1 ≤ 5592405 := by omega
    have e1 : ((pre.length : Int) + 1) = (((pre ++ [y]).length : Nat) : Int) := by simp
    have H1 := Lib.hid h1
    have HB := Lib.hid (h2.setCell (p := ⟨w.heap.size + 1 + 1, 0, none⟩) (by show w.heap.size ≤ w.heap.size + 1 + 1; omega) (.int .i64 ((pre.length : Int) + 1)))
    have HB2 := Lib.hid ((Below.refl w.heap.size V).setCell (p := ⟨w.heap.size + 1 + 1, 0, none⟩) (by show w.heap.size ≤ w.heap.size + 1 + 1; omega) (.int .i64 ((pre.length : Int) + 1)))
    replace e1 := Lib.hid e1
    clear h1 h2
    gi_wp2
    exact ⟨(KeepsOthers.setCell _ _ _).from _, box_int H1.out HB2.out, by rw [← e1.out]; exact H1.out.set _, HB.out⟩
  case done =>
    rintro D ys V hD rfl ⟨h1, h2⟩ hK
    have c0 := h1.cell
    rw [hLL] at c0
    gi_wp2
    refine ⟨by simp, .inl ⟨_, _, rfl, run_takeDeferred hK, ?_⟩⟩
    exact ⟨_, results_tmp rfl _ _ _, rfl, h2.grown (grownBy_putObj' V D _) h2.size (fun k e => by cases e; omega)⟩
  case stop =>
    rintro D pre V _ _ h _
    exact h.elim
end Go.Proofs.YtfefggcfeppeiaaGreat
