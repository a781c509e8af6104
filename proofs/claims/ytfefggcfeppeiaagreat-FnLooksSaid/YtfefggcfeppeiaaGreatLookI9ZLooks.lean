/- The program's Search. -/
import Derived.Test.YtfefggcfeppeiaaGreatLookI8ZLooks
import Derived.Test.YtfefggcfeppeiaaGreatLookI5ZLooks
namespace Go.Proofs.YtfefggcfeppeiaaGreat
open Go.RowKit Go.Shelf
attribute [local go_sem] Oper.semAt_some

theorem hits_pre {ps : List PgV} (c : Bx) (hps : ∀ p ∈ ps, p.xs.length ≤ 4) : ∀ pre : List {p : PgV // p ∈ ps}, (pre.flatMap (fun p => hitP c p.1.pg)).length ≤ pre.length * 4
  | [] => by simp
  | p :: pre => by
    have h1 := hits_pre c hps pre
    have h2 := hit_le (c := c) (p := p.1.pg)
    have h3 := hps p.1 p.2
    have h4 : p.1.pg.xs = p.1.xs := rfl
    rw [h4] at h2
    rw [List.flatMap_cons, List.length_append, List.length_cons, Nat.add_mul, Nat.one_mul]
    omega
/-- What Search holds: its list's box and row, the rectangle. -/
structure SrS (w : World) (B : Nat) (c : Bx) (acc : List It) (v : Value) (V : World) : Prop where
  bx : Boxed V B 31 v
  own : OwnS itLay 47 V w.heap.size v acc
  rect : Loc V (w.heap.size + 1) #[.int .i64 c.x0, .int .i64 c.y0, .int .i64 c.x1, .int .i64 c.y1]
  below : Below w.heap.size w V
  ne : ∀ g, v.ownBlock = some g → g ≠ w.heap.size + 1
section
variable {w V V' : World} {B : Nat} {c : Bx} {acc : List It} {v : Value}
theorem SrS.all (h : SrS w B c acc v V) (hb : Below V.heap.size V V') : SrS w B c acc v V' := ⟨(hb.block B h.bx.lt).trans h.bx, OwnS.below h.own hb, h.rect.below hb, h.below.trans (hb.mono h.below.size), h.ne⟩
theorem SrS.turn {A : Nat} {row : Option Nat} (h : SrS w B c acc v V) (hg : V.grownBy V' row) (hr : ∀ r, row = some r → A ≤ r ∧ ∃ o : Obj, V.heap[r]? = some o ∧ o.isCells = false) (hB : B < A) (hw : w.heap.size + 1 < A) : SrS w B c acc v V' := by
  refine ⟨h.bx.kept hg (fun e => by have := (hr _ e.symm).1; omega), OwnS.kept h.own hg ?_, h.rect.turn hg hr hw, below_turn2 h.below (by omega) hg hr, h.ne⟩
  rcases h.own.2 with ⟨e2, _⟩ | ⟨g', c', cur, e2, _, hh, _⟩
  · exact .inl (by rw [e2]; rfl)
  · refine .inr (fun e => ?_)
    obtain ⟨-, ob, ho, hc⟩ := hr g' (by rw [← e, e2]; rfl)
    rw [hh] at ho
    cases ho
    cases hc
theorem SrS.bd (h : SrS w B c acc v V) : Bd B V := fun k hk => by
  rcases hk with e | ⟨u, hu, hown⟩
  · rw [e]; exact h.bx.lt
  · rw [h.bx.cell] at hu
    cases hu
    exact (World.ownsRow.lt h.own k hown).2
end

set_option maxRecDepth 100000 in
set_option maxHeartbeats 3200000 in
theorem iSearch_any : CSearch 6 := by
  intro root c a n cap ps w h hn hp ht
  obtain ⟨i0, hi, hz0, hz1, hz2⟩ := info_parts Tryz.infoItem
  replace hi := Lib.hid hi
  replace hz0 := Lib.hid hz0
  replace hz1 := Lib.hid hz1
  replace hz2 := Lib.hid hz2
  obtain ⟨W3, hW3⟩ : ∃ W3, W3 = ((w.alloc (.cells #[.int .i64 root, .slice a n cap] 26)).alloc (.cells #[.int .i64 c.x0, .int .i64 c.y0, .int .i64 c.x1, .int .i64 c.y1] 28)).alloc (.cells #[] 47) := ⟨_, rfl⟩
  obtain ⟨W4, hW4⟩ : ∃ W4, W4 = W3.alloc (.cells #[.slice (some ⟨w.heap.size + 1 + 1, 0, none⟩) 0 0] 31) := ⟨_, rfl⟩
  have b3 : Below w.heap.size w W3 := by subst hW3; exact (((Below.refl _ _).alloc (Nat.le_refl _) _).alloc (by simp) _).alloc (by simp; omega) _
  have s3 : W3.heap.size = w.heap.size + 1 + 1 + 1 := by subst hW3; simp
  have b4 : Below W3.heap.size W3 W4 := by subst hW4; exact new_below _ _
  have s4 : W4.heap.size = w.heap.size + 1 + 1 + 1 + 1 := by subst hW4; simp [s3]
  have o3 : OwnS itLay 47 W3 w.heap.size (.slice (some ⟨w.heap.size + 1 + 1, 0, none⟩) 0 0) [] := by
    subst hW3
    exact own_nil ((w.alloc (.cells #[.int .i64 root, .slice a n cap] 26)).alloc (.cells #[.int .i64 c.x0, .int .i64 c.y0, .int .i64 c.x1, .int .i64 c.y1] 28)) 47 5 w.heap.size (w.heap.size + 1 + 1) (by simp) (by omega)
  have r3 : Loc W3 (w.heap.size + 1) #[.int .i64 c.x0, .int .i64 c.y0, .int .i64 c.x1, .int .i64 c.y1] := by
    subst hW3
    have := (Loc.new (w.alloc (.cells #[.int .i64 root, .slice a n cap] 26)) #[.int .i64 c.x0, .int .i64 c.y0, .int .i64 c.x1, .int .i64 c.y1] 28).alloc (.cells #[] 47)
    rwa [World.size_alloc] at this
  have S4 : SrS w (w.heap.size + 1 + 1 + 1) c [] (.slice (some ⟨w.heap.size + 1 + 1, 0, none⟩) 0 0) W4 := ⟨by
    have := Boxed.new W3 31 (.slice (some ⟨w.heap.size + 1 + 1, 0, none⟩) 0 0)
    rw [s3] at this
    rw [hW4]
    exact this, OwnS.below o3 b4, r3.below b4, b3.trans (b4.mono b3.size), fun g hg => by
    obtain rfl : w.heap.size + 1 + 1 = g := by simpa [Value.ownBlock] using hg
    omega⟩
  have C := Lib.hid (iVN_any root c a n cap ps w h hn hp ht (w.heap.size + 1 + 1 + 1) W4 S4.below)
  have hps4 : bookOkV (ps.map PgV.pg) root = true → ∀ p ∈ ps, p.xs.length ≤ 4 := fun hk p hq => ok_len hk p.pg (List.mem_map_of_mem hq)
  have HR := Lib.hid h
  have HPS := Lib.hid hp
  obtain ⟨M, hM⟩ : ∃ M, M = (if bookOkV (ps.map PgV.pg) root then visV (ps.map PgV.pg) c 12 root else []) := ⟨_, rfl⟩
  rw [← hM] at C
  have hVL : searchV (ps.map PgV.pg) root c = M.flatMap (hitP c) := by
    rw [hM]
    unfold searchV hitsV
    split <;> rfl
  have hML : M.length ≤ 5592405 := by
    rw [hM]
    split
    · rename_i hk
      have := vis_len c (ok_len hk) 12 root
      rw [visN12] at this
      exact this
    · exact Nat.zero_le _
  have hM4 : M ≠ [] → ∀ p ∈ ps, p.xs.length ≤ 4 := fun hne => by
    refine hps4 ?_
    cases hk : bookOkV (ps.map PgV.pg) root with
    | true => rfl
    | false => rw [hM, hk] at hne; exact absurd rfl hne
  rw [hVL]
  clear h hp ht hps4 hM hVL o3 r3 b3 b4 s3
  refine (callsIn_wide (n := 4)).1 ?_
  refine callsIn_of_wp_marks Tryz.func6 rfl trivial ?_ rfl
  simp only [Tryz.ntmps6, List.size_toArray, List.length_cons, List.length_nil, Nat.reduceAdd, Nat.reduceSub, Array.replicate_succ, Array.replicate_zero, List.push_toArray, List.append_toArray, List.nil_append, List.cons_append]
  gi_wp2_with fail
  rw [← hW3, ← hW4]
  refine ⟨trivial, (callsIn_wide.2 C.out).mono ?_⟩
  rintro e w4 ⟨gf, lb, L, rfl, b5, heg, hLM, hST⟩
  have S5 := S4.all b5
  have ST := hST (fun k hk => by
    rcases hk with e | ⟨v, hv, hown⟩
    · omega
    · rw [S5.bx.cell] at hv
      cases hv
      obtain rfl : w.heap.size + 1 + 1 = k := by simpa [Value.ownBlock] using hown
      omega)
  have hLL : L.length ≤ 5592405 := by rw [← hLM, List.length_map] at hML; exact hML
  have hFM : M.flatMap (hitP c) = L.flatMap (fun p => hitP c p.1.pg) := by rw [← hLM, List.flatMap_map]
  have HFM := Lib.hid hFM
  have hL4 : ∀ (y : {p : PgV // p ∈ ps}) (pre : List {p : PgV // p ∈ ps}), pre.length < L.length → ∀ p ∈ ps, p.xs.length ≤ 4 := fun y pre hl => hM4 (fun e => by
    rw [e] at hLM
    have := congrArg List.length hLM
    rw [List.length_map] at this
    simp at this
    rw [this] at hl
    simp at hl)
  have hs5 := b5.size
  clear C hST hW3 hW4 b5 S4 hLM hML hM4 hFM
  gi_wp2_with fail
  refine range_O (gf := gf) (lb := lb) rfl heg ST (fun h k => h.trans k)
    (fun V l o o' hl h1 h2 _ => KpB.putObj o' h1 h2 (by omega) (by omega)) (Below.refl _ _) (fun _ => rfl)
    (fun pre V => ∃ v, SrS w (w.heap.size + 1 + 1 + 1) c (pre.flatMap (fun p => hitP c p.1.pg)) v V) (fun _ _ => False) ?hI (fun _ _ _ _ h _ _ => h) ⟨_, S5⟩
    (fun y a' V => ∃ Bx, V.heap[Bx]? = some (.cells #[.bool y.1.leaf, .slice y.1.a y.1.n y.1.cap] 59 (0, 0)) ∧ a' = { tmps := #[.agg #[.int .i64 root, .slice a n cap], .agg #[.int .i64 c.x0, .int .i64 c.y0, .int .i64 c.x1, .int .i64 c.y1], .pointer (some ⟨w.heap.size, 0, none⟩), .pointer (some ⟨w.heap.size + 1, 0, none⟩), .slice none 0 0, .pointer (some ⟨w.heap.size + 1 + 1 + 1, 0, none⟩), .pointer (some ⟨Bx, 0, none⟩), undef, undef, .slice (some ⟨w.heap.size + 1 + 1, 0, none⟩) 0 0, .agg #[.int .i64 root, .slice a n cap], .agg #[.int .i64 c.x0, .int .i64 c.y0, .int .i64 c.x1, .int .i64 c.y1], .func (.func gf) #[] lb, .agg #[.bool y.1.leaf, .slice y.1.a y.1.n y.1.cap], undef, undef, undef, undef, undef, undef, undef, undef, undef, undef, undef, undef, undef, undef, undef, undef, undef], defers := [] }) ?hAx ?assign ?body ?done ?stop
  case hI =>
    rintro pre V V' row ⟨v, hS⟩ hg hr
    exact ⟨v, hS.turn hg hr (by omega) (by omega)⟩
  case hAx =>
    rintro y a' _ V V' row ⟨Bx, h1, h2⟩ hg hr
    refine ⟨Bx, (hg.block Bx (heap_lt h1) (fun e => ?_)).trans h1, h2⟩
    obtain ⟨-, ob, ho, hc⟩ := hr Bx e.symm
    rw [h1] at ho
    cases ho
    cases hc
  case assign =>
    rintro l pre y V K ⟨v, hS⟩ hK
    have hal := new_below V (.cells #[.bool y.1.leaf, .slice y.1.a y.1.n y.1.cap] 59)
    have hres := hK { tmps := #[.agg #[.int .i64 root, .slice a n cap], .agg #[.int .i64 c.x0, .int .i64 c.y0, .int .i64 c.x1, .int .i64 c.y1], .pointer (some ⟨w.heap.size, 0, none⟩), .pointer (some ⟨w.heap.size + 1, 0, none⟩), .slice none 0 0, .pointer (some ⟨w.heap.size + 1 + 1 + 1, 0, none⟩), .pointer (some ⟨V.heap.size, 0, none⟩), undef, undef, .slice (some ⟨w.heap.size + 1 + 1, 0, none⟩) 0 0, .agg #[.int .i64 root, .slice a n cap], .agg #[.int .i64 c.x0, .int .i64 c.y0, .int .i64 c.x1, .int .i64 c.y1], .func (.func gf) #[] lb, .agg #[.bool y.1.leaf, .slice y.1.a y.1.n y.1.cap], undef, undef, undef, undef, undef, undef, undef, undef, undef, undef, undef, undef, undef, undef, undef, undef, undef], defers := [] } _ ((KeepsOthers.alloc V _).from _) (KpB.all hal hS.below.size hS.bx.lt) ⟨v, hS.all hal⟩ ⟨V.heap.size, heap_alloc_new _ _, rfl⟩
    clear hK hal
    dsimp only [ndEnc]
    gi_wp2
    exact hres
  case body =>
    rintro l pre y a' V hl ⟨v, hS⟩ ⟨Bx, hy, rfl⟩ hlen
    have hx4 := hL4 y pre hlen
    have hacc := hits_pre c hx4 pre
    have hyn := HPS.out y.1 y.2
    have hyl := hx4 y.1 y.2
    have C2 := Lib.hid (iItemsOf_any y.1.leaf y.1.a y.1.n y.1.cap y.1.xs V ((HR.out.2 y.1 y.2).below hS.below) (by omega))
    obtain ⟨L2, hL2⟩ : ∃ L2, (if y.1.leaf then y.1.xs else []) = L2 := ⟨_, rfl⟩
    rw [hL2] at C2
    have hL2l : L2.length ≤ 4 := by
      rw [← hL2]
      split
      · exact hyl
      · exact Nat.zero_le _
    have HH : Hid (hitP c y.1.pg = L2.filter (meetsIt c)) := by
      refine Lib.hid ?_
      rw [← hL2]
      unfold hitP
      show (if y.1.leaf then y.1.xs.filter (meetsIt c) else []) = _
      split <;> rfl
    have hyc : ∀ o, V.cell? ⟨Bx, o, none⟩ = (#[Value.bool y.1.leaf, .slice y.1.a y.1.n y.1.cap] : Array Value)[o]? := fun o => by simp [World.cell?, hy]
    have t0 := hyc 0
    have t1 := hyc 1
    simp at t0 t1
    have HS := Lib.hid hS
    clear hyc hy hS hyn hyl hx4 hL2
    gi_wp2_with fail
    refine ⟨trivial, (CallsIn.inRound l (callsIn_wide.2 C2.out)).mono ?_⟩
    rintro e w2 ⟨v2, rfl, o2, b2⟩
    obtain ⟨a2, c2, rfl, -⟩ := OwnS.rd o2
    obtain ⟨n2, hn2⟩ : ∃ n2, n2 = L2.length := ⟨_, rfl⟩
    have HN2 := Lib.hid hn2
    have o2' : w2.ownsRow V.heap.size 47 5 (.slice a2 n2 c2) n2 (L2.flatMap itLay.cells) := by
      have := o2
      unfold OwnS at this
      rw [← hn2] at this
      exact this
    have HR2 := Lib.hid (HeldRow.new HS.out.bd HS.out.bx.lt b2 o2')
    have KP2 : Hid (KpB w.heap.size (w.heap.size + 1 + 1 + 1) V w2) := Lib.hid (KpB.all b2 HS.out.below.size HS.out.bx.lt)
    have KF2 : Hid (KeepsFrom w4.heap.size V w2) := Lib.hid (KeepsFrom.of_below b2)
    have HS2 := Lib.hid (HS.out.all b2)
    rw [← hn2] at hL2l
    rw [← hn2]
    have hpl : pre.length * 4 ≤ 22369620 := by omega
    obtain ⟨va, vc, rfl, -⟩ := OwnS.rd HS2.out.own
    obtain ⟨vbase, hvb⟩ : ∃ x, x = V.heap.size := ⟨_, rfl⟩
    rw [← hvb] at HR2
    clear o2 o2' b2 C2 t0 t1 HS hn2 hvb
    gi_wp2_with fail
    gi_loopw [17] (fun i wr => ∃ (j : Nat) (av : Option Addr) (cv na : Nat) (acc : List It), j ≤ n2 ∧ i = .int .i64 (j : Int) ∧ Hid (acc.length = na) ∧ na ≤ pre.length * 4 + j ∧ Hid (acc = pre.flatMap (fun p => hitP c p.1.pg) ++ (L2.take j).filter (meetsIt c)) ∧ Hid (SrS w (w.heap.size + 1 + 1 + 1) c acc (.slice av na cv) wr) ∧ Hid (HeldRow (w.heap.size + 1 + 1 + 1) wr vbase 47 5 (.slice a2 n2 c2) n2 (L2.flatMap itLay.cells)) ∧ Hid (KpB w.heap.size (w.heap.size + 1 + 1 + 1) V wr) ∧ Hid (KeepsFrom w4.heap.size V wr)) (fun i _ => n2 - (intOf i).toNat)
    case atStart => exact ⟨0, va, vc, _, _, Nat.zero_le _, rfl, Lib.hid rfl, by omega, Lib.hid (by simp), HS2, HR2, KP2, KF2⟩
    case round =>
      clear HS2 HR2 KP2 KF2
      obtain ⟨j, av, cv, na, acc, hj, rfl, HNA, hna, HACC, HS, HR, KP, KF⟩ := hrel
      by_cases hlt : j < n2
      · obtain ⟨x, hx⟩ : ∃ x, L2[j]? = some x := ⟨_, List.getElem?_eq_getElem (by rw [← HN2.out]; exact hlt)⟩
        obtain ⟨g2, hva⟩ := own_head HR.out.own (by omega)
        subst hva
        have hrd : RdS itLay wr (some ⟨g2, 0, none⟩) n2 c2 L2 := rdS_owns' (L := itLay) HR.out.own HN2.out.symm
        obtain ⟨bb, offb, x', hea, hbl2, hx', e0, e1, e2, e3, e4⟩ := rdIt_at hrd hlt
        obtain rfl : x = x' := by rw [hx] at hx'; cases hx'; rfl
        obtain ⟨rfl, rfl⟩ : g2 = bb ∧ 0 = offb := by simpa using hea
        rw [Nat.zero_add] at e0 e1 e2 e3 e4
        obtain ⟨w5, hw5⟩ : ∃ w5, w5 = wr.alloc (.cells #[.int .i64 x.id, .int .i64 x.x0, .int .i64 x.y0, .int .i64 x.x1, .int .i64 x.y1] 47) := ⟨_, rfl⟩
        have hal : Below wr.heap.size wr w5 := by subst hw5; exact new_below _ _
        have hq8 : Loc w5 wr.heap.size #[.int .i64 x.id, .int .i64 x.x0, .int .i64 x.y0, .int .i64 x.x1, .int .i64 x.y1] := by subst hw5; exact Loc.new _ _ _
        have HS5 := Lib.hid (HS.out.all hal)
        have HR5 := Lib.hid (HR.out.below hal HS.out.bx.lt)
        have KP5 := Lib.hid (KP.out.trans (KpB.all hal HS.out.below.size HS.out.bx.lt))
        have KF5 := Lib.hid (KF.out.trans (KeepsFrom.of_below hal))
        have z7 : (j : Int) < n2 := by omega
        have z8 : (0 : Int) ≤ j := by omega
        have HX := Lib.hid (filter_step (p := meetsIt c) hx)
        have y0 := hq8.2.1 0
        have y1 := hq8.2.1 1
        have y2 := hq8.2.1 2
        have y3 := hq8.2.1 3
        have y4 := hq8.2.1 4
        have v0 := HS5.out.rect.2.1 0
        have v1 := HS5.out.rect.2.1 1
        have v2 := HS5.out.rect.2.1 2
        have v3 := HS5.out.rect.2.1 3
        simp at y0 y1 y2 y3 y4 v0 v1 v2 v3
        have HQ8 := Lib.hid hq8
        rw [hw5] at y0 y1 y2 y3 y4 v0 v1 v2 v3
        clear hx hx' hrd hal hq8 HS HR KP KF hea
        cases hmt : meetsIt c x with
        | false =>
          have CM : Calls Tryz.prog 24 #[.agg #[.int .i64 x.x0, .int .i64 x.y0, .int .i64 x.x1, .int .i64 x.y1], .agg #[.int .i64 c.x0, .int .i64 c.y0, .int .i64 c.x1, .int .i64 c.y1]] w5 (fun e w' => e = .returned (.bool false) ∧ Below w5.heap.size w5 w') := by have := iMeets_any x.x0 x.y0 x.x1 x.y1 c.x0 c.y0 c.x1 c.y1 w5; rw [show meetsB x.x0 x.y0 x.x1 x.y1 c.x0 c.y0 c.x1 c.y1 = false from hmt] at this; exact this
          replace CM := Lib.hid CM
          have HX2 : Hid (acc = pre.flatMap (fun p => hitP c p.1.pg) ++ (L2.take (j + 1)).filter (meetsIt c)) := by
            refine Lib.hid ?_
            rw [HX.out, hmt, if_neg Bool.false_ne_true]
            exact HACC.out
          clear hmt HX
          gi_wp2_with fail
          rw [← hw5]
          refine ⟨trivial, (CallsIn.inRound l (callsIn_wide.2 CM.out)).mono ?_⟩
          rintro e w6 ⟨rfl, b6⟩
          have HS6 := Lib.hid (HS5.out.all b6)
          have HR6 := Lib.hid (HR5.out.below b6 HS5.out.bx.lt)
          have KP6 := Lib.hid (KP5.out.trans (KpB.all b6 HS5.out.below.size HS5.out.bx.lt))
          have KF6 := Lib.hid (KF5.out.trans (KeepsFrom.of_below b6))
          clear HS5 HR5 KP5 KF5 b6 CM y0 y1 y2 y3 y4 v0 v1 v2 v3 e0 e1 e2 e3 e4 hw5 HQ8
          gi_wp2
          go_roundw
          case rel => exact ⟨j + 1, av, cv, na, acc, by omega, by go_num, HNA, by omega, HX2, HS6, HR6, KP6, KF6⟩
          case measure => simp [intOf]; omega
        | true =>
          have CM : Calls Tryz.prog 24 #[.agg #[.int .i64 x.x0, .int .i64 x.y0, .int .i64 x.x1, .int .i64 x.y1], .agg #[.int .i64 c.x0, .int .i64 c.y0, .int .i64 c.x1, .int .i64 c.y1]] w5 (fun e w' => e = .returned (.bool true) ∧ Below w5.heap.size w5 w') := by have := iMeets_any x.x0 x.y0 x.x1 x.y1 c.x0 c.y0 c.x1 c.y1 w5; rw [show meetsB x.x0 x.y0 x.x1 x.y1 c.x0 c.y0 c.x1 c.y1 = true from hmt] at this; exact this
          replace CM := Lib.hid CM
          have HX2 : Hid (acc ++ [x] = pre.flatMap (fun p => hitP c p.1.pg) ++ (L2.take (j + 1)).filter (meetsIt c)) := by
            refine Lib.hid ?_
            rw [HX.out, hmt, if_pos rfl, ← List.append_assoc, ← HACC.out]
          clear hmt HX
          gi_wp2_with fail
          rw [← hw5]
          refine ⟨trivial, (CallsIn.inRound l (callsIn_wide.2 CM.out)).mono ?_⟩
          rintro e w6 ⟨rfl, b6⟩
          have HS6 := Lib.hid (HS5.out.all b6)
          have HR6 := Lib.hid (HR5.out.below b6 HS5.out.bx.lt)
          have KP6 := Lib.hid (KP5.out.trans (KpB.all b6 HS5.out.below.size HS5.out.bx.lt))
          have KF6 := Lib.hid (KF5.out.trans (KeepsFrom.of_below b6))
          have hq8 := HQ8.out.below b6
          have y0' := hq8.2.1 0
          have y1' := hq8.2.1 1
          have y2' := hq8.2.1 2
          have y3' := hq8.2.1 3
          have y4' := hq8.2.1 4
          simp at y0' y1' y2' y3' y4'
          have k0 := HS6.out.bx.cell
          have f0 := HS6.out.bx.frozen
          have ho6 : w6.ownsRow w.heap.size 47 5 (.slice av na cv) na (acc.flatMap itLay.cells) := by
            have := HS6.out.own
            unfold OwnS at this
            rw [HNA.out] at this
            exact this
          have HO6 := Lib.hid ho6
          have hsV := HS6.out.below.size
          have hnews := Lib.hid (World.news_of_block (cs := #[.int .i64 x.id, .int .i64 x.x0, .int .i64 x.y0, .int .i64 x.x1, .int .i64 x.y1]) (t := 47) (fr := (0, 0)) (heap_alloc_new w6 (.cells #[.int .i64 x.id, .int .i64 x.x0, .int .i64 x.y0, .int .i64 x.x1, .int .i64 x.y1] 47)))
          clear HS5 HR5 KP5 KF5 b6 CM y0 y1 y2 y3 y4 v0 v1 v2 v3 e0 e1 e2 e3 e4 hw5 HQ8 hq8 ho6
          gi_wp2_with (gi_at_builtin; refine wpListIn_append_new _ rfl (.tmp 25) (.tmp 27) 31 rfl w.heap.size 47 i0 _ 5 40 Tryz.underlying31 hi.out hz0.out hz1.out hz2.out rfl (by decide) (.slice av na cv) na (acc.flatMap itLay.cells) rfl (World.ownsRow.alloc HO6.out _) ⟨w6.heap.size, 0, none⟩ 1 1 (itLay.cells x) rfl rfl hnews.out (fun u hu => itLay.one x u hu) ?_ ?_ ?_ ?_)
          case refine_1 => unfold maxLen; omega
          case refine_2 => omega
          case refine_3 => first | omega | (simp; omega)
          intro v' w7 o7 g7 f7
          obtain ⟨a7, c7, rfl⟩ := owns_shape o7
          obtain ⟨j1, j2, j3, j4, j5⟩ := Boxed.appended HS6.out.bx (by decide) HO6.out hsV (by omega) o7 g7
          have c7' := j1.cell
          have f7' := j1.frozen
          have KPa := box_kp HS6.out.bx g7 (fun g hg => by
            rcases f7 g hg with e | e
            · exact .inl e
            · refine .inr ?_
              simp at e
              omega) j2 j3 j5
          have KP7 := Lib.hid (KP6.out.trans KPa)
          have KF7 := Lib.hid (KF6.out.trans (j4.from w4.heap.size))
          have HR7 := Lib.hid (HR6.out.kp KPa)
          have hrect : Loc (w7.setCell ⟨w.heap.size + 1 + 1 + 1, 0, none⟩ (.slice a7 (na + 1) c7)) (w.heap.size + 1) #[.int .i64 c.x0, .int .i64 c.y0, .int .i64 c.x1, .int .i64 c.y1] := by
            refine ((HS6.out.rect.alloc (.cells #[.int .i64 x.id, .int .i64 x.x0, .int .i64 x.y0, .int .i64 x.x1, .int .i64 x.y1] 47)).grown g7 (fun k hk => HS6.out.ne k hk)).other 0 _ (by omega)
          have hrl := HS6.out.rect.1
          have hne7 : ∀ g, (Value.slice a7 (na + 1) c7).ownBlock = some g → g ≠ w.heap.size + 1 := fun g hg => by
            rcases f7 g hg with e | e
            · exact HS6.out.ne g e
            · simp at e
              omega
          have HS7 : Hid (SrS w (w.heap.size + 1 + 1 + 1) c (acc ++ [x]) (.slice a7 (na + 1) c7) (w7.setCell ⟨w.heap.size + 1 + 1 + 1, 0, none⟩ (.slice a7 (na + 1) c7))) := by
            refine Lib.hid ⟨j2, ?_, hrect, HS6.out.below.trans j5, hne7⟩
            unfold OwnS
            rw [List.length_append, HNA.out, List.flatMap_append]
            have := j3
            show World.ownsRow _ _ _ 5 _ _ _
            simpa using this
          have HN7 : Hid ((acc ++ [x]).length = na + 1) := by
            refine Lib.hid ?_
            rw [List.length_append, HNA.out]
            rfl
          clear o7 g7 f7 j1 j2 j3 j4 j5 hnews k0 f0 y0' y1' y2' y3' y4' KPa HS6 HR6 KP6 KF6 hrect HO6
          gi_wp2
          go_roundw
          case rel => exact ⟨j + 1, a7, c7, na + 1, _, by omega, by go_num, HN7, by omega, HX2, HS7, HR7, KP7, KF7⟩
          case measure => simp [intOf]; omega
      · obtain rfl : j = n2 := by omega
        have hac : acc = (pre ++ [y]).flatMap (fun p => hitP c p.1.pg) := by
          rw [HACC.out, List.take_of_length_le (by rw [← HN2.out]; exact Nat.le_refl _), List.flatMap_append]
          simp [HH.out]
        have HS2 : Hid (SrS w (w.heap.size + 1 + 1 + 1) c ((pre ++ [y]).flatMap (fun p => hitP c p.1.pg)) (.slice av na cv) wr) := by rw [← hac]; exact HS
        clear HS HR hac
        gi_wp2
        exact ⟨KF.out, KP.out, _, HS2.out⟩
  case done =>
    rintro D ys V hD rfl ⟨v, hS⟩ hK
    obtain ⟨av, cv, rfl, -⟩ := OwnS.rd hS.own
    have c0 := hS.bx.cell
    obtain ⟨nl, hnl⟩ : ∃ nl, nl = (ys.flatMap (fun p => hitP c p.1.pg)).length := ⟨_, rfl⟩
    rw [← hnl] at c0
    have HN := Lib.hid hnl
    clear hnl
    gi_wp2
    refine ⟨by simp, .inl ⟨_, _, rfl, run_takeDeferred hK, ?_⟩⟩
    refine ⟨_, results_tmp rfl _ _ _, .slice av nl cv, rfl, ?_, hS.below.grown (grownBy_putObj' V D _) hS.below.size (fun k e => by cases e; omega)⟩
    rw [HFM.out, HN.out]
    exact ownsRow_putObj hS.own _ hK rfl
  case stop =>
    rintro D pre V _ _ h _
    exact h.elim
end Go.Proofs.YtfefggcfeppeiaaGreat
