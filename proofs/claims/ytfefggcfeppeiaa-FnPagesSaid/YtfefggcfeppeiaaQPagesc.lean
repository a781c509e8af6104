/- Texts of this seat laid together: BookM, IntS, BookX, Reach, Reach2, EntryAt, NodeOk, BookO, SameItems, SameNode. -/
import Derived.Test.YtfefggcfeppeiaaQPagesb
import Derived.BigQuiet

/- Books that are marked, and their reading. -/
namespace Go.Proofs.Ytfefggcfeppeiaa
open Go.RowKit

/-- A page that is marked from k on. -/
def mkP (k : Int) (p : PgV) : PgV := ⟨k % 3 == 0, (k + 1) % 3 == 0, p.a, p.n, p.cap, markedI p.n (k + 1 + 1)⟩
def stepP (k : Int) (p : PgV) : Int := k + 1 + 1 + 5 * p.n
def markPs : Int → List PgV → List PgV
  | _, [] => []
  | k, p :: l => mkP k p :: markPs (stepP k p) l
def endP : Int → List PgV → Int
  | k, [] => k
  | k, p :: l => endP (stepP k p) l
theorem markPs_len : ∀ (k : Int) (ps : List PgV), (markPs k ps).length = ps.length
  | _, [] => rfl
  | k, p :: l => by rw [markPs, List.length_cons, markPs_len _ l, List.length_cons]
theorem markPs_snoc : ∀ (k : Int) (ps : List PgV) (p : PgV), markPs k (ps ++ [p]) = markPs k ps ++ [mkP (endP k ps) p]
  | _, [], _ => rfl
  | k, q :: l, p => by rw [List.cons_append, markPs, markPs, endP, markPs_snoc _ l p]; rfl
theorem endP_snoc : ∀ (k : Int) (ps : List PgV) (p : PgV), endP k (ps ++ [p]) = stepP (endP k ps) p
  | _, [], _ => rfl
  | k, q :: l, p => by rw [List.cons_append, endP, endP, endP_snoc _ l p]
theorem endP_eq : ∀ (k : Int) (ps : List PgV), endP k ps = k + 2 * ps.length + 5 * totP ps
  | k, [] => by simp [endP, totP]
  | k, p :: l => by
    rw [endP, endP_eq _ l]
    unfold stepP totP
    rw [List.map_cons, List.sum_cons, List.length_cons]
    omega
theorem endP_more {ps : List PgV} {m : Nat} {p : PgV} (h : ps[m]? = some p) (k : Int) : endP k (ps.take (m + 1)) = stepP (endP k (ps.take m)) p := by
  rw [List.take_add_one, h]
  exact endP_snoc k _ p
theorem endP_le : ∀ (l l' : List PgV) (k : Int), endP k l ≤ endP k (l ++ l') := fun l l' k => by
  rw [endP_eq, endP_eq, List.length_append]
  unfold totP
  rw [List.map_append, List.sum_append]
  omega
theorem endP_take_le (ps : List PgV) (m : Nat) (k : Int) : endP k (ps.take m) ≤ endP k ps := by
  conv => rhs; rw [← List.take_append_drop m ps]
  exact endP_le _ _ _
theorem markPs_app : ∀ (k : Int) (l l' : List PgV), markPs k (l ++ l') = markPs k l ++ markPs (endP k l) l'
  | _, [], _ => rfl
  | k, q :: l, l' => by rw [List.cons_append, markPs, markPs, endP, markPs_app _ l l']; rfl
theorem markPs_at {ps : List PgV} {m : Nat} {p : PgV} (h : ps[m]? = some p) (k : Int) : (markPs k ps)[m]? = some (mkP (endP k (ps.take m)) p) := by
  have hm : m < ps.length := (List.getElem?_eq_some_iff.1 h).1
  have hd : ps.drop m = p :: ps.drop (m + 1) := by
    obtain ⟨hlt, rfl⟩ := List.getElem?_eq_some_iff.1 h
    exact List.drop_eq_getElem_cons hlt
  have hl : (markPs k (ps.take m)).length = m := by rw [markPs_len, List.length_take]; omega
  conv => lhs; rw [← List.take_append_drop m ps, markPs_app, hd]
  rw [List.getElem?_append_right (by omega), hl, Nat.sub_self, markPs]
  rfl
/-- The first m pages are marked. -/
def halfP (k : Int) (ps : List PgV) (m : Nat) : List PgV := markPs k (ps.take m) ++ ps.drop m
theorem halfP_len (k : Int) (ps : List PgV) (m : Nat) : (halfP k ps m).length = ps.length := by
  unfold halfP
  rw [List.length_append, markPs_len, ← List.length_append, List.take_append_drop]
theorem halfP_at {ps : List PgV} {m : Nat} {p : PgV} (h : ps[m]? = some p) (k : Int) : (halfP k ps m)[m]? = some p := by
  have hm : m < ps.length := (List.getElem?_eq_some_iff.1 h).1
  unfold halfP
  rw [List.getElem?_append_right (by rw [markPs_len, List.length_take]; omega), markPs_len, List.length_take, Nat.min_eq_left (by omega), Nat.sub_self, List.getElem?_drop]
  exact h
theorem halfP_set {ps : List PgV} {m : Nat} {p : PgV} (h : ps[m]? = some p) (k : Int) : halfP k ps (m + 1) = (halfP k ps m).set m (mkP (endP k (ps.take m)) p) := by
  have hm : m < ps.length := (List.getElem?_eq_some_iff.1 h).1
  have hd : ps.drop m = p :: ps.drop (m + 1) := by
    obtain ⟨hlt, rfl⟩ := List.getElem?_eq_some_iff.1 h
    exact List.drop_eq_getElem_cons hlt
  unfold halfP
  have e : ps.take (m + 1) = ps.take m ++ [p] := by rw [List.take_add_one, h]; rfl
  have hl : (markPs k (ps.take m)).length = m := by rw [markPs_len, List.length_take]; omega
  rw [e, markPs_snoc, List.append_assoc, hd, List.set_append_right _ _ (by omega), hl, Nat.sub_self]
  rfl
theorem halfP_zero (k : Int) (ps : List PgV) : halfP k ps 0 = ps := by simp [halfP, markPs]
theorem halfP_end (k : Int) (ps : List PgV) : halfP k ps ps.length = markPs k ps := by simp [halfP]

/-- All that a book owns lies ahead of a bound. -/
def InB (hi : Nat) (v : Value) (ps : List PgV) : Prop := (∀ g, v.ownBlock = some g → g < hi) ∧ ∀ p ∈ ps, ∀ g, p.sl.ownBlock = some g → g < hi
theorem OwnP.inb {w : World} {base : Nat} {v : Value} {ps : List PgV} (h : OwnP w base v ps) : InB w.heap.size v ps := ⟨fun g hg => (World.ownsRow.lt h.row g hg).2, fun p hp g hg => (World.ownsRow.lt (h.ent p hp) g hg).2⟩

theorem flat_setP2 (ps : List PgV) (k : Nat) (p : PgV) (u b : Bool) (xs : List It) (hk : ps[k]? = some p) :
    ((ps.flatMap pgLay.cells).set (k * 3) (.bool u)).set (k * 3 + 1) (.bool b) = (ps.set k ⟨u, b, p.a, p.n, p.cap, xs⟩).flatMap pgLay.cells := by
  induction ps generalizing k with
  | nil => simp at hk
  | cons y l ih =>
    cases k with
    | zero =>
      obtain rfl : y = p := by simpa using hk
      simp [pgLay, List.flatMap_cons]
    | succ k =>
      have := ih k (by simpa using hk)
      simp only [List.flatMap_cons, List.set_cons_succ]
      rw [← this]
      have e : ∀ (j : Nat) (u : Value) (t : List Value), (pgLay.cells y ++ t).set ((k + 1) * 3 + j) u = pgLay.cells y ++ t.set (k * 3 + j) u := by
        intro j u t
        rw [List.set_append_right _ _ (by show 3 ≤ _; omega)]
        show pgLay.cells y ++ t.set ((k + 1) * 3 + j - 3) u = _
        rw [show (k + 1) * 3 + j - 3 = k * 3 + j by omega]
      have e0 := e 0
      simp only [Nat.add_zero] at e0
      rw [e0, e]
/-- A page of an owned row is marked: its two marks, then its entries where they lie. -/
theorem OwnP.mark {w w2 w3 : World} {base g n cap k : Nat} {ps : List PgV} {p : PgV} {u b : Bool} {xs : List It} (h : OwnP w base (.slice (some ⟨g, 0, none⟩) n cap) ps) (hp : ps[k]? = some p)
    (hw : w2 = (w.setCell ⟨g, k * 3, none⟩ (.bool u)).setCell ⟨g, k * 3 + 1, none⟩ (.bool b)) (hg3 : w2.grownBy w3 p.sl.ownBlock) (hx : OwnS itLay 92 w3 base p.sl xs) :
    OwnP w3 base (.slice (some ⟨g, 0, none⟩) n cap) (ps.set k ⟨u, b, p.a, p.n, p.cap, xs⟩) := by
  have hl := ownP_len h
  have hk : k < ps.length := (List.getElem?_eq_some_iff.1 hp).1
  have hmem := List.mem_of_getElem? hp
  subst hw
  have hG : w.grownBy _ (Value.slice (some ⟨g, 0, none⟩) n cap).ownBlock := grown_trans (grown_setCell (World.grownBy.refl w (some g)) g (k * 3) (.bool u) rfl) (grown_setCell (World.grownBy.refl _ (some g)) g (k * 3 + 1) (.bool b) rfl)
  refine ⟨?_, fun q hq => ?_, fun q hq => ?_, fun i j q r hij hq hr => ?_⟩
  · have hr := h.row
    have hs : OwnS pgLay 48 ((w.setCell ⟨g, k * 3, none⟩ (.bool u)).setCell ⟨g, k * 3 + 1, none⟩ (.bool b)) base (.slice (some ⟨g, 0, none⟩) n cap) (ps.set k ⟨u, b, p.a, p.n, p.cap, xs⟩) := by
      unfold OwnS at hr ⊢
      rw [List.length_set, ← flat_setP2 ps k p u b xs hp]
      rw [hl] at hr ⊢
      exact ((hr.stored (k * 3) _).1.stored (k * 3 + 1) _).1
    exact hs.keptApart hg3 (h.out p hmem)
  · obtain ⟨i, hi⟩ := List.mem_iff_getElem?.1 hq
    rw [List.getElem?_set] at hi
    split at hi
    · obtain rfl := Option.some.inj hi
      exact hx
    · rename_i e
      have hqm := List.mem_of_getElem? hi
      exact ((h.ent q hqm).keptApart hG (h.out q hqm).symm).keptApart hg3 (h.pair i k q p (Ne.symm e) hi hp)
  · rcases List.mem_or_eq_of_mem_set hq with h1 | rfl
    · exact h.out q h1
    · exact h.out p hmem
  · have hsl : ∀ (i : Nat) (q : PgV), (ps.set k ⟨u, b, p.a, p.n, p.cap, xs⟩)[i]? = some q → ∃ q', ps[i]? = some q' ∧ q'.sl = q.sl := by
      intro i q hq
      rw [List.getElem?_set] at hq
      split at hq
      · rename_i e
        subst e
        obtain rfl := Option.some.inj hq
        exact ⟨p, hp, rfl⟩
      · exact ⟨q, hq, rfl⟩
    obtain ⟨q', h1, e1⟩ := hsl i q hq
    obtain ⟨r', h2, e2⟩ := hsl j r hr
    rw [← e1, ← e2]
    exact h.pair i j q' r' hij h1 h2
theorem inb_set {hi k : Nat} {v : Value} {ps : List PgV} {p q : PgV} (h : InB hi v ps) (hp : ps[k]? = some p) (e : q.sl = p.sl) : InB hi v (ps.set k q) := by
  refine ⟨h.1, fun r hr g hg => ?_⟩
  rcases List.mem_or_eq_of_mem_set hr with h1 | rfl
  · exact h.2 r h1 g hg
  · rw [e] at hg
    exact h.2 p (List.mem_of_getElem? hp) g hg

set_option maxRecDepth 100000 in
set_option maxHeartbeats 1600000 in
/-- laws.markPageS: writes marks into pages that are owned. -/
theorem markPageS_any (a : Option Addr) (n cap : Nat) (ps : List PgV) (k : Int) (base hi : Nat) (w : World) (h : OwnP w base (.slice a n cap) ps) (hib : InB hi (.slice a n cap) ps) (hk0 : 0 ≤ k) (hk : endP k ps ≤ 1000000000) :
    Calls Try.prog 78 #[.slice a n cap, .int .i64 k] w fun e w' => e = .returned (.int .i64 (endP k ps)) ∧ OwnP w' base (.slice a n cap) (markPs k ps) ∧ ChgIn base hi w w' := by
  have hlen := ownP_len h
  have hcap := h.rd.1.1.2
  have HI := Lib.hid hib
  have HO0 := Lib.hid h
  have HK := Lib.hid hk
  obtain ⟨c1, c2, -⟩ := hcap
  unfold maxLen at c2
  have HL := Lib.hid hlen
  clear h hib hk hlen
  go_enter Try.func78, Try.ntmps78
  go_wp2
  go_loopw [1, 5] (fun q i wr => ∃ (m : Nat) (r : Int), m ≤ n ∧ i = .int .i64 (m : Int) ∧ q = .int .i64 r ∧ Hid (r = endP k (ps.take m)) ∧ Hid (OwnP wr base (.slice a n cap) (halfP k ps m)) ∧ Hid (ChgIn base hi w wr)) (fun _ i _ => n - (intOf i).toNat)
  case atStart => exact ⟨0, k, Nat.zero_le _, rfl, rfl, Lib.hid rfl, by rw [halfP_zero]; exact HO0, Lib.hid (ChgIn.refl _ _ _)⟩
  case round =>
    clear HO0
    obtain ⟨m, r, hm, rfl, rfl, hr, HO, HC⟩ := hrel
    by_cases hlt : m < n
    · obtain ⟨p, hp⟩ : ∃ p, ps[m]? = some p := ⟨_, List.getElem?_eq_getElem (by rw [HL.out]; exact hlt)⟩
      have hpm := List.mem_of_getElem? hp
      have HP := Lib.hid hp
      have hq := halfP_at hp k
      obtain ⟨g, rfl⟩ : ∃ g, a = some ⟨g, 0, none⟩ := own_head (by have := HO.out.row; unfold OwnS at this; rw [halfP_len, HL.out] at this; exact this) (by omega)
      obtain ⟨y, hy, e0, e1, e2⟩ := ownP_at HO.out hlt
      obtain rfl : p = y := Option.some.inj (hq.symm.trans hy)
      have hfz := HO.out.froz
      have hgw := HO.out.lt.2
      have hgb := HO.out.lt.1
      have hent := HO.out.ent p (List.mem_of_getElem? hq)
      have hpl : p.xs.length = p.n := ownS_len hent
      have hpc := (rdS_ownsP hent).1.2
      have hr0 : 0 ≤ r ∧ r + 2 + 5 * p.n ≤ 1000000000 := by
        have h1 := HK.out
        have h2 := hr.out
        have h3 := endP_more hp k
        unfold stepP at h3
        have h4 := endP_take_le ps (m + 1) k
        have h5 : 0 ≤ endP k (ps.take m) := by rw [endP_eq]; omega
        omega
      have hpn : p.n ≤ 1000000000 := by omega
      have z0 : (0 : Int) ≤ m := by omega
      have z1 : (m : Int) < n := by omega
      have hw2 : w.heap.size ≤ wr.heap.size := HC.out.size
      obtain ⟨W2, hW2⟩ : ∃ W2, W2 = (wr.setCell ⟨g, m * 3, none⟩ (.bool (r % 3 == 0))).setCell ⟨g, m * 3 + 1, none⟩ (.bool ((r + 1) % 3 == 0)) := ⟨_, rfl⟩
      have hent2 : OwnS itLay 92 W2 base p.sl p.xs := by
        rw [hW2]
        have ha := HO.out.out p (List.mem_of_getElem? hq)
        exact ownS_set (ownS_set hent (fun e => ha g rfl e) _ _) (fun e => ha g rfl e) _ _
      have hown : W2.ownsRow base 92 5 (.slice p.a p.n p.cap) p.n (p.xs.flatMap itLay.cells) := by
        have := hent2
        unfold OwnS PgV.sl at this
        rw [hpl] at this
        exact this
      have CM := markEntryS_any p.a p.n p.cap p.xs (r + 1 + 1) base W2 hown hpl (by omega) (by omega) hpn
      rw [hW2] at CM
      replace CM := Lib.hid CM
      have HQ := Lib.hid hq
      have HPM := Lib.hid hpm
      have hs2 : W2.heap.size = wr.heap.size := by rw [hW2]; simp
      have HB := Lib.hid (World.ownsRow.lt hent2)
      have hgi := HI.out.1 g rfl
      clear hq hy hpm hent hent2 hown hpl hpc
      replace hp := Lib.hid hp
      replace hW2 := Lib.hid hW2
      go_wp2_with fail
      refine CM.out.mono ?_
      rintro e w3 ⟨rfl, ho3, hg3⟩
      have HO3 : Hid (OwnP w3 base (.slice (some ⟨g, 0, none⟩) n cap) (halfP k ps (m + 1))) := by
        have := HO.out.mark (w2 := W2) (w3 := w3) (u := (r % 3 == 0)) (b := ((r + 1) % 3 == 0)) (xs := markedI p.n (r + 1 + 1)) HQ.out hW2.out (by rw [hW2.out]; exact hg3) (by unfold OwnS PgV.sl; rw [markedI_len]; exact ho3)
        rw [halfP_set HP.out, ← hr.out]
        exact Lib.hid this
      have HC3 : Hid (ChgIn base hi w w3) := by
        refine Lib.hid (HC.out.trans (ChgIn.trans (b := W2) ?_ (ChgIn.of_grown (row := p.sl.ownBlock) (by rw [hW2.out]; exact hg3) (fun g' hg' => ⟨(HB.out g' hg').1, HI.out.2 p HPM.out g' hg'⟩))))
        rw [hW2.out]
        exact (ChgIn.of_grown (grown_setCell (World.grownBy.refl wr (some g)) g (m * 3) _ rfl) (fun g' hg' => by cases hg'; exact ⟨hgb, hgi⟩)).trans (ChgIn.of_grown (grown_setCell (World.grownBy.refl _ (some g)) g (m * 3 + 1) _ rfl) (fun g' hg' => by cases hg'; exact ⟨hgb, hgi⟩))
      have HE : Hid (r + 1 + 1 + 5 * p.n = endP k (ps.take (m + 1))) := by
        show _ = _
        rw [endP_more HP.out, ← hr.out]
        rfl
      clear ho3 hg3
      go_wp2
      go_roundw
      case rel => exact ⟨m + 1, r + 1 + 1 + 5 * p.n, by omega, by go_num, by go_num, HE, HO3, HC3⟩
      case measure => simp [intOf]; omega
    · obtain rfl : m = n := by omega
      have HE : Hid (r = endP k ps) := by
        have := hr.out
        rw [List.take_of_length_le (by rw [HL.out]; exact Nat.le_refl _)] at this
        exact Lib.hid this
      have HO3 : Hid (OwnP wr base (.slice a m cap) (markPs k ps)) := by
        have := HO.out
        rw [← HL.out, halfP_end] at this
        rw [← HL.out]
        exact Lib.hid this
      go_wp2
      go_ret
      exact ⟨ret_i64' HE.out, HO3.out, HC.out⟩

set_option maxRecDepth 100000 in
set_option maxHeartbeats 400000 in
theorem markBook_any (root : Int) (a : Option Addr) (n cap : Nat) (ps : List PgV) (k : Int) (base hi : Nat) (w : World) (h : OwnP w base (.slice a n cap) ps) (hib : InB hi (.slice a n cap) ps) (hk0 : 0 ≤ k) (hk : endP k ps ≤ 1000000000) :
    Calls Try.prog 35 #[.agg #[.int .i64 root, .slice a n cap], .int .i64 k] w fun e w' => e = .returned (.int .i64 (endP k ps)) ∧ OwnP w' base (.slice a n cap) (markPs k ps) ∧ ChgIn base hi w w' := by
  have B0 := new_below w (.cells #[.int .i64 root, .slice a n cap] 26)
  have C := Lib.hid (markPageS_any a n cap ps k base hi _ (h.below B0) hib hk0 hk)
  have HC := Lib.hid (ChgIn.of_below (lo := base) (hi := hi) B0)
  clear h hib
  go_enter Try.func35, Try.ntmps35
  go_wp2_with fail
  refine C.out.mono ?_
  rintro e w1 ⟨rfl, ho, hc⟩
  have HO := Lib.hid ho
  have HC2 := Lib.hid (HC.out.trans hc)
  clear ho hc
  go_wp2
  go_ret
  exact ⟨rfl, HO.out, HC2.out⟩

end Go.Proofs.Ytfefggcfeppeiaa

/- The laws' own helpers on slices of ints: copy, equality, marking. -/
namespace Go.Proofs.Ytfefggcfeppeiaa
open Go.RowKit

theorem Try.infoI64 : (Try.prog.info? 3).map (fun i => (i.zero, i.size, i.bytes)) = some (some (.int .i64 0), 1, 8) := by kernel_rfl

set_option maxRecDepth 100000 in
set_option maxHeartbeats 400000 in
/-- laws.eqIntS: two slices that read alike. -/
theorem eqIntS_same (a b : Option Addr) (n c1 c2 : Nat) (zs : List Int) (w : World) (h : RdI .i64 w a n c1 zs) (h' : RdI .i64 w b n c2 zs) (hn : n ≤ 17592186043904) :
    Calls Try.prog 46 #[.slice a n c1, .slice b n c2] w fun e w' =>
      e = .returned (.bool true) ∧ Below w.heap.size w w' := by
  have HR := Lib.hid h; clear h
  have HR' := Lib.hid h'; clear h'
  go_enter Try.func46, Try.ntmps46
  go_wp2
  go_loopw [5] (fun i wr => ∃ k : Nat, k ≤ n ∧ i = .int .i64 k ∧ Below w.heap.size w wr)
    (fun i _ => n - (intOf i).toNat)
  case atStart => exact ⟨0, Nat.zero_le _, rfl, Below.refl _ _⟩
  case round =>
    obtain ⟨k, hk, rfl, hB⟩ := hrel
    by_cases hlt : k < n
    · have HR0 := HR.out.2 (by omega)
      have HR0' := HR'.out.2 (by omega)
      obtain ⟨x, off, rfl, hc⟩ := HR0
      obtain ⟨x', off', rfl, hc'⟩ := HR0'
      have hck := hc k hlt
      have hck' := hc' k hlt
      have hbw : x < w.heap.size := World.block_lt_of_cell? w ⟨x, off + k, none⟩ hck
      have hbw' : x' < w.heap.size := World.block_lt_of_cell? w ⟨x', off' + k, none⟩ hck'
      rw [← hB.cell (p := ⟨x, off + k, none⟩) hbw] at hck
      rw [← hB.cell (p := ⟨x', off' + k, none⟩) hbw'] at hck'
      clear hc hc'
      have h0 : (0 : Int) ≤ k := by omega
      have h1 : (k : Int) < n := by omega
      go_wp2
      go_quiet (fail)
      go_wp2
      go_roundw
      case rel => exact ⟨k + 1, by omega, by go_num, below_drewN hB _⟩
      case measure => simp [intOf]; omega
    · go_wp2
      go_ret
      exact ⟨rfl, hB⟩

set_option maxRecDepth 100000 in
set_option maxHeartbeats 400000 in
/-- laws.markIntS: writes k, k + 1, .. into a slice that is owned. -/
theorem markIntS_any (a : Option Addr) (n cap : Nat) (zs : List Int) (k : Int) (base : Nat) (w : World) (h : w.ownsRow base 3 1 (.slice a n cap) n (zs.map (Value.int .i64))) (hz : zs.length = n) (hk0 : 0 ≤ k) (hk : k ≤ 1000000000) (hn : n ≤ 1000000000) :
    Calls Try.prog 47 #[.slice a n cap, .int .i64 k] w fun e w' =>
      e = .returned (.int .i64 (k + n)) ∧ w'.ownsRow base 3 1 (.slice a n cap) n ((gen n fun j => (k + j)).map (Value.int .i64)) ∧ w.grownBy w' (Value.slice a n cap).ownBlock := by
  have HN := Lib.hid hz
  clear hz
  go_enter Try.func47, Try.ntmps47
  go_wp2
  go_loopw [1, 5] (fun q i wr => ∃ m : Nat, m ≤ n ∧ i = .int .i64 m ∧ q = .int .i64 (k + m) ∧
      wr.ownsRow base 3 1 (.slice a n cap) n ((gen n fun j => if j < m then (k + j) else zs.getD j 0).map (Value.int .i64)) ∧ w.grownBy wr (Value.slice a n cap).ownBlock)
    (fun _ i _ => n - (intOf i).toNat)
  case atStart =>
    refine ⟨0, Nat.zero_le _, rfl, by simp, ?_, World.grownBy.refl _ _⟩
    simp only [Nat.not_lt_zero, if_false]
    rw [gen_list zs 0 n HN.out]
    exact h
  case round =>
    obtain ⟨m, hm, rfl, rfl, ho, hg⟩ := hrel
    by_cases hlt : m < n
    · obtain ⟨g, rfl⟩ := own_head ho (by omega)
      have hd := ho.cellAt m (by omega)
      rw [List.getElem?_map, gen_at n _ m hlt, if_neg (Nat.lt_irrefl m)] at hd
      have hfz := ho.frozenAt m
      have hst := ho.stored m (.int .i64 (k + m))
      rw [← List.map_set, gen_set] at hst
      have HO := Lib.hid hst
      clear hst ho
      have hg' := Lib.hid hg
      clear hg h
      go_wp2
      go_roundw
      case rel =>
        refine ⟨m + 1, by omega, by go_num, by go_num, ?_, ?_⟩
        · have := HO.out.1
          rw [gen_congr n _ (fun j => if j < m + 1 then (k + j) else zs.getD j 0) ?_] at this
          · exact this
          · intro j _
            by_cases e : j = m
            · subst e; simp
            · rw [if_neg e]
              by_cases h' : j < m
              · rw [if_pos h', if_pos (by omega)]
              · rw [if_neg h', if_neg (by omega)]
        · exact grown_trans hg'.out HO.out.2
      case measure => simp [intOf]; omega
    · obtain rfl : m = n := by omega
      clear h
      go_wp2
      go_ret
      refine ⟨rfl, ?_, hg⟩
      rw [gen_congr m _ (fun j => if j < m then (k + j) else zs.getD j 0) (fun j hj => by rw [if_pos hj])]
      exact ho

set_option maxRecDepth 100000 in
set_option maxHeartbeats 400000 in
/-- laws.heldIntS: a slice that reads k, k + 1, .. as it was marked. -/
theorem heldIntS_any (a : Option Addr) (n cap : Nat) (k : Int) (w : World) (h : RdI .i64 w a n cap (gen n fun j => (k + j))) (hk0 : 0 ≤ k) (hk : k ≤ 1000000000) (hn : n ≤ 1000000000) :
    Calls Try.prog 48 #[.slice a n cap, .int .i64 k] w fun e w' =>
      e = .returned (.int .i64 (k + n)) ∧ w = w' := by
  have HR := Lib.hid h
  clear h
  go_enter Try.func48, Try.ntmps48
  go_wp2
  go_loop [1, 5] (fun q i => ∃ m : Nat, m ≤ n ∧ i = .int .i64 m ∧ q = .int .i64 (k + m))
    (fun _ i => n - (intOf i).toNat)
  case atStart => exact ⟨0, Nat.zero_le _, rfl, by simp⟩
  case round =>
    obtain ⟨m, hm, rfl, rfl⟩ := hrel
    by_cases hlt : m < n
    · have HR0 := HR.out.2 (by omega)
      obtain ⟨x, off, rfl, hc⟩ := HR0
      have hck := hc m hlt
      rw [gen_getD n _ 0 m hlt] at hck
      clear hc
      go_wp2
      go_round
      case rel => exact ⟨m + 1, by omega, by go_num, by go_num⟩
      case measure => simp [intOf]; omega
    · obtain rfl : m = n := by omega
      go_wp2
      go_ret
      exact ⟨rfl, rfl⟩

end Go.Proofs.Ytfefggcfeppeiaa

/- What the program's functions on books are to answer (to be proved of the landed code). -/
namespace Go.Proofs.Ytfefggcfeppeiaa
open Go.RowKit

def CBookNew (f : FuncId) : Prop := ∀ w : World, Calls Try.prog f #[] w (NewBook 0 [⟨true, true, []⟩] w)
def CNodeAt (f : FuncId) : Prop := ∀ (root i : Int) (a : Option Addr) (n cap : Nat) (ps : List PgV) (w : World), RdP w a n cap ps → (Lit.int .i64 i).wf = true → (∀ p ∈ ps, p.n ≤ 1099511627776) →
  Calls Try.prog f #[.agg #[.int .i64 root, .slice a n cap], .int .i64 i] w (NewNode (pageAt (ps.map PgV.pg) i).leaf (pageAt (ps.map PgV.pg) i).xs w)
def CPut (f : FuncId) : Prop := ∀ (root i : Int) (a : Option Addr) (n cap : Nat) (ps : List PgV) (b : Bool) (a' : Option Addr) (n' cap' : Nat) (xs : List It) (w : World), RdP w a n cap ps → RdS itLay w a' n' cap' xs → (Lit.int .i64 i).wf = true → n ≤ 1099511627776 → n' ≤ 1099511627776 → (∀ p ∈ ps, p.n ≤ 1099511627776) →
  Calls Try.prog f #[.agg #[.int .i64 root, .slice a n cap], .int .i64 i, .agg #[.bool b, .slice a' n' cap']] w (NewBook root (putV (ps.map PgV.pg) i ⟨true, b, xs⟩) w)
def CAlloc (f : FuncId) : Prop := ∀ (root : Int) (a : Option Addr) (n cap : Nat) (ps : List PgV) (w : World), RdP w a n cap ps → n ≤ 1099511627776 → (∀ p ∈ ps, p.n ≤ 1099511627776) →
  Calls Try.prog f #[.agg #[.int .i64 root, .slice a n cap]] w (NewBookI root (allocV (ps.map PgV.pg)) w)
def CFree (f : FuncId) : Prop := ∀ (root : Int) (a : Option Addr) (n cap : Nat) (ps : List PgV) (al : Option Addr) (nl cl : Nat) (ids : List Int) (w : World), RdP w a n cap ps → RdI .i64 w al nl cl ids → n ≤ 1099511627776 → (∀ p ∈ ps, p.n ≤ 1099511627776) →
  Calls Try.prog f #[.agg #[.int .i64 root, .slice a n cap], .slice al nl cl] w (NewBook root (freeV (ps.map PgV.pg) ids) w)

/-- A new book lies in the block g, and its pages elsewhere. -/
def PutIn (w : World) (root : Int) (L : List Pg) (g : Nat) (V : World) : Prop := ∃ lo hi a q c, Below w.heap.size w V ∧ q.map PgV.pg = L ∧ OwnP V lo (.slice a q.length c) q ∧ Frame lo hi (fun V => OwnP V lo (.slice a q.length c) q) ∧ w.heap.size ≤ lo ∧ hi ≤ V.heap.size ∧ w.heap.size ≤ g ∧ g < V.heap.size ∧ (g < lo ∨ hi ≤ g) ∧ ∀ o, V.cell? ⟨g, o, none⟩ = (#[.int .i64 root, .slice a q.length c] : Array Value)[o]?
theorem putIn_new {w wc : World} {root : Int} {L : List Pg} {lo c : Nat} {a : Option Addr} {q : List PgV} (B : Below w.heap.size w wc) (e : q.map PgV.pg = L) (o : OwnP wc lo (.slice a q.length c) q) (hl : w.heap.size ≤ lo) :
    PutIn w root L wc.heap.size (wc.alloc (.cells #[.int .i64 root, .slice a q.length c] 26)) :=
  ⟨lo, wc.heap.size, a, q, c, B.alloc B.size _, e, o.below (new_below _ _), o.frame, hl, by simp, B.size, by simp, .inr (Nat.le_refl _), (blk_new wc _ _).1⟩
theorem putIn_old {w wc : World} {root : Int} {L : List Pg} {g lo c : Nat} {a : Option Addr} {q : List PgV} {u0 u1 : Value} (B : Below w.heap.size w wc) (e : q.map PgV.pg = L) (o : OwnP wc lo (.slice a q.length c) q) (hg : w.heap.size ≤ g) (hl : g < lo) (hs : g < wc.heap.size) (K : (∀ o, wc.cell? ⟨g, o, none⟩ = (#[u0, u1] : Array Value)[o]?) ∧ ∀ o, wc.frozen? ⟨g, o, none⟩ = false) :
    PutIn w root L g ((wc.setCell ⟨g, 0, none⟩ (.int .i64 root)).setCell ⟨g, 1, none⟩ (.slice a q.length c)) := by
  have KL : Loc wc g #[u0, u1] := ⟨hs, K.1, K.2⟩
  have K2 := (KL.set 0 (.int .i64 root) (by simp)).set 1 (.slice a q.length c) (by simp)
  simp at K2
  refine ⟨lo, wc.heap.size, a, q, c, (B.setCell (p := ⟨g, 0, none⟩) hg _).setCell (p := ⟨g, 1, none⟩) hg _, e, ?_, o.frame, by omega, by simp, hg, by simpa using hs, .inl hl, K2.2.1⟩
  refine o.frame _ _ (fun j h3 h4 => ?_) o
  rw [Below.heap_setCell _ _ _ _ (by intro e; simp at e; omega), Below.heap_setCell _ _ _ _ (by intro e; simp at e; omega)]

/-- How many entries the pages have. -/
def totG (l : List Pg) : Nat := (l.map (fun p => p.xs.length)).sum
theorem totP_pg {w : World} {base : Nat} {v : Value} {ps : List PgV} (h : OwnP w base v ps) : totP ps = totG (ps.map PgV.pg) := by
  unfold totP totG
  rw [List.map_map]
  congr 1
  refine List.map_congr_left fun p hp => ?_
  have := ownS_len (h.ent p hp)
  exact this.symm
theorem endP_pg {w : World} {base : Nat} {v : Value} {ps : List PgV} {out : List Pg} (h : OwnP w base v ps) (e : ps.map PgV.pg = out) (hb : 2 * out.length + 5 * totG out ≤ 900000000) : endP 1 ps ≤ 1000000000 := by
  subst e
  rw [endP_eq, totP_pg h]
  rw [List.length_map] at hb
  omega
theorem le_sum_mem : ∀ (l : List Nat) (x : Nat), x ∈ l → x ≤ l.sum
  | [], x, h => absurd h (by simp)
  | y :: l, x, h => by
    rw [List.sum_cons]
    rcases List.mem_cons.1 h with rfl | h
    · omega
    · have := le_sum_mem l x h
      omega
/-- No page has more entries than all of them. -/
theorem pgs_le {w : World} {base : Nat} {v : Value} {ps : List PgV} {out : List Pg} (h : OwnP w base v ps) (e : ps.map PgV.pg = out) {B : Nat} (hb : totG out ≤ B) : ∀ p ∈ ps, p.n ≤ B := by
  intro p hp
  subst e
  rw [← totP_pg h] at hb
  exact Nat.le_trans (le_sum_mem _ _ (List.mem_map_of_mem hp)) hb
theorem totP_rd {w : World} {a : Option Addr} {n cap : Nat} {ps : List PgV} (h : RdP w a n cap ps) : totP ps = totG (ps.map PgV.pg) := by
  unfold totP totG
  rw [List.map_map]
  congr 1
  refine List.map_congr_left fun p hp => ?_
  exact (h.2 p hp).1.1.symm
theorem pgs_rd {w : World} {a : Option Addr} {n cap : Nat} {ps : List PgV} {out : List Pg} (h : RdP w a n cap ps) (e : ps.map PgV.pg = out) {B : Nat} (hb : totG out ≤ B) : ∀ p ∈ ps, p.n ≤ B := by
  intro p hp
  subst e
  rw [← totP_rd h] at hb
  exact Nat.le_trans (le_sum_mem _ _ (List.mem_map_of_mem hp)) hb
theorem mem_totG {l : List Pg} {p : Pg} (h : p ∈ l) {B : Nat} (hb : totG l ≤ B) : p.xs.length ≤ B := by
  have h1 : p.xs.length ∈ l.map (fun p => p.xs.length) := List.mem_map.2 ⟨p, h, rfl⟩
  exact Nat.le_trans (le_sum_mem _ _ h1) hb
theorem pageAt_le {l : List Pg} (i : Int) {B : Nat} (hb : totG l ≤ B) : (pageAt l i).xs.length ≤ B := by
  unfold pageAt
  split
  · cases e : l[i.toNat]? with
    | none => exact Nat.zero_le _
    | some p => exact mem_totG (List.mem_of_getElem? e) hb
  · exact Nat.zero_le _
theorem sum_set : ∀ (l : List Nat) (k x : Nat), (l.set k x).sum ≤ l.sum + x
  | [], k, x => by simp
  | y :: l, 0, x => by simp; omega
  | y :: l, k + 1, x => by
    have := sum_set l k x
    simp
    omega
theorem totG_set (l : List Pg) (k : Nat) (p : Pg) : totG (l.set k p) ≤ totG l + p.xs.length := by
  unfold totG
  rw [List.map_set]
  exact sum_set _ _ _
theorem putV_le (l : List Pg) (i : Int) (p : Pg) : (putV l i p).length = l.length ∧ totG (putV l i p) ≤ totG l + p.xs.length := by
  unfold putV
  split
  · exact ⟨List.length_set, totG_set _ _ _⟩
  · exact ⟨rfl, Nat.le_add_right _ _⟩
theorem freeV_le : ∀ (ids : List Int) (l : List Pg), (freeV l ids).length = l.length ∧ totG (freeV l ids) ≤ totG l
  | [], l => ⟨rfl, Nat.le_refl _⟩
  | i :: ids, l => by
    obtain ⟨h1, h2⟩ := freeV_le ids (putV l i zeroPg)
    obtain ⟨h3, h4⟩ := putV_le l i zeroPg
    have h5 : zeroPg.xs.length = 0 := rfl
    exact ⟨h1.trans h3, Nat.le_trans h2 (by omega)⟩
theorem totG_app (l : List Pg) (p : Pg) : totG (l ++ [p]) = totG l + p.xs.length := by
  unfold totG
  simp
theorem allocV_le (l : List Pg) : (allocV l).1.length ≤ l.length + 1 ∧ totG (allocV l).1 ≤ totG l := by
  unfold allocV
  have h5 : leafPg.xs.length = 0 := rfl
  split
  · rename_i i _
    have := totG_set l i leafPg
    refine ⟨?_, Nat.le_trans this (by omega)⟩
    rw [List.length_set]; omega
  · split
    · exact ⟨Nat.le_add_right _ _, Nat.le_refl _⟩
    · refine ⟨?_, ?_⟩
      · show (l ++ [leafPg]).length ≤ _
        simp
      · show totG (l ++ [leafPg]) ≤ _
        rw [totG_app, h5]
        omega
theorem st2 {b g : Nat} {w V : World} {x y : Value} (B : Below b w V) (h : b ≤ g) : Below b w ((V.setCell ⟨g, 0, none⟩ x).setCell ⟨g, 1, none⟩ y) :=
  (B.setCell (p := ⟨g, 0, none⟩) h x).setCell (p := ⟨g, 1, none⟩) h y
theorem rdI_own {k : IntKind} {e : TypeId} {w : World} {base c : Nat} {a : Option Addr} {zs : List Int} (h : Own k e w base (.slice a zs.length c) zs) : RdI k w a zs.length c zs := by
  obtain ⟨a', c', e, r⟩ := h.rd
  cases e
  exact r
theorem len_pgs {ps : List PgV} {out : List Pg} (e : ps.map PgV.pg = out) : ps.length = out.length := by rw [← e, List.length_map]
end Go.Proofs.Ytfefggcfeppeiaa

/- What a walk from page to page reaches: the model's l7Has. -/
namespace Go.Proofs.Ytfefggcfeppeiaa
open Go.RowKit

/-- The pages that a page refers to. -/
def kidsP (p : Pg) : List It := if p.leaf then [] else p.xs
/-- A walk from page i, behind what was reached; no deeper than f. -/
def walkV (l : List Pg) : Nat → Int → List Int → List Int
  | 0, _, out => out
  | f + 1, i, out => if (pageAt l i).used && !(out.contains i) then (kidsP (pageAt l i)).foldl (fun acc x => walkV l f x.id acc) (out ++ [i]) else out
def reachV (l : List Pg) (root : Int) : List Int := walkV l (l.length + 1) root []

theorem has_yes {zs : List Int} {x : Int} {k : Nat} (hk : k < zs.length) (h : zs.getD k 0 = x) : zs.contains x = true := by
  rw [List.contains_iff_mem, ← h]
  rw [List.getD_eq_getElem?_getD, List.getElem?_eq_getElem hk]
  exact List.getElem_mem hk
theorem has_no {zs : List Int} {x : Int} (h : ∀ j, j < zs.length → zs.getD j 0 ≠ x) : zs.contains x = false := by
  cases e : zs.contains x with
  | false => rfl
  | true =>
    rw [List.contains_iff_mem] at e
    obtain ⟨j, hj, e2⟩ := List.getElem_of_mem e
    exact absurd (by rw [List.getD_eq_getElem?_getD, List.getElem?_eq_getElem hj]; exact e2) (h j hj)

theorem fold_inv {α : Type} {P : List Int → Prop} {g : List Int → α → List Int} : ∀ (l : List α) (a : List Int), P a → (∀ acc x, x ∈ l → P acc → P (g acc x)) → P (l.foldl g a)
  | [], _, h, _ => h
  | x :: l, a, h, hs => fold_inv l (g a x) (hs a x List.mem_cons_self h) (fun acc y hy => hs acc y (List.mem_cons_of_mem _ hy))
/-- Pages, each once. -/
def OutOk (l : List Pg) (zs : List Int) : Prop := zs.Nodup ∧ ∀ z ∈ zs, 0 ≤ z ∧ z < (l.length : Int)
theorem used_in {l : List Pg} {i : Int} (h : (pageAt l i).used = true) : 0 ≤ i ∧ i < (l.length : Int) := by
  by_cases e : 0 ≤ i ∧ i ≤ (l.length : Int) - 1
  · omega
  · rw [pageAt_no e] at h
    cases h
theorem OutOk.snoc {l : List Pg} {zs : List Int} {i : Int} (h : OutOk l zs) (hi : 0 ≤ i ∧ i < (l.length : Int)) (hn : zs.contains i = false) : OutOk l (zs ++ [i]) := by
  refine ⟨?_, fun z hz => ?_⟩
  · rw [List.nodup_append]
    refine ⟨h.1, by simp, fun x hx y hy => ?_⟩
    obtain rfl := List.mem_singleton.1 hy
    rintro rfl
    rw [← List.contains_iff_mem] at hx
    rw [hx] at hn
    cases hn
  · rcases List.mem_append.1 hz with h1 | h1
    · exact h.2 z h1
    · obtain rfl := List.mem_singleton.1 h1
      exact hi
theorem walkV_ok (l : List Pg) : ∀ (f : Nat) (i : Int) (zs : List Int), OutOk l zs → OutOk l (walkV l f i zs) ∧ ∃ t, walkV l f i zs = zs ++ t
  | 0, i, zs, h => ⟨h, [], by simp [walkV]⟩
  | f + 1, i, zs, h => by
    unfold walkV
    split
    · rename_i hc
      rw [Bool.and_eq_true, Bool.not_eq_true'] at hc
      have h1 := h.snoc (used_in hc.1) hc.2
      refine fold_inv (P := fun acc => OutOk l acc ∧ ∃ t, acc = zs ++ t) _ _ ⟨h1, [i], rfl⟩ (fun acc x _ hp => ?_)
      obtain ⟨h2, t, rfl⟩ := hp
      obtain ⟨h3, t', e⟩ := walkV_ok l f x.id (zs ++ t) h2
      exact ⟨h3, t ++ t', by rw [e, List.append_assoc]⟩
    · exact ⟨h, [], by simp⟩
theorem nodup_le : ∀ (n : Nat) (zs : List Int), zs.Nodup → (∀ z ∈ zs, 0 ≤ z ∧ z < (n : Int)) → zs.length ≤ n
  | 0, [], _, _ => Nat.le_refl _
  | 0, z :: zs, _, h => by have := h z List.mem_cons_self; omega
  | n + 1, zs, h, hz => by
    have h1 := nodup_le n (zs.erase (n : Int)) (h.erase _) (fun z hm => by
      have h2 := hz z (List.mem_of_mem_erase hm)
      have h3 : z ≠ (n : Int) := fun e => by
        subst e
        exact absurd hm (List.Nodup.not_mem_erase h)
      omega)
    rw [List.length_erase] at h1
    split at h1 <;> omega
theorem OutOk.len {l : List Pg} {zs : List Int} (h : OutOk l zs) : zs.length ≤ l.length := nodup_le _ _ h.1 h.2

set_option maxRecDepth 100000 in
set_option maxHeartbeats 800000 in
theorem l7Has_any (a : Option Addr) (n c : Nat) (zs : List Int) (x : Int) (w : World) (h : RdI .i64 w a n c zs) :
    Calls Try.prog 103 #[.slice a n c, .int .i64 x] w fun e w' => e = .returned (.bool (zs.contains x)) ∧ Below w.heap.size w w' := by
  have HL := Lib.hid h.1.1
  have HR := Lib.hid h
  have hm := h.1.2.2.1
  have hnc := h.1.2.1
  unfold maxLen at hm
  clear h
  go_enter Try.func103, Try.ntmps103
  go_wp2
  go_loopw [5] (fun i wr => ∃ k : Nat, k ≤ n ∧ i = .int .i64 k ∧ Hid (∀ j, j < k → zs.getD j 0 ≠ x) ∧ Below w.heap.size w wr) (fun i _ => n - (intOf i).toNat)
  case atStart => exact ⟨0, Nat.zero_le _, rfl, Lib.hid (fun j hj => by omega), Below.refl _ _⟩
  case round =>
    obtain ⟨k, hk, rfl, HA, hB⟩ := hrel
    by_cases hlt : k < n
    · obtain ⟨b, off, rfl, hc⟩ := HR.out.2 (by omega)
      have hck := hc k hlt
      have hbw : b < w.heap.size := World.block_lt_of_cell? w ⟨b, off + k, none⟩ hck
      rw [← hB.cell (p := ⟨b, off + k, none⟩) hbw] at hck
      clear hc
      have h0 : (0 : Int) ≤ k := by omega
      have h1 : (k : Int) < n := by omega
      obtain ⟨p, hp⟩ : ∃ p, zs.getD k 0 = p := ⟨_, rfl⟩
      rw [hp] at hck
      by_cases he : p = x
      · subst he
        have HF : Hid (zs.contains p = true) := Lib.hid (has_yes (by rw [HL.out]; exact hlt) hp)
        clear hp
        go_wp2
        go_ret
        exact ⟨ret_bool HF.out.symm, hB⟩
      · have hne : (p == x) = false := by rw [beq_eq_false_iff_ne]; exact he
        have HS : Hid (∀ j, j < k + 1 → zs.getD j 0 ≠ x) := Lib.hid (fun j hj => by
          by_cases hjk : j < k
          · exact HA.out j hjk
          · obtain rfl : j = k := by omega
            rw [hp]
            exact he)
        clear he hp
        go_wp2
        go_roundw
        case rel => exact ⟨k + 1, by omega, by go_num, HS, hB⟩
        case measure => simp [intOf]; omega
    · have HF : Hid (zs.contains x = false) := Lib.hid (has_no (fun j hj => HA.out j (by rw [HL.out] at hj; omega)))
      go_wp2
      go_ret
      exact ⟨ret_bool HF.out.symm, hB⟩
end Go.Proofs.Ytfefggcfeppeiaa

/- The model's walk from page to page: it calls itself. -/
namespace Go.Proofs.Ytfefggcfeppeiaa
open Go.RowKit
attribute [local go_sem ↓] Go.wp_at_zero Go.wp_at_succ

/-- No block has turned but rows of ints. -/
def Turned (w w' : World) : Prop := w.heap.size ≤ w'.heap.size ∧ ∀ (k : Nat) (cs : Array Value) (T : TypeId) (fr : Nat × Nat), w.heap[k]? = some (.cells cs T fr) → T ≠ 3 → w'.heap[k]? = w.heap[k]?
theorem Turned.refl (w : World) : Turned w w := ⟨Nat.le_refl _, fun _ _ _ _ _ _ => rfl⟩
theorem Turned.trans {a b c : World} (h : Turned a b) (k : Turned b c) : Turned a c :=
  ⟨Nat.le_trans h.1 k.1, fun i cs T fr hi hT => (k.2 i cs T fr ((h.2 i cs T fr hi hT).trans hi) hT).trans (h.2 i cs T fr hi hT)⟩
theorem heap_lt {w : World} {k : Nat} {o : Obj} (h : w.heap[k]? = some o) : k < w.heap.size := by
  rw [Array.getElem?_eq_some_iff] at h
  exact h.1
theorem Turned.of_below {w w' : World} (h : Below w.heap.size w w') : Turned w w' := ⟨h.size, fun k _ _ _ hk _ => h.block k (heap_lt hk)⟩
theorem Turned.of_grown {w w' : World} {base s n : Nat} {v : Value} {xs : List Value} (h : w.grownBy w' v.ownBlock) (ho : w.ownsRow base 3 s v n xs) : Turned w w' :=
  ⟨h.size, fun k cs T fr hk hT => h.block k (heap_lt hk) (fun e => TagT.ne (⟨cs, fr, hk⟩ : TagT T w k) ho (Ne.symm hT) k e.symm rfl)⟩
theorem TagT.turned {w w' : World} {T : TypeId} {q : Nat} (h : TagT T w q) (hk : Turned w w') (hT : T ≠ 3) : TagT T w' q := by
  obtain ⟨cs, fr, e⟩ := h
  exact ⟨cs, fr, (hk.2 q cs T fr e hT).trans e⟩
theorem Loc.turned {w w' : World} {T : TypeId} {q : Nat} {cs : Array Value} (h : Loc w q cs) (ht : TagT T w q) (hk : Turned w w') (hT : T ≠ 3) : Loc w' q cs := by
  obtain ⟨cs', fr, e⟩ := ht
  exact h.of hk.1 (hk.2 q cs' T fr e hT)
/-- What a walk leaves: the pages reached, in a row of its own; nothing else has turned but rows of ints behind w0. -/
def Walked (w0 : World) (zs : List Int) (w : World) (e : Ending) (w' : World) : Prop :=
  ∃ v', e = .returned v' ∧ Own .i64 3 w' w0.heap.size v' zs ∧ Below w0.heap.size w0 w' ∧ Turned w w'
theorem walkV_succ (l : List Pg) (f : Nat) (i : Int) (out : List Int) : walkV l (f + 1) i out = if (pageAt l i).used && !(out.contains i) then (kidsP (pageAt l i)).foldl (fun acc x => walkV l f x.id acc) (out ++ [i]) else out := by rw [walkV]
theorem Walked.same {w0 w w' : World} {v : Value} {zs : List Int} (hB : Below w0.heap.size w0 w) (ho : Own .i64 3 w w0.heap.size v zs) (hb : Below w.heap.size w w') : Walked w0 zs w (.returned v) w' :=
  ⟨v, rfl, ho.below hb, hB.trans (hb.mono hB.size), Turned.of_below hb⟩

set_option maxRecDepth 100000 in
set_option maxHeartbeats 3200000 in
theorem l7Walk_any (root : Int) (a : Option Addr) (n cap : Nat) (ps : List PgV) (w0 : World) (h : RdP w0 a n cap ps) (hn : n ≤ 1099511627776) : ∀ (f : Nat) (i : Int) (v : Value) (zs : List Int) (w : World), Below w0.heap.size w0 w → Own .i64 3 w w0.heap.size v zs → OutOk (ps.map PgV.pg) zs → n < f + zs.length →
    Calls Try.prog 110 #[.agg #[.int .i64 root, .slice a n cap], .int .i64 i, v] w (Walked w0 (walkV (ps.map PgV.pg) f i zs) w)
  | 0, i, v, zs, w, hB, ho, hz, hf => by
    have := hz.len
    rw [List.length_map, h.1.1.1] at this
    omega
  | f + 1, i, v, zs, w, hB, ho, hz, hf => by
    obtain ⟨i0, hi0, hz0, hz1, hz2⟩ := info_parts Try.infoI64
    replace hi0 := Lib.hid hi0
    replace hz0 := Lib.hid hz0
    replace hz1 := Lib.hid hz1
    replace hz2 := Lib.hid hz2
    have hnc := h.1.1.2.1
    have hm := h.1.1.2.2.1
    unfold maxLen at hm
    have HL := Lib.hid h.1.1.1
    have HR := Lib.hid h
    have hzl : zs.length ≤ n := by
      have := hz.len
      rw [List.length_map, h.1.1.1] at this
      exact this
    have IH := Lib.hid (l7Walk_any root a n cap ps w0 h hn f)
    have HO := Lib.hid ho
    have HB := Lib.hid hB
    have HZ := Lib.hid hz
    obtain ⟨W0, hW0⟩ : ∃ W0, W0 = w.alloc (.cells #[.int .i64 root, .slice a n cap] 26) := ⟨_, rfl⟩
    have b0 : Below w.heap.size w W0 := by subst hW0; exact new_below w _
    have K0 : Loc W0 w.heap.size #[.int .i64 root, .slice a n cap] := by subst hW0; exact Loc.new w _ _
    have s0 : W0.heap.size = w.heap.size + 1 := by subst hW0; simp
    have T0 : TagT 26 W0 w.heap.size := by subst hW0; exact TagT.new _ _ _
    obtain ⟨va, vc, rfl, hr⟩ := Own.rd ho
    have k1 := K0.2.1 1
    simp at k1
    have HR0 := h.below (hB.trans (b0.mono hB.size))
    clear h ho hB hz
    by_cases hin : 0 ≤ i ∧ i ≤ (n : Int) - 1
    · obtain ⟨h0, h1⟩ := hin
      obtain ⟨m, rfl⟩ := Int.eq_ofNat_of_zero_le h0
      have z1 : (m : Int) < n := by omega
      obtain ⟨b, off, p, rfl, hbl, hp, hrd, d0, d1, d2⟩ := rdP_at HR0 (show m < n by omega)
      have hv : pageAt (ps.map PgV.pg) m = p.pg := pageAt_yes hp
      cases hu : p.used with
      | false =>
        have hr2 : walkV (ps.map PgV.pg) (f + 1) m zs = zs := by
          rw [walkV_succ]
          rw [hv]
          show (if (p.used && _) = true then _ else _) = _
          rw [hu]
          rfl
        rw [hu] at d0
        rw [hr2]
        clear hv hr2 hp hrd hr
        go_enter Try.func110, Try.ntmps110
        go_wp2_with fail
        rw [← hW0]
        clear hW0
        refine (l1In_yes m 0 ((n : Int) - 1) _ h0 h1).mono ?_
        rintro e w2 ⟨rfl, rfl⟩
        go_wp2
        go_ret
        exact Walked.same HB.out HO.out b0
      | true =>
        rw [hu] at d0
        have CH := Lib.hid (l7Has_any va zs.length vc zs m W0 (hr.below b0))
        cases hc : zs.contains (m : Int) with
        | true =>
          have hr2 : walkV (ps.map PgV.pg) (f + 1) m zs = zs := by
            rw [walkV_succ]
            rw [hc, Bool.not_true, Bool.and_false]
            rfl
          rw [hr2]
          rw [hc] at CH
          clear hv hr2 hp hrd hr
          go_enter Try.func110, Try.ntmps110
          go_wp2_with fail
          rw [← hW0]
          clear hW0
          refine (l1In_yes m 0 ((n : Int) - 1) _ h0 h1).mono ?_
          rintro e w2 ⟨rfl, rfl⟩
          go_wp2_with fail
          refine CH.out.mono ?_
          rintro e w2 ⟨rfl, b2⟩
          go_wp2
          go_ret
          exact Walked.same HB.out HO.out (b0.trans (b2.mono b0.size))
        | false =>
          have hr2 : Hid (walkV (ps.map PgV.pg) (f + 1) m zs = (kidsP p.pg).foldl (fun acc x => walkV (ps.map PgV.pg) f x.id acc) (zs ++ [(m : Int)])) := by
            show walkV _ _ _ _ = _
            rw [walkV_succ]
            rw [hv, hc]
            show (if (p.used && _) = true then _ else _) = _
            rw [hu]
            rfl
          rw [hr2.out]
          rw [hc] at CH
          have HZ2 : Hid (OutOk (ps.map PgV.pg) (zs ++ [(m : Int)])) := Lib.hid (HZ.out.snoc (by rw [List.length_map, HL.out]; omega) hc)
          have HRD := Lib.hid hrd
          have hpx := Lib.hid hp
          clear hv hp hrd hr hc hu
          go_enter Try.func110, Try.ntmps110
          go_wp2_with fail
          rw [← hW0]
          clear hW0
          refine (l1In_yes m 0 ((n : Int) - 1) _ h0 h1).mono ?_
          rintro e w2 ⟨rfl, rfl⟩
          go_wp2_with fail
          refine CH.out.mono ?_
          rintro e w2 ⟨rfl, b2⟩
          have HO2 := Lib.hid ((HO.out.below b0).below b2)
          have HB2 := Lib.hid ((HB.out.trans (b0.mono HB.out.size)).trans (b2.mono (Nat.le_trans HB.out.size b0.size)))
          have TU2 := Lib.hid ((Turned.of_below b0).trans (Turned.of_below b2))
          have K2 := Lib.hid (K0.below b2)
          have T2 := Lib.hid (T0.of (b2.block _ K0.1))
          have HRD2 := Lib.hid (HRD.out.below b2)
          have p0 := bcell b2
          have e0 := p0.1 b (off + m * 3) hbl
          have e1 := p0.1 b (off + m * 3 + 1) hbl
          have e2 := p0.1 b (off + m * 3 + 1 + 1) hbl
          rw [d0] at e0
          rw [d1] at e1
          rw [d2] at e2
          have s2 := b2.size
          have hb2 : b < w0.heap.size := HR.out.1.lt (by omega) rfl
          have hsB := HB.out.size
          clear d0 d1 d2 b2 b0 K0 T0 CH HRD k1 HR0 hbl p0
          go_wp2_with (at_builtin; refine append_src rfl (.tmp 31) (.tmp 33) 36 rfl w0.heap.size 3 i0 (.int .i64 0) 1 8 Try.underlying36 hi0.out hz0.out hz1.out hz2.out rfl (by decide) (.slice va zs.length vc) zs.length (zs.map (Value.int .i64)) rfl (World.ownsRow.alloc HO2.out _) (some ⟨w2.heap.size, 0, none⟩) 1 1 [.int .i64 (m : Int)] rfl rfl (fun h => by cases h) ?_ (ints_oneCell .i64 [(m : Int)]) ?_ ?_ ?_ ?_)
          case refine_1 =>
            intro q hq
            cases hq
            exact World.news_of_block (cs := #[.int .i64 (m : Int)]) (t := 3) (fr := (0, 0)) (heap_alloc_new w2 _)
          case refine_2 => unfold maxLen; omega
          case refine_3 => omega
          case refine_4 => simp; omega
          intro v3 w3 o3 g3
          obtain ⟨a3, c3, rfl⟩ := owns_shape o3
          have TU3 := Lib.hid (TU2.out.trans ((Turned.of_below (new_below w2 (.cells #[.int .i64 (m : Int)] 3))).trans (Turned.of_grown g3 (World.ownsRow.alloc HO2.out _))))
          have B3 := Lib.hid ((HB2.out.alloc HB2.out.size (.cells #[.int .i64 (m : Int)] 3)).grown g3 (by simp; omega) (fun j hj => by have := (World.ownsRow.lt HO2.out j hj).1; omega))
          have g0 := (Turned.of_below (new_below w2 (.cells #[.int .i64 (m : Int)] 3))).trans (Turned.of_grown g3 (World.ownsRow.alloc HO2.out _))
          have K3 := Lib.hid (K2.out.turned T2.out g0 (by decide))
          have T3 := Lib.hid (T2.out.turned g0 (by decide))
          have O3 : Hid (Own .i64 3 w3 w0.heap.size (.slice a3 (zs.length + 1) c3) (zs ++ [(m : Int)])) := by
            have := o3
            unfold Own
            rw [List.length_append, List.map_append]
            exact Lib.hid this
          have e1' := (B3.out.cell (p := ⟨b, off + m * 3 + 1, none⟩) hb2).trans ((HB2.out.cell (p := ⟨b, off + m * 3 + 1, none⟩) hb2).symm.trans e1)
          have e2' := (B3.out.cell (p := ⟨b, off + m * 3 + 1 + 1, none⟩) hb2).trans ((HB2.out.cell (p := ⟨b, off + m * 3 + 1 + 1, none⟩) hb2).symm.trans e2)
          have c1 := K3.out.2.1 1
          simp at c1
          have hq3 := K3.out.1
          obtain ⟨q1, hq1⟩ : ∃ q, q = w3.heap.size := ⟨_, rfl⟩
          obtain ⟨W4, hW4⟩ : ∃ W4, W4 = w3.alloc (.cells #[.bool p.leaf, .slice p.a p.n p.cap] 32) := ⟨_, rfl⟩
          have b4 : Below w3.heap.size w3 W4 := by subst hW4; exact new_below w3 _
          have KN := Lib.hid (show Loc W4 q1 #[.bool p.leaf, .slice p.a p.n p.cap] by subst hW4; subst hq1; exact Loc.new w3 _ _)
          have TN := Lib.hid (show TagT 32 W4 q1 by subst hW4; subst hq1; exact TagT.new _ _ _)
          have K4 := Lib.hid (K3.out.below b4)
          have T4 := Lib.hid (T3.out.turned (Turned.of_below b4) (by decide))
          have O4 := Lib.hid (O3.out.below b4)
          have B4 := Lib.hid (B3.out.trans (b4.mono B3.out.size))
          have U4 := Lib.hid (TU3.out.trans (Turned.of_below b4))
          clear o3 g3 g0 e0 e1 e2 b4 K3 T3 O3 B3 TU3 HO2 HB2 TU2 K2 T2 HRD2
          have kn0 := KN.out.2.1 0
          have kn1 := KN.out.2.1 1
          simp at kn0 kn1
          cases hlf : p.leaf with
          | true =>
            rw [hlf] at e1'
            have hk : Hid (kidsP p.pg = []) := by
              show kidsP p.pg = []
              unfold kidsP
              exact if_pos hlf
            rw [hlf] at kn0
            rw [hlf] at hW4
            go_wp2_with fail
            rw [← hW4, ← hq1]
            clear hW4 hq1
            go_loopw [2, 8] (fun v i wr => v = .slice a3 (zs.length + 1) c3 ∧ i = .int .i64 0 ∧ wr = W4) (fun _ _ _ => 0)
            case atStart => exact ⟨rfl, rfl, rfl⟩
            case round =>
              obtain ⟨rfl, rfl, rfl⟩ := hrel
              go_wp2
              all_goals
                go_ret
                rw [hk.out]
                refine ⟨_, rfl, ?_, B4.out, U4.out⟩
                have := O4.out
                unfold Own at this ⊢
                exact this
          | false =>
            rw [hlf] at e1'
            rw [hlf] at kn0
            rw [hlf] at hW4
            have hk : Hid (kidsP p.pg = p.xs) := by
              show kidsP p.pg = p.xs
              unfold kidsP
              exact if_neg (by rw [show p.pg.leaf = p.leaf from rfl, hlf]; exact Bool.false_ne_true)
            rw [hlf] at KN
            have HRD := Lib.hid (HR.out.2 p (List.mem_of_getElem? hpx.out))
            have HPN := Lib.hid HRD.out.1.1
            have hpc := HRD.out.1.2.1
            have hpm2 := HRD.out.1.2.2.1
            unfold maxLen at hpm2
            go_wp2_with fail
            rw [← hW4, ← hq1]
            clear hW4 hq1 kn0 kn1 c1 e1' e2' hq3
            go_loopw [2, 8] (fun v i wr => ∃ (k : Nat) (va : Option Addr) (vc na : Nat) (acc : List Int), k ≤ p.n ∧ v = .slice va na vc ∧ i = .int .i64 (k : Int) ∧ Hid (acc.length = na) ∧ Hid (acc = (p.xs.take k).foldl (fun acc x => walkV (ps.map PgV.pg) f x.id acc) (zs ++ [(m : Int)])) ∧ Hid (OutOk (ps.map PgV.pg) acc) ∧ Hid (zs.length + 1 ≤ acc.length) ∧ Hid (Own .i64 3 wr w0.heap.size (.slice va na vc) acc) ∧ Hid (Loc wr w.heap.size #[.int .i64 root, .slice (some ⟨b, off, none⟩) n cap]) ∧ Hid (TagT 26 wr w.heap.size) ∧ Hid (Loc wr q1 #[.bool false, .slice p.a p.n p.cap]) ∧ Hid (TagT 32 wr q1) ∧ Hid (Below w0.heap.size w0 wr) ∧ Hid (Turned w wr)) (fun _ i _ => p.n - (intOf i).toNat)
            case atStart =>
              exact ⟨0, a3, c3, zs.length + 1, _, Nat.zero_le _, rfl, rfl, Lib.hid (by simp), Lib.hid rfl, HZ2, Lib.hid (by simp), O4, K4, T4, KN, TN, B4, U4⟩
            case round =>
              clear O4 K4 T4 KN TN B4 U4
              obtain ⟨k, va5, vc5, na, acc, hk5, rfl, rfl, HNA, HACC, HOK, HLE, O5, K5, T5, KN5, TN5, B5, U5⟩ := hrel
              have c1 := K5.out.2.1 1
              have c0 := K5.out.2.1 0
              have n0 := KN5.out.2.1 0
              have n1 := KN5.out.2.1 1
              simp at c0 c1 n0 n1
              by_cases hlt : k < p.n
              · obtain ⟨bb, offb, x, hea, hbl, hx, d0, d1, d2, d3, d4⟩ := rdIt_at (HRD.out.below B5.out) hlt
                rw [hea] at n1
                have z2 : (k : Int) < p.n := by omega
                have hbb : bb < w0.heap.size := HRD.out.lt (by omega) hea
                have CI := IH.out x.id (.slice va5 na vc5) acc wr.drew B5.out.drew (O5.out.below (drew_below _)) HOK.out (by have := HLE.out; omega)
                obtain ⟨acc2, hacc2⟩ : ∃ acc2, walkV (ps.map PgV.pg) f x.id acc = acc2 := ⟨_, rfl⟩
                rw [hacc2] at CI
                replace CI := Lib.hid CI
                have HOK2 : Hid (OutOk (ps.map PgV.pg) acc2) := by rw [← hacc2]; exact Lib.hid (walkV_ok _ f x.id acc HOK.out).1
                have HLE2 : Hid (zs.length + 1 ≤ acc2.length) := by
                  obtain ⟨tt, e⟩ := (walkV_ok (ps.map PgV.pg) f x.id acc HOK.out).2
                  rw [hacc2] at e
                  have := HLE.out
                  refine Lib.hid ?_
                  rw [e, List.length_append]
                  omega
                have HACC2 : Hid (acc2 = (p.xs.take (k + 1)).foldl (fun acc x => walkV (ps.map PgV.pg) f x.id acc) (zs ++ [(m : Int)])) := by
                  show acc2 = _
                  rw [List.take_add_one, hx, List.foldl_append, ← HACC.out, ← hacc2]
                  rfl
                have KS : Hid (∀ V, Below w0.heap.size w0 V → Turned wr V → (fun V => Below w0.heap.size w0 V ∧ Turned wr V ∧ V.cell? ⟨w.heap.size, 0, none⟩ = some (.int .i64 root) ∧ V.cell? ⟨w.heap.size, 1, none⟩ = some (.slice (some ⟨b, off, none⟩) n cap) ∧ V.cell? ⟨q1, 1, none⟩ = some (.slice (some ⟨bb, offb, none⟩) p.n p.cap) ∧ V.cell? ⟨bb, offb + k * 5, none⟩ = some (.int .i64 x.id)) V) := Lib.hid (fun V b u => ⟨b, u, ((K5.out.turned T5.out u (by decide)).2.1 0).trans rfl, ((K5.out.turned T5.out u (by decide)).2.1 1).trans rfl, ((KN5.out.turned TN5.out u (by decide)).2.1 1).trans (by rw [hea]; rfl), (b.cell (p := ⟨bb, offb + k * 5, none⟩) hbb).trans ((B5.out.cell (p := ⟨bb, offb + k * 5, none⟩) hbb).symm.trans d0)⟩)
                have TD := Lib.hid (Turned.of_below (drew_below wr))
                have BD := Lib.hid B5.out.drew
                replace hea := Lib.hid hea
                clear hx hacc2
                go_wp2_with fail
                go_region_held3 (fun V => Below w0.heap.size w0 V ∧ Turned wr V ∧ V.cell? ⟨w.heap.size, 0, none⟩ = some (.int .i64 root) ∧ V.cell? ⟨w.heap.size, 1, none⟩ = some (.slice (some ⟨b, off, none⟩) n cap) ∧ V.cell? ⟨q1, 1, none⟩ = some (.slice (some ⟨bb, offb, none⟩) p.n p.cap) ∧ V.cell? ⟨bb, offb + k * 5, none⟩ = some (.int .i64 x.id))
                  (first | exact KS.out _ BD.out TD.out | exact KS.out _ b6 (TD.out.trans u6))
                  (first | (go_at_call 110; (with_reducible refine CI.out.mono ?_); rintro e w6 ⟨v6, rfl, o6, b6, u6⟩; obtain ⟨a6, c6, rfl, -⟩ := Own.rd o6))
                have TT := Lib.hid (TD.out.trans u6)
                have O6 := Lib.hid o6
                have B6 := Lib.hid b6
                have K6 := Lib.hid (K5.out.turned T5.out TT.out (by decide))
                have T6 := Lib.hid (T5.out.turned TT.out (by decide))
                have KN6 := Lib.hid (KN5.out.turned TN5.out TT.out (by decide))
                have TN6 := Lib.hid (TN5.out.turned TT.out (by decide))
                have U6 := Lib.hid (U5.out.trans TT.out)
                clear o6 b6 u6 KS CI
                go_wp2
                go_roundw
                case rel => exact ⟨k + 1, a6, c6, _, acc2, by omega, rfl, by go_num, Lib.hid rfl, HACC2, HOK2, HLE2, O6, K6, T6, KN6, TN6, B6, U6⟩
                case measure => simp [intOf]; omega
              · obtain rfl : k = p.n := by omega
                have hall : Hid (p.xs.take p.n = p.xs) := Lib.hid (List.take_of_length_le (by rw [HPN.out]; exact Nat.le_refl _))
                go_wp2
                go_ret
                rw [hk.out, ← hall.out, ← HACC.out]
                exact ⟨_, rfl, O5.out, B5.out, U5.out⟩
    · have hr2 : walkV (ps.map PgV.pg) (f + 1) i zs = zs := by
        rw [walkV_succ]
        rw [pageAt_no (by rw [List.length_map, HL.out]; exact hin)]
        rfl
      rw [hr2]
      clear hr2 hr
      go_enter Try.func110, Try.ntmps110
      go_wp2_with fail
      rw [← hW0]
      clear hW0
      refine (l1In_no i 0 ((n : Int) - 1) _ hin).mono ?_
      rintro e w2 ⟨rfl, rfl⟩
      go_wp2
      go_ret
      exact Walked.same HB.out HO.out b0

set_option maxRecDepth 100000 in
set_option maxHeartbeats 400000 in
/-- The model's Reach. -/
theorem sReach_any (root : Int) (a : Option Addr) (n cap : Nat) (ps : List PgV) (w : World) (h : RdP w a n cap ps) (hn : n ≤ 1099511627776) :
    Calls Try.prog 85 #[.agg #[.int .i64 root, .slice a n cap]] w fun e w' => ∃ v, e = .returned v ∧ Own .i64 3 w' w.heap.size v (reachV (ps.map PgV.pg) root) ∧ Below w.heap.size w w' := by
  have HL := h.1.1.1
  obtain ⟨W0, hW0⟩ : ∃ W0, W0 = w.alloc (.cells #[.int .i64 root, .slice a n cap] 26) := ⟨_, rfl⟩
  have b0 : Below w.heap.size w W0 := by subst hW0; exact new_below w _
  obtain ⟨W1, hW1⟩ : ∃ W1, W1 = W0.alloc (.cells #[] 3) := ⟨_, rfl⟩
  have b1 : Below W0.heap.size W0 W1 := by subst hW1; exact new_below W0 _
  have s0 : W0.heap.size = w.heap.size + 1 := by subst hW0; simp
  have O1 : Own .i64 3 W1 W0.heap.size (.slice (some ⟨W0.heap.size, 0, none⟩) 0 0) [] := by subst hW1; exact own_nil W0 3 1 W0.heap.size W0.heap.size rfl (Nat.le_refl _)
  have C := Lib.hid (l7Walk_any root a n cap ps W0 (h.below b0) hn (n + 1) root (.slice (some ⟨W0.heap.size, 0, none⟩) 0 0) [] W1 b1 O1 ⟨List.nodup_nil, fun z hz => by cases hz⟩ (by simp))
  have e : reachV (ps.map PgV.pg) root = walkV (ps.map PgV.pg) (n + 1) root [] := by
    unfold reachV
    rw [List.length_map, HL]
  rw [e]
  have K0 : W0.cell? ⟨w.heap.size, 0, none⟩ = some (.int .i64 root) ∧ W0.cell? ⟨w.heap.size, 1, none⟩ = some (.slice a n cap) := by subst hW0; exact ⟨(blk_new w _ _).1 0, (blk_new w _ _).1 1⟩
  obtain ⟨k0, k1⟩ := K0
  clear h
  go_enter Try.func85, Try.ntmps85
  go_wp2_with fail
  rw [← hW0]
  rw [← s0, ← hW1]
  clear hW0 hW1
  refine C.out.mono ?_
  rintro e w3 ⟨v3, rfl, o3, b3, -⟩
  have O3 := Lib.hid o3
  have B3 := Lib.hid (b0.trans (b3.mono b0.size))
  clear o3 b3 C
  go_wp2
  go_ret
  exact ⟨_, rfl, O3.out.mono (by omega), B3.out⟩
end Go.Proofs.Ytfefggcfeppeiaa

/- Where in a slice of entries a number stands. -/
namespace Go.Proofs.Ytfefggcfeppeiaa
open Go.RowKit

set_option maxRecDepth 100000 in
set_option maxHeartbeats 800000 in
theorem sEntryAt_any (a : Option Addr) (n cap : Nat) (xs : List It) (id : Int) (w : World) (h : RdS itLay w a n cap xs) :
    Calls Try.prog 121 #[.slice a n cap, .int .i64 id] w fun e w' => e = .returned (.int .i64 (atV id xs 0)) ∧ Below w.heap.size w w' := by
  have hm := h.1.2.2.1
  have hnc := h.1.2.1
  unfold maxLen at hm
  have HR := Lib.hid h
  have HL := Lib.hid h.1.1
  clear h
  go_enter Try.func121, Try.ntmps121
  go_wp2
  go_loopw [5] (fun i wr => ∃ k : Nat, k ≤ n ∧ i = .int .i64 k ∧ atV id xs 0 = atV id (xs.drop k) k ∧ wr = w) (fun i _ => n - (intOf i).toNat)
  case atStart => exact ⟨0, Nat.zero_le _, rfl, rfl, rfl⟩
  case round =>
    obtain ⟨k, hk, rfl, hA, rfl⟩ := hrel
    have HA := Lib.hid hA
    clear hA
    by_cases hlt : k < n
    · obtain ⟨b, off, x, rfl, hbl, hx, d0, d1, d2, d3, d4⟩ := rdIt_at HR.out hlt
      have HX := Lib.hid hx
      have z0 : (0 : Int) ≤ k := by omega
      have z1 : (k : Int) < n := by omega
      clear hx
      by_cases h : x.id = id
      · have hr := Lib.hid (HA.out.trans (atV_yes id HX.out h))
        have h' : (x.id == id) = true := by simpa using h
        clear h
        go_wp2
        go_ret
        exact ⟨ret_i64' hr.out.symm, Below.refl _ _⟩
      · have hr := Lib.hid (HA.out.trans (atV_no id HX.out h))
        have h' : (x.id == id) = false := by simpa using h
        clear h
        go_wp2
        go_roundw
        case rel => exact ⟨k + 1, by omega, by go_num, hr.out, by trivial⟩
        case measure => simp [intOf]; omega
    · have hr : Hid (atV id xs 0 = -1) := by
        obtain rfl : k = n := by omega
        exact HA.out.trans (atV_end xs k id (by rw [HL.out]; exact Nat.le_refl _))
      go_wp2
      go_ret
      exact ⟨ret_i64' hr.out.symm, Below.refl _ _⟩
end Go.Proofs.Ytfefggcfeppeiaa

/- The model's NodeOk: at most four entries, each valid, no number twice. -/
namespace Go.Proofs.Ytfefggcfeppeiaa
open Go.RowKit

def entOk (b : Bool) (xs : List It) (x : It) (k : Int) : Bool := okB x.x0 x.y0 x.x1 x.y1 && (atV x.id xs 0 == k) && (if b then inB x.id 1 999 else inB x.id 0 47)
def nodeAll (b : Bool) (xs : List It) : List It → Int → Bool
  | [], _ => true
  | x :: l, k => entOk b xs x k && nodeAll b xs l (k + 1)
theorem nodeAll_no {b : Bool} {xs : List It} {k : Nat} {x : It} (hx : xs[k]? = some x) (h : entOk b xs x k = false) : nodeAll b xs (xs.drop k) k = false := by rw [drop_at hx, nodeAll, h]; rfl
theorem nodeAll_yes {b : Bool} {xs : List It} {k : Nat} {x : It} (hx : xs[k]? = some x) (h : entOk b xs x k = true) : nodeAll b xs (xs.drop k) k = nodeAll b xs (xs.drop (k + 1)) ((k + 1 : Nat) : Int) := by rw [drop_at hx, nodeAll, h]; simp
theorem nodeAll_end (b : Bool) (xs : List It) (n : Nat) (h : xs.length ≤ n) : nodeAll b xs (xs.drop n) n = true := by rw [List.drop_eq_nil_of_le h]; rfl
def nodeOkV (b : Bool) (xs : List It) : Bool := nodeAll b xs xs 0 && (decide (xs.length ≤ 4) && (b || decide (0 < xs.length)))
theorem nodeOkV_no {b : Bool} {xs : List It} (h : nodeAll b xs xs 0 = false) : nodeOkV b xs = false := by unfold nodeOkV; rw [h]; rfl
theorem keepc {W W' : World} {q : Nat} {f : Nat → Option Value} (hb : Below W.heap.size W W') (hq : q < W.heap.size) (h : ∀ o, W.cell? ⟨q, o, none⟩ = f o) : ∀ o, W'.cell? ⟨q, o, none⟩ = f o := fun o => (hb.cell (p := ⟨q, o, none⟩) hq).trans (h o)

set_option maxRecDepth 100000 in
set_option maxHeartbeats 3200000 in
theorem sNodeOk_any (b : Bool) (a : Option Addr) (n cap : Nat) (xs : List It) (w : World) (h : RdS itLay w a n cap xs) :
    Calls Try.prog 102 #[.agg #[.bool b, .slice a n cap]] w fun e w' => e = .returned (.bool (nodeOkV b xs)) ∧ Below w.heap.size w w' := by
  have hm := h.1.2.2.1
  have hnc := h.1.2.1
  unfold maxLen at hm
  have HR := Lib.hid h
  have HL := Lib.hid h.1.1
  clear h
  have B0 : Below w.heap.size w (w.alloc (.cells #[.bool b, .slice a n cap] 32)) := new_below w _
  have K0 := (blk_new w #[.bool b, .slice a n cap] 32).1
  go_enter Try.func102, Try.ntmps102
  go_wp2
  go_loopw [3] (fun i wr => ∃ k : Nat, k ≤ n ∧ i = .int .i64 (k : Int) ∧ nodeAll b xs xs 0 = nodeAll b xs (xs.drop k) k ∧ (∀ o, wr.cell? ⟨w.heap.size, o, none⟩ = #[Value.bool b, .slice a n cap][o]?) ∧ Below w.heap.size w wr ∧ w.heap.size < wr.heap.size) (fun i _ => n - (intOf i).toNat)
  case atStart => exact ⟨0, Nat.zero_le _, rfl, rfl, K0, B0, by simp⟩
  case round =>
    obtain ⟨k, hk, rfl, hA, kn, BB, hS⟩ := hrel
    have HA := Lib.hid hA
    clear hA K0 B0
    by_cases hlt : k < n
    · obtain ⟨bb, off, x, e2, hbl, hx, d0, d1, d2, d3, d4⟩ := rdIt_at (HR.out.below BB) hlt
      subst e2
      have HX := Lib.hid hx
      have z0 : (0 : Int) ≤ k := by omega
      have z1 : (k : Int) < n := by omega
      clear hx
      have ke := (blk_new wr #[Value.int .i64 x.id, .int .i64 x.x0, .int .i64 x.y0, .int .i64 x.x1, .int .i64 x.y1] 92).1
      have kn2 : ∀ o, (wr.alloc (.cells #[Value.int .i64 x.id, .int .i64 x.x0, .int .i64 x.y0, .int .i64 x.x1, .int .i64 x.y1] 92)).cell? ⟨w.heap.size, o, none⟩ = #[Value.bool b, .slice (some ⟨bb, off, none⟩) n cap][o]? := fun o => (World.cell?_alloc_lt wr _ ⟨w.heap.size, o, none⟩ hS).trans (kn o)
      go_upto_region 5 with (fail)
      replace BB := BB.alloc (by omega) (.cells #[Value.int .i64 x.id, .int .i64 x.x0, .int .i64 x.y0, .int .i64 x.x1, .int .i64 x.y1] 92)
      clear kn
      have kn := kn2
      clear kn2
      have C1 := sBoxOk_any x.x0 x.y0 x.x1 x.y1
      cases h1 : okB x.x0 x.y0 x.x1 x.y1 with
      | false =>
        rw [h1] at C1
        replace C1 := Lib.hid C1
        have hr : Hid (nodeAll b xs xs 0 = false) := HA.out.trans (nodeAll_no HX.out (by unfold entOk; rw [h1]; rfl))
        clear h1
        go_wp2_with fail
        refine (C1.out _).mono ?_
        rintro e w1 ⟨rfl, hj⟩
        have ke1 := keepc hj (show wr.heap.size < _ by first | omega | (simp; done) | (simp; omega)) ke
        have kn1 := keepc hj (show w.heap.size < _ by first | omega | (simp; done) | (simp; omega)) kn
        replace BB := BB.trans (hj.mono BB.size)
        have sz := hj.size
        try simp at sz
        clear hj ke kn
        have ke := ke1
        have kn := kn1
        clear ke1 kn1
        go_wp2
        go_ret
        exact ⟨ret_bool (nodeOkV_no hr.out).symm, BB⟩
      | true =>
        rw [h1] at C1
        replace C1 := Lib.hid C1
        by_cases h : atV x.id xs 0 = k
        · have C2 : ∀ V, RdS itLay V (some ⟨bb, off, none⟩) n cap xs → _ := fun V hV => sEntryAt_any (some ⟨bb, off, none⟩) n cap xs x.id V hV
          rw [h] at C2
          replace C2 := Lib.hid C2
          cases b with
          | true =>
            have C3 := l1In_any x.id 1 999
            cases h3 : inB x.id 1 999 with
            | false =>
              have hr := Lib.hid (HA.out.trans (nodeAll_no HX.out (by unfold entOk; rw [h1, h, h3]; simp)))
              rw [h3] at C3
              replace C3 := Lib.hid C3
              clear h h1 h3
              go_wp2_with fail
              refine (C1.out _).mono ?_
              rintro e w1 ⟨rfl, hj⟩
              have ke1 := keepc hj (show wr.heap.size < _ by first | omega | (simp; done) | (simp; omega)) ke
              have kn1 := keepc hj (show w.heap.size < _ by first | omega | (simp; done) | (simp; omega)) kn
              replace BB := BB.trans (hj.mono BB.size)
              have sz := hj.size
              try simp at sz
              clear hj ke kn
              have ke := ke1
              have kn := kn1
              clear ke1 kn1
              go_wp2_with fail
              refine (C2.out _ (HR.out.below BB)).mono ?_
              rintro e w2 ⟨rfl, hj⟩
              have ke2 := keepc hj (show wr.heap.size < _ by first | omega | (simp; done) | (simp; omega)) ke
              have kn2 := keepc hj (show w.heap.size < _ by first | omega | (simp; done) | (simp; omega)) kn
              replace BB := BB.trans (hj.mono BB.size)
              have sz := hj.size
              try simp at sz
              clear hj ke kn
              have ke := ke2
              have kn := kn2
              clear ke2 kn2
              go_wp2_with fail
              refine (C3.out _).mono ?_
              rintro e w3 ⟨rfl, rfl⟩
              go_wp2
              go_ret
              exact ⟨ret_bool (nodeOkV_no hr.out).symm, BB⟩
            | true =>
              have hr := Lib.hid (HA.out.trans (nodeAll_yes HX.out (by unfold entOk; rw [h1, h, h3]; simp)))
              rw [h3] at C3
              replace C3 := Lib.hid C3
              clear h h1 h3
              go_wp2_with fail
              refine (C1.out _).mono ?_
              rintro e w1 ⟨rfl, hj⟩
              have ke1 := keepc hj (show wr.heap.size < _ by first | omega | (simp; done) | (simp; omega)) ke
              have kn1 := keepc hj (show w.heap.size < _ by first | omega | (simp; done) | (simp; omega)) kn
              replace BB := BB.trans (hj.mono BB.size)
              have sz := hj.size
              try simp at sz
              clear hj ke kn
              have ke := ke1
              have kn := kn1
              clear ke1 kn1
              go_wp2_with fail
              refine (C2.out _ (HR.out.below BB)).mono ?_
              rintro e w2 ⟨rfl, hj⟩
              have ke2 := keepc hj (show wr.heap.size < _ by first | omega | (simp; done) | (simp; omega)) ke
              have kn2 := keepc hj (show w.heap.size < _ by first | omega | (simp; done) | (simp; omega)) kn
              replace BB := BB.trans (hj.mono BB.size)
              have sz := hj.size
              try simp at sz
              clear hj ke kn
              have ke := ke2
              have kn := kn2
              clear ke2 kn2
              go_wp2_with fail
              refine (C3.out _).mono ?_
              rintro e w3 ⟨rfl, rfl⟩
              have kn' := kn
              go_wp2
              go_roundw
              case rel => exact ⟨k + 1, by omega, by go_num, hr.out, kn', BB, by omega⟩
              case measure => simp [intOf]; omega
          | false =>
            have C3 := l1In_any x.id 0 47
            cases h3 : inB x.id 0 47 with
            | false =>
              have hr := Lib.hid (HA.out.trans (nodeAll_no HX.out (by unfold entOk; rw [h1, h, h3]; simp)))
              rw [h3] at C3
              replace C3 := Lib.hid C3
              clear h h1 h3
              go_wp2_with fail
              refine (C1.out _).mono ?_
              rintro e w1 ⟨rfl, hj⟩
              have ke1 := keepc hj (show wr.heap.size < _ by first | omega | (simp; done) | (simp; omega)) ke
              have kn1 := keepc hj (show w.heap.size < _ by first | omega | (simp; done) | (simp; omega)) kn
              replace BB := BB.trans (hj.mono BB.size)
              have sz := hj.size
              try simp at sz
              clear hj ke kn
              have ke := ke1
              have kn := kn1
              clear ke1 kn1
              go_wp2_with fail
              refine (C2.out _ (HR.out.below BB)).mono ?_
              rintro e w2 ⟨rfl, hj⟩
              have ke2 := keepc hj (show wr.heap.size < _ by first | omega | (simp; done) | (simp; omega)) ke
              have kn2 := keepc hj (show w.heap.size < _ by first | omega | (simp; done) | (simp; omega)) kn
              replace BB := BB.trans (hj.mono BB.size)
              have sz := hj.size
              try simp at sz
              clear hj ke kn
              have ke := ke2
              have kn := kn2
              clear ke2 kn2
              go_wp2_with fail
              refine (C3.out _).mono ?_
              rintro e w3 ⟨rfl, rfl⟩
              go_wp2
              go_ret
              exact ⟨ret_bool (nodeOkV_no hr.out).symm, BB⟩
            | true =>
              have hr := Lib.hid (HA.out.trans (nodeAll_yes HX.out (by unfold entOk; rw [h1, h, h3]; simp)))
              rw [h3] at C3
              replace C3 := Lib.hid C3
              clear h h1 h3
              go_wp2_with fail
              refine (C1.out _).mono ?_
              rintro e w1 ⟨rfl, hj⟩
              have ke1 := keepc hj (show wr.heap.size < _ by first | omega | (simp; done) | (simp; omega)) ke
              have kn1 := keepc hj (show w.heap.size < _ by first | omega | (simp; done) | (simp; omega)) kn
              replace BB := BB.trans (hj.mono BB.size)
              have sz := hj.size
              try simp at sz
              clear hj ke kn
              have ke := ke1
              have kn := kn1
              clear ke1 kn1
              go_wp2_with fail
              refine (C2.out _ (HR.out.below BB)).mono ?_
              rintro e w2 ⟨rfl, hj⟩
              have ke2 := keepc hj (show wr.heap.size < _ by first | omega | (simp; done) | (simp; omega)) ke
              have kn2 := keepc hj (show w.heap.size < _ by first | omega | (simp; done) | (simp; omega)) kn
              replace BB := BB.trans (hj.mono BB.size)
              have sz := hj.size
              try simp at sz
              clear hj ke kn
              have ke := ke2
              have kn := kn2
              clear ke2 kn2
              go_wp2_with fail
              refine (C3.out _).mono ?_
              rintro e w3 ⟨rfl, rfl⟩
              have kn' := kn
              go_wp2
              go_roundw
              case rel => exact ⟨k + 1, by omega, by go_num, hr.out, kn', BB, by omega⟩
              case measure => simp [intOf]; omega
        · have C2 : ∀ V, RdS itLay V (some ⟨bb, off, none⟩) n cap xs → _ := fun V hV => sEntryAt_any (some ⟨bb, off, none⟩) n cap xs x.id V hV
          replace C2 := Lib.hid C2
          have hne : ((atV x.id xs 0) != (k : Int)) = true := by rw [bne_iff_ne]; exact h
          have hr := Lib.hid (HA.out.trans (nodeAll_no HX.out (by unfold entOk; rw [beq_eq_false_iff_ne.2 h]; simp)))
          clear h h1
          go_wp2_with fail
          refine (C1.out _).mono ?_
          rintro e w1 ⟨rfl, hj⟩
          have ke1 := keepc hj (show wr.heap.size < _ by first | omega | (simp; done) | (simp; omega)) ke
          have kn1 := keepc hj (show w.heap.size < _ by first | omega | (simp; done) | (simp; omega)) kn
          replace BB := BB.trans (hj.mono BB.size)
          have sz := hj.size
          try simp at sz
          clear hj ke kn
          have ke := ke1
          have kn := kn1
          clear ke1 kn1
          go_wp2_with fail
          refine (C2.out _ (HR.out.below BB)).mono ?_
          rintro e w2 ⟨rfl, hj⟩
          have ke2 := keepc hj (show wr.heap.size < _ by first | omega | (simp; done) | (simp; omega)) ke
          have kn2 := keepc hj (show w.heap.size < _ by first | omega | (simp; done) | (simp; omega)) kn
          replace BB := BB.trans (hj.mono BB.size)
          have sz := hj.size
          try simp at sz
          clear hj ke kn
          have ke := ke2
          have kn := kn2
          clear ke2 kn2
          go_wp2
          go_ret
          exact ⟨ret_bool (nodeOkV_no hr.out).symm, BB⟩
    · obtain rfl : k = n := by omega
      have hF : nodeAll b xs xs 0 = true := HA.out.trans (nodeAll_end b xs k (by rw [HL.out]; exact Nat.le_refl _))
      have hV : nodeOkV b xs = (decide (k ≤ 4) && (b || decide (0 < k))) := by unfold nodeOkV; rw [hF, HL.out]; rfl
      have HV := Lib.hid hV
      clear hF hV
      by_cases h4 : (k : Int) ≤ 4
      · cases b with
        | true =>
          have hr : Hid (nodeOkV true xs = true) := by show _ = _; rw [HV.out]; simp; omega
          go_wp2
          go_ret
          exact ⟨ret_bool hr.out.symm, BB⟩
        | false =>
          by_cases h0 : 0 < k
          · have hr : Hid (nodeOkV false xs = true) := by show _ = _; rw [HV.out]; simp; omega
            go_wp2
            go_ret
            exact ⟨ret_bool hr.out.symm, BB⟩
          · have hr : Hid (nodeOkV false xs = false) := by show _ = _; rw [HV.out]; simp; omega
            go_wp2
            go_ret
            exact ⟨ret_bool hr.out.symm, BB⟩
      · have hr : Hid (nodeOkV b xs = false) := by show _ = _; rw [HV.out]; simp; omega
        go_wp2
        go_ret
        exact ⟨ret_bool hr.out.symm, BB⟩
end Go.Proofs.Ytfefggcfeppeiaa

/- The model's BookOk. -/
namespace Go.Proofs.Ytfefggcfeppeiaa
open Go.RowKit
attribute [local go_sem ↓] Go.wp_at_zero Go.wp_at_succ

/-- A page by itself. -/
def pgOk (p : Pg) : Bool := if p.used then nodeOkV p.leaf p.xs else !p.leaf && p.xs.isEmpty
def kidOk (r : List Int) (root : Int) (x : It) : Bool := r.contains x.id && decide (x.id ≠ root)
def kidsOk (l : List Pg) (r : List Int) (root : Int) (i : Int) : Bool := (kidsP (pageAt l i)).all (kidOk r root)
def edges (l : List Pg) (r : List Int) : Nat := (r.map fun i => (kidsP (pageAt l i)).length).sum
def bookOkV (l : List Pg) (root : Int) : Bool :=
  decide (1 ≤ l.length ∧ l.length ≤ 48) && (!(reachV l root).isEmpty && (l.all pgOk && ((reachV l root).all (kidsOk l (reachV l root) root) && decide ((edges l (reachV l root) : Int) = ((reachV l root).length : Int) - 1))))

theorem all_no {ps : List PgV} {k : Nat} {p : PgV} (h : ps[k]? = some p) (hp : pgOk p.pg = false) : (ps.map PgV.pg).all pgOk = false := by
  rw [List.all_eq_false]
  exact ⟨_, List.mem_map.2 ⟨p, List.mem_of_getElem? h, rfl⟩, by rw [hp]; exact Bool.false_ne_true⟩

theorem edges_more {l : List Pg} {r : List Int} {k : Nat} {y : Int} (h : r[k]? = some y) : edges l (r.take (k + 1)) = edges l (r.take k) + (kidsP (pageAt l y)).length := by
  unfold edges
  rw [List.take_add_one, h, List.map_append, List.sum_append]
  simp
theorem allk_no {l : List Pg} {r : List Int} {root : Int} {k : Nat} {y : Int} (h : r[k]? = some y) (hk : kidsOk l r root y = false) : r.all (kidsOk l r root) = false := by
  rw [List.all_eq_false]
  exact ⟨_, List.mem_of_getElem? h, by rw [hk]; exact Bool.false_ne_true⟩

theorem allk_yes {l : List Pg} {r : List Int} {root : Int} (h : ∀ (j : Nat) (y : Int), r[j]? = some y → kidsOk l r root y = true) : r.all (kidsOk l r root) = true := by
  rw [List.all_eq_true]
  intro y hy
  obtain ⟨j, hj⟩ := List.getElem?_of_mem hy
  exact h j y hj
theorem kids_no {l : List Pg} {r : List Int} {root y : Int} {xs : List It} {j : Nat} {x : It} (h : kidsP (pageAt l y) = xs) (hx : xs[j]? = some x) (hk : kidOk r root x = false) : kidsOk l r root y = false := by
  unfold kidsOk
  rw [h, List.all_eq_false]
  exact ⟨x, List.mem_of_getElem? hx, by rw [hk]; exact Bool.false_ne_true⟩

set_option maxRecDepth 100000 in
set_option maxHeartbeats 3200000 in
theorem sBookOk_any (root : Int) (a : Option Addr) (n cap : Nat) (ps : List PgV) (w : World) (h : RdP w a n cap ps) (hn : n ≤ 1099511627776) (hps : ∀ p ∈ ps, p.n ≤ 1099511627776) :
    Calls Try.prog 80 #[.agg #[.int .i64 root, .slice a n cap]] w fun e w' => e = .returned (.bool (bookOkV (ps.map PgV.pg) root)) ∧ Below w.heap.size w w' := by
  have HL := Lib.hid h.1.1.1
  have HN := Lib.hid hps
  have hnc := h.1.1.2.1
  have hm := h.1.1.2.2.1
  unfold maxLen at hm
  obtain ⟨W0, hW0⟩ : ∃ W0, W0 = w.alloc (.cells #[.int .i64 root, .slice a n cap] 26) := ⟨_, rfl⟩
  have b0 : Below w.heap.size w W0 := by subst hW0; exact new_below w _
  have K0 : Loc W0 w.heap.size #[.int .i64 root, .slice a n cap] := by subst hW0; exact Loc.new w _ _
  have HR := Lib.hid (h.below b0)
  have C := Lib.hid (sReach_any root a n cap ps W0 HR.out hn)
  have k0 := K0.2.1 0
  have k1 := K0.2.1 1
  simp at k0 k1
  clear h hps
  obtain ⟨r, hrr⟩ : ∃ r, reachV (ps.map PgV.pg) root = r := ⟨_, rfl⟩
  rw [hrr] at C
  have hE : bookOkV (ps.map PgV.pg) root = (decide (1 ≤ n ∧ n ≤ 48) && (!r.isEmpty && ((ps.map PgV.pg).all pgOk && (r.all (kidsOk (ps.map PgV.pg) r root) && decide ((edges (ps.map PgV.pg) r : Int) = (r.length : Int) - 1))))) := by
    unfold bookOkV
    rw [hrr, List.length_map, HL.out]
  obtain ⟨res, hres⟩ : ∃ res, bookOkV (ps.map PgV.pg) root = res := ⟨_, rfl⟩
  rw [hres] at hE
  rw [hres]
  have HOK : Hid (OutOk (ps.map PgV.pg) r) := by rw [← hrr]; exact Lib.hid (walkV_ok _ _ _ _ ⟨List.nodup_nil, fun z hz => by cases hz⟩).1
  replace hrr := Lib.hid hrr
  replace hE := Lib.hid hE
  clear hres
  go_enter Try.func80, Try.ntmps80
  go_wp2_with fail
  rw [← hW0]
  clear hW0
  refine C.out.mono ?_
  rintro e w1 ⟨v1, rfl, o1, b1⟩
  obtain ⟨va, vc, rfl, hrd⟩ := Own.rd o1
  have K1 := Lib.hid (K0.below b1)
  have B1 := Lib.hid (b0.trans (b1.mono b0.size))
  have HR1 := Lib.hid (HR.out.below b1)
  have RD1 := Lib.hid hrd
  have c1 := K1.out.2.1 1
  have c0 := K1.out.2.1 0
  simp at c0 c1
  clear o1 b1 hrd C K0 k0 k1 b0 HR
  have hrl : r.length ≤ maxLen := Nat.le_trans RD1.out.1.2.1 RD1.out.1.2.2.1
  unfold maxLen at hrl
  have hq := K1.out.1
  by_cases hin : 1 ≤ (n : Int) ∧ (n : Int) ≤ 48
  · obtain ⟨h1, h2⟩ := hin
    have hd : decide (1 ≤ n ∧ n ≤ 48) = true := decide_eq_true (by omega)
    by_cases hr0 : r.length = 0
    · have hF : Hid (res = false) := by
        show res = false
        rw [hE.out, List.eq_nil_of_length_eq_zero hr0]
        simp
      go_wp2_with fail
      refine (l1In_yes (n : Int) 1 48 _ h1 h2).mono ?_
      rintro e w2 ⟨rfl, rfl⟩
      go_wp2
      go_ret
      exact ⟨ret_bool hF.out.symm, B1.out⟩
    · have hE2 : Hid (res = ((ps.map PgV.pg).all pgOk && (r.all (kidsOk (ps.map PgV.pg) r root) && decide ((edges (ps.map PgV.pg) r : Int) = (r.length : Int) - 1)))) := by
        show res = _
        rw [hE.out, hd, Bool.true_and]
        cases r with
        | nil => simp at hr0
        | cons r0 rs => rfl
      obtain ⟨rb, roff, rfl, hrc⟩ := RD1.out.2 (by omega)
      replace hrc := Lib.hid hrc
      clear hE hd
      have z5 : ((r.length : Int) == 0) = false := by rw [beq_eq_false_iff_ne]; omega
      go_wp2_with fail
      refine (l1In_yes (n : Int) 1 48 _ h1 h2).mono ?_
      rintro e w2 ⟨rfl, rfl⟩
      go_wp2
      go_loopw [4] (fun i wr => ∃ k : Nat, k ≤ n ∧ i = .int .i64 (k : Int) ∧ Hid (∀ (j : Nat) (p : PgV), j < k → ps[j]? = some p → pgOk p.pg = true) ∧ Below w1.heap.size w1 wr) (fun i _ => n - (intOf i).toNat)
      case atStart => exact ⟨0, Nat.zero_le _, rfl, Lib.hid (fun j p hj => by omega), Below.refl _ _⟩
      case round =>
        obtain ⟨k, hk, rfl, HA, hB⟩ := hrel
        have k1 := (hB.cell (p := ⟨w.heap.size, 1, none⟩) hq).trans c1
        by_cases hlt : k < n
        · obtain ⟨b, off, p, hpa, hbl, hp, hrd, d0, d1, d2⟩ := rdP_at (HR1.out.below hB) hlt
          rw [hpa] at k1
          have HP := Lib.hid hp
          have RP := Lib.hid hrd
          have z0 : (0 : Int) ≤ k := by omega
          have z1 : (k : Int) < n := by omega
          replace hpa := Lib.hid hpa
          clear hp hrd
          cases hu : p.used with
          | true =>
            rw [hu] at d0
            have CN := sNodeOk_any p.leaf p.a p.n p.cap p.xs wr RP.out
            cases hv : nodeOkV p.leaf p.xs with
            | true =>
              have hpg : pgOk p.pg = true := by unfold pgOk PgV.pg; simp only [hu]; exact hv
              have HS : Hid (∀ (j : Nat) (p : PgV), j < k + 1 → ps[j]? = some p → pgOk p.pg = true) := Lib.hid (fun j p' hj h' => by
                by_cases hjk : j < k
                · exact HA.out j p' hjk h'
                · obtain rfl : j = k := by omega
                  rw [HP.out] at h'
                  cases h'
                  exact hpg)
              rw [hv] at CN
              replace CN := Lib.hid CN
              clear hpg hu hv
              go_wp2_with fail
              refine CN.out.mono ?_
              rintro e w3 ⟨rfl, b3⟩
              have B3 := hB.trans (b3.mono hB.size)
              have k3 := (b3.cell (p := ⟨w.heap.size, 1, none⟩) (show w.heap.size < wr.heap.size by have := hB.size; omega)).trans k1
              have d3 := (b3.cell (p := ⟨b, off + k * 3, none⟩) hbl).trans d0
              clear k1 d0 d1 d2
              go_wp2
              go_roundw
              case rel => exact ⟨k + 1, by omega, by go_num, HS, B3⟩
              case measure => simp [intOf]; omega
            | false =>
              have hpg : pgOk p.pg = false := by unfold pgOk PgV.pg; simp only [hu]; exact hv
              have hF : Hid (res = false) := by
                show res = false
                rw [hE2.out, all_no HP.out hpg, Bool.false_and]
              rw [hv] at CN
              replace CN := Lib.hid CN
              clear hpg hu hv
              go_wp2_with fail
              refine CN.out.mono ?_
              rintro e w3 ⟨rfl, b3⟩
              have B3 := hB.trans (b3.mono hB.size)
              go_wp2
              go_ret
              exact ⟨ret_bool hF.out.symm, B1.out.trans (B3.mono B1.out.size)⟩
          | false =>
            rw [hu] at d0
            cases hl : p.leaf with
            | true =>
              have hpg : pgOk p.pg = false := by unfold pgOk PgV.pg; simp only [hu, hl]; rfl
              have hF : Hid (res = false) := by
                show res = false
                rw [hE2.out, all_no HP.out hpg, Bool.false_and]
              rw [hl] at d1
              clear hpg hu hl
              go_wp2
              go_ret
              exact ⟨ret_bool hF.out.symm, B1.out.trans (hB.mono B1.out.size)⟩
            | false =>
              rw [hl] at d1
              have hpl := RP.out.1.1
              by_cases hn0 : p.n = 0
              · have hpg : pgOk p.pg = true := by
                  unfold pgOk PgV.pg
                  simp only [hu, hl]
                  have e : p.xs = [] := List.eq_nil_of_length_eq_zero (by rw [hpl]; exact hn0)
                  rw [e]
                  rfl
                have HS : Hid (∀ (j : Nat) (p : PgV), j < k + 1 → ps[j]? = some p → pgOk p.pg = true) := Lib.hid (fun j p' hj h' => by
                  by_cases hjk : j < k
                  · exact HA.out j p' hjk h'
                  · obtain rfl : j = k := by omega
                    rw [HP.out] at h'
                    cases h'
                    exact hpg)
                rw [hn0] at d2
                clear hpg hu hl hpl
                go_wp2
                go_roundw
                case rel => exact ⟨k + 1, by omega, by go_num, HS, hB⟩
                case measure => simp [intOf]; omega
              · have hpg : pgOk p.pg = false := by
                  unfold pgOk PgV.pg
                  simp only [hu, hl]
                  cases e : p.xs with
                  | nil => rw [e] at hpl; exact absurd hpl.symm hn0
                  | cons _ _ => rfl
                have hF : Hid (res = false) := by
                  show res = false
                  rw [hE2.out, all_no HP.out hpg, Bool.false_and]
                have z7 : (0 : Int) < p.n := by omega
                clear hpg hu hl hpl
                go_wp2
                go_ret
                exact ⟨ret_bool hF.out.symm, B1.out.trans (hB.mono B1.out.size)⟩
        · have hAll : (ps.map PgV.pg).all pgOk = true := by
            rw [List.all_eq_true]
            intro q hq
            obtain ⟨p, hp, rfl⟩ := List.mem_map.1 hq
            obtain ⟨j, hj⟩ := List.getElem?_of_mem hp
            exact HA.out j p (by have := (List.getElem?_eq_some_iff.1 hj).1; rw [HL.out] at this; omega) hj
          have hE3 : Hid (res = (r.all (kidsOk (ps.map PgV.pg) r root) && decide ((edges (ps.map PgV.pg) r : Int) = (r.length : Int) - 1))) := by
            show res = _
            rw [hE2.out, hAll, Bool.true_and]
          clear hE2 hAll HA
          go_wp2
          go_loopw [5, 6] (fun v i wr2 => ∃ (k e : Nat), k ≤ r.length ∧ v = .int .i64 (e : Int) ∧ i = .int .i64 (k : Int) ∧ Hid (e = edges (ps.map PgV.pg) (r.take k)) ∧ e ≤ k * 1099511627776 ∧ Hid (∀ (j : Nat) (y : Int), j < k → r[j]? = some y → kidsOk (ps.map PgV.pg) r root y = true) ∧ Below w1.heap.size w1 wr2) (fun _ i _ => r.length - (intOf i).toNat)
          case atStart => exact ⟨0, 0, Nat.zero_le _, rfl, rfl, Lib.hid rfl, Nat.zero_le _, Lib.hid (fun j y hj => by omega), hB⟩
          case round =>
            clear hB k1
            obtain ⟨k', e', hk', rfl, rfl, HE, he', HA, hB⟩ := hrel
            have k1 := (hB.cell (p := ⟨w.heap.size, 1, none⟩) hq).trans c1
            have k0 := (hB.cell (p := ⟨w.heap.size, 0, none⟩) hq).trans c0
            have hsB := hB.size
            by_cases hlt2 : k' < r.length
            · have rc := hrc.out k' hlt2
              have hrb : rb < w1.heap.size := World.block_lt_of_cell? w1 ⟨rb, roff + k', none⟩ rc
              have r0 := (hB.cell (p := ⟨rb, roff + k', none⟩) hrb).trans rc
              obtain ⟨y, hy⟩ : ∃ y, r.getD k' 0 = y := ⟨_, rfl⟩
              have hy2 : r[k']? = some y := by
                rw [← hy, List.getD_eq_getElem?_getD, List.getElem?_eq_getElem hlt2]
                rfl
              rw [hy] at r0
              have hyr := HOK.out.2 y (List.mem_of_getElem? hy2)
              rw [List.length_map, HL.out] at hyr
              obtain ⟨m, rfl⟩ := Int.eq_ofNat_of_zero_le hyr.1
              have hmn : (m : Int) < n := hyr.2
              obtain ⟨pb, poff, p, hpa, hpl, hp, hprd, d0, d1, d2⟩ := rdP_at (HR1.out.below hB) (show m < n by omega)
              have hpg : pageAt (ps.map PgV.pg) m = p.pg := pageAt_yes hp
              have hpn := HN.out p (List.mem_of_getElem? hp)
              have RP := Lib.hid hprd
              have hrbs : rb < wr.heap.size := by omega
              have hqs : w.heap.size < wr.heap.size := by omega
              rw [hpa] at k1
              replace hpa := Lib.hid hpa
              have z3 : (k' : Int) < r.length := by omega
              have z4 : (0 : Int) ≤ k' := by omega
              have z6 : (0 : Int) ≤ m := by omega
              have HPP := Lib.hid hp
              clear hp hprd rc hy hyr
              have KX := Lib.hid (Loc.new wr #[.bool p.leaf, .slice p.a p.n p.cap] 32).drew
              have TB := Lib.hid ((hB.alloc hB.size (.cells #[.bool p.leaf, .slice p.a p.n p.cap] 32)).drew)
              obtain ⟨q1, hq1⟩ : ∃ q1, q1 = wr.heap.size := ⟨_, rfl⟩
              go_wp2_with fail
              go_big_region
              obtain ⟨W3, hW3⟩ : ∃ W3, W3 = (wr.alloc (.cells #[.bool p.leaf, .slice p.a p.n p.cap] 32)).drew := ⟨_, rfl⟩
              rw [← hW3] at KX TB
              rw [← hW3]
              rw [← hq1] at KX
              rw [← hq1]
              clear hW3 hq1 d0 d1 d2 r0 k0 k1
              have m0 := KX.out.2.1 0
              have m1 := KX.out.2.1 1
              simp at m0 m1
              cases hlf : p.leaf with
              | true =>
                have HB1 : Hid (e' ≤ (k' + 1) * 1099511627776) := Lib.hid (Nat.le_trans he' (Nat.mul_le_mul_right _ (Nat.le_succ _)))
                have hkid : kidsP (pageAt (ps.map PgV.pg) m) = [] := by
                  rw [hpg]
                  unfold kidsP
                  exact if_pos hlf
                have HS : Hid (∀ (j : Nat) (y : Int), j < k' + 1 → r[j]? = some y → kidsOk (ps.map PgV.pg) r root y = true) := Lib.hid (fun j y hj h' => by
                  by_cases hjk : j < k'
                  · exact HA.out j y hjk h'
                  · obtain rfl : j = k' := by omega
                    rw [hy2] at h'
                    cases h'
                    unfold kidsOk
                    rw [hkid]
                    rfl)
                have HE2 : Hid (e' = edges (ps.map PgV.pg) (r.take (k' + 1))) := by
                  show e' = _
                  rw [edges_more hy2, hkid, ← HE.out]
                  rfl
                rw [hlf] at m0
                clear hkid hlf hpg hy2
                go_wp2
                go_loopw [5, 8] (fun v i wx => v = .int .i64 (e' : Int) ∧ i = .int .i64 0 ∧ wx = W3) (fun _ _ _ => 0)
                case atStart => exact ⟨rfl, rfl, rfl⟩
                case round =>
                  obtain ⟨rfl, rfl, rfl⟩ := hrel
                  go_wp2
                  all_goals
                    go_roundw
                    case rel => exact ⟨k' + 1, e', by omega, rfl, by go_num, HE2, HB1.out, HS, TB.out⟩
                    case measure => simp [intOf]; omega
              | false =>
                rw [hlf] at m0
                have hkid : kidsP (pageAt (ps.map PgV.pg) m) = p.xs := by
                  rw [hpg]
                  unfold kidsP
                  exact if_neg (by rw [show p.pg.leaf = p.leaf from rfl, hlf]; exact Bool.false_ne_true)
                have HPX := Lib.hid (HR1.out.2 p (List.mem_of_getElem? HPP.out))
                have hpxl := HPX.out.1.1
                have h48 : k' ≤ 48 := by
                  have h3 := HOK.out.len
                  rw [List.length_map, HL.out] at h3
                  omega
                have he48 : e' ≤ 52776558133248 := Nat.le_trans he' (Nat.mul_le_mul_right _ h48)
                have HB1 : Hid (e' + p.n ≤ (k' + 1) * 1099511627776) := Lib.hid (by rw [Nat.add_mul, Nat.one_mul]; exact Nat.add_le_add he' hpn)
                have hst := TB.out.size
                have hq1 := KX.out.1
                clear hlf hpg
                go_wp2
                go_loopw [5, 8] (fun v i wx => ∃ j : Nat, j ≤ p.n ∧ v = .int .i64 ((e' : Int) + j) ∧ i = .int .i64 (j : Int) ∧ Hid (∀ (t : Nat) (x : It), t < j → p.xs[t]? = some x → kidOk r root x = true) ∧ Below W3.heap.size W3 wx) (fun _ i _ => p.n - (intOf i).toNat)
                case atStart => exact ⟨0, Nat.zero_le _, by rw [show ((0 : Nat) : Int) = 0 from rfl, Int.add_zero], rfl, Lib.hid (fun t x ht => by omega), Below.refl _ _⟩
                case round =>
                  obtain ⟨j, hj, rfl, rfl, HK, hX⟩ := hrel
                  have hBX := TB.out.trans (hX.mono TB.out.size)
                  have k1 := (hBX.cell (p := ⟨w.heap.size, 1, none⟩) hq).trans c1
                  have k0 := (hBX.cell (p := ⟨w.heap.size, 0, none⟩) hq).trans c0
                  have n0 := (hX.cell (p := ⟨q1, 0, none⟩) hq1).trans m0
                  have n1 := (hX.cell (p := ⟨q1, 1, none⟩) hq1).trans m1
                  have hsX := hX.size
                  by_cases hlt3 : j < p.n
                  · obtain ⟨xb, xoff, x, hxa, hxl, hx, d0, d1, d2, d3, d4⟩ := rdIt_at (HPX.out.below hBX) hlt3
                    rw [hxa] at n1
                    replace hxa := Lib.hid hxa
                    have HXX := Lib.hid hx
                    have z7 : (j : Int) < p.n := by omega
                    have z8 : (0 : Int) ≤ j := by omega
                    have hqx : w.heap.size < wr.heap.size := by omega
                    have hqx1 : q1 < wr.heap.size := by omega
                    have KS : Hid (∀ V, Below wr.heap.size wr V → (fun V => Below wr.heap.size wr V ∧ V.cell? ⟨w.heap.size, 0, none⟩ = some (.int .i64 root) ∧ V.cell? ⟨q1, 1, none⟩ = some (.slice (some ⟨xb, xoff, none⟩) p.n p.cap) ∧ V.cell? ⟨xb, xoff + j * 5, none⟩ = some (.int .i64 x.id)) V) := Lib.hid (fun V b => ⟨b, (b.cell (p := ⟨w.heap.size, 0, none⟩) hqx).trans k0, (b.cell (p := ⟨q1, 1, none⟩) hqx1).trans n1, (b.cell (p := ⟨xb, xoff + j * 5, none⟩) hxl).trans d0⟩)
                    have KT : Hid (∀ V V' : World, Below wr.heap.size wr V → Below V.heap.size V V' → Below wr.heap.size wr V') := Lib.hid (fun V V' b b' => b.trans (b'.mono b.size))
                    have CH : ∀ V, Below wr.heap.size wr V → Calls Try.prog 103 #[.slice (some ⟨rb, roff, none⟩) r.length vc, .int .i64 x.id] V fun e w' => e = .returned (.bool (r.contains x.id)) ∧ Below V.heap.size V w' := fun V bV => l7Has_any (some ⟨rb, roff, none⟩) r.length vc r x.id V ((RD1.out.below hBX).below bV)
                    clear hx d1 d2 d3 d4
                    cases hc : r.contains x.id with
                    | true =>
                      rw [hc] at CH
                      replace CH := Lib.hid CH
                      by_cases hxr : x.id = root
                      · have hkx : kidOk r root x = false := by unfold kidOk; rw [decide_eq_false (fun h => h hxr), Bool.and_false]
                        have hF : Hid (res = false) := by
                          show res = false
                          rw [hE3.out, allk_no hy2 (kids_no hkid HXX.out hkx), Bool.false_and]
                        have hbq : (x.id == root) = true := by rw [beq_iff_eq]; exact hxr
                        clear hkx hc hxr
                        go_wp2_with fail
                        go_region_held3 (fun V => Below wr.heap.size wr V ∧ V.cell? ⟨w.heap.size, 0, none⟩ = some (.int .i64 root) ∧ V.cell? ⟨q1, 1, none⟩ = some (.slice (some ⟨xb, xoff, none⟩) p.n p.cap) ∧ V.cell? ⟨xb, xoff + j * 5, none⟩ = some (.int .i64 x.id))
                          (first | exact KS.out _ (drew_below _) | exact KS.out _ (KT.out _ _ (And.left (by assumption)) hb))
                          (first | (go_at_call 103; (with_reducible refine (CH.out _ (by first | exact drew_below _ | exact And.left (by assumption))).mono ?_); rintro e wu ⟨rfl, hb⟩))
                        all_goals
                          rename_i hS
                          have hXn := hX.trans (hS.1.mono hX.size)
                          have hBn := hBX.trans (hS.1.mono hBX.size)
                          clear hS
                          go_wp2
                          go_ret
                          exact ⟨ret_bool hF.out.symm, B1.out.trans (hBn.mono B1.out.size)⟩
                      · have hkx : kidOk r root x = true := by unfold kidOk; rw [hc, decide_eq_true hxr]; rfl
                        have HKS : Hid (∀ (t : Nat) (y : It), t < j + 1 → p.xs[t]? = some y → kidOk r root y = true) := Lib.hid (fun t y ht h' => by
                          by_cases htj : t < j
                          · exact HK.out t y htj h'
                          · obtain rfl : t = j := by omega
                            rw [HXX.out] at h'
                            cases h'
                            exact hkx)
                        have hbq : (x.id == root) = false := by rw [beq_eq_false_iff_ne]; exact hxr
                        clear hkx hc hxr
                        go_wp2_with fail
                        go_region_held3 (fun V => Below wr.heap.size wr V ∧ V.cell? ⟨w.heap.size, 0, none⟩ = some (.int .i64 root) ∧ V.cell? ⟨q1, 1, none⟩ = some (.slice (some ⟨xb, xoff, none⟩) p.n p.cap) ∧ V.cell? ⟨xb, xoff + j * 5, none⟩ = some (.int .i64 x.id))
                          (first | exact KS.out _ (drew_below _) | exact KS.out _ (KT.out _ _ (And.left (by assumption)) hb))
                          (first | (go_at_call 103; (with_reducible refine (CH.out _ (by first | exact drew_below _ | exact And.left (by assumption))).mono ?_); rintro e wu ⟨rfl, hb⟩))
                        all_goals
                          rename_i hS
                          have hXn := hX.trans (hS.1.mono hX.size)
                          have hBn := hBX.trans (hS.1.mono hBX.size)
                          clear hS
                          go_wp2
                          go_roundw
                          case rel => exact ⟨j + 1, by omega, by go_num, by go_num, HKS, hXn⟩
                          case measure => simp [intOf]; omega
                    | false =>
                      rw [hc] at CH
                      replace CH := Lib.hid CH
                      have hkx : kidOk r root x = false := by unfold kidOk; rw [hc]; rfl
                      have hF : Hid (res = false) := by
                        show res = false
                        rw [hE3.out, allk_no hy2 (kids_no hkid HXX.out hkx), Bool.false_and]
                      clear hkx hc
                      go_wp2_with fail
                      refine wp_region_noPanic ?_
                      refine wp_region_held_drew (S := fun V => Below wr.heap.size wr V ∧ V.cell? ⟨w.heap.size, 0, none⟩ = some (.int .i64 root) ∧ V.cell? ⟨q1, 1, none⟩ = some (.slice (some ⟨xb, xoff, none⟩) p.n p.cap) ∧ V.cell? ⟨xb, xoff + j * 5, none⟩ = some (.int .i64 x.id)) (by kernel_rfl) (KS.out _ (drew_below _)) (fun hHeld => ?_)
                      refine wpAnyH_take (i := 0) (v := ?v0) rfl (by kernel_rfl) (by kernel_rfl) (by kernel_rfl) (fun _ _ _ h => h) (Or.inl ⟨by rfl, ?hy0⟩) (by assumption) ?rest0
                      case hy0 => intro w hSw; (try dsimp only at hSw); go_simp; (try with_reducible rfl)
                      simp only [List.getElem_toArray, List.getElem_cons_zero, Act.put, List.setIfInBounds_toArray, List.set_cons_zero, List.set_cons_succ]
                      refine wpAnyH_take (i := 1) (v := ?v1) rfl (by kernel_rfl) (by kernel_rfl) (by kernel_rfl) (fun _ _ _ h => h) (Or.inl ⟨by rfl, ?hy1⟩) (by assumption) ?rest1
                      case hy1 => intro w hSw; (try dsimp only at hSw); go_simp; (try with_reducible rfl)
                      simp only [List.getElem_toArray, List.getElem_cons_zero, List.getElem_cons_succ, Act.put, List.setIfInBounds_toArray, List.set_cons_zero, List.set_cons_succ]
                      refine wpAnyH_take (i := 2) (v := ?v2) rfl (by kernel_rfl) (by kernel_rfl) (by kernel_rfl) (fun _ _ _ h => h) (Or.inl ⟨by rfl, ?hy2⟩) (by assumption) ?rest2
                      case hy2 => intro w hSw; (try dsimp only at hSw); go_simp; (try with_reducible rfl)
                      simp only [List.getElem_toArray, List.getElem_cons_zero, List.getElem_cons_succ, Act.put, List.setIfInBounds_toArray, List.set_cons_zero, List.set_cons_succ]
                      refine wpAnyH_take (i := 3) (v := ?v3) rfl (by kernel_rfl) (by kernel_rfl) (by kernel_rfl) (fun _ _ _ h => h) (Or.inl ⟨by rfl, ?hy3⟩) (by assumption) ?rest3
                      case hy3 => intro w hSw; (try dsimp only at hSw); go_simp; (try with_reducible rfl)
                      simp only [List.getElem_toArray, List.getElem_cons_zero, List.getElem_cons_succ, Act.put, List.setIfInBounds_toArray, List.set_cons_zero, List.set_cons_succ]
                      refine wpAnyH_take (i := 4) (v := ?v4) rfl (by kernel_rfl) (by kernel_rfl) (by kernel_rfl) (fun _ _ _ h => h) (Or.inl ⟨by rfl, ?hy4⟩) (by assumption) ?rest4
                      case hy4 => intro w hSw; (try dsimp only at hSw); go_simp; (try with_reducible rfl)
                      simp only [List.getElem_toArray, List.getElem_cons_zero, List.getElem_cons_succ, Act.put, List.setIfInBounds_toArray, List.set_cons_zero, List.set_cons_succ]
                      refine wpAnyH_take (i := 5) (v := ?v5) rfl (by kernel_rfl) (by kernel_rfl) (by kernel_rfl) (fun _ _ _ h => h) (Or.inl ⟨by rfl, ?hy5⟩) (by assumption) ?rest5
                      case hy5 => intro w hSw; (try dsimp only at hSw); go_simp; (try with_reducible rfl)
                      simp only [List.getElem_toArray, List.getElem_cons_zero, List.getElem_cons_succ, Act.put, List.setIfInBounds_toArray, List.set_cons_zero, List.set_cons_succ]
                      refine wpAnyH_take (i := 6) (v := ?v6) rfl (by kernel_rfl) (by kernel_rfl) (by kernel_rfl) (fun _ _ _ h => h) (Or.inl ⟨by rfl, ?hy6⟩) (by assumption) ?rest6
                      case hy6 => intro w hSw; (try dsimp only at hSw); go_simp; (try with_reducible rfl)
                      simp only [List.getElem_toArray, List.getElem_cons_zero, List.getElem_cons_succ, Act.put, List.setIfInBounds_toArray, List.set_cons_zero, List.set_cons_succ]
                      refine wpAnyH_ready (rs := [7]) (by kernel_rfl) (by simp) ?_
                      refine AllReadyH.cons rfl (fun K hK => ?_) AllReadyH.nil
                      go_simp
                      (with_reducible refine (CH.out _ (by first | exact drew_below _ | exact And.left (by assumption))).mono ?_); rintro e wu ⟨rfl, hb⟩
                      refine hK.out _ _ (KS.out _ (KT.out _ _ (And.left (by assumption)) hb)) (fun hHeld => ?_)
                      clear hK K
                      refine wpAnyH_take (i := 8) (v := ?v8) rfl (by kernel_rfl) (by kernel_rfl) (by kernel_rfl) (fun _ _ _ h => h) (Or.inl ⟨by rfl, ?hy8⟩) (by assumption) ?rest8
                      case hy8 => intro w hSw; (try dsimp only at hSw); go_simp; (try with_reducible rfl)
                      simp only [List.getElem_toArray, List.getElem_cons_zero, List.getElem_cons_succ, Act.put, List.setIfInBounds_toArray, List.set_cons_zero, List.set_cons_succ]
                      refine wpAnyH_take (i := 9) (v := ?v9) rfl (by kernel_rfl) (by kernel_rfl) (by kernel_rfl) (fun _ _ _ h => h) (Or.inl ⟨by rfl, ?hy9⟩) (by assumption) ?rest9
                      case hy9 => intro w hSw; (try dsimp only at hSw); go_simp; (try with_reducible rfl)
                      simp only [List.getElem_toArray, List.getElem_cons_zero, List.getElem_cons_succ, Act.put, List.setIfInBounds_toArray, List.set_cons_zero, List.set_cons_succ]
                      refine wpAnyH_take (i := 10) (v := undef) rfl (by kernel_rfl) (by kernel_rfl) (by kernel_rfl) (fun _ _ _ h => h) (Or.inr ⟨by rfl, rfl⟩) (by assumption) ?_
                      simp only [List.getElem_toArray, List.getElem_cons_zero, List.getElem_cons_succ, Act.put, List.setIfInBounds_toArray, List.set_cons_zero, List.set_cons_succ]
                      refine wpAnyH_take (i := 11) (v := undef) rfl (by kernel_rfl) (by kernel_rfl) (by kernel_rfl) (fun _ _ _ h => h) (Or.inr ⟨by rfl, rfl⟩) (by assumption) ?_
                      simp only [List.getElem_toArray, List.getElem_cons_zero, List.getElem_cons_succ, Act.put, List.setIfInBounds_toArray, List.set_cons_zero, List.set_cons_succ]
                      refine wpAnyH_take (i := 12) (v := undef) rfl (by kernel_rfl) (by kernel_rfl) (by kernel_rfl) (fun _ _ _ h => h) (Or.inr ⟨by rfl, rfl⟩) (by assumption) ?_
                      simp only [List.getElem_toArray, List.getElem_cons_zero, List.getElem_cons_succ, Act.put, List.setIfInBounds_toArray, List.set_cons_zero, List.set_cons_succ]
                      refine wpAnyH_take (i := 13) (v := undef) rfl (by kernel_rfl) (by kernel_rfl) (by kernel_rfl) (fun _ _ _ h => h) (Or.inr ⟨by rfl, rfl⟩) (by assumption) ?_
                      simp only [List.getElem_toArray, List.getElem_cons_zero, List.getElem_cons_succ, Act.put, List.setIfInBounds_toArray, List.set_cons_zero, List.set_cons_succ]
                      refine wpAnyH_take (i := 14) (v := undef) rfl (by kernel_rfl) (by kernel_rfl) (by kernel_rfl) (fun _ _ _ h => h) (Or.inr ⟨by rfl, rfl⟩) (by assumption) ?_
                      simp only [List.getElem_toArray, List.getElem_cons_zero, List.getElem_cons_succ, Act.put, List.setIfInBounds_toArray, List.set_cons_zero, List.set_cons_succ]
                      refine wpAnyH_take (i := 15) (v := undef) rfl (by kernel_rfl) (by kernel_rfl) (by kernel_rfl) (fun _ _ _ h => h) (Or.inr ⟨by rfl, rfl⟩) (by assumption) ?_
                      simp only [List.getElem_toArray, List.getElem_cons_zero, List.getElem_cons_succ, Act.put, List.setIfInBounds_toArray, List.set_cons_zero, List.set_cons_succ]
                      refine wpAnyH_take (i := 16) (v := undef) rfl (by kernel_rfl) (by kernel_rfl) (by kernel_rfl) (fun _ _ _ h => h) (Or.inr ⟨by rfl, rfl⟩) (by assumption) ?_
                      simp only [List.getElem_toArray, List.getElem_cons_zero, List.getElem_cons_succ, Act.put, List.setIfInBounds_toArray, List.set_cons_zero, List.set_cons_succ]
                      refine wpAnyH_take (i := 17) (v := undef) rfl (by kernel_rfl) (by kernel_rfl) (by kernel_rfl) (fun _ _ _ h => h) (Or.inr ⟨by rfl, rfl⟩) (by assumption) ?_
                      simp only [List.getElem_toArray, List.getElem_cons_zero, List.getElem_cons_succ, Act.put, List.setIfInBounds_toArray, List.set_cons_zero, List.set_cons_succ]
                      refine wpAnyH_take (i := 18) (v := undef) rfl (by kernel_rfl) (by kernel_rfl) (by kernel_rfl) (fun _ _ _ h => h) (Or.inr ⟨by rfl, rfl⟩) (by assumption) ?_
                      simp only [List.getElem_toArray, List.getElem_cons_zero, List.getElem_cons_succ, Act.put, List.setIfInBounds_toArray, List.set_cons_zero, List.set_cons_succ]
                      refine wpAnyH_take (i := 19) (v := ?v19) rfl (by kernel_rfl) (by kernel_rfl) (by kernel_rfl) (fun _ _ _ h => h) (Or.inl ⟨by rfl, ?hy19⟩) (by assumption) ?rest19
                      case hy19 => intro w hSw; (try dsimp only at hSw); go_simp; (try with_reducible rfl)
                      simp only [List.getElem_toArray, List.getElem_cons_zero, List.getElem_cons_succ, Act.put, List.setIfInBounds_toArray, List.set_cons_zero, List.set_cons_succ]
                      refine wpAnyH_done (by kernel_rfl) ?_ _
                      refine NoPanic.normal ?_
                      have hBn := hBX.trans (hHeld.1.mono hBX.size)
                      clear hHeld
                      go_wp2
                      go_ret
                      exact ⟨ret_bool hF.out.symm, B1.out.trans (hBn.mono B1.out.size)⟩
                  · obtain rfl : j = p.n := by omega
                    have HS : Hid (∀ (j : Nat) (y : Int), j < k' + 1 → r[j]? = some y → kidsOk (ps.map PgV.pg) r root y = true) := Lib.hid (fun j y hj h' => by
                      by_cases hjk : j < k'
                      · exact HA.out j y hjk h'
                      · obtain rfl : j = k' := by omega
                        rw [hy2] at h'
                        cases h'
                        unfold kidsOk
                        rw [hkid, List.all_eq_true]
                        intro z hz
                        obtain ⟨t, ht⟩ := List.getElem?_of_mem hz
                        exact HK.out t z (by have := (List.getElem?_eq_some_iff.1 ht).1; omega) ht)
                    have HE2 : Hid (e' + p.n = edges (ps.map PgV.pg) (r.take (k' + 1))) := by
                      show e' + p.n = _
                      rw [edges_more hy2, hkid, ← HE.out, hpxl]
                    clear hkid hy2 HK
                    go_wp2
                    go_roundw
                    case rel => exact ⟨k' + 1, e' + p.n, by omega, by go_num, by go_num, HE2, HB1.out, HS, hBX⟩
                    case measure => simp [intOf]; omega
            · obtain rfl : k' = r.length := by omega
              have hE4 : Hid (res = decide ((e' : Int) = (r.length : Int) - 1)) := by
                show res = _
                rw [hE3.out, HE.out, List.take_length, allk_yes (fun j y hj => HA.out j y (List.getElem?_eq_some_iff.1 hj).1 hj), Bool.true_and]
              clear hE3 HA HE
              go_wp2
              go_ret
              exact ⟨ret_bool (by rw [hE4.out]; rfl), B1.out.trans (hB.mono B1.out.size)⟩
  · have hF : Hid (res = false) := by
      show res = false
      rw [hE.out, decide_eq_false (by omega), Bool.false_and]
    go_wp2_with fail
    refine (l1In_no (n : Int) 1 48 _ hin).mono ?_
    rintro e w2 ⟨rfl, rfl⟩
    go_wp2
    go_ret
    exact ⟨ret_bool hF.out.symm, B1.out⟩
end Go.Proofs.Ytfefggcfeppeiaa

/- Whether two slices hold the same items. -/
namespace Go.Proofs.Ytfefggcfeppeiaa
open Go.RowKit

theorem neItem_run (a b : It) (w : World) :
    (binOp .neq 98 (.agg #[.int .i64 a.id, .int .i64 a.x0, .int .i64 a.y0, .int .i64 a.x1, .int .i64 a.y1]) (.agg #[.int .i64 b.id, .int .i64 b.x0, .int .i64 b.y0, .int .i64 b.x1, .int .i64 b.y1])).run Try.prog w = .ok (.bool (!itEq a b)) w := by
  obtain ⟨i, x0, y0, x1, y1⟩ := a
  obtain ⟨j, u0, v0, u1, v1⟩ := b
  unfold itEq boxEq
  by_cases h : i = j
  · by_cases h0 : x0 = u0
    · by_cases h1 : y0 = v0
      · by_cases h2 : x1 = u1
        · by_cases h3 : y1 = v1
          all_goals go_simp
        · go_simp
      · go_simp
    · go_simp
  · go_simp

def sameV (xs ys : List It) : Bool := xs.length == ys.length && (xs.zip ys).all fun p => itEq p.1 p.2
theorem sameV_len {xs ys : List It} (h : xs.length ≠ ys.length) : sameV xs ys = false := by unfold sameV; simp [h]
theorem sameV_iff (xs ys : List It) : sameV xs ys = true ↔ xs = ys := by
  unfold sameV
  induction xs generalizing ys with
  | nil => cases ys <;> simp
  | cons x l ih =>
    cases ys with
    | nil => simp
    | cons y m =>
      have := ih m
      simp only [List.length_cons, List.zip_cons_cons, List.all_cons, Bool.and_eq_true, beq_iff_eq, Nat.add_right_cancel_iff, List.cons.injEq, itEq_iff] at this ⊢
      rw [← this]
      constructor
      · rintro ⟨a, b, c⟩; exact ⟨b, a, c⟩
      · rintro ⟨b, a, c⟩; exact ⟨a, b, c⟩
theorem sameV_no {xs ys : List It} {k : Nat} {x y : It} (hx : xs[k]? = some x) (hy : ys[k]? = some y) (h : itEq x y = false) : sameV xs ys = false := by
  rw [Bool.eq_false_iff]
  intro h'
  have := (sameV_iff xs ys).1 h'
  subst this
  rw [hx] at hy
  obtain rfl : x = y := by simpa using hy
  rw [itEq_self] at h
  cases h
theorem sameV_end {xs ys : List It} (hl : xs.length = ys.length) (h : ∀ (k : Nat) (x y : It), k < xs.length → xs[k]? = some x → ys[k]? = some y → itEq x y = true) : sameV xs ys = true := by
  rw [sameV_iff]
  apply List.ext_getElem? 
  intro k
  by_cases hk : k < xs.length
  · have h1 : xs[k]? = some xs[k] := List.getElem?_eq_getElem hk
    have h2 : ys[k]? = some (ys[k]'(by omega)) := List.getElem?_eq_getElem _
    have := (itEq_iff _ _).1 (h k _ _ hk h1 h2)
    rw [h1, h2, this]
  · rw [List.getElem?_eq_none (by omega), List.getElem?_eq_none (by omega)]

end Go.Proofs.Ytfefggcfeppeiaa

/- Whether two nodes are the same. -/
namespace Go.Proofs.Ytfefggcfeppeiaa
open Go.RowKit

theorem neEntry_run (a b : It) (w : World) :
    (binOp .neq 92 (.agg #[.int .i64 a.id, .int .i64 a.x0, .int .i64 a.y0, .int .i64 a.x1, .int .i64 a.y1]) (.agg #[.int .i64 b.id, .int .i64 b.x0, .int .i64 b.y0, .int .i64 b.x1, .int .i64 b.y1])).run Try.prog w = .ok (.bool (!itEq a b)) w := by
  obtain ⟨i, x0, y0, x1, y1⟩ := a
  obtain ⟨j, u0, v0, u1, v1⟩ := b
  unfold itEq boxEq
  by_cases h : i = j
  · by_cases h0 : x0 = u0
    · by_cases h1 : y0 = v0
      · by_cases h2 : x1 = u1
        · by_cases h3 : y1 = v1
          all_goals go_simp
        · go_simp
      · go_simp
    · go_simp
  · go_simp


set_option maxRecDepth 100000 in
set_option maxHeartbeats 1600000 in
theorem sSameNode_any (c d : Bool) (a a' : Option Addr) (n n' cap cap' : Nat) (xs ys : List It) (w : World) (h : RdS itLay w a n cap xs) (h' : RdS itLay w a' n' cap' ys) :
    Calls Try.prog 69 #[.agg #[.bool c, .slice a n cap], .agg #[.bool d, .slice a' n' cap']] w fun e w' => e = .returned (.bool ((c == d) && sameV xs ys)) ∧ Below w.heap.size w w' := by
  have hm := h.1.2.2.1
  have hnc := h.1.2.1
  have hm' := h'.1.2.2.1
  have hnc' := h'.1.2.1
  unfold maxLen at hm hm'
  have HR := Lib.hid h
  have HL := Lib.hid h.1.1
  have HR' := Lib.hid h'
  have HL' := Lib.hid h'.1.1
  clear h h'
  obtain ⟨W0, hW0⟩ : ∃ W0, W0 = ((w.alloc (.cells #[.bool c, .slice a n cap] 32)).alloc (.cells #[.bool d, .slice a' n' cap'] 32)) := ⟨_, rfl⟩
  have B0 : Below w.heap.size w W0 := by rw [hW0]; exact ((Below.refl _ _).alloc (Nat.le_refl _) _).alloc (by simp) _
  have K := blk_alloc (.cells #[.bool d, .slice a' n' cap'] 32) (by simp) _ _ (blk_new w #[.bool c, .slice a n cap] 32)
  have J := blk_new1 w (.cells #[.bool c, .slice a n cap] 32) #[.bool d, .slice a' n' cap'] 32
  rw [← hW0] at K J
  have hS0 : W0.heap.size = w.heap.size + 2 := by rw [hW0]; simp
  replace K := Lib.hid K
  replace J := Lib.hid J
  by_cases hcd : c = d
  · subst hcd
    have hcc : Hid (((c == c) && sameV xs ys) = sameV xs ys) := by show _ = _; cases c <;> rfl
    by_cases hlen : n = n'
    · subst hlen
      go_enter Try.func69, Try.ntmps69
      go_wp2
      rw [← hW0]
      go_loopw [5] (fun i wr => ∃ k : Nat, k ≤ n ∧ i = .int .i64 k ∧ Hid (∀ (j : Nat) (x y : It), j < k → xs[j]? = some x → ys[j]? = some y → itEq x y = true) ∧ Below W0.heap.size W0 wr) (fun i _ => n - (intOf i).toNat)
      case atStart => exact ⟨0, Nat.zero_le _, rfl, Lib.hid (fun j x y hj => by omega), Below.refl _ _⟩
      case round =>
        obtain ⟨k, hk, rfl, HA, hB⟩ := hrel
        have hBw := B0.trans (hB.mono B0.size)
        obtain ⟨k0, -⟩ := below_keep hB (by omega) _ _ K.out
        obtain ⟨j0, -⟩ := below_keep hB (by omega) _ _ J.out
        by_cases hlt : k < n
        · obtain ⟨b, off, x, rfl, hbl, hx, d0, d1, d2, d3, d4⟩ := rdIt_at (HR.out.below hBw) hlt
          obtain ⟨b', off', y, rfl, hbl', hy, p0, p1, p2, p3, p4⟩ := rdIt_at (HR'.out.below hBw) hlt
          have HX := Lib.hid hx
          have HY := Lib.hid hy
          have z0 : (0 : Int) ≤ k := by omega
          have z1 : (k : Int) < n := by omega
          clear hx hy
          cases he : itEq x y with
          | true =>
            have hr : ∀ V, _ = _ := fun V => neEntry_run x y V
            rw [he] at hr
            simp only [Bool.not_true] at hr
            have HS : Hid (∀ (j : Nat) (x y : It), j < k + 1 → xs[j]? = some x → ys[j]? = some y → itEq x y = true) := Lib.hid (fun j x' y' hj h1 h2 => by
              by_cases hjk : j < k
              · exact HA.out j x' y' hjk h1 h2
              · obtain rfl : j = k := by omega
                rw [HX.out] at h1
                rw [HY.out] at h2
                obtain rfl : x = x' := by simpa using h1
                obtain rfl : y = y' := by simpa using h2
                exact he)
            clear he
            go_wp2_with fail
            go_quiet (fail)
            go_wp2
            go_roundw
            case rel => exact ⟨k + 1, by omega, by go_num, HS, below_drewN hB _⟩
            case measure => simp [intOf]; omega
          | false =>
            have hr : ∀ V, _ = _ := fun V => neEntry_run x y V
            rw [he] at hr
            simp only [Bool.not_false] at hr
            have HF := Lib.hid (hcc.out.trans (sameV_no HX.out HY.out he))
            clear he
            go_wp2_with fail
            go_quiet (fail)
            go_wp2
            go_ret
            exact ⟨ret_bool HF.out.symm, below_drewN hBw _⟩
        · have HF : Hid (((c == c) && sameV xs ys) = true) := by
            obtain rfl : k = n := by omega
            exact Lib.hid (hcc.out.trans (sameV_end (by rw [HL.out, HL'.out]) (fun j x y hj h1 h2 => HA.out j x y (by rw [← HL.out]; exact hj) h1 h2)))
          go_wp2
          go_ret
          exact ⟨ret_bool HF.out.symm, hBw⟩
    · have HF : Hid (((c == c) && sameV xs ys) = false) := Lib.hid (hcc.out.trans (sameV_len (by rw [HL.out, HL'.out]; exact hlen)))
      have hne : ((n : Int) != (n' : Int)) = true := by rw [bne_iff_ne]; omega
      clear hlen
      go_enter Try.func69, Try.ntmps69
      go_wp2
      go_ret
      exact ⟨ret_bool HF.out.symm, hW0 ▸ B0⟩
  · cases c with
    | true =>
      cases d with
      | true => exact absurd rfl hcd
      | false =>
        clear hcd
        go_enter Try.func69, Try.ntmps69
        go_wp2
        go_ret
        exact ⟨rfl, hW0 ▸ B0⟩
    | false =>
      cases d with
      | false => exact absurd rfl hcd
      | true =>
        clear hcd
        go_enter Try.func69, Try.ntmps69
        go_wp2
        go_ret
        exact ⟨rfl, hW0 ▸ B0⟩
end Go.Proofs.Ytfefggcfeppeiaa
