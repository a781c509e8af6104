/- Books that are marked, and their reading. -/
import Derived.Test.YtnebhbnogmhbgaaBookC
import Derived.Test.YtnebhbnogmhbgaaEntryM
import Derived.Test.YtnebhbnogmhbgaaItemAt
namespace Go.Proofs.Ytnebhbnogmhbgaa
open Go.RowKit

/-- A page that is marked from k on. -/
def mkP (k : Int) (p : PgV) : PgV := ⟨k % 3 == 0, (k + 1) % 3 == 0, p.a, p.n, p.cap, markedI p.n (k + 1 + 1)⟩
def stepP (k : Int) (p : PgV) : Int := k + 1 + 1 + 5 * p.n
def markPs : Int → List PgV → List PgV
  | _, [] => []
  | k, p :: l => mkP k p :: markPs (stepP k p) l
def endP : Int → List PgV → Int
  | k, [] => k
  | k, p :: l => endP (stepP k p) l
theorem markPs_len : ∀ (k : Int) (ps : List PgV), (markPs k ps).length = ps.length
  | _, [] => rfl
  | k, p :: l => by rw [markPs, List.length_cons, markPs_len _ l, List.length_cons]
theorem markPs_snoc : ∀ (k : Int) (ps : List PgV) (p : PgV), markPs k (ps ++ [p]) = markPs k ps ++ [mkP (endP k ps) p]
  | _, [], _ => rfl
  | k, q :: l, p => by rw [List.cons_append, markPs, markPs, endP, markPs_snoc _ l p]; rfl
theorem endP_snoc : ∀ (k : Int) (ps : List PgV) (p : PgV), endP k (ps ++ [p]) = stepP (endP k ps) p
  | _, [], _ => rfl
  | k, q :: l, p => by rw [List.cons_append, endP, endP, endP_snoc _ l p]
theorem endP_eq : ∀ (k : Int) (ps : List PgV), endP k ps = k + 2 * ps.length + 5 * totP ps
  | k, [] => by simp [endP, totP]
  | k, p :: l => by
    rw [endP, endP_eq _ l]
    unfold stepP totP
    rw [List.map_cons, List.sum_cons, List.length_cons]
    omega
theorem endP_more {ps : List PgV} {m : Nat} {p : PgV} (h : ps[m]? = some p) (k : Int) : endP k (ps.take (m + 1)) = stepP (endP k (ps.take m)) p := by
  rw [List.take_add_one, h]
  exact endP_snoc k _ p
theorem endP_le : ∀ (l l' : List PgV) (k : Int), endP k l ≤ endP k (l ++ l') := fun l l' k => by
  rw [endP_eq, endP_eq, List.length_append]
  unfold totP
  rw [List.map_append, List.sum_append]
  omega
theorem endP_take_le (ps : List PgV) (m : Nat) (k : Int) : endP k (ps.take m) ≤ endP k ps := by
  conv => rhs; rw [← List.take_append_drop m ps]
  exact endP_le _ _ _
theorem markPs_app : ∀ (k : Int) (l l' : List PgV), markPs k (l ++ l') = markPs k l ++ markPs (endP k l) l'
  | _, [], _ => rfl
  | k, q :: l, l' => by rw [List.cons_append, markPs, markPs, endP, markPs_app _ l l']; rfl
theorem markPs_at {ps : List PgV} {m : Nat} {p : PgV} (h : ps[m]? = some p) (k : Int) : (markPs k ps)[m]? = some (mkP (endP k (ps.take m)) p) := by
  have hm : m < ps.length := (List.getElem?_eq_some_iff.1 h).1
  have hd : ps.drop m = p :: ps.drop (m + 1) := by
    obtain ⟨hlt, rfl⟩ := List.getElem?_eq_some_iff.1 h
    exact List.drop_eq_getElem_cons hlt
  have hl : (markPs k (ps.take m)).length = m := by rw [markPs_len, List.length_take]; omega
  conv => lhs; rw [← List.take_append_drop m ps, markPs_app, hd]
  rw [List.getElem?_append_right (by omega), hl, Nat.sub_self, markPs]
  rfl
/-- The first m pages are marked. -/
def halfP (k : Int) (ps : List PgV) (m : Nat) : List PgV := markPs k (ps.take m) ++ ps.drop m
theorem halfP_len (k : Int) (ps : List PgV) (m : Nat) : (halfP k ps m).length = ps.length := by
  unfold halfP
  rw [List.length_append, markPs_len, ← List.length_append, List.take_append_drop]
theorem halfP_at {ps : List PgV} {m : Nat} {p : PgV} (h : ps[m]? = some p) (k : Int) : (halfP k ps m)[m]? = some p := by
  have hm : m < ps.length := (List.getElem?_eq_some_iff.1 h).1
  unfold halfP
  rw [List.getElem?_append_right (by rw [markPs_len, List.length_take]; omega), markPs_len, List.length_take, Nat.min_eq_left (by omega), Nat.sub_self, List.getElem?_drop]
  exact h
theorem halfP_set {ps : List PgV} {m : Nat} {p : PgV} (h : ps[m]? = some p) (k : Int) : halfP k ps (m + 1) = (halfP k ps m).set m (mkP (endP k (ps.take m)) p) := by
  have hm : m < ps.length := (List.getElem?_eq_some_iff.1 h).1
  have hd : ps.drop m = p :: ps.drop (m + 1) := by
    obtain ⟨hlt, rfl⟩ := List.getElem?_eq_some_iff.1 h
    exact List.drop_eq_getElem_cons hlt
  unfold halfP
  have e : ps.take (m + 1) = ps.take m ++ [p] := by rw [List.take_add_one, h]; rfl
  have hl : (markPs k (ps.take m)).length = m := by rw [markPs_len, List.length_take]; omega
  rw [e, markPs_snoc, List.append_assoc, hd, List.set_append_right _ _ (by omega), hl, Nat.sub_self]
  rfl
theorem halfP_zero (k : Int) (ps : List PgV) : halfP k ps 0 = ps := by simp [halfP, markPs]
theorem halfP_end (k : Int) (ps : List PgV) : halfP k ps ps.length = markPs k ps := by simp [halfP]

/-- All that a book owns lies ahead of a bound. -/
def InB (hi : Nat) (v : Value) (ps : List PgV) : Prop := (∀ g, v.ownBlock = some g → g < hi) ∧ ∀ p ∈ ps, ∀ g, p.sl.ownBlock = some g → g < hi
theorem OwnP.inb {w : World} {base : Nat} {v : Value} {ps : List PgV} (h : OwnP w base v ps) : InB w.heap.size v ps := ⟨fun g hg => (World.ownsRow.lt h.row g hg).2, fun p hp g hg => (World.ownsRow.lt (h.ent p hp) g hg).2⟩

theorem flat_setP2 (ps : List PgV) (k : Nat) (p : PgV) (u b : Bool) (xs : List It) (hk : ps[k]? = some p) :
    ((ps.flatMap pgLay.cells).set (k * 3) (.bool u)).set (k * 3 + 1) (.bool b) = (ps.set k ⟨u, b, p.a, p.n, p.cap, xs⟩).flatMap pgLay.cells := by
  induction ps generalizing k with
  | nil => simp at hk
  | cons y l ih =>
    cases k with
    | zero =>
      obtain rfl : y = p := by simpa using hk
      simp [pgLay, List.flatMap_cons]
    | succ k =>
      have := ih k (by simpa using hk)
      simp only [List.flatMap_cons, List.set_cons_succ]
      rw [← this]
      have e : ∀ (j : Nat) (u : Value) (t : List Value), (pgLay.cells y ++ t).set ((k + 1) * 3 + j) u = pgLay.cells y ++ t.set (k * 3 + j) u := by
        intro j u t
        rw [List.set_append_right _ _ (by show 3 ≤ _; omega)]
        show pgLay.cells y ++ t.set ((k + 1) * 3 + j - 3) u = _
        rw [show (k + 1) * 3 + j - 3 = k * 3 + j by omega]
      have e0 := e 0
      simp only [Nat.add_zero] at e0
      rw [e0, e]
/-- A page of an owned row is marked: its two marks, then its entries where they lie. -/
theorem OwnP.mark {w w2 w3 : World} {base g n cap k : Nat} {ps : List PgV} {p : PgV} {u b : Bool} {xs : List It} (h : OwnP w base (.slice (some ⟨g, 0, none⟩) n cap) ps) (hp : ps[k]? = some p)
    (hw : w2 = (w.setCell ⟨g, k * 3, none⟩ (.bool u)).setCell ⟨g, k * 3 + 1, none⟩ (.bool b)) (hg3 : w2.grownBy w3 p.sl.ownBlock) (hx : OwnS itLay 91 w3 base p.sl xs) :
    OwnP w3 base (.slice (some ⟨g, 0, none⟩) n cap) (ps.set k ⟨u, b, p.a, p.n, p.cap, xs⟩) := by
  have hl := ownP_len h
  have hk : k < ps.length := (List.getElem?_eq_some_iff.1 hp).1
  have hmem := List.mem_of_getElem? hp
  subst hw
  have hG : w.grownBy _ (Value.slice (some ⟨g, 0, none⟩) n cap).ownBlock := grown_trans (grown_setCell (World.grownBy.refl w (some g)) g (k * 3) (.bool u) rfl) (grown_setCell (World.grownBy.refl _ (some g)) g (k * 3 + 1) (.bool b) rfl)
  refine ⟨?_, fun q hq => ?_, fun q hq => ?_, fun i j q r hij hq hr => ?_⟩
  · have hr := h.row
    have hs : OwnS pgLay 48 ((w.setCell ⟨g, k * 3, none⟩ (.bool u)).setCell ⟨g, k * 3 + 1, none⟩ (.bool b)) base (.slice (some ⟨g, 0, none⟩) n cap) (ps.set k ⟨u, b, p.a, p.n, p.cap, xs⟩) := by
      unfold OwnS at hr ⊢
      rw [List.length_set, ← flat_setP2 ps k p u b xs hp]
      rw [hl] at hr ⊢
      exact ((hr.stored (k * 3) _).1.stored (k * 3 + 1) _).1
    exact hs.keptApart hg3 (h.out p hmem)
  · obtain ⟨i, hi⟩ := List.mem_iff_getElem?.1 hq
    rw [List.getElem?_set] at hi
    split at hi
    · obtain rfl := Option.some.inj hi
      exact hx
    · rename_i e
      have hqm := List.mem_of_getElem? hi
      exact ((h.ent q hqm).keptApart hG (h.out q hqm).symm).keptApart hg3 (h.pair i k q p (Ne.symm e) hi hp)
  · rcases List.mem_or_eq_of_mem_set hq with h1 | rfl
    · exact h.out q h1
    · exact h.out p hmem
  · have hsl : ∀ (i : Nat) (q : PgV), (ps.set k ⟨u, b, p.a, p.n, p.cap, xs⟩)[i]? = some q → ∃ q', ps[i]? = some q' ∧ q'.sl = q.sl := by
      intro i q hq
      rw [List.getElem?_set] at hq
      split at hq
      · rename_i e
        subst e
        obtain rfl := Option.some.inj hq
        exact ⟨p, hp, rfl⟩
      · exact ⟨q, hq, rfl⟩
    obtain ⟨q', h1, e1⟩ := hsl i q hq
    obtain ⟨r', h2, e2⟩ := hsl j r hr
    rw [← e1, ← e2]
    exact h.pair i j q' r' hij h1 h2
theorem inb_set {hi k : Nat} {v : Value} {ps : List PgV} {p q : PgV} (h : InB hi v ps) (hp : ps[k]? = some p) (e : q.sl = p.sl) : InB hi v (ps.set k q) := by
  refine ⟨h.1, fun r hr g hg => ?_⟩
  rcases List.mem_or_eq_of_mem_set hr with h1 | rfl
  · exact h.2 r h1 g hg
  · rw [e] at hg
    exact h.2 p (List.mem_of_getElem? hp) g hg

set_option maxRecDepth 100000 in
set_option maxHeartbeats 1600000 in
/-- laws.markPageS: writes marks into pages that are owned. -/
theorem markPageS_any (a : Option Addr) (n cap : Nat) (ps : List PgV) (k : Int) (base hi : Nat) (w : World) (h : OwnP w base (.slice a n cap) ps) (hib : InB hi (.slice a n cap) ps) (hk0 : 0 ≤ k) (hk : endP k ps ≤ 1000000000) :
    Calls Try.prog 80 #[.slice a n cap, .int .i64 k] w fun e w' => e = .returned (.int .i64 (endP k ps)) ∧ OwnP w' base (.slice a n cap) (markPs k ps) ∧ ChgIn base hi w w' := by
  have hlen := ownP_len h
  have hcap := h.rd.1.1.2
  have HI := Lib.hid hib
  have HO0 := Lib.hid h
  have HK := Lib.hid hk
  obtain ⟨c1, c2, -⟩ := hcap
  unfold maxLen at c2
  have HL := Lib.hid hlen
  clear h hib hk hlen
  go_enter Try.func80, Try.ntmps80
  go_wp2
  go_loopw [1, 5] (fun q i wr => ∃ (m : Nat) (r : Int), m ≤ n ∧ i = .int .i64 (m : Int) ∧ q = .int .i64 r ∧ Hid (r = endP k (ps.take m)) ∧ Hid (OwnP wr base (.slice a n cap) (halfP k ps m)) ∧ Hid (ChgIn base hi w wr)) (fun _ i _ => n - (intOf i).toNat)
  case atStart => exact ⟨0, k, Nat.zero_le _, rfl, rfl, Lib.hid rfl, by rw [halfP_zero]; exact HO0, Lib.hid (ChgIn.refl _ _ _)⟩
  case round =>
    clear HO0
    obtain ⟨m, r, hm, rfl, rfl, hr, HO, HC⟩ := hrel
    by_cases hlt : m < n
    · obtain ⟨p, hp⟩ : ∃ p, ps[m]? = some p := ⟨_, List.getElem?_eq_getElem (by rw [HL.out]; exact hlt)⟩
      have hpm := List.mem_of_getElem? hp
      have HP := Lib.hid hp
      have hq := halfP_at hp k
      obtain ⟨g, rfl⟩ : ∃ g, a = some ⟨g, 0, none⟩ := own_head (by have := HO.out.row; unfold OwnS at this; rw [halfP_len, HL.out] at this; exact this) (by omega)
      obtain ⟨y, hy, e0, e1, e2⟩ := ownP_at HO.out hlt
      obtain rfl : p = y := Option.some.inj (hq.symm.trans hy)
      have hfz := HO.out.froz
      have hgw := HO.out.lt.2
      have hgb := HO.out.lt.1
      have hent := HO.out.ent p (List.mem_of_getElem? hq)
      have hpl : p.xs.length = p.n := ownS_len hent
      have hpc := (rdS_ownsP hent).1.2
      have hr0 : 0 ≤ r ∧ r + 2 + 5 * p.n ≤ 1000000000 := by
        have h1 := HK.out
        have h2 := hr.out
        have h3 := endP_more hp k
        unfold stepP at h3
        have h4 := endP_take_le ps (m + 1) k
        have h5 : 0 ≤ endP k (ps.take m) := by rw [endP_eq]; omega
        omega
      have hpn : p.n ≤ 1000000000 := by omega
      have z0 : (0 : Int) ≤ m := by omega
      have z1 : (m : Int) < n := by omega
      have hw2 : w.heap.size ≤ wr.heap.size := HC.out.size
      obtain ⟨W2, hW2⟩ : ∃ W2, W2 = (wr.setCell ⟨g, m * 3, none⟩ (.bool (r % 3 == 0))).setCell ⟨g, m * 3 + 1, none⟩ (.bool ((r + 1) % 3 == 0)) := ⟨_, rfl⟩
      have hent2 : OwnS itLay 91 W2 base p.sl p.xs := by
        rw [hW2]
        have ha := HO.out.out p (List.mem_of_getElem? hq)
        exact ownS_set (ownS_set hent (fun e => ha g rfl e) _ _) (fun e => ha g rfl e) _ _
      have hown : W2.ownsRow base 91 5 (.slice p.a p.n p.cap) p.n (p.xs.flatMap itLay.cells) := by
        have := hent2
        unfold OwnS PgV.sl at this
        rw [hpl] at this
        exact this
      have CM := markEntryS_any p.a p.n p.cap p.xs (r + 1 + 1) base W2 hown hpl (by omega) (by omega) hpn
      rw [hW2] at CM
      replace CM := Lib.hid CM
      have HQ := Lib.hid hq
      have HPM := Lib.hid hpm
      have hs2 : W2.heap.size = wr.heap.size := by rw [hW2]; simp
      have HB := Lib.hid (World.ownsRow.lt hent2)
      have hgi := HI.out.1 g rfl
      clear hq hy hpm hent hent2 hown hpl hpc
      replace hp := Lib.hid hp
      replace hW2 := Lib.hid hW2
      go_wp2_with fail
      refine CM.out.mono ?_
      rintro e w3 ⟨rfl, ho3, hg3⟩
      have HO3 : Hid (OwnP w3 base (.slice (some ⟨g, 0, none⟩) n cap) (halfP k ps (m + 1))) := by
        have := HO.out.mark (w2 := W2) (w3 := w3) (u := (r % 3 == 0)) (b := ((r + 1) % 3 == 0)) (xs := markedI p.n (r + 1 + 1)) HQ.out hW2.out (by rw [hW2.out]; exact hg3) (by unfold OwnS PgV.sl; rw [markedI_len]; exact ho3)
        rw [halfP_set HP.out, ← hr.out]
        exact Lib.hid this
      have HC3 : Hid (ChgIn base hi w w3) := by
        refine Lib.hid (HC.out.trans (ChgIn.trans (b := W2) ?_ (ChgIn.of_grown (row := p.sl.ownBlock) (by rw [hW2.out]; exact hg3) (fun g' hg' => ⟨(HB.out g' hg').1, HI.out.2 p HPM.out g' hg'⟩))))
        rw [hW2.out]
        exact (ChgIn.of_grown (grown_setCell (World.grownBy.refl wr (some g)) g (m * 3) _ rfl) (fun g' hg' => by cases hg'; exact ⟨hgb, hgi⟩)).trans (ChgIn.of_grown (grown_setCell (World.grownBy.refl _ (some g)) g (m * 3 + 1) _ rfl) (fun g' hg' => by cases hg'; exact ⟨hgb, hgi⟩))
      have HE : Hid (r + 1 + 1 + 5 * p.n = endP k (ps.take (m + 1))) := by
        show _ = _
        rw [endP_more HP.out, ← hr.out]
        rfl
      clear ho3 hg3
      go_wp2
      go_roundw
      case rel => exact ⟨m + 1, r + 1 + 1 + 5 * p.n, by omega, by go_num, by go_num, HE, HO3, HC3⟩
      case measure => simp [intOf]; omega
    · obtain rfl : m = n := by omega
      have HE : Hid (r = endP k ps) := by
        have := hr.out
        rw [List.take_of_length_le (by rw [HL.out]; exact Nat.le_refl _)] at this
        exact Lib.hid this
      have HO3 : Hid (OwnP wr base (.slice a m cap) (markPs k ps)) := by
        have := HO.out
        rw [← HL.out, halfP_end] at this
        rw [← HL.out]
        exact Lib.hid this
      go_wp2
      go_ret
      exact ⟨ret_i64' HE.out, HO3.out, HC.out⟩

set_option maxRecDepth 100000 in
set_option maxHeartbeats 400000 in
theorem markBook_any (root : Int) (a : Option Addr) (n cap : Nat) (ps : List PgV) (k : Int) (base hi : Nat) (w : World) (h : OwnP w base (.slice a n cap) ps) (hib : InB hi (.slice a n cap) ps) (hk0 : 0 ≤ k) (hk : endP k ps ≤ 1000000000) :
    Calls Try.prog 40 #[.agg #[.int .i64 root, .slice a n cap], .int .i64 k] w fun e w' => e = .returned (.int .i64 (endP k ps)) ∧ OwnP w' base (.slice a n cap) (markPs k ps) ∧ ChgIn base hi w w' := by
  have B0 := new_below w (.cells #[.int .i64 root, .slice a n cap] 26)
  have C := Lib.hid (markPageS_any a n cap ps k base hi _ (h.below B0) hib hk0 hk)
  have HC := Lib.hid (ChgIn.of_below (lo := base) (hi := hi) B0)
  clear h hib
  go_enter Try.func40, Try.ntmps40
  go_wp2_with fail
  refine C.out.mono ?_
  rintro e w1 ⟨rfl, ho, hc⟩
  have HO := Lib.hid ho
  have HC2 := Lib.hid (HC.out.trans hc)
  clear ho hc
  go_wp2
  go_ret
  exact ⟨rfl, HO.out, HC2.out⟩

set_option maxRecDepth 100000 in
set_option maxHeartbeats 1600000 in
/-- laws.heldPageS: pages that read as they were marked. -/
theorem heldPageS_any (a : Option Addr) (n cap : Nat) (ps : List PgV) (k : Int) (w : World) (h : RdP w a n cap (markPs k ps)) (hk0 : 0 ≤ k) (hk : endP k ps ≤ 1000000000) :
    Calls Try.prog 81 #[.slice a n cap, .int .i64 k] w fun e w' => e = .returned (.int .i64 (endP k ps)) ∧ w = w' := by
  have hlen : ps.length = n := by have := h.1.1.1; rw [markPs_len] at this; exact this
  have c1 := h.1.1.2.1
  have c2 := h.1.1.2.2.1
  unfold maxLen at c2
  have HR := Lib.hid h
  have HK := Lib.hid hk
  have HL := Lib.hid hlen
  clear h hk hlen
  go_enter Try.func81, Try.ntmps81
  go_wp2
  go_loopw [1, 5] (fun q i wr => ∃ (m : Nat) (r : Int), m ≤ n ∧ i = .int .i64 (m : Int) ∧ q = .int .i64 r ∧ Hid (r = endP k (ps.take m)) ∧ wr = w) (fun _ i _ => n - (intOf i).toNat)
  case atStart => exact ⟨0, k, Nat.zero_le _, rfl, rfl, Lib.hid rfl, rfl⟩
  case round =>
    obtain ⟨m, r, hm, rfl, rfl, hr, rfl⟩ := hrel
    by_cases hlt : m < n
    · obtain ⟨p, hp⟩ : ∃ p, ps[m]? = some p := ⟨_, List.getElem?_eq_getElem (by rw [HL.out]; exact hlt)⟩
      have HP := Lib.hid hp
      obtain ⟨b, off, y, rfl, hbl, hy, hrd, d0, d1, d2⟩ := rdP_at HR.out hlt
      obtain rfl : mkP r p = y := by
        have e := markPs_at hp k
        rw [hy, ← hr.out] at e
        exact (Option.some.inj e).symm
      have hr0 : 0 ≤ r ∧ r + 2 + 5 * p.n ≤ 1000000000 := by
        have h1 := HK.out
        have h2 := hr.out
        have h3 := endP_more hp k
        unfold stepP at h3
        have h4 := endP_take_le ps (m + 1) k
        have h5 : 0 ≤ endP k (ps.take m) := by rw [endP_eq]; omega
        omega
      have hpn : p.n ≤ 1000000000 := by omega
      have z0 : (0 : Int) ≤ m := by omega
      have z1 : (m : Int) < n := by omega
      have CH := Lib.hid (heldEntryS_any p.a p.n p.cap (r + 1 + 1) wr hrd (by omega) (by omega) hpn)
      have HE : Hid (r + 1 + 1 + 5 * p.n = endP k (ps.take (m + 1))) := by
        show _ = _
        rw [endP_more hp, ← hr.out]
        rfl
      simp only [mkP] at d0 d1 d2
      clear hp hy hrd
      go_wp2_with fail
      refine CH.out.mono ?_
      rintro e w1 ⟨rfl, rfl⟩
      go_wp2
      go_roundw
      case rel => exact ⟨m + 1, r + 1 + 1 + 5 * p.n, by omega, by go_num, rfl, HE, by trivial⟩
      case measure => simp [intOf]; omega
    · obtain rfl : m = n := by omega
      have HE : Hid (r = endP k ps) := by
        have := hr.out
        rw [List.take_of_length_le (by rw [HL.out]; exact Nat.le_refl _)] at this
        exact Lib.hid this
      go_wp2
      go_ret
      exact ⟨ret_i64' HE.out, rfl⟩

set_option maxRecDepth 100000 in
set_option maxHeartbeats 400000 in
theorem heldBook_any (root : Int) (a : Option Addr) (n cap : Nat) (ps : List PgV) (k : Int) (w : World) (h : RdP w a n cap (markPs k ps)) (hk0 : 0 ≤ k) (hk : endP k ps ≤ 1000000000) :
    Calls Try.prog 41 #[.agg #[.int .i64 root, .slice a n cap], .int .i64 k] w fun e w' => e = .returned (.int .i64 (endP k ps)) ∧ Below w.heap.size w w' := by
  have B0 := new_below w (.cells #[.int .i64 root, .slice a n cap] 26)
  have C := Lib.hid (heldPageS_any a n cap ps k _ (h.below B0) hk0 hk)
  have h0 : ¬ endP k ps < 0 := by rw [endP_eq]; omega
  clear h
  go_enter Try.func41, Try.ntmps41
  go_wp2_with fail
  refine C.out.mono ?_
  rintro e w1 ⟨rfl, rfl⟩
  go_wp2
  go_ret
  exact ⟨rfl, B0⟩
end Go.Proofs.Ytnebhbnogmhbgaa
