/- The program's entriesOfBookOk: who refers to whom. -/
import Derived.Test.YtfefggcfeppeiaaGreatReachI3ZLooks
import Derived.Test.YtfefggcfeppeiaaGreatBookI6ZLooks
namespace Go.Proofs.YtfefggcfeppeiaaGreat
open Go.RowKit

theorem all_split {l : List Pg} {r : List Int} {k : Nat} {i : Int} (h : r[k]? = some i) : allKids l r = allKids l (r.take k) ++ (kidIds l i ++ allKids l (r.drop (k + 1))) := by
  obtain ⟨hk, rfl⟩ := List.getElem?_eq_some_iff.1 h
  have e : r = r.take k ++ r[k] :: r.drop (k + 1) := by rw [← List.drop_eq_getElem_cons hk, List.take_append_drop]
  unfold allKids
  rw [← List.flatMap_cons, ← List.flatMap_append, ← e]
theorem all_more {l : List Pg} {r : List Int} {k : Nat} {i : Int} (h : r[k]? = some i) : allKids l (r.take (k + 1)) = allKids l (r.take k) ++ kidIds l i := by
  unfold allKids
  rw [List.take_add_one, h, List.flatMap_append]
  simp
theorem pre_at {l : List Pg} {r : List Int} {k j : Nat} {i x : Int} (h : r[k]? = some i) (hx : (kidIds l i)[j]? = some x) : ∃ t, allKids l r = (allKids l (r.take k) ++ (kidIds l i).take j) ++ x :: t := by
  obtain ⟨hj, rfl⟩ := List.getElem?_eq_some_iff.1 hx
  refine ⟨(kidIds l i).drop (j + 1) ++ allKids l (r.drop (k + 1)), ?_⟩
  rw [all_split h, List.append_assoc, ← List.cons_append, ← List.drop_eq_getElem_cons hj, ← List.append_assoc (List.take j _), List.take_append_drop]
theorem refs_unused {l : List Pg} {root x : Int} {k j : Nat} {i : Int} (h : (reachV l root)[k]? = some i) (hx : (kidIds l i)[j]? = some x) (hu : (pageAt l x).used = false) : refsOk l root = false := by
  obtain ⟨t, e⟩ := pre_at h hx
  have : (allKids l (reachV l root)).all (fun k => (pageAt l k).used) = false := by
    rw [List.all_eq_false]
    exact ⟨x, by rw [e]; exact List.mem_append_right _ List.mem_cons_self, by rw [hu]; exact Bool.false_ne_true⟩
  unfold refsOk
  rw [this, Bool.and_false]
theorem refs_twice {l : List Pg} {root x : Int} {k j : Nat} {i : Int} (h : (reachV l root)[k]? = some i) (hx : (kidIds l i)[j]? = some x) (hm : x ∈ root :: (allKids l ((reachV l root).take k) ++ (kidIds l i).take j)) : refsOk l root = false := by
  obtain ⟨t, e⟩ := pre_at h hx
  have : ¬ (root :: allKids l (reachV l root)).Nodup := fun hn => by
    rw [e, ← List.cons_append, List.nodup_append] at hn
    exact hn.2.2 x hm x List.mem_cons_self rfl
  unfold refsOk
  rw [decide_eq_false this, Bool.false_and]

/-- What the loops hold: the book's box, the reached pages, the set of those that are referred to. -/
structure EnS (w : World) (root : Int) (l : List Pg) (a : Option Addr) (n cap bm : Nat) (v : Value) (r pre : List Int) (W : World) : Prop where
  box : Loc W w.heap.size #[.int .i64 root, .slice a n cap]
  row : Own .i64 3 W w.heap.size v r
  set : SetM W bm (root :: pre).length (root :: pre)
  hm : w.heap.size < bm
  nodup : (root :: pre).Nodup
  used : ∀ x ∈ pre, (pageAt l x).used = true
  below : Below w.heap.size w W
theorem EnS.kept {w W W' : World} {root : Int} {l : List Pg} {a : Option Addr} {n cap bm : Nat} {v : Value} {r pre : List Int} (h : EnS w root l a n cap bm v r pre W) (hb : Below W.heap.size W W') : EnS w root l a n cap bm v r pre W' :=
  ⟨h.box.below hb, h.row.below hb, h.set.below hb, h.hm, h.nodup, h.used, h.below.trans (hb.mono h.below.size)⟩
theorem EnS.put {w W W' : World} {root x : Int} {l : List Pg} {a : Option Addr} {n cap bm : Nat} {v : Value} {r pre : List Int} (h : EnS w root l a n cap bm v r pre W) (hg : W.grownBy W' (some bm)) (hS : SetM W' bm ((root :: pre).length + 1) ((root :: pre) ++ [x])) (hx : (root :: pre).contains x = false) (hu : (pageAt l x).used = true) : EnS w root l a n cap bm v r (pre ++ [x]) W' where
  box := h.box.grown hg (fun k e => by cases e; have := h.hm; omega)
  row := Own.kept h.row hg (by
    cases e : v.ownBlock with
    | none => exact .inl rfl
    | some g => exact .inr (fun e2 => h.set.row h.row g e (Option.some.inj e2)))
  set := by
    rw [← List.cons_append, List.length_append]
    exact hS
  hm := h.hm
  nodup := by
    rw [← List.cons_append, List.nodup_append]
    refine ⟨h.nodup, by simp, fun y hy z hz => ?_⟩
    obtain rfl := List.mem_singleton.1 hz
    rintro rfl
    rw [← List.contains_iff_mem, hx] at hy
    cases hy
  used := fun y hy => by
    rcases List.mem_append.1 hy with h1 | h1
    · exact h.used y h1
    · obtain rfl := List.mem_singleton.1 h1
      exact hu
  below := h.below.grown hg h.below.size (fun k e => by cases e; have := h.hm; omega)

set_option maxRecDepth 100000 in
set_option maxHeartbeats 3200000 in
theorem iEntries_any (root : Int) (a : Option Addr) (n cap : Nat) (ps : List PgV) (w : World) (h : RdP w a n cap ps) (hn : n ≤ 1099511627776) (hps : ∀ p ∈ ps, p.n ≤ 1099511627776) (hr : (Lit.int .i64 root).wf = true) (hT : totG (ps.map PgV.pg) ≤ 1099511627776) :
    Calls Tryz.prog 50 #[.agg #[.int .i64 root, .slice a n cap]] w (RetB (refsOk (ps.map PgV.pg) root) w) := by
  have hmm := @run_makeMap Tryz.prog
  have HR := Lib.hid h
  have HL := Lib.hid h.1.1.1
  have HN := Lib.hid hps
  have b0 := new_below w (.cells #[.int .i64 root, .slice a n cap] 26)
  have b1 : Below w.heap.size w ((w.alloc (.cells #[.int .i64 root, .slice a n cap] 26)).alloc (.map #[] 0)) := b0.alloc b0.size _
  have K1 := (Loc.new w #[.int .i64 root, .slice a n cap] 26).alloc (.map #[] 0)
  have M0 := SetM.made (w.alloc (.cells #[.int .i64 root, .slice a n cap] 26))
  rw [show (w.alloc (.cells #[.int .i64 root, .slice a n cap] 26)).heap.size = w.heap.size + 1 by simp] at M0
  obtain ⟨w2, hup, hS2, g2⟩ := M0.put (by simp [maxLen]) root hr
  have K2 := K1.grown g2 (fun k e => by cases e; omega)
  have B2 := b1.grown g2 b1.size (fun k e => by cases e; omega)
  have CR := Lib.hid (iReach_any root a n cap ps w2 (h.below B2) hn hps hT)
  obtain ⟨r, hrr⟩ : ∃ r, r = reachV (ps.map PgV.pg) root := ⟨_, rfl⟩
  rw [← hrr] at CR
  replace hrr := Lib.hid hrr
  have e0 := K1.2.1 0
  simp at e0
  have d0 := K2.2.1 0
  have d1 := K2.2.1 1
  simp at d0 d1
  have HK := Lib.hid K2
  have HS2 := Lib.hid hS2
  have HB2 := Lib.hid B2
  clear h hps M0 g2 hS2 K1 K2 B2 b0 b1
  have hlen := Lib.hid (show r.length ≤ n by
    rw [hrr.out]
    have := reachV_le (ps.map PgV.pg) root
    rw [List.length_map, HL.out] at this
    exact this)
  have hedge := Lib.hid (show (allKids (ps.map PgV.pg) r).length ≤ 1099511627776 by
    rw [hrr.out, allKids_len]
    exact Nat.le_trans (edges_le (reach_ok _ _)) hT)
  go_enter Tryz.func50, Tryz.ntmps50
  go_wp2_with fail
  refine CR.out.mono ?_
  rintro e w3 ⟨v3, rfl, o3, b3⟩
  obtain ⟨a3, c3, rfl, -⟩ := o3.rd
  obtain ⟨nr, hnr⟩ : ∃ nr, nr = r.length := ⟨_, rfl⟩
  rw [← hnr] at o3
  rw [← hnr]
  replace hnr := Lib.hid hnr
  have hnrn : nr ≤ n := by rw [hnr.out]; exact hlen.out
  have E3 : Hid (EnS w root (ps.map PgV.pg) a n cap (w.heap.size + 1) (.slice a3 nr c3) r (allKids (ps.map PgV.pg) (r.take 0)) w3) := Lib.hid ⟨HK.out.below b3, Own.mono o3 HB2.out.size, HS2.out.below b3, Nat.lt_succ_self _, by simp [allKids], fun x hx => (by simp [allKids] at hx), HB2.out.trans (b3.mono HB2.out.size)⟩
  clear hup d0 d1 e0 o3 b3 HK HS2 HB2
  go_wp2
  go_loopw [15] (fun i wr => ∃ k : Nat, k ≤ nr ∧ i = .int .i64 (k : Int) ∧ Hid (EnS w root (ps.map PgV.pg) a n cap (w.heap.size + 1) (.slice a3 nr c3) r (allKids (ps.map PgV.pg) (r.take k)) wr)) (fun i _ => nr - (intOf i).toNat)
  case atStart => exact ⟨0, Nat.zero_le _, rfl, E3⟩
  case round =>
    clear E3
    obtain ⟨k, hk, rfl, HE⟩ := hrel
    by_cases hlt : k < nr
    · have hrd := Own.rd HE.out.row
      obtain ⟨a3', c3', ev, rdr⟩ := hrd
      obtain ⟨rfl, e2, rfl⟩ : a3 = a3' ∧ nr = r.length ∧ c3 = c3' := by simpa using ev
      rw [← e2] at rdr
      obtain ⟨b, off, rfl, hc⟩ := rdr.2 (by omega)
      have ck := hc k hlt
      obtain ⟨i, hik⟩ : ∃ i, r.getD k 0 = i := ⟨_, rfl⟩
      rw [hik] at ck
      have hat : Hid (r[k]? = some i) := by
        have : k < r.length := by omega
        show r[k]? = some i
        rw [← hik]
        simp [List.getD, this]
      have hmem : i ∈ reachV (ps.map PgV.pg) root := by rw [← hrr.out]; exact List.mem_of_getElem? hat.out
      have hus := reach_used hmem
      have hin := used_in hus
      rw [List.length_map, HL.out] at hin
      obtain ⟨m, rfl⟩ := Int.eq_ofNat_of_zero_le hin.1
      have hmn : m < n := by omega
      have hsp := Lib.hid (all_split (l := (ps.map PgV.pg)) hat.out)
      obtain ⟨pb, poff, p, rfl, hbl, hp, hpr, d0, d1, d2⟩ := rdP_at (HR.out.below HE.out.below) hmn
      have hpg : Hid (kidIds (ps.map PgV.pg) m = (kidsP ⟨true, p.leaf, p.xs⟩).map (fun x => x.id)) := by
        show _ = _
        unfold kidIds
        rw [pageAt_yes hp]
        rfl
      have C7 := Lib.hid (iKids_any p.leaf p.a p.n p.cap p.xs wr hpr (HN.out p (List.mem_of_getElem? hp)))
      have ea := HE.out.box.2.1 1
      simp at ea
      clear hp hpr hc rdr ev e2 hik hmem hus
      have z0 : (0 : Int) ≤ k := by omega
      have z1 : (k : Int) < nr := by omega
      have z2 : (0 : Int) ≤ m := by omega
      have z3 : (m : Int) < n := by omega
      go_wp2_with fail
      refine C7.out.mono ?_
      rintro e w6 ⟨v6, rfl, o6, b6⟩
      rw [← hpg.out] at o6
      obtain ⟨a6, c6, rfl, -⟩ := o6.rd
      obtain ⟨nk, hnk⟩ : ∃ nk, nk = (kidIds (ps.map PgV.pg) m).length := ⟨_, rfl⟩
      rw [← hnk] at o6
      rw [← hnk]
      replace hnk := Lib.hid hnk
      have E6 : Hid (EnS w root (ps.map PgV.pg) (some ⟨pb, poff, none⟩) n cap (w.heap.size + 1) (.slice (some ⟨b, off, none⟩) nr c3) r (allKids (ps.map PgV.pg) (r.take k) ++ (kidIds (ps.map PgV.pg) m).take 0) w6) := by
        rw [List.take_zero, List.append_nil]
        exact Lib.hid (HE.out.kept b6)
      have O6 := Lib.hid (Own.mono o6 HE.out.below.size)
      have hsl : (allKids (ps.map PgV.pg) (r.take k)).length + nk ≤ 1099511627776 := by
        have h1 := hedge.out
        rw [hsp.out, List.length_append, List.length_append, ← hnk.out] at h1
        omega
      clear HE ck d0 d1 d2 ea o6 b6 hbl
      go_wp2
      go_loopw [27] (fun i2 wr => ∃ j : Nat, j ≤ nk ∧ i2 = .int .i64 (j : Int) ∧ Hid (EnS w root (ps.map PgV.pg) (some ⟨pb, poff, none⟩) n cap (w.heap.size + 1) (.slice (some ⟨b, off, none⟩) nr c3) r (allKids (ps.map PgV.pg) (r.take k) ++ (kidIds (ps.map PgV.pg) m).take j) wr) ∧ Hid (Own .i64 3 wr w.heap.size (.slice a6 nk c6) (kidIds (ps.map PgV.pg) m))) (fun i2 _ => nk - (intOf i2).toNat)
      case atStart => exact ⟨0, Nat.zero_le _, rfl, E6, O6⟩
      case round =>
        clear E6 O6
        obtain ⟨j, hj, rfl, HE, HO⟩ := hrel
        by_cases hjl : j < nk
        · obtain ⟨a6', c6', ev, rdr⟩ := Own.rd HO.out
          obtain ⟨rfl, e2, rfl⟩ : a6 = a6' ∧ nk = (kidIds (ps.map PgV.pg) m).length ∧ c6 = c6' := by simpa using ev
          rw [← e2] at rdr
          obtain ⟨kb, koff, rfl, hc⟩ := rdr.2 (by omega)
          have ck := hc j hjl
          obtain ⟨x, hxj⟩ : ∃ x, (kidIds (ps.map PgV.pg) m).getD j 0 = x := ⟨_, rfl⟩
          rw [hxj] at ck
          have hatx : Hid ((kidIds (ps.map PgV.pg) m)[j]? = some x) := by
            have : j < (kidIds (ps.map PgV.pg) m).length := by omega
            show (kidIds (ps.map PgV.pg) m)[j]? = some x
            rw [← hxj]
            simp [List.getD, this]
          have ea := HE.out.box.2.1
          have ea0 := ea 0
          have ea1 := ea 1
          simp at ea0 ea1
          have hat2 : (reachV (ps.map PgV.pg) root)[k]? = some (m : Int) := by rw [← hrr.out]; exact hat.out
          have HPW := Lib.hid (HR.out.below HE.out.below)
          clear hc rdr ev e2 hxj ea
          have y0 : (0 : Int) ≤ j := by omega
          have y1 : (j : Int) < nk := by omega
          cases hu : (pageAt (ps.map PgV.pg) x).used with
          | false =>
            have hv := Lib.hid (refs_unused hat2 hatx.out hu)
            have C := Lib.hid (iUses_any root x (some ⟨pb, poff, none⟩) n cap ps wr HPW.out false hu)
            clear hu hat2
            go_wp2_with fail
            refine C.out.mono ?_
            rintro e w8 ⟨rfl, b8⟩
            have HB8 := HE.out.below.trans (b8.mono HE.out.below.size)
            clear b8
            go_wp2
            go_ret
            exact ⟨ret_bool hv.out.symm, HB8⟩
          | true =>
            have hxw : (Lit.int .i64 x).wf = true := by
              have h5 := used_in hu
              rw [List.length_map, HL.out] at h5
              obtain ⟨xm, rfl⟩ := Int.eq_ofNat_of_zero_le h5.1
              exact wf_idx (show xm < n by omega) hn
            have C := Lib.hid (iUses_any root x (some ⟨pb, poff, none⟩) n cap ps wr HPW.out true hu)
            cases hc : (root :: (allKids (ps.map PgV.pg) (r.take k) ++ (kidIds (ps.map PgV.pg) m).take j)).contains x with
            | true =>
              have hv := Lib.hid (refs_twice hat2 hatx.out (by rw [← hrr.out, ← List.contains_iff_mem]; exact hc))
              replace hc := Lib.hid hc
              clear hu hat2
              go_wp2_with fail
              refine C.out.mono ?_
              rintro e w8 ⟨rfl, b8⟩
              have HE8 := Lib.hid (HE.out.kept b8)
              have hlk := HE8.out.set.look x hxw
              rw [hc.out] at hlk
              clear b8
              go_wp2
              go_ret
              exact ⟨ret_bool hv.out.symm, HE8.out.below⟩
            | false =>
              replace hc := Lib.hid hc
              replace hu := Lib.hid hu
              clear hat2
              go_wp2_with fail
              refine C.out.mono ?_
              rintro e w8 ⟨rfl, b8⟩
              have HE8 := Lib.hid (HE.out.kept b8)
              have HO8 := Lib.hid (HO.out.below b8)
              have hlk := HE8.out.set.look x hxw
              rw [hc.out] at hlk
              obtain ⟨w9, hup, hS9, g9⟩ := HE8.out.set.put (show _ < maxLen by
                rw [List.length_cons, List.length_append, List.length_take]
                unfold maxLen
                omega) x hxw
              have HE9 : Hid (EnS w root (ps.map PgV.pg) (some ⟨pb, poff, none⟩) n cap (w.heap.size + 1) (.slice (some ⟨b, off, none⟩) nr c3) r (allKids (ps.map PgV.pg) (r.take k) ++ (kidIds (ps.map PgV.pg) m).take (j + 1)) w9) := by
                rw [List.take_add_one, hatx.out, ← List.append_assoc]
                exact Lib.hid (HE8.out.put g9 hS9 hc.out hu.out)
              have HO9 : Hid (Own .i64 3 w9 w.heap.size (.slice (some ⟨kb, koff, none⟩) nk c6) (kidIds (ps.map PgV.pg) m)) := Lib.hid (Own.kept HO8.out g9 (by
                refine .inr (fun e2 => ?_)
                exact HE8.out.set.row HO8.out _ e2 rfl))
              clear b8 g9 hS9
              go_wp2
              go_roundw
              case rel => exact ⟨j + 1, by omega, by go_num, HE9, HO9⟩
              case measure => simp [intOf]; omega
        · obtain rfl : j = nk := by omega
          have HEn : Hid (EnS w root (ps.map PgV.pg) (some ⟨pb, poff, none⟩) n cap (w.heap.size + 1) (.slice (some ⟨b, off, none⟩) nr c3) r (allKids (ps.map PgV.pg) (r.take (k + 1))) wr) := by
            rw [all_more hat.out]
            have := HE.out
            rw [List.take_of_length_le (show (kidIds (ps.map PgV.pg) m).length ≤ j by rw [← hnk.out]; exact Nat.le_refl _)] at this
            exact Lib.hid this
          clear HE HO
          go_wp2
          go_roundw
          case rel => exact ⟨k + 1, by omega, by go_num, HEn⟩
          case measure => simp [intOf]; omega
    · obtain rfl : k = nr := by omega
      have hv : Hid (refsOk (ps.map PgV.pg) root = true) := by
        have h1 := HE.out
        rw [List.take_of_length_le (by rw [← hnr.out]; exact Nat.le_refl _)] at h1
        show _ = _
        unfold refsOk
        rw [← hrr.out, Bool.and_eq_true, decide_eq_true_eq, List.all_eq_true]
        exact ⟨h1.nodup, h1.used⟩
      go_wp2
      go_ret
      exact ⟨ret_bool hv.out.symm, HE.out.below⟩
end Go.Proofs.YtfefggcfeppeiaaGreat
