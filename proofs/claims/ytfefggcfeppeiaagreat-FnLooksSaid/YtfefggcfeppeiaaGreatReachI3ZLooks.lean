/- The program's Reach. -/
import Derived.Test.YtfefggcfeppeiaaGreatReachI2ZLooks
namespace Go.Proofs.YtfefggcfeppeiaaGreat
open Go.RowKit Go.Shelf
attribute [local go_sem] Oper.semAt_some

def lenSl : Value → Nat
  | .slice _ n _ => n
  | _ => 0
/-- How long the list is that a box holds. -/
def lenW (b : Nat) (w : World) : Nat := match w.cell? ⟨b, 0, none⟩ with
  | some v => lenSl v
  | none => 0
theorem lenW_eq {b : Nat} {w : World} {v : Value} (h : Loc w b #[v]) : lenW b w = lenSl v := by
  have e := h.2.1 0
  simp at e
  unfold lenW
  rw [e]

theorem wf_idx {m n : Nat} (h : m < n) (hn : n ≤ 1099511627776) : (Lit.int .i64 (m : Int)).wf = true := by
  simp [Lit.wf, IntKind.min, IntKind.max, IntKind.signed, IntKind.bits]
  omega
theorem rs_start (w : World) (root : Int) (a : Option Addr) (n cap : Nat) : RS w root a n cap (w.heap.size + 1 + 1) (w.heap.size + 1 + 1 + 1 + 1) [] [] [root] (.slice (some ⟨w.heap.size + 1, 0, none⟩) 0 0) (.slice (some ⟨w.heap.size + 1 + 1 + 1, 0, none⟩) 1 1) [] (((((w.alloc (.cells #[.int .i64 root, .slice a n cap] 26)).alloc (.cells #[] 3)).alloc (.map #[] 0)).alloc (.cells #[.int .i64 root] 3)).alloc (.cells #[.slice (some ⟨w.heap.size + 1 + 1 + 1, 0, none⟩) 1 1] 41)) := by
  obtain ⟨w1, h1⟩ : ∃ w1, w1 = w.alloc (.cells #[.int .i64 root, .slice a n cap] 26) := ⟨_, rfl⟩
  obtain ⟨w2, h2⟩ : ∃ w2, w2 = w1.alloc (.cells #[] 3) := ⟨_, rfl⟩
  obtain ⟨w3, h3⟩ : ∃ w3, w3 = w2.alloc (.map #[] 0) := ⟨_, rfl⟩
  obtain ⟨w4, h4⟩ : ∃ w4, w4 = w3.alloc (.cells #[.int .i64 root] 3) := ⟨_, rfl⟩
  rw [← h1, ← h2, ← h3, ← h4]
  have s1 : w1.heap.size = w.heap.size + 1 := by rw [h1]; simp
  have s2 : w2.heap.size = w.heap.size + 1 + 1 := by rw [h2]; simp [s1]
  have s3 : w3.heap.size = w.heap.size + 1 + 1 + 1 := by rw [h3]; simp [s2]
  have s4 : w4.heap.size = w.heap.size + 1 + 1 + 1 + 1 := by rw [h4]; simp [s3]
  have b5 := new_below w4 (.cells #[.slice (some ⟨w.heap.size + 1 + 1 + 1, 0, none⟩) 1 1] 41)
  have b4 : Below w3.heap.size w3 w4 := by rw [h4]; exact new_below _ _
  have b3 : Below w2.heap.size w2 w3 := by rw [h3]; exact new_below _ _
  have b2 : Below w1.heap.size w1 w2 := by rw [h2]; exact new_below _ _
  have b1 : Below w.heap.size w w1 := by rw [h1]; exact new_below _ _
  have b35 := b4.trans (b5.mono b4.size)
  have b25 := b3.trans (b35.mono b3.size)
  have b15 := b2.trans (b25.mono b2.size)
  have k1 : Loc w1 w.heap.size #[.int .i64 root, .slice a n cap] := by rw [h1]; exact Loc.new w _ _
  have t1 : TagT 26 w1 w.heap.size := by rw [h1]; exact TagT.new _ w _
  have k5 := Loc.new w4 #[.slice (some ⟨w.heap.size + 1 + 1 + 1, 0, none⟩) 1 1] 41
  have t5 := TagT.new 41 w4 #[.slice (some ⟨w.heap.size + 1 + 1 + 1, 0, none⟩) 1 1]
  rw [s4] at k5 t5
  have o2 : Own .i64 3 w2 w.heap.size (.slice (some ⟨w.heap.size + 1, 0, none⟩) 0 0) [] := by rw [h2]; exact own_nil w1 3 1 w.heap.size (w.heap.size + 1) s1 (by omega)
  have o4 : Own .i64 3 w4 w.heap.size (.slice (some ⟨w.heap.size + 1 + 1 + 1, 0, none⟩) 1 1) [root] := by
    have R := World.ownsRow_lit (base := w.heap.size) (size := 1) (e := 3) w3 #[.int .i64 root] 1 (by omega) (by simp [maxLen]) rfl
    rw [s3] at R
    rw [h4]
    exact R
  have m3 := SetM.made w2
  rw [s2, ← h3] at m3
  have hap : Apart (.slice (some ⟨w.heap.size + 1, 0, none⟩) 0 0) (.slice (some ⟨w.heap.size + 1 + 1 + 1, 0, none⟩) 1 1) := fun g h1 h2 => by
    simp [Value.ownBlock] at h1 h2
    omega
  exact ⟨k1.below b15, t1.of (b15.block _ k1.1), k5, t5, by omega, by omega, Own.below o2 b25, Own.below o4 b5, m3.below b35, hap, ⟨List.nodup_nil, fun D hD => by cases hD⟩, b1.trans (b15.mono b1.size)⟩

set_option maxRecDepth 100000 in
set_option maxHeartbeats 3200000 in
theorem iReach_any : CReach 27 := by
  intro root a n cap ps w h hn hps hT
  have hT0 := hT
  obtain ⟨i0, hi, hz0, hz1, hz2⟩ := info_parts Tryz.infoI64
  replace hi := Lib.hid hi
  replace hz0 := Lib.hid hz0
  replace hz1 := Lib.hid hz1
  replace hz2 := Lib.hid hz2
  have hmm := @run_makeMap Tryz.prog
  have HR := Lib.hid h
  have HL := Lib.hid h.1.1.1
  have HN := Lib.hid hps
  have H0 := Lib.hid (rs_start w root a n cap)
  clear h hps
  obtain ⟨W1, hW1⟩ : ∃ W1, W1 = (((((w.alloc (.cells #[.int .i64 root, .slice a n cap] 26)).alloc (.cells #[] 3)).alloc (.map #[] 0)).alloc (.cells #[.int .i64 root] 3)).alloc (.cells #[.slice (some ⟨w.heap.size + 1 + 1 + 1, 0, none⟩) 1 1] 41)) := ⟨_, rfl⟩
  rw [← hW1] at H0
  refine (callsIn_wide (n := 4)).1 ?_
  refine callsIn_of_wp_marks Tryz.func27 rfl trivial ?_ rfl
  simp only [Tryz.ntmps27, List.size_toArray, List.length_cons, List.length_nil, Nat.reduceAdd, Nat.reduceSub, Array.replicate_succ, Array.replicate_zero, List.push_toArray, List.append_toArray, List.nil_append, List.cons_append]
  gi_wp2
  rw [← hW1]
  clear hW1
  obtain ⟨Bw, hBw⟩ : ∃ Bw, Bw = w.heap.size + 1 + 1 + 1 + 1 := ⟨_, rfl⟩
  rw [← hBw] at H0
  rw [← hBw]
  obtain ⟨bm, hbm⟩ : ∃ bm, bm = w.heap.size + 1 + 1 := ⟨_, rfl⟩
  rw [← hbm] at H0
  rw [← hbm]
  clear hbm hBw
  refine wpIn_loop (fun a' w' => ∃ (u6 u7 u8 u9 u10 u11 u12 u13 u14 u15 u16 u17 u18 u19 u20 u21 u22 u23 u24 u25 u26 u27 u28 u29 u30 u31 u32 u33 u34 u35 u36 u37 u38 u39 u40 u41 u42 u43 u44 u45 u46 u47 u48 u49 u50 u51 u52 u53 u54 u55 u56 : Value) (Ds : List Nat) (zs ws : List Int) (vo vw : Value), (RS w root a n cap bm Bw zs zs ws vo vw Ds w' ∧ WaitOk (ps.map PgV.pg) root ws.reverse zs ∧ ws.length ≤ 1 + edges (ps.map PgV.pg) zs) ∧ a' = { tmps := #[.agg #[.int .i64 root, .slice a n cap], .pointer (some ⟨w.heap.size, 0, none⟩), .slice none 0 0, vo, .map (some bm), .pointer (some ⟨Bw, 0, none⟩), u6, u7, u8, u9, u10, u11, u12, u13, u14, u15, u16, u17, u18, u19, u20, u21, u22, u23, u24, u25, u26, u27, u28, u29, u30, u31, u32, u33, u34, u35, u36, u37, u38, u39, u40, u41, u42, u43, u44, u45, u46, u47, u48, u49, u50, u51, u52, u53, u54, u55, u56, undef], defers := Ds.map markOf }) (fun a' w' => (n - lenSl (a'.tmps.getD 3 undef)) * (totG (ps.map PgV.pg) + 2) + lenW Bw w') ?h0 ?round
  case h0 =>
    refine ⟨_, _, _, _, _, _, _, _, _, _, _, _, _, _, _, _, _, _, _, _, _, _, _, _, _, _, _, _, _, _, _, _, _, _, _, _, _, _, _, _, _, _, _, _, _, _, _, _, _, _, _, [], [], [root], _, _, ⟨H0.out, WaitOk.start _ _, by simp [edges]⟩, rfl⟩
  case round =>
    clear H0
    rintro _ wr ⟨u6, u7, u8, u9, u10, u11, u12, u13, u14, u15, u16, u17, u18, u19, u20, u21, u22, u23, u24, u25, u26, u27, u28, u29, u30, u31, u32, u33, u34, u35, u36, u37, u38, u39, u40, u41, u42, u43, u44, u45, u46, u47, u48, u49, u50, u51, u52, u53, u54, u55, u56, Ds, zs, ws, vo, vw, ⟨hrs, hwo, hle⟩, rfl⟩
    obtain ⟨avo, cvo, rfl, -⟩ := hrs.out.rd
    obtain ⟨avw, cvw, rfl, hrw⟩ := hrs.wt.rd
    have HS := Lib.hid hrs
    have HWO := Lib.hid hwo
    have HLE := Lib.hid hle
    have eb := hrs.wb.2.1 0
    have fb := hrs.wb.2.2 0
    simp at eb
    rcases List.eq_nil_or_concat ws with rfl | ⟨ws, i, rfl⟩
    · have hv := Lib.hid hwo.done
      clear hrs hrw hwo hle
      simp only [List.length_nil] at eb
      gi_wp2
      refine leaves_marks (B := w.heap.size) (fun W => Own .i64 3 W w.heap.size (.slice avo zs.length cvo) zs ∧ Below w.heap.size w W) (fun W D hQ hD hK => ⟨ownsRow_at hQ.1 (fun g hg => World.putObj_heap_other (fun e => ?_)), hQ.2.grown (grownBy_putObj' W D _) hQ.2.size (fun k e => by cases e; exact hD)⟩) (fun W hQ => ⟨_, results_tmp rfl _ _ _, _, rfl, by rw [← hv.out]; exact hQ.1, hQ.2⟩) Ds wr HS.out.mks ⟨HS.out.out, HS.out.below⟩
      rcases hQ.1.2 with ⟨e2, _⟩ | ⟨g', c', cur, e2, _, hh, _⟩
      · rw [e2] at hg
        cases hg
      · rw [e2] at hg
        obtain rfl : g' = g := by simpa [Value.ownBlock] using hg
        first | rw [e, hK] at hh | rw [← e, hK] at hh
        cases hh
    · simp only [List.concat_eq_append] at hrs hrw eb hwo hle
      obtain ⟨k, hk⟩ : ∃ k, k = ws.length := ⟨_, rfl⟩
      have hl1 : (ws ++ [i]).length = k + 1 := by rw [List.length_append, List.length_singleton, hk]
      rw [hl1] at hrs eb hrw hle
      replace HS := Lib.hid hrs
      have hwo' : WaitOk (ps.map PgV.pg) root (i :: ws.reverse) zs := by
        have := hwo
        rw [List.reverse_append] at this
        exact this
      replace HWO := Lib.hid hwo'
      replace HLE := Lib.hid hle
      have hE := edges_le hwo.1
      have hZ := hwo.1.len
      rw [List.length_map, HL.out] at hZ
      have hkb : k ≤ 1099511627776 := by omega
      obtain ⟨g, rfl⟩ : ∃ g, avw = some ⟨g, 0, none⟩ := by
        have ho := hrs.wt
        unfold Own at ho
        rw [hl1] at ho
        exact own_head ho (by omega)
      obtain ⟨b', off', e', hc'⟩ := hrw.2 (by omega)
      obtain ⟨rfl, rfl⟩ : g = b' ∧ 0 = off' := by simpa using e'
      have ck := hc' k (by omega)
      have hgk : (ws ++ [i]).getD k 0 = i := by
        rw [List.getD_eq_getElem?_getD, List.getElem?_append_right (by omega), hk, Nat.sub_self]
        rfl
      rw [hgk, Nat.zero_add] at ck
      have hcap := hrw.1.2.1
      have hcm := hrw.1.2.2.1
      unfold maxLen at hcm
      have HP := Lib.hid (hrs.pop hk.symm)
      obtain ⟨W2, hW2⟩ : ∃ W2, W2 = wr.setCell ⟨Bw, 0, none⟩ (.slice (some ⟨g, 0, none⟩) k cvw) := ⟨_, rfl⟩
      rw [← hW2] at HP
      have ea := hrs.box.2.1
      have ea0 := ea 0
      have ea1 := ea 1
      simp at ea0 ea1
      have hBne : Bw ≠ w.heap.size := hrs.ne_box.1
      replace hk := Lib.hid hk
      have hpw := Lib.hid (HR.out.below (HP.out.below))
      clear ea
      clear hl1 hrs hrw hwo hwo' hle hgk hc' e'
      have z0 : (0 : Int) ≤ k := by omega
      gi_wp2_with fail
      rw [← hW2]
      clear hW2 ea0 ea1 eb fb ck hBne
      cases hu : (pageAt (ps.map PgV.pg) i).used with
      | false =>
        have C := Lib.hid (iUses_any root i a n cap ps W2 hpw.out false hu)
        have hsk := Lib.hid (HWO.out.skip (by rw [hu]; rfl))
        clear hu
        refine ⟨trivial, (callsIn_wide.2 C.out).mono ?_⟩
        rintro e w3 ⟨rfl, b3⟩
        have HP3 := Lib.hid (HP.out.kept b3)
        clear b3
        gi_wp2
        refine ⟨⟨_, _, _, _, _, _, _, _, _, _, _, _, _, _, _, _, _, _, _, _, _, _, _, _, _, _, _, _, _, _, _, _, _, _, _, _, _, _, _, _, _, _, _, _, _, _, _, _, _, _, _, Ds, zs, ws, _, _, ⟨HP3.out, hsk.out, by have := HLE.out; have := hk.out; omega⟩, rfl⟩, ?_⟩
        rw [lenW_eq HP3.out.wb, lenW_eq HS.out.wb]
        simp [lenSl]
      | true =>
        have C := Lib.hid (iUses_any root i a n cap ps W2 hpw.out true hu)
        have hin := used_in hu
        rw [List.length_map, HL.out] at hin
        have hi64 : (Lit.int .i64 i).wf = true := by
          obtain ⟨m, rfl⟩ := Int.eq_ofNat_of_zero_le hin.1
          exact wf_idx (show m < n by omega) hn
        refine ⟨trivial, (callsIn_wide.2 C.out).mono ?_⟩
        rintro e w3 ⟨rfl, b3⟩
        have HP3 := Lib.hid (HP.out.kept b3)
        have hpw3 := Lib.hid (hpw.out.below b3)
        clear b3
        have hlk := HP3.out.set.look i hi64
        cases hz : zs.contains i with
        | true =>
          have hsk := Lib.hid (HWO.out.skip (by rw [hu, hz]; rfl))
          rw [hz] at hlk
          clear hu hz
          gi_wp2
          refine ⟨⟨_, _, _, _, _, _, _, _, _, _, _, _, _, _, _, _, _, _, _, _, _, _, _, _, _, _, _, _, _, _, _, _, _, _, _, _, _, _, _, _, _, _, _, _, _, _, _, _, _, _, _, Ds, zs, ws, _, _, ⟨HP3.out, hsk.out, by have := HLE.out; have := hk.out; omega⟩, rfl⟩, ?_⟩
          rw [lenW_eq HP3.out.wb, lenW_eq HS.out.wb]
          simp [lenSl]
        | false =>
          rw [hz] at hlk
          have htk := Lib.hid (HWO.out.take (by rw [hu, hz]; rfl))
          obtain ⟨w4, hup, hS4, g4⟩ := HP3.out.set.put (show zs.length < maxLen by unfold maxLen; omega) i hi64
          have HP4 := Lib.hid (HP3.out.mark g4 hS4)
          have g4' := Lib.hid g4
          clear hu hz hS4 g4
          have hnews := Lib.hid (World.news_of_block (cs := #[.int .i64 i]) (t := 3) (fr := (0, 0)) (heap_alloc_new w4 (.cells #[.int .i64 i] 3)))
          gi_wp2_with (gi_at_builtin; refine wpListIn_append_new _ rfl (.tmp 39) (.tmp 41) 41 rfl w.heap.size 3 i0 (.int .i64 0) 1 8 Tryz.underlying41 hi.out hz0.out hz1.out hz2.out rfl (by decide) (.slice avo zs.length cvo) zs.length (zs.map (Value.int .i64)) rfl (World.ownsRow.alloc HP4.out.out _) ⟨w4.heap.size, 0, none⟩ 1 1 [.int .i64 i] rfl rfl hnews.out (by simp [Value.oneCell']) ?_ ?_ ?_ ?_)
          case refine_1 => unfold maxLen; omega
          case refine_2 => omega
          case refine_3 => have := HP4.out.below.size; simp; omega
          intro v5 w5 o5 g5 f5
          have HP5 := Lib.hid (HP4.out.outApp o5 g5 f5)
          obtain ⟨a5, c5, rfl⟩ := owns_shape o5
          clear o5 g5 f5 hlk hup hnews
          obtain ⟨m, rfl⟩ := Int.eq_ofNat_of_zero_le hin.1
          have hmn : m < n := by omega
          obtain ⟨b, off, p, rfl, hbl, hp, hrd, d0, d1, d2⟩ := rdP_at (HR.out.below HP5.out.below) hmn
          have hpg : Hid (kidIds (ps.map PgV.pg) m = (kidsP ⟨true, p.leaf, p.xs⟩).map (fun x => x.id)) := by
            show _ = _
            unfold kidIds
            rw [pageAt_yes hp]
            rfl
          have C7 := Lib.hid (iKids_any p.leaf p.a p.n p.cap p.xs w5 hrd (HN.out p (List.mem_of_getElem? hp)))
          clear hp hrd
          have ea := HP5.out.box.2.1 1
          simp at ea
          have z1 : (0 : Int) ≤ m := by omega
          have z2 : (m : Int) < n := by omega
          gi_wp2_with fail
          refine ⟨trivial, (callsIn_wide.2 C7.out).mono ?_⟩
          rintro e w6 ⟨v6, rfl, o6, b6⟩
          rw [← hpg.out] at o6
          obtain ⟨a6, c6, rfl, r6⟩ := o6.rd
          have HP6 := Lib.hid (HP5.out.kept b6)
          gi_wp2_with fail
          refine ⟨trivial, (callsIn_wide.2 (iBack_any a6 (kidIds (ps.map PgV.pg) m).length c6 w6)).mono ?_⟩
          rintro e w7 ⟨rfl, hw7⟩
          have HP7 : Hid (RS w root (some ⟨b, off, none⟩) n cap bm Bw (zs ++ [(m : Int)]) (zs ++ [(m : Int)]) ws (.slice a5 (zs.length + 1) c5) (.slice (some ⟨g, 0, none⟩) k cvw) Ds w7) := by subst hw7; exact Lib.hid (HP6.out.alloc _)
          have s6 := b6.size
          have s7 : w7.heap.size = w6.heap.size + 1 := by subst hw7; simp
          have b67 : Below w6.heap.size w6 w7 := by subst hw7; exact new_below _ _
          obtain ⟨q, hqa, hq5, hq6⟩ : ∃ q, (∀ b off, a6 = some ⟨b, off, none⟩ → 0 < (kidIds (ps.map PgV.pg) m).length → q = b) ∧ w5.heap.size ≤ q ∧ q ≤ w6.heap.size := by
            cases a6 with
            | none => exact ⟨w6.heap.size, fun b off e => (by cases e), s6, Nat.le_refl _⟩
            | some ad =>
              have h1 := World.ownsRow.lt o6 ad.block rfl
              exact ⟨ad.block, fun b off e _ => (by cases e; rfl), h1.1, by omega⟩
          have hBs : w7.cell? ⟨w6.heap.size, 0, none⟩ = some (.slice a6 (kidIds (ps.map PgV.pg) m).length c6) := by
            have := (Loc.new w6 #[.slice a6 (kidIds (ps.map PgV.pg) m).length c6] 41).2.1 0
            rw [← hw7] at this
            simpa using this
          have hkl : (kidIds (ps.map PgV.pg) m).length ≤ totG (ps.map PgV.pg) := by
            have h1 := edges_le htk.out.1
            rw [edges_snoc] at h1
            omega
          have ST := iBack_stops Fence.wide 3 (by trivial) rfl (by omega) w6.heap.size a6 (kidIds (ps.map PgV.pg) m).length c6 q (kidIds (ps.map PgV.pg) m) (by omega) w7 (r6.below b67) hqa hBs
          have hvw : ∀ g', (Value.slice (some ⟨g, 0, none⟩) k cvw).ownBlock = some g' → g' ≠ q ∧ g' ≠ w6.heap.size := fun g' e => by
            have := (World.ownsRow.lt HP5.out.wt g' e).2
            omega
          have hBw5 : Bw < w5.heap.size := HP5.out.wb.1
          have hkk := Lib.hid hk.out
          have s7a : w7.heap.size ≤ w6.heap.size + 1 := by omega
          have s7b : w6.heap.size < w7.heap.size := by omega
          have hk2 := Lib.hid hw7
          have hEm : k + 1 ≤ 1 + edges (ps.map PgV.pg) zs := HLE.out
          clear hw7 s7 d0 d1 d2 ea o6 b6 b67 r6 hBs hqa z1 z2
          gi_wp2_with fail
          refine wpIn_rangeFunc_ownG rfl (by omega) (gf := 72) (lb := #[.pointer (some ⟨w6.heap.size, 0, none⟩)]) rfl (by trivial) (enters_of Tryz.func72 (by kernel_rfl) rfl) ST (fun h k => h.trans k)
            (fun W l o o' hl _ _ _ => ⟨World.putObj_heap_other (by omega), World.putObj_heap_other (by omega)⟩) (Below.refl _ _) (fun _ => rfl)
            (fun pre W => ∃ v, RS w root (some ⟨b, off, none⟩) n cap bm Bw (zs ++ [(m : Int)]) (zs ++ [(m : Int)]) (ws ++ pre.map Prod.snd) (.slice a5 (zs.length + 1) c5) v Ds W ∧ (∀ g, v.ownBlock = some g → g ≠ q ∧ g ≠ w6.heap.size) ∧ w7.heap.size ≤ W.heap.size) (fun _ _ _ => False) ?hI (fun _ _ _ _ _ hs _ _ => hs) ?h0I
            (fun x => { tmps := #[.agg #[.int .i64 root, .slice (some ⟨b, off, none⟩) n cap], .pointer (some ⟨w.heap.size, 0, none⟩), .slice none 0 0, .slice a5 (zs.length + 1) c5, .map (some bm), .pointer (some ⟨Bw, 0, none⟩), .int .i64 m, u7, .int .i64 x.2, u9, u10, u11, u12, u13, .slice (some ⟨g, 0, none⟩) (k + 1) cvw, .int .i64 ((k : Int) + 1), .bool true, .slice (some ⟨g, 0, none⟩) (k + 1) cvw, .slice (some ⟨g, 0, none⟩) (k + 1) cvw, .int .i64 ((k : Int) + 1), .int .i64 k, .pointer (some ⟨g, k, none⟩), .int .i64 m, .slice (some ⟨g, 0, none⟩) (k + 1) cvw, .slice (some ⟨g, 0, none⟩) (k + 1) cvw, .int .i64 ((k : Int) + 1), .int .i64 k, .slice (some ⟨g, 0, none⟩) k cvw, .agg #[.int .i64 root, .slice (some ⟨b, off, none⟩) n cap], .int .i64 m, .bool true, .bool false, .bool false, .map (some bm), .int .i64 m, .bool false, .bool false, .map (some bm), .int .i64 m, .slice avo zs.length cvo, .int .i64 m, .slice (some ⟨w4.heap.size, 0, none⟩) 1 1, .slice a5 (zs.length + 1) c5, .pointer (some ⟨w.heap.size, 1, none⟩), .slice (some ⟨b, off, none⟩) n cap, .int .i64 m, .pointer (some ⟨b, off + m * 3, none⟩), .pointer (some ⟨b, off + m * 3 + 1, none⟩), .agg #[.bool p.leaf, .slice p.a p.n p.cap], .slice a6 (kidIds (ps.map PgV.pg) m).length c6, .func (.func 72) #[] #[.pointer (some ⟨w6.heap.size, 0, none⟩)], .int .i64 x.1, .int .i64 x.2, u53, u54, u55, u56, undef], defers := [] }) ?assign ?body ?done ?stop
          case hI =>
            rintro pre W W' row ⟨v, hrs, hne, hsz⟩ hg hr
            refine ⟨v, hrs.turn hg (fun r e => ⟨?_, ?_⟩), hne, Nat.le_trans hsz hg.size⟩
            · obtain ⟨hr1, ob, hr2, hr3⟩ := hr r e
              rintro (e1 | e1 | e1 | e1 | e1 | e1)
              · have := HP7.out.box.1
                omega
              · have := HP7.out.wb.1
                omega
              · have := HP7.out.set.lt
                omega
              · have := (World.ownsRow.lt HP7.out.out r e1).2
                omega
              · rcases hrs.wt.2 with ⟨e2, _⟩ | ⟨g', c', cur, e2, _, hh, _⟩
                · rw [e2] at e1
                  cases e1
                · rw [e2] at e1
                  obtain rfl : g' = r := by simpa [Value.ownBlock] using e1
                  rw [hh] at hr2
                  cases hr2
                  cases hr3
              · have := heap_lt (HP7.out.mks.all r e1).2
                omega
            · have := (hr r e).1
              have := HP7.out.below.size
              omega
          case h0I => exact ⟨_, by rw [List.map_nil, List.append_nil]; exact HP7.out, hvw, Nat.le_refl _⟩
          case assign =>
            intro l x W K hK
            gi_wp2
            exact hK
          case body =>
            rintro l pre x W ⟨v, hrs, hne, hsz⟩ hlen
            obtain ⟨av, cv, rfl, -⟩ := hrs.wt.rd
            obtain ⟨K0, hK0⟩ : ∃ K0, K0 = (ws ++ pre.map Prod.snd).length := ⟨_, rfl⟩
            have hK1 : K0 = k + pre.length := by rw [hK0, List.length_append, List.length_map, hkk.out]
            have HI0 := Lib.hid hrs
            have HI := Lib.hid hrs
            have hwt := hrs.wt
            unfold Own at hwt
            rw [← hK0] at hwt HI
            have hwt' := Lib.hid hwt
            have hK2 : K0 ≤ k + pre.length := by omega
            have e0 := hrs.wb.2.1 0
            have f0 := hrs.wb.2.2 0
            rw [← hK0] at e0
            simp at e0
            rw [← hK0] at hne
            replace hne := Lib.hid hne
            replace hK0 := Lib.hid hK0
            clear hK1
            have hnews := Lib.hid (World.news_of_block (cs := #[.int .i64 x.2]) (t := 3) (fr := (0, 0)) (heap_alloc_new W (.cells #[.int .i64 x.2] 3)))
            have hws := HI.out.below.size
            have hBwl := HI.out.wb.1
            clear hrs hwt
            gi_wp2_with (gi_at_builtin; refine wpListIn_append_new _ rfl (.tmp 53) (.tmp 55) 41 rfl w.heap.size 3 i0 (.int .i64 0) 1 8 Tryz.underlying41 hi.out hz0.out hz1.out hz2.out rfl (by decide) (.slice av K0 cv) K0 ((ws ++ pre.map Prod.snd).map (Value.int .i64)) rfl (World.ownsRow.alloc hwt'.out _) ⟨W.heap.size, 0, none⟩ 1 1 [.int .i64 x.2] rfl rfl hnews.out (by simp [Value.oneCell']) ?_ ?_ ?_ ?_)
            case refine_1 => unfold maxLen; omega
            case refine_2 => omega
            case refine_3 => first | omega | (simp; omega)
            intro v' w1 o1 g1 f1
            have s1 := g1.size
            simp at s1
            rw [hK0.out] at o1 g1 f1
            clear hK2
            have R8 := Lib.hid (HI0.out.waitApp (x := x.2) (by rw [List.map_append, List.map_map, List.append_assoc]; exact o1) g1 f1)
            have HA := HI0.out.alloc (.cells #[.int .i64 x.2] 3)
            have L1 := HA.wb.grown g1 (fun g e => (HA.ne_wait e).2.1)
            obtain ⟨av', cv', rfl⟩ := owns_shape o1
            obtain ⟨hL1, e1, f1'⟩ := L1
            have hnew : Hid (∀ g, (Value.slice av' ((ws ++ pre.map Prod.snd).length + 1) cv').ownBlock = some g → g ≠ q ∧ g ≠ w6.heap.size) := Lib.hid (fun g e => by
              rcases f1 g e with h2 | h2
              · exact hne.out g (by rw [hK0.out]; exact h2)
              · simp at h2
                omega)
            have hkf : Hid (KeepsFrom w7.heap.size W (w1.setCell ⟨Bw, 0, none⟩ (.slice av' ((ws ++ pre.map Prod.snd).length + 1) cv'))) := by
              refine Lib.hid ⟨by simp; omega, fun j o hj ho hoc => ?_⟩
              have hjl := heap_lt ho
              rw [Below.heap_setCell _ _ _ _ (by intro e; simp at e; omega), g1.block j (by simp; omega) (fun e => ?_), Below.heap_alloc _ _ j hjl]
              · exact ho
              · rcases HI0.out.wt.2 with ⟨e2, _⟩ | ⟨g', c', cur, e2, _, hh, _⟩
                · rw [e2] at e
                  cases e
                · rw [e2] at e
                  obtain rfl : j = g' := by simpa [Value.ownBlock] using e
                  rw [hh] at ho
                  cases ho
                  cases hoc
            have hk2 : Hid (Keep2 w6.heap.size q W (w1.setCell ⟨Bw, 0, none⟩ (.slice av' ((ws ++ pre.map Prod.snd).length + 1) cv'))) := by
              have hb : ∀ j, j = w6.heap.size ∨ j = q → (w1.setCell ⟨Bw, 0, none⟩ (.slice av' ((ws ++ pre.map Prod.snd).length + 1) cv')).heap[j]? = W.heap[j]? := fun j hj => by
                rw [Below.heap_setCell _ _ _ _ (by intro e; simp at e; omega), g1.block j (by simp; omega) (fun e => ?_), Below.heap_alloc _ _ j (by omega)]
                have := hne.out j (by rw [hK0.out]; exact e.symm)
                omega
              exact Lib.hid ⟨hb _ (.inl rfl), hb _ (.inr rfl)⟩
            have hlen2 : (ws ++ pre.map Prod.snd).length = ws.length + pre.length := by rw [List.length_append, List.length_map]
            rw [hlen2] at hkf hk2 hnew R8
            clear o1 g1 f1 HA hnews hlen2
            gi_wp2
            exact ⟨hkf.out, hk2.out, _, by rw [List.map_append, ← List.append_assoc]; exact R8.out, hnew.out, by simp; omega⟩
          case done =>
            rintro D ys W hD hys ⟨v, hrs, hne, hsz⟩ hK
            obtain ⟨av, cv, rfl, -⟩ := hrs.wt.rd
            have hrev : (ws ++ ys.map Prod.snd).reverse = (kidIds (ps.map PgV.pg) m) ++ ws.reverse := by rw [List.reverse_append, hys, List.reverse_reverse]
            have hlen : (ws ++ ys.map Prod.snd).length = k + (kidIds (ps.map PgV.pg) m).length := by rw [List.length_append, hys, List.length_reverse, hkk.out]
            have hD2 : D ∉ Ds := fun h => by
              have := heap_lt (HP7.out.mks.all D h).2
              omega
            have HPF := Lib.hid (RS.mk hrs.box hrs.tb hrs.wb hrs.tw hrs.hw hrs.hm hrs.out hrs.wt hrs.set hrs.ap ⟨List.nodup_cons.2 ⟨hD2, hrs.mks.nodup⟩, fun D' hD' => by
              rcases List.mem_cons.1 hD' with rfl | h
              · exact ⟨Nat.le_trans HP7.out.below.size hD, hK⟩
              · exact hrs.mks.all D' h⟩ hrs.below)
            have hzl := htk.out.1.len
            rw [List.length_map, HL.out, List.length_append, List.length_singleton] at hzl
            gi_wp2
            refine ⟨⟨_, _, _, _, _, _, _, _, _, _, _, _, _, _, _, _, _, _, _, _, _, _, _, _, _, _, _, _, _, _, _, _, _, _, _, _, _, _, _, _, _, _, _, _, _, _, _, _, _, _, _, D :: Ds, (zs ++ [(m : Int)]), ws ++ ys.map Prod.snd, _, _, ⟨HPF.out, by rw [hrev]; exact htk.out, by rw [hlen, edges_snoc]; omega⟩, rfl⟩, ?_⟩
            rw [lenW_eq HPF.out.wb, lenW_eq HS.out.wb]
            simp only [lenSl, hlen]
            show (n - (zs.length + 1)) * (totG (ps.map PgV.pg) + 2) + (k + (kidIds (ps.map PgV.pg) m).length) < (n - zs.length) * (totG (ps.map PgV.pg) + 2) + (k + 1)
            obtain ⟨y, hy⟩ : ∃ y, n - zs.length = y + 1 := ⟨n - zs.length - 1, by omega⟩
            rw [hy, show n - (zs.length + 1) = y by omega, Nat.succ_mul]
            generalize y * (totG (ps.map PgV.pg) + 2) = z
            omega
          case stop =>
            rintro D c pre W _ _ h _
            exact h.elim
end Go.Proofs.YtfefggcfeppeiaaGreat
