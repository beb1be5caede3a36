import Derived.Test.YtkpoiljioadfgaaDoorX01
import Derived.Test.YtkpoiljioadfgaaDoorX12
import Derived.Test.YtkpoiljioadfgaaDoorX16
import Derived.Test.YtkpoiljioadfgaaDoorX27
import Derived.Test.YtkpoiljioadfgaaDoorX28
import Derived.Test.YtkpoiljioadfgaaDoorX29
import Derived.Test.YtkpoiljioadfgaaDoorX33
import Derived.Deep.RegionHeld3
set_option linter.unusedVariables false
set_option linter.unusedSimpArgs false
namespace Go.Proofs.YtkpoiljioadfgaaDoor
open Go.RowKit
theorem wpList_putF {P : Program} {α : Type} {e t : TypeId} {sz bytes : Nat} {z : Value} {Φ : α → List Value → World → Prop} {w : World} {B : Nat} {F : Nat → Prop} {v : Value} {acc : List α} {x : α} {C : List Value} {cs : Array Value} {ops : Array Oper} {rest : List Oper} {o : Oper} {a : Act} {Q : Exit → Act → World → Prop} {c : Nat}
    (hcs : cs = C.toArray) (hG : GrowF e sz Φ w B F v acc) (hC : C.length = sz) (hx : Foot (fun g => F g ∧ v.ownBlock ≠ some g) (Φ x C) w) (hB : B ≤ w.heap.size) (hacc : (acc.length + 1) * bytes ≤ 140737488355328 ∧ acc.length + 1 ≤ maxLen)
    (ht : P.underlying t = some (.slice e)) (hi : (P.info? e).map (fun i => (i.zero, i.size, i.bytes)) = some (some z, sz, bytes)) (hzs : z.cells.size = sz) (hsz : 0 < sz) (h1c : ∀ u ∈ C, u.oneCell' = true)
    (hgd : o.guard = none) (s y : Operand) (ho : o.op = .call { callee := .builtin .append, args := #[s, y], argTypes := #[t, t] })
    (hs : a.eval s = v) (hy : a.eval y = .slice (some ⟨w.heap.size, 0, none⟩) 1 c)
    (h : ∀ g cap w', GrowF e sz Φ w' B F (.slice (some ⟨g, 0, none⟩) (acc.length + 1) cap) (acc ++ [x]) → Below B w w' → (∀ k, k < w.heap.size → v.ownBlock ≠ some k → w'.heap[k]? = w.heap[k]?) → wpList P ops Q rest (a.put o.dst (.slice (some ⟨g, 0, none⟩) (acc.length + 1) cap)) w') :
    wpList P ops Q (o :: rest) a (w.alloc (.cells cs e)) := by
  subst hcs
  obtain ⟨L, h1, h2, h3, h4⟩ := hG
  obtain ⟨i0, hi0, hz0, hz1, hz2⟩ := info_parts hi
  refine wpList_append_lies _ hgd s y t ho B e i0 z sz bytes ht hi0 hz0 hz1 hz2 hzs hsz v acc.length L.flatten hs (h1.alloc _) ⟨w.heap.size, 0, none⟩ 1 c C hy (by rw [hC, Nat.one_mul]) (World.news_of_block (heap_alloc_new w _)) h1c (by decide) hacc.2 hacc.1 (by simp; omega) (w.heap.size + 1) (by simp) ?_
  intro g cap w' hown hg hat hlt
  obtain ⟨a1, a2, a3⟩ := GrowF.grown h1 h2 h3 h4 hC hx hB (new_later w _) hown hg (hat.imp id (fun e => by omega))
  exact h g cap w' a1 a2 a3
theorem DfAt.lit {w : World} {d : Df} {C : List Value} (h : DfAt w d C) : ∃ (da db dc dk dx dy dz : Int) (dn : ByteArray) (SA : Option Addr) (sn sc : Nat) (YS : Value) (dp : Int) (dl : Value), ∃ (y0 y1 y2 y3 y4 y5 y6 y7 y8 y9 y10 y11 y12 y13 y14 y15 y16 y17 y18 y19 : Value), C = [.int .i64 da, .int .i64 db, .int .i64 dc, .int .i64 dk, .int .i64 dx, .int .i64 dy, .int .i64 dz, .string dn, .slice SA sn sc, y0, y1, y2, y3, y4, y5, y6, y7, y8, y9, y10, y11, y12, y13, y14, y15, y16, y17, y18, y19, .int .i64 dp, dl] ∧ sn = d.slots.length ∧ sn ≤ sc ∧ sc ≤ maxLen ∧
    (4 < sn → ∃ gs os, SA = some ⟨gs, os, none⟩ ∧ ∃ d', d' = { d with slots := d.slots.take 4 } ∧ DfAt w d' [.int .i64 da, .int .i64 db, .int .i64 dc, .int .i64 dk, .int .i64 dx, .int .i64 dy, .int .i64 dz, .string dn, .slice (some ⟨gs, os, none⟩) 4 sc, y0, y1, y2, y3, y4, y5, y6, y7, y8, y9, y10, y11, y12, y13, y14, y15, y16, y17, y18, y19, .int .i64 dp, dl]) := by
  obtain ⟨sv, T, E, lv, rfl, hT, ⟨A, cap, rfl, hm, hs⟩, h4, h5, h6⟩ := h
  have hE := h5.len
  obtain ⟨y0, y1, y2, y3, y4, rfl⟩ : ∃ y0 y1 y2 y3 y4 : Value, T = [y0, y1, y2, y3, y4] := by
    rcases T with _ | ⟨y0, _ | ⟨y1, _ | ⟨y2, _ | ⟨y3, _ | ⟨y4, _ | ⟨y5, T⟩⟩⟩⟩⟩⟩ <;> simp at hT
    exact ⟨_, _, _, _, _, rfl⟩
  obtain ⟨y5, y6, y7, y8, y9, y10, y11, y12, y13, y14, y15, y16, y17, y18, y19, rfl⟩ : ∃ y5 y6 y7 y8 y9 y10 y11 y12 y13 y14 y15 y16 y17 y18 y19 : Value, E = [y5, y6, y7, y8, y9, y10, y11, y12, y13, y14, y15, y16, y17, y18, y19] := by
    rcases E with _ | ⟨y0, _ | ⟨y1, _ | ⟨y2, _ | ⟨y3, _ | ⟨y4, _ | ⟨y5, _ | ⟨y6, _ | ⟨y7, _ | ⟨y8, _ | ⟨y9, _ | ⟨y10, _ | ⟨y11, _ | ⟨y12, _ | ⟨y13, _ | ⟨y14, _ | ⟨y15, E⟩⟩⟩⟩⟩⟩⟩⟩⟩⟩⟩⟩⟩⟩⟩⟩ <;> simp at hE
    exact ⟨_, _, _, _, _, _, _, _, _, _, _, _, _, _, _, rfl⟩
  refine ⟨d.a, d.b, d.c, d.kind, d.ma, d.mb, d.mc, d.name, A, d.slots.length, cap, undef, d.place, lv, y0, y1, y2, y3, y4, y5, y6, y7, y8, y9, y10, y11, y12, y13, y14, y15, y16, y17, y18, y19, rfl, rfl, hm.1, hm.2, fun h4l => ?_⟩
  obtain ⟨g, o, C, hA, _⟩ := hs 0 _ (List.getElem?_eq_getElem (by omega))
  subst hA
  refine ⟨g, o, rfl, { d with slots := d.slots.take 4 }, rfl, _, [y0, y1, y2, y3, y4], [y5, y6, y7, y8, y9, y10, y11, y12, y13, y14, y15, y16, y17, y18, y19], lv, rfl, rfl, ⟨_, cap, by rw [List.length_take, Nat.min_eq_left (by omega)], ⟨by rw [List.length_take]; omega, hm.2⟩, fun j x hx => ?_⟩, h4, h5, h6⟩
  rw [List.getElem?_take] at hx
  split at hx
  · exact hs j x hx
  · cases hx
def FewQ (Q : Df → Prop) (w : World) (e : Ending) (w' : World) : Prop := ∃ (P' : List Df) (v' : Value), e = .returned v' ∧ PrAt w' P' v' ∧ (∀ d ∈ P', Q d) ∧ Below w.heap.size w w'
set_option maxHeartbeats 4000000 in
set_option maxRecDepth 100000 in
theorem few_q (Q : Df → Prop) (hQ : ∀ d, Q d → Q { d with slots := d.slots.take 4 }) (P : List Df) (w : World) (pv : Value) (hP0 : PrAt w P pv) (hPQ : ∀ d ∈ P, Q d) : Calls Tryd.prog 11 #[pv] w (FewQ Q w) := by
  have HQQ := Lib.hid (And.intro hQ hPQ)
  clear hQ hPQ
  obtain ⟨mv, A, cap, rfl, hm, hP⟩ := hP0
  obtain ⟨n, hn⟩ : ∃ n, P.length = n := ⟨_, rfl⟩
  rw [hn] at hm ⊢
  have HP := Lib.hid hP
  have HN := Lib.hid hn
  have hni : (n : Int) ≤ 9223372036854775807 := by have := hm.2.2; simp only [maxLen] at this; omega
  have P0 := p2_new w mv (.slice A n cap)
  have V0 := new_later w (.cells #[mv, .slice A n cap] 26)
  generalize hW0 : w.alloc (.cells #[mv, .slice A n cap] 26) = w0 at P0 V0
  have hz0 : w0.heap.size = w.heap.size + 1 := by rw [← hW0]; simp
  have R0 := p2_new w0 (.slice none 0 0) (.slice none 0 0)
  have b1 := new_later w0 (.cells #[.slice none 0 0, .slice none 0 0] 26)
  rw [hz0] at R0 b1
  generalize hW1 : w0.alloc (.cells #[.slice none 0 0, .slice none 0 0] 26) = w1 at R0 b1
  have hz1 : w1.heap.size = w.heap.size + 1 + 1 := by rw [← hW1]; simp [hz0]
  have O0 := p2_new w1 (.slice none 0 0) (.slice none 0 0)
  have b2 := new_later w1 (.cells #[.slice none 0 0, .slice none 0 0] 26)
  rw [hz1] at O0 b2
  generalize hW2 : w1.alloc (.cells #[.slice none 0 0, .slice none 0 0] 26) = w2 at O0 b2
  have hz2 : w2.heap.size = w.heap.size + 1 + 1 + 1 := by rw [← hW2]; simp [hz1]
  rw [← hz0] at b1
  rw [← hz1] at b2
  have P2 := (P0.later b1).later b2
  have R2 := R0.later b2
  have V2 := later (later V0 b1) b2
  have hzp : ∀ W, (zeroValue 26).run Tryd.prog W = .ok (.agg #[.slice none 0 0, .slice none 0 0]) W := fun W => by kernel_rfl
  have HP2 := Lib.hid P2
  have HR2 := Lib.hid R2
  have HO2 := Lib.hid O0
  have HV2 := Lib.hid V2
  have HZ2 := Lib.hid hz2
  clear hP hn P0 V0 R0 b1 O0 b2 P2 R2 V2 hz2
  go_enter Tryd.func11, Tryd.ntmps11
  go_upto_region 2 with fail
  clear hW0 hW1 hW2 hz0 hz1
  go_wp2_with fail
  go_loopw [4] (fun iv W' => ∃ (j : Nat) (acc : List Df) (dv : Value), j ≤ n ∧ j ≤ 6 ∧ iv = .int .i64 (j : Int) ∧ acc.length = j ∧ Hid (∀ d ∈ acc, Q d) ∧ Arr W' w.heap.size 2 26 [mv, .slice A n cap] ∧ Arr W' (w.heap.size + 1) 2 26 [.slice none 0 0, .slice none 0 0] ∧ Arr W' (w.heap.size + 1 + 1) 2 26 [.slice none 0 0, dv] ∧ GrowF 46 31 PD W' (w.heap.size + 1 + 1 + 1) (· < w.heap.size) dv acc ∧ Below w.heap.size w W' ∧ w.heap.size + 1 + 1 + 1 ≤ W'.heap.size) (fun i _ => 6 - (intOf i).toNat)
  case atStart => exact ⟨0, [], .slice none 0 0, by omega, by omega, rfl, rfl, Lib.hid (by simp), HP2.out, HR2.out, HO2.out, GrowF.nil _ _ _, HV2.out, by rw [HZ2.out]; exact Nat.le_refl _⟩
  case round =>
    obtain ⟨j, acc, dv, hj, hj6, rfl, hac, HAQ, P3, R3, O3, G3, V3, hB3⟩ := hrel
    have hj0 : (0 : Int) ≤ (j : Int) := by omega
    have hA0 := P3.cell (j := 1) (v := .slice A n cap) rfl
    by_cases hlt : j < n
    · have hji : (j : Int) < (n : Int) := by omega
      by_cases hl6 : j < 6
      · have hj6i : (j : Int) < 6 := by omega
        obtain ⟨dj, hdj⟩ : ∃ d, P[j]? = some d := ⟨_, List.getElem?_eq_getElem (by rw [HN.out]; exact hlt)⟩
        obtain ⟨g, o, C, rfl, hrg, hdf⟩ := HP.out j _ hdj
        have HQJ : Hid (Q dj) := Lib.hid (HQQ.out.2 dj (List.mem_of_getElem? hdj))
        obtain ⟨da, db, dc, dk, dx, dy, dz, dn, SA, sn, sc, YS, dp, dl, y0, y1, y2, y3, y4, y5, y6, y7, y8, y9, y10, y11, y12, y13, y14, y15, y16, y17, y18, y19, hC, hsn, hs1, hs2, h4⟩ := hdf.lit
        have hrg3 := range_below hrg V3
        have hcells := hdf.cells
        subst hC
        have Z := z31_new wr
        have bz := new_later wr (.cells z31.toArray 46)
        obtain ⟨gd, hgd⟩ : ∃ gd, wr.heap.size = gd := ⟨_, rfl⟩
        have hzd := zero_def
        have hsi : (sn : Int) ≤ 9223372036854775807 := by simp only [maxLen] at hs2; omega
        have hsn0 : (0 : Int) ≤ (sn : Int) := by omega
        generalize hwz : wr.alloc (.cells z31.toArray 46) = wz at Z bz
        rw [hgd] at Z
        have HRG : Hid (wz.rangeAt g (o + j * 31) [.int .i64 da, .int .i64 db, .int .i64 dc, .int .i64 dk, .int .i64 dx, .int .i64 dy, .int .i64 dz, .string dn, .slice SA sn sc, y0, y1, y2, y3, y4, y5, y6, y7, y8, y9, y10, y11, y12, y13, y14, y15, y16, y17, y18, y19, .int .i64 dp, dl]) := Lib.hid (range_below hrg3 bz)
        have HRG3 := Lib.hid hrg3
        have HZ := Lib.hid Z
        have HBZ := Lib.hid bz
        have HCC := Lib.hid hcells
        have HP3 := Lib.hid P3
        have HR3 := Lib.hid R3
        have HO3 := Lib.hid O3
        have HG3 := Lib.hid G3
        have HV3 := Lib.hid V3
        have HB3 := Lib.hid hB3
        have HAC := Lib.hid hac
        have HGD := Lib.hid hgd
        have HLT : Hid (j < n ∧ j < 6) := Lib.hid ⟨hlt, hl6⟩
        have H4 := Lib.hid h4
        have HDF : Hid (DfAt w dj [.int .i64 da, .int .i64 db, .int .i64 dc, .int .i64 dk, .int .i64 dx, .int .i64 dy, .int .i64 dz, .string dn, .slice SA sn sc, y0, y1, y2, y3, y4, y5, y6, y7, y8, y9, y10, y11, y12, y13, y14, y15, y16, y17, y18, y19, .int .i64 dp, dl]) := Lib.hid hdf
        have HS1 := Lib.hid hs1
        clear Z bz hcells P3 R3 O3 G3 V3 hB3 hac hrg hrg3 hlt hl6 h4 hdf hsn hdj
        by_cases h4 : 4 < sn
        · have h4i : (4 : Int) < (sn : Int) := by omega
          have h4c : 4 ≤ sc := by omega
          have h4ci : (4 : Int) ≤ (sc : Int) := by omega
          obtain ⟨gs, os, rfl, d', hde, hd'⟩ := H4.out h4
          have HQ4 : Hid (Q d') := Lib.hid (by rw [hde]; exact HQQ.out.1 dj HQJ.out)
          clear hde
          have HD' := Lib.hid hd'
          have HIS : Hid ((Tryd.prog.info? 46).map (·.size) = some ([.int .i64 da, .int .i64 db, .int .i64 dc, .int .i64 dk, .int .i64 dx, .int .i64 dy, .int .i64 dz, .string dn, .slice (some ⟨gs, os, none⟩) sn sc, y0, y1, y2, y3, y4, y5, y6, y7, y8, y9, y10, y11, y12, y13, y14, y15, y16, y17, y18, y19, .int .i64 dp, dl] : List Value).length) := Lib.hid info_def
          clear hd' h4
          go_upto_region 8 with (first
            | (with_reducible refine wpList_load_mid rfl _ (.tmp 20) rfl g (o + j * 31) rfl [.int .i64 da, .int .i64 db, .int .i64 dc, .int .i64 dk, .int .i64 dx, .int .i64 dy, .int .i64 dz, .string dn, .slice (some ⟨gs, os, none⟩) sn sc, y0, y1, y2, y3, y4, y5, y6, y7, y8, y9, y10, y11, y12, y13, y14, y15, y16, y17, y18, y19, .int .i64 dp, dl] _ HRG3.out Tryd.underlying46 rfl HIS.out ?_)
            | (refine wpList_store_arr rfl _ (.tmp 5) (.tmp 21) rfl gd 0 31 46 _ [.int .i64 da, .int .i64 db, .int .i64 dc, .int .i64 dk, .int .i64 dx, .int .i64 dy, .int .i64 dz, .string dn, .slice (some ⟨gs, os, none⟩) sn sc, y0, y1, y2, y3, y4, y5, y6, y7, y8, y9, y10, y11, y12, y13, y14, y15, y16, y17, y18, y19, .int .i64 dp, dl] z31 rfl rfl rfl HZ.out (show 0 + 31 ≤ 31 by omega) HIS.out HCC.out ?_; intro w7 f7 o7; rw [setAll_all z31 [.int .i64 da, .int .i64 db, .int .i64 dc, .int .i64 dk, .int .i64 dx, .int .i64 dy, .int .i64 dz, .string dn, .slice (some ⟨gs, os, none⟩) sn sc, y0, y1, y2, y3, y4, y5, y6, y7, y8, y9, y10, y11, y12, y13, y14, y15, y16, y17, y18, y19, .int .i64 dp, dl] rfl] at f7; have d8 := f7.cell (j := 8) (v := .slice (some ⟨gs, os, none⟩) sn sc) rfl; have d9 := f7.free 8; have HF7 := Lib.hid f7; have HO7 := Lib.hid o7; clear f7 o7))
          obtain ⟨w8, hw8⟩ : ∃ w8, w7.setCell ⟨gd, 8, none⟩ (.slice (some ⟨gs, os, none⟩) 4 sc) = w8 := ⟨_, rfl⟩
          have A8 : Arr w8 gd 31 46 [.int .i64 da, .int .i64 db, .int .i64 dc, .int .i64 dk, .int .i64 dx, .int .i64 dy, .int .i64 dz, .string dn, .slice (some ⟨gs, os, none⟩) 4 sc, y0, y1, y2, y3, y4, y5, y6, y7, y8, y9, y10, y11, y12, y13, y14, y15, y16, y17, y18, y19, .int .i64 dp, dl] := by rw [← hw8]; exact HF7.out.set_ 8 _
          have bw : Below gd wz w8 := by rw [← hw8]; exact HO7.out.bel.setCell (p := ⟨gd, 8, none⟩) (Nat.le_refl _) _
          rw [hw8]
          clear hw8 HF7 HO7 d8 d9
          obtain ⟨d8, hd8, hq8⟩ : ∃ d8, DfAt w d8 [.int .i64 da, .int .i64 db, .int .i64 dc, .int .i64 dk, .int .i64 dx, .int .i64 dy, .int .i64 dz, .string dn, .slice (some ⟨gs, os, none⟩) 4 sc, y0, y1, y2, y3, y4, y5, y6, y7, y8, y9, y10, y11, y12, y13, y14, y15, y16, y17, y18, y19, .int .i64 dp, dl] ∧ Hid (Q d8) := ⟨d', HD'.out, HQ4⟩
          clear HD' HDF H4 HCC HRG HRG3 HZ
          clear HIS
          have HB8 : Hid (Below wr.heap.size wr w8) := Lib.hid (HBZ.out.trans (by rw [HGD.out]; exact bw))
          have hO8 := HO3.out.later HB8.out
          have hc8 := hO8.cell (j := 1) (v := dv) rfl
          have HO8 := Lib.hid hO8
          have HA8 := Lib.hid A8
          have HG8 : Hid (GrowF 46 31 PD w8 (w.heap.size + 1 + 1 + 1) (· < w.heap.size) dv acc) := Lib.hid (HG3.out.keep (HB8.out.mono (Nat.zero_le _)) (fun g _ hl => HB8.out.block g hl))
          have HV8 : Hid (Below w.heap.size w w8) := Lib.hid (later HV3.out HB8.out)
          have HX8 : Hid (Foot (fun g => g < w.heap.size ∧ dv.ownBlock ≠ some g) (PD d8 [.int .i64 da, .int .i64 db, .int .i64 dc, .int .i64 dk, .int .i64 dx, .int .i64 dy, .int .i64 dz, .string dn, .slice (some ⟨gs, os, none⟩) 4 sc, y0, y1, y2, y3, y4, y5, y6, y7, y8, y9, y10, y11, y12, y13, y14, y15, y16, y17, y18, y19, .int .i64 dp, dl]) w8) := Lib.hid ((Foot.old (fun W h => DfAt.later hd8 h)).keep (fun g hg _ => ⟨hg, fun e => by have := (HG3.out.lt g e).1; omega⟩) (HV8.out.mono (Nat.zero_le _)) (fun g hg _ => HV8.out.block g hg))
          have HBB : Hid (w.heap.size + 1 + 1 + 1 ≤ w8.heap.size) := Lib.hid (Nat.le_trans HB3.out HB8.out.size)
          have HAL : Hid ((acc.length + 1) * 352 ≤ 140737488355328 ∧ acc.length + 1 ≤ maxLen) := Lib.hid (by rw [HAC.out]; have := HLT.out; simp only [maxLen]; omega)
          have HOC : Hid (∀ v ∈ [.int .i64 da, .int .i64 db, .int .i64 dc, .int .i64 dk, .int .i64 dx, .int .i64 dy, .int .i64 dz, .string dn, .slice (some ⟨gs, os, none⟩) 4 sc, y0, y1, y2, y3, y4, y5, y6, y7, y8, y9, y10, y11, y12, y13, y14, y15, y16, y17, y18, y19, .int .i64 dp, dl], v.oneCell' = true) := Lib.hid hd8.cells
          have HIS : Hid ((Tryd.prog.info? 46).map (·.size) = some ([.int .i64 da, .int .i64 db, .int .i64 dc, .int .i64 dk, .int .i64 dx, .int .i64 dy, .int .i64 dz, .string dn, .slice (some ⟨gs, os, none⟩) 4 sc, y0, y1, y2, y3, y4, y5, y6, y7, y8, y9, y10, y11, y12, y13, y14, y15, y16, y17, y18, y19, .int .i64 dp, dl] : List Value).length) := Lib.hid info_def
          clear A8 hO8 bw hd8 hgd hwz
          go_wp2_with (first
            | (with_reducible refine wpList_load_mid rfl _ (.tmp 5) rfl gd 0 rfl [.int .i64 da, .int .i64 db, .int .i64 dc, .int .i64 dk, .int .i64 dx, .int .i64 dy, .int .i64 dz, .string dn, .slice (some ⟨gs, os, none⟩) 4 sc, y0, y1, y2, y3, y4, y5, y6, y7, y8, y9, y10, y11, y12, y13, y14, y15, y16, y17, y18, y19, .int .i64 dp, dl] _ HA8.out.range Tryd.underlying46 rfl HIS.out ?_)
            | (at_builtin; refine wpList_putF (x := d8) (C := [.int .i64 da, .int .i64 db, .int .i64 dc, .int .i64 dk, .int .i64 dx, .int .i64 dy, .int .i64 dz, .string dn, .slice (some ⟨gs, os, none⟩) 4 sc, y0, y1, y2, y3, y4, y5, y6, y7, y8, y9, y10, y11, y12, y13, y14, y15, y16, y17, y18, y19, .int .i64 dp, dl]) rfl HG8.out rfl HX8.out HBB.out HAL.out Tryd.underlying24 info_def3 rfl (by decide) HOC.out rfl _ _ rfl rfl rfl ?_; intro gN capN w11 hG11 hb11 hk11; have hA11 := HO8.out.below hb11 (by omega); have hc11 := hA11.cell (j := 1) (v := dv) rfl; have hf11 := hA11.free 1; have HA11 := Lib.hid hA11; have HG11 := Lib.hid hG11; have HB11 := Lib.hid hb11; clear hG11 hb11 hA11 hk11 hc8))
          have h12 := HLT.out
          go_roundw
          case rel =>
            refine ⟨j + 1, acc ++ [d8], .slice (some ⟨gN, 0, none⟩) (acc.length + 1) capN, by omega, by omega, by go_num, by simp [HAC.out], Lib.hid (fun d hd => by rcases List.mem_append.1 hd with h | h; exact HAQ.out d h; simp at h; subst h; exact hq8.out), ((HP3.out.later HB8.out).below HB11.out (by omega)).other (by omega) _, ((HR3.out.later HB8.out).below HB11.out (by omega)).other (by omega) _, HA11.out.set_ 1 _, HG11.out.keep ((Below.refl 0 _).setCell (p := ⟨w.heap.size + 1 + 1, 1, none⟩) (Nat.zero_le _) _) (fun k hk hl => Below.heap_setCell _ _ _ _ ?_), (HV8.out.trans (HB11.out.mono (by omega))).setCell (p := ⟨w.heap.size + 1 + 1, 1, none⟩) (by show w.heap.size ≤ w.heap.size + 1 + 1; omega) _, ?_⟩
            · have hne : k ≠ w.heap.size + 1 + 1 := hk.elim (fun h => by have h' : k < w.heap.size := h; omega) (fun e => by have := (HG11.out.lt k e).1; omega)
              simp; omega
            · rw [World.size_setCell]; exact Nat.le_trans HBB.out HB11.out.size
          case measure => simp [intOf]; omega
        · have h4i : ¬ (4 : Int) < (sn : Int) := by omega
          have HIS : Hid ((Tryd.prog.info? 46).map (·.size) = some ([.int .i64 da, .int .i64 db, .int .i64 dc, .int .i64 dk, .int .i64 dx, .int .i64 dy, .int .i64 dz, .string dn, .slice SA sn sc, y0, y1, y2, y3, y4, y5, y6, y7, y8, y9, y10, y11, y12, y13, y14, y15, y16, y17, y18, y19, .int .i64 dp, dl] : List Value).length) := Lib.hid info_def
          clear h4
          go_upto_region 8 with (first
            | (with_reducible refine wpList_load_mid rfl _ (.tmp 20) rfl g (o + j * 31) rfl [.int .i64 da, .int .i64 db, .int .i64 dc, .int .i64 dk, .int .i64 dx, .int .i64 dy, .int .i64 dz, .string dn, .slice SA sn sc, y0, y1, y2, y3, y4, y5, y6, y7, y8, y9, y10, y11, y12, y13, y14, y15, y16, y17, y18, y19, .int .i64 dp, dl] _ HRG3.out Tryd.underlying46 rfl HIS.out ?_)
            | (refine wpList_store_arr rfl _ (.tmp 5) (.tmp 21) rfl gd 0 31 46 _ [.int .i64 da, .int .i64 db, .int .i64 dc, .int .i64 dk, .int .i64 dx, .int .i64 dy, .int .i64 dz, .string dn, .slice SA sn sc, y0, y1, y2, y3, y4, y5, y6, y7, y8, y9, y10, y11, y12, y13, y14, y15, y16, y17, y18, y19, .int .i64 dp, dl] z31 rfl rfl rfl HZ.out (show 0 + 31 ≤ 31 by omega) HIS.out HCC.out ?_; intro w8 f7 o7; rw [setAll_all z31 [.int .i64 da, .int .i64 db, .int .i64 dc, .int .i64 dk, .int .i64 dx, .int .i64 dy, .int .i64 dz, .string dn, .slice SA sn sc, y0, y1, y2, y3, y4, y5, y6, y7, y8, y9, y10, y11, y12, y13, y14, y15, y16, y17, y18, y19, .int .i64 dp, dl] rfl] at f7; have d8 := f7.cell (j := 8) (v := .slice SA sn sc) rfl; have HF7 := Lib.hid f7; have HO7 := Lib.hid o7; clear f7 o7))
          have A8 := HF7.out
          have bw := HO7.out.bel
          clear HF7 HO7 d8
          obtain ⟨d8, hd8, hq8⟩ : ∃ d8, DfAt w d8 [.int .i64 da, .int .i64 db, .int .i64 dc, .int .i64 dk, .int .i64 dx, .int .i64 dy, .int .i64 dz, .string dn, .slice SA sn sc, y0, y1, y2, y3, y4, y5, y6, y7, y8, y9, y10, y11, y12, y13, y14, y15, y16, y17, y18, y19, .int .i64 dp, dl] ∧ Hid (Q d8) := ⟨dj, HDF.out, HQJ⟩
          clear HDF H4 HCC HRG HRG3 HZ
          clear HIS
          have HB8 : Hid (Below wr.heap.size wr w8) := Lib.hid (HBZ.out.trans (by rw [HGD.out]; exact bw))
          have hO8 := HO3.out.later HB8.out
          have hc8 := hO8.cell (j := 1) (v := dv) rfl
          have HO8 := Lib.hid hO8
          have HA8 := Lib.hid A8
          have HG8 : Hid (GrowF 46 31 PD w8 (w.heap.size + 1 + 1 + 1) (· < w.heap.size) dv acc) := Lib.hid (HG3.out.keep (HB8.out.mono (Nat.zero_le _)) (fun g _ hl => HB8.out.block g hl))
          have HV8 : Hid (Below w.heap.size w w8) := Lib.hid (later HV3.out HB8.out)
          have HX8 : Hid (Foot (fun g => g < w.heap.size ∧ dv.ownBlock ≠ some g) (PD d8 [.int .i64 da, .int .i64 db, .int .i64 dc, .int .i64 dk, .int .i64 dx, .int .i64 dy, .int .i64 dz, .string dn, .slice SA sn sc, y0, y1, y2, y3, y4, y5, y6, y7, y8, y9, y10, y11, y12, y13, y14, y15, y16, y17, y18, y19, .int .i64 dp, dl]) w8) := Lib.hid ((Foot.old (fun W h => DfAt.later hd8 h)).keep (fun g hg _ => ⟨hg, fun e => by have := (HG3.out.lt g e).1; omega⟩) (HV8.out.mono (Nat.zero_le _)) (fun g hg _ => HV8.out.block g hg))
          have HBB : Hid (w.heap.size + 1 + 1 + 1 ≤ w8.heap.size) := Lib.hid (Nat.le_trans HB3.out HB8.out.size)
          have HAL : Hid ((acc.length + 1) * 352 ≤ 140737488355328 ∧ acc.length + 1 ≤ maxLen) := Lib.hid (by rw [HAC.out]; have := HLT.out; simp only [maxLen]; omega)
          have HOC : Hid (∀ v ∈ [.int .i64 da, .int .i64 db, .int .i64 dc, .int .i64 dk, .int .i64 dx, .int .i64 dy, .int .i64 dz, .string dn, .slice SA sn sc, y0, y1, y2, y3, y4, y5, y6, y7, y8, y9, y10, y11, y12, y13, y14, y15, y16, y17, y18, y19, .int .i64 dp, dl], v.oneCell' = true) := Lib.hid hd8.cells
          have HIS : Hid ((Tryd.prog.info? 46).map (·.size) = some ([.int .i64 da, .int .i64 db, .int .i64 dc, .int .i64 dk, .int .i64 dx, .int .i64 dy, .int .i64 dz, .string dn, .slice SA sn sc, y0, y1, y2, y3, y4, y5, y6, y7, y8, y9, y10, y11, y12, y13, y14, y15, y16, y17, y18, y19, .int .i64 dp, dl] : List Value).length) := Lib.hid info_def
          clear A8 hO8 bw hd8 hgd hwz
          go_wp2_with (first
            | (with_reducible refine wpList_load_mid rfl _ (.tmp 5) rfl gd 0 rfl [.int .i64 da, .int .i64 db, .int .i64 dc, .int .i64 dk, .int .i64 dx, .int .i64 dy, .int .i64 dz, .string dn, .slice SA sn sc, y0, y1, y2, y3, y4, y5, y6, y7, y8, y9, y10, y11, y12, y13, y14, y15, y16, y17, y18, y19, .int .i64 dp, dl] _ HA8.out.range Tryd.underlying46 rfl HIS.out ?_)
            | (at_builtin; refine wpList_putF (x := d8) (C := [.int .i64 da, .int .i64 db, .int .i64 dc, .int .i64 dk, .int .i64 dx, .int .i64 dy, .int .i64 dz, .string dn, .slice SA sn sc, y0, y1, y2, y3, y4, y5, y6, y7, y8, y9, y10, y11, y12, y13, y14, y15, y16, y17, y18, y19, .int .i64 dp, dl]) rfl HG8.out rfl HX8.out HBB.out HAL.out Tryd.underlying24 info_def3 rfl (by decide) HOC.out rfl _ _ rfl rfl rfl ?_; intro gN capN w11 hG11 hb11 hk11; have hA11 := HO8.out.below hb11 (by omega); have hc11 := hA11.cell (j := 1) (v := dv) rfl; have hf11 := hA11.free 1; have HA11 := Lib.hid hA11; have HG11 := Lib.hid hG11; have HB11 := Lib.hid hb11; clear hG11 hb11 hA11 hk11 hc8))
          have h12 := HLT.out
          go_roundw
          case rel =>
            refine ⟨j + 1, acc ++ [d8], .slice (some ⟨gN, 0, none⟩) (acc.length + 1) capN, by omega, by omega, by go_num, by simp [HAC.out], Lib.hid (fun d hd => by rcases List.mem_append.1 hd with h | h; exact HAQ.out d h; simp at h; subst h; exact hq8.out), ((HP3.out.later HB8.out).below HB11.out (by omega)).other (by omega) _, ((HR3.out.later HB8.out).below HB11.out (by omega)).other (by omega) _, HA11.out.set_ 1 _, HG11.out.keep ((Below.refl 0 _).setCell (p := ⟨w.heap.size + 1 + 1, 1, none⟩) (Nat.zero_le _) _) (fun k hk hl => Below.heap_setCell _ _ _ _ ?_), (HV8.out.trans (HB11.out.mono (by omega))).setCell (p := ⟨w.heap.size + 1 + 1, 1, none⟩) (by show w.heap.size ≤ w.heap.size + 1 + 1; omega) _, ?_⟩
            · have hne : k ≠ w.heap.size + 1 + 1 := hk.elim (fun h => by have h' : k < w.heap.size := h; omega) (fun e => by have := (HG11.out.lt k e).1; omega)
              simp; omega
            · rw [World.size_setCell]; exact Nat.le_trans HBB.out HB11.out.size
          case measure => simp [intOf]; omega
      · have hj6i : ¬ (j : Int) < 6 := by omega
        have HIP : Hid ((Tryd.prog.info? 26).map (·.size) = some ([.slice none 0 0, dv] : List Value).length) := Lib.hid info_prog
        have HC1 : Hid (∀ v ∈ [Value.slice none 0 0, dv], v.oneCell' = true) := Lib.hid (by
          obtain ⟨A', cap', h, _⟩ := G3.shape
          intro v hv
          simp at hv
          rcases hv with rfl | rfl
          · rfl
          · rw [h]; rfl)
        have HO3 := Lib.hid O3
        have HR3 := Lib.hid R3
        have HG3 := Lib.hid G3
        have HV3 := Lib.hid V3
        clear O3 R3 G3 V3 P3
        go_wp2_with (first
          | (with_reducible refine wpList_load_mid rfl _ (.tmp 3) rfl (w.heap.size + 1 + 1) 0 rfl [.slice none 0 0, dv] _ HO3.out.range Tryd.underlying26 rfl HIP.out ?_)
          | (refine wpList_store_arr rfl _ (.tmp 2) (.tmp 36) rfl (w.heap.size + 1) 0 2 26 _ [.slice none 0 0, dv] [.slice none 0 0, .slice none 0 0] rfl rfl rfl HR3.out (show 0 + 2 ≤ 2 by omega) HIP.out HC1.out ?_; intro w17 f17 o17))
        rw [setAll_all [.slice none 0 0, .slice none 0 0] [.slice none 0 0, dv] rfl] at f17
        refine bodyPost_ret (results_one rfl _ _ (w.heap.size + 1) [.slice none 0 0, dv] _ rfl f17.range Tryd.underlying26 rfl info_prog) rfl ?_
        exact ⟨acc, _, rfl, pr_of (HG3.out.keep (o17.bel.mono (Nat.zero_le _)) (fun g hg _ => o17.2 g (by
          have := hg.elim (fun h => Or.inl h) (fun e => Or.inr (HG3.out.lt g e).1)
          rcases this with h | h <;> omega))) rfl, HAQ.out, HV3.out.trans (o17.bel.mono (by omega))⟩
    · have hji : ¬ (j : Int) < (n : Int) := by omega
      have HIP : Hid ((Tryd.prog.info? 26).map (·.size) = some ([.slice none 0 0, dv] : List Value).length) := Lib.hid info_prog
      have HC1 : Hid (∀ v ∈ [Value.slice none 0 0, dv], v.oneCell' = true) := Lib.hid (by
        obtain ⟨A', cap', h, _⟩ := G3.shape
        intro v hv
        simp at hv
        rcases hv with rfl | rfl
        · rfl
        · rw [h]; rfl)
      have HO3 := Lib.hid O3
      have HR3 := Lib.hid R3
      have HG3 := Lib.hid G3
      have HV3 := Lib.hid V3
      clear O3 R3 G3 V3 P3
      go_wp2_with (first
        | (with_reducible refine wpList_load_mid rfl _ (.tmp 3) rfl (w.heap.size + 1 + 1) 0 rfl [.slice none 0 0, dv] _ HO3.out.range Tryd.underlying26 rfl HIP.out ?_)
        | (refine wpList_store_arr rfl _ (.tmp 2) (.tmp 36) rfl (w.heap.size + 1) 0 2 26 _ [.slice none 0 0, dv] [.slice none 0 0, .slice none 0 0] rfl rfl rfl HR3.out (show 0 + 2 ≤ 2 by omega) HIP.out HC1.out ?_; intro w17 f17 o17))
      rw [setAll_all [.slice none 0 0, .slice none 0 0] [.slice none 0 0, dv] rfl] at f17
      refine bodyPost_ret (results_one rfl _ _ (w.heap.size + 1) [.slice none 0 0, dv] _ rfl f17.range Tryd.underlying26 rfl info_prog) rfl ?_
      exact ⟨acc, _, rfl, pr_of (HG3.out.keep (o17.bel.mono (Nat.zero_le _)) (fun g hg _ => o17.2 g (by
        have := hg.elim (fun h => Or.inl h) (fun e => Or.inr (HG3.out.lt g e).1)
        rcases this with h | h <;> omega))) rfl, HAQ.out, HV3.out.trans (o17.bel.mono (by omega))⟩
end Go.Proofs.YtkpoiljioadfgaaDoor

namespace Go.Proofs.YtkpoiljioadfgaaDoor
open Go.RowKit
structure VPs (W : World) (P : List Df) (mv dv : Value) (gP gD gv : Nat) (d : Df) (C : List Value) (x : Tr) (xk xn : Int) (xA : Option Addr) (xl xc : Nat) : Prop where
  hp : Arr W gP 2 26 [mv, dv]
  hpr : PrAt W P (.agg #[mv, dv])
  hk : Kv W
  hd : Arr W gD 31 46 C
  hdf : DfAt W d C
  hv : Arr W gv 3 53 [.int .i64 xk, .int .i64 xn, .slice xA xl xc]
  ht : TrAt W x (.agg #[.int .i64 xk, .int .i64 xn, .slice xA xl xc])
theorem VPs.later {W W' : World} {P : List Df} {mv dv : Value} {gP gD gv : Nat} {d : Df} {C : List Value} {x : Tr} {xk xn : Int} {xA : Option Addr} {xl xc : Nat} (h : VPs W P mv dv gP gD gv d C x xk xn xA xl xc) (hb : Below W.heap.size W W') : VPs W' P mv dv gP gD gv d C x xk xn xA xl xc :=
  ⟨h.hp.later hb, h.hpr.later hb, h.hk.later hb, h.hd.later hb, h.hdf.later hb, h.hv.later hb, h.ht.later hb⟩
theorem VPs.node {W : World} {P : List Df} {mv dv : Value} {gP gD gv : Nat} {d : Df} {C : List Value} {x : Tr} {xk xn : Int} {xA : Option Addr} {xl xc : Nat} (h : VPs W P mv dv gP gD gv d C x xk xn xA xl xc) : ∃ ks, x = .node xk xn ks ∧ xl = ks.length ∧ xl ≤ xc ∧ xc ≤ maxLen ∧ KsAt W xA 0 ks := by
  cases x with
  | node kx nx ks =>
    have ht := h.ht
    unfold TrAt at ht
    obtain ⟨A, cap, e, hm, hK⟩ := ht
    simp [c3] at e
    obtain ⟨rfl, rfl, rfl, rfl, rfl⟩ := e
    exact ⟨ks, rfl, rfl, hm.1, hm.2.1, hK⟩
end Go.Proofs.YtkpoiljioadfgaaDoor

namespace Go.Proofs.YtkpoiljioadfgaaDoor
open Go.RowKit
def LNew (k s q i : Int) (B : Option Addr) (ln cp : Nat) (w : World) (e : Ending) (w' : World) : Prop := ∃ g : Nat, e = .returned (.agg #[.int .i64 2, .int .i64 0, .int .i64 0, .int .i64 0, .slice (some ⟨g, 0, none⟩) 1 1]) ∧ w.heap.size ≤ g ∧ Arr w' g 5 31 [.int .i64 k, .int .i64 s, .int .i64 q, .int .i64 i, .slice B ln cp] ∧ Below w.heap.size w w'
set_option maxHeartbeats 400000 in
set_option maxRecDepth 100000 in
theorem List_blk (k s q i : Int) (B : Option Addr) (ln cp : Nat) (w : World) :
    Calls Tryd.prog 13 #[.agg (t5 k s q i B ln cp).toArray] w (LNew k s q i B ln cp w) := by
  have P0 := t5_new w k s q i B ln cp
  have V0 := new_later w (.cells (t5 k s q i B ln cp).toArray 31)
  have b2 := new_later (w.alloc (.cells (t5 k s q i B ln cp).toArray 31)) (.cells #[.int .i64 0, .int .i64 0, .int .i64 0, .int .i64 0, .slice none 0 0] 31)
  have R0 := Arr.new' (w.alloc (.cells (t5 k s q i B ln cp).toArray 31)) 31 #[.int .i64 0, .int .i64 0, .int .i64 0, .int .i64 0, .slice none 0 0] 5 z5 rfl rfl (by decide)
  rw [World.size_alloc] at R0
  have P1 := P0.later b2
  have V1 := later V0 b2
  generalize hW : (w.alloc (.cells (t5 k s q i B ln cp).toArray 31)).alloc (.cells #[.int .i64 0, .int .i64 0, .int .i64 0, .int .i64 0, .slice none 0 0] 31) = wa at P1 V1 R0
  have y0 := P1.cell (j := 0) (v := .int .i64 k) rfl
  have y1 := P1.cell (j := 1) (v := .int .i64 s) rfl
  have y2 := P1.cell (j := 2) (v := .int .i64 q) rfl
  have y3 := P1.cell (j := 3) (v := .int .i64 i) rfl
  have y4 := P1.cell (j := 4) (v := .slice B ln cp) rfl
  have V2 := new_later wa (.cells #[.int .i64 k, .int .i64 s, .int .i64 q, .int .i64 i, .slice B ln cp] 31)
  have K2 := Arr.new' wa 31 #[.int .i64 k, .int .i64 s, .int .i64 q, .int .i64 i, .slice B ln cp] 5 (t5 k s q i B ln cp) rfl rfl (by decide)
  have R2 := R0.later V2
  have hwl : w.heap.size + 1 < wa.heap.size := R0.lt
  have HR := Lib.hid R2
  have HV := Lib.hid (later V1 V2)
  have HK := Lib.hid K2
  have HI : Hid (∀ A : Option Addr, (Tryd.prog.info? 31).map (·.size) = some ([.int .i64 2, .int .i64 0, .int .i64 0, .int .i64 0, .slice A 1 1] : List Value).length) := Lib.hid fun A => info_type
  have HO : Hid (∀ A : Option Addr, ∀ v ∈ ([.int .i64 2, .int .i64 0, .int .i64 0, .int .i64 0, .slice A 1 1] : List Value), v.oneCell' = true) := Lib.hid fun A => by intro v hv; simp at hv; rcases hv with rfl | rfl | rfl | rfl | rfl <;> rfl
  clear P1 P0 V0 b2 V1 R0 R2 V2 K2
  go_enter Tryd.func13, Tryd.ntmps13
  go_upto_region 1 with fail
  clear hW
  go_wp2_with (refine wpList_store_arr rfl _ (.tmp 2) (.tmp 5) rfl (w.heap.size + 1) 0 5 31 _ [.int .i64 2, .int .i64 0, .int .i64 0, .int .i64 0, .slice (some ⟨wa.heap.size, 0, none⟩) 1 1] z5 rfl rfl rfl HR.out (show 0 + 5 ≤ 5 by omega) (HI.out _) (HO.out _) ?_; intro w7 f7 o7)
  rw [setAll_all z5 [.int .i64 2, .int .i64 0, .int .i64 0, .int .i64 0, .slice (some ⟨wa.heap.size, 0, none⟩) 1 1] rfl] at f7
  refine bodyPost_ret (results_one rfl _ _ (w.heap.size + 1) [.int .i64 2, .int .i64 0, .int .i64 0, .int .i64 0, .slice (some ⟨wa.heap.size, 0, none⟩) 1 1] _ rfl f7.range Tryd.underlying31 rfl (HI.out _)) rfl ?_
  have hb7 : Below w.heap.size w w7 := HV.out.trans (o7.bel.mono (by omega))
  exact ⟨wa.heap.size, rfl, by omega, HK.out.only o7 (by omega), hb7⟩
theorem foot_list {w : World} {x : Ty} {k s q i : Int} {B : Option Addr} {ln cp g gx : Nat} (hg : g ≠ gx) (hA : Arr w g 5 31 [.int .i64 k, .int .i64 s, .int .i64 q, .int .i64 i, .slice B ln cp]) (hF : Foot (· ≠ gx) (fun W => TyAt W x (.agg #[.int .i64 k, .int .i64 s, .int .i64 q, .int .i64 i, .slice B ln cp])) w) :
    Foot (· ≠ gx) (fun W => TyAt W (.node 2 0 0 0 [x]) (.agg #[.int .i64 2, .int .i64 0, .int .i64 0, .int .i64 0, .slice (some ⟨g, 0, none⟩) 1 1])) w := fun w' hb he => by
  unfold TyAt
  refine ⟨_, 1, rfl, ⟨by simp, by simp [maxLen], by unfold i64r; omega, by unfold i64r; omega, by unfold i64r; omega, by unfold i64r; omega⟩, ?_⟩
  unfold KtAt
  exact ⟨⟨g, 0, _, rfl, (arr_same hA (he g hg hA.lt)).range, hF w' hb he⟩, by unfold KtAt; trivial⟩
end Go.Proofs.YtkpoiljioadfgaaDoor

