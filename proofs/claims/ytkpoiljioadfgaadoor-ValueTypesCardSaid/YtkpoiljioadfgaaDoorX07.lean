import Derived.Test.YtkpoiljioadfgaaDoorX04
import Derived.Test.YtkpoiljioadfgaaDoorX06
import Derived.Laws.Tables
set_option linter.unusedVariables false
set_option linter.unusedSimpArgs false
namespace Go.Proofs.YtkpoiljioadfgaaDoor
open Go.RowKit
theorem results_cellB {P : Program} {fn : Func} {p u : Tmp} {ty : TypeId} (h : fn.results = #[.cell p ty, .tmp u]) (tmps : Array Value) (w : World) (g : Nat) (cs : List Value) (d : TypeDesc)
    (hp : tmps.getD p undef = .pointer (some ⟨g, 0, none⟩)) (hg : w.rangeAt g 0 cs)
    (hu : P.underlying ty = some d) (hd : d.isRow = true) (hi : (P.info? ty).map (·.size) = some cs.length) :
    (results fn tmps).run P w = .ok (.tuple #[.agg cs.toArray, tmps.getD u undef]) w := by
  have hp' : tmps[p]?.getD undef = .pointer (some ⟨g, 0, none⟩) := by simpa using hp
  simp [results, h, hp', asAddr, run_loadVar_mid w g 0 ty cs d hg hu hd hi]
def z31 : List Value := [.int .i64 0, .int .i64 0, .int .i64 0, .int .i64 0, .int .i64 0, .int .i64 0, .int .i64 0, .string ⟨#[]⟩, .slice none 0 0, .int .i64 0, .int .i64 0, .int .i64 0, .int .i64 0, .slice none 0 0,
  .int .i64 0, .int .i64 0, .int .i64 0, .int .i64 0, .int .i64 0, .int .i64 0, .int .i64 0, .int .i64 0, .int .i64 0, .int .i64 0, .int .i64 0, .int .i64 0, .slice none 0 0, .slice none 0 0, .slice none 0 0, .int .i64 0, .slice none 0 0]
theorem z31_new (w : World) : Arr (w.alloc (.cells z31.toArray 46)) w.heap.size 31 46 z31 := Arr.new' w _ _ 31 _ rfl rfl (by decide)
theorem zero_def (W : World) : (zeroValue 46).run Tryd.prog W = .ok (.agg z31.toArray) W := by kernel_rfl
theorem ExAt.cells {w : World} {x : Ex} {C : List Value} (h : ExAt w x C) : ∀ v ∈ C, v.oneCell' = true := by
  cases x with
  | node a b c k n ra rb rc ty ks names =>
    unfold ExAt at h
    obtain ⟨T, A, cap, nv, rfl, _, hT, ⟨A', cap', rfl, _⟩, _⟩ := h
    obtain ⟨k', s', q', i', B, len', cp, hsh⟩ := hT.shape
    have hT' : T = t5 k' s' q' i' B len' cp := by simpa using hsh
    subst hT'
    intro v hv
    simp [t5] at hv
    rcases hv with rfl | rfl | rfl | rfl | rfl | rfl | rfl | rfl | rfl | rfl | rfl | rfl | rfl | rfl | rfl <;> rfl
theorem DfAt.cells {w : World} {d : Df} {C : List Value} (h : DfAt w d C) : ∀ v ∈ C, v.oneCell' = true := by
  obtain ⟨sv, T, E, lv, rfl, _, ⟨A, cap, rfl, _⟩, hT, hE, ⟨A', cap', rfl, _⟩⟩ := h
  obtain ⟨k', s', q', i', B, len', cp, hsh⟩ := hT.shape
  have hT' : T = t5 k' s' q' i' B len' cp := by simpa using hsh
  subst hT'
  have hEc := hE.cells
  intro v hv
  simp only [List.mem_append, List.mem_cons, List.not_mem_nil, or_false, t5] at hv
  rcases hv with ((hv | hv) | hv) | hv
  · rcases hv with rfl | rfl | rfl | rfl | rfl | rfl | rfl | rfl | rfl <;> rfl
  · rcases hv with rfl | rfl | rfl | rfl | rfl <;> rfl
  · exact hEc v hv
  · rcases hv with rfl | rfl <;> rfl
def DefRes (P : List Df) (a b c : Int) (w : World) (e : Ending) (w' : World) : Prop := Below w.heap.size w w' ∧
  ((∃ d C, P[fnd P a b c]? = some d ∧ e = .returned (.tuple #[.agg C.toArray, .bool true]) ∧ DfAt w d C) ∨ (P[fnd P a b c]? = none ∧ e = .returned (.tuple #[.agg z31.toArray, .bool false])))
set_option maxHeartbeats 4000000 in
set_option maxRecDepth 100000 in
theorem rdef_any (P : List Df) (a b c : Int) (w : World) (v : Value) (h : PrAt w P v) :
    Calls Tryd.prog 21 #[v, .agg #[.int .i64 a, .int .i64 b, .int .i64 c]] w (DefRes P a b c w) := by
  obtain ⟨mv, A, cap, rfl, hm, hP⟩ := h
  obtain ⟨n, hn⟩ : ∃ n, P.length = n := ⟨_, rfl⟩
  rw [hn] at hm ⊢
  have HP := Lib.hid hP
  have HN := Lib.hid hn
  have HM := Lib.hid hm
  have hni : (n : Int) ≤ 9223372036854775807 := by have := hm.2; simp only [maxLen] at this; omega
  have P0 := p2_new w mv (.slice A n cap)
  have V0' := new_later w (.cells #[mv, .slice A n cap] 26)
  have Q0 := i3_new (w.alloc (.cells #[mv, .slice A n cap] 26)) a b c
  have P1 := P0.later (new_later _ (.cells #[.int .i64 a, .int .i64 b, .int .i64 c] 28))
  have V1 := later V0' (new_later _ (.cells #[.int .i64 a, .int .i64 b, .int .i64 c] 28))
  rw [World.size_alloc] at Q0
  have R0 := z31_new ((w.alloc (.cells #[mv, .slice A n cap] 26)).alloc (.cells #[.int .i64 a, .int .i64 b, .int .i64 c] 28))
  rw [World.size_alloc, World.size_alloc] at R0
  have P1x := P1
  have R1 := new_later ((w.alloc (.cells #[mv, .slice A n cap] 26)).alloc (.cells #[.int .i64 a, .int .i64 b, .int .i64 c] 28)) (.cells z31.toArray 46)
  replace P1 := P1.later R1
  replace Q0 := Q0.later R1
  replace V1 := later V1 R1
  clear P1x R1
  clear P0 V0'
  generalize hW : ((w.alloc (.cells #[mv, .slice A n cap] 26)).alloc (.cells #[.int .i64 a, .int .i64 b, .int .i64 c] 28)).alloc (.cells z31.toArray 46) = wa at P1 V1 Q0 R0
  have hc1 := P1.cell (j := 1) (v := .slice A n cap) rfl
  have HP1 := Lib.hid P1
  have HQ1 := Lib.hid Q0
  have HR1 := Lib.hid R0
  have HV1 := Lib.hid V1
  have hzd := zero_def
  have HOZ : Hid (∀ v ∈ z31, v.oneCell' = true) := Lib.hid (by decide)
  clear hP hn hm P1 Q0 V1 R0
  go_enter Tryd.func21, Tryd.ntmps21
  go_upto_region 1 with fail
  clear hW
  go_wp2_with fail
  clear hc1
  go_loopw [6] (fun i W => ∃ j : Nat, j ≤ n ∧ i = .int .i64 (j : Int) ∧ Arr W w.heap.size 2 26 [mv, .slice A n cap] ∧ Arr W (w.heap.size + 1) 3 28 [.int .i64 a, .int .i64 b, .int .i64 c] ∧ Arr W (w.heap.size + 1 + 1) 31 46 z31 ∧ Below w.heap.size w W ∧ Hid (∀ i (hi : i < P.length), i < j → (P[i]'hi).has a b c = false)) (fun i _ => n - (intOf i).toNat)
  case atStart => exact ⟨0, by omega, rfl, HP1.out, HQ1.out, HR1.out, HV1.out, Lib.hid fun i _ h => absurd h (by omega)⟩
  case round =>
    obtain ⟨j, hj, rfl, P2, Q2, R2, V2, HNO⟩ := hrel
    have hj0 : (0 : Int) ≤ (j : Int) := by omega
    have hA0 := P2.cell (j := 1) (v := .slice A n cap) rfl
    by_cases hlt : j < n
    · have hji : (j : Int) < (n : Int) := by omega
      have hjl : j < P.length := by rw [HN.out]; exact hlt
      obtain ⟨g, o, C, rfl, hrg, hdf⟩ := HP.out j _ (List.getElem?_eq_getElem hjl)
      obtain ⟨d1, d2, d3, d4⟩ := df_head (range_below hrg V2) (hdf.later V2)
      have b1 := Q2.cell (j := 0) (v := .int .i64 a) rfl
      have b2 := Q2.cell (j := 1) (v := .int .i64 b) rfl
      have b3 := Q2.cell (j := 2) (v := .int .i64 c) rfl
      have HNE : Hid ((P[j]).has a b c = true → P[fnd P a b c]? = some P[j]) := Lib.hid fun h => by
        have h2 := fnd_at hjl h (fun i hi => HNO.out i (by omega) hi)
        rw [h2]; exact List.getElem?_eq_getElem hjl
      have HNX : Hid ((P[j]).has a b c = false → ∀ i (hi : i < P.length), i < j + 1 → (P[i]'hi).has a b c = false) := Lib.hid fun h i hi hij => by
        by_cases e : i = j
        · subst e; exact h
        · exact HNO.out i hi (by omega)
      have heq := fun W => eq_id (P[j]).a (P[j]).b (P[j]).c a b c W
      obtain ⟨E, hE⟩ : ∃ E, (P[j]).has a b c = E := ⟨_, rfl⟩
      rw [hE] at HNE HNX
      rw [show (decide ((P[j]).a = a) && (decide ((P[j]).b = b) && decide ((P[j]).c = c))) = E from hE] at heq
      have HDF := Lib.hid hdf
      generalize P[j] = d at heq d1 d2 d3 HDF HNE d4
      have hCl := HDF.out.len
      have HCL := Lib.hid hCl
      have HOC : Hid (∀ v ∈ C, v.oneCell' = true) := Lib.hid (DfAt.cells HDF.out)
      have HRG : Hid (∀ q, (wr.drewN q).rangeAt g (o + j * 31) C) := Lib.hid fun q => range_below hrg (below_drewN V2 q)
      have HIN : Hid ((Tryd.prog.info? 46).map (·.size) = some C.length) := Lib.hid (by rw [hCl]; exact info_def)
      have HPP := Lib.hid P2
      have HQQ := Lib.hid Q2
      have HRR := Lib.hid R2
      have HVV := Lib.hid V2
      have HLT := Lib.hid hlt
      clear d4 hE hrg hdf hjl P2 Q2 V2 R2 HNO hlt hCl
      cases E with
      | true =>
        have HZ := Lib.hid (HNE.out rfl)
        go_wp2_with fail
        go_quiet (fail)
        go_wp2_with (first
          | (with_reducible refine wpList_load_mid rfl _ (.tmp 25) rfl g (o + j * 31) rfl C _ (HRG.out _) Tryd.underlying46 rfl HIN.out ?_)
          | (refine wpList_store_arr rfl _ (.tmp 4) (.tmp 26) rfl (w.heap.size + 1 + 1) 0 31 46 _ C z31 rfl rfl rfl (show Arr (wr.drewN _) _ _ _ _ from HRR.out) (by rw [HCL.out]; omega) HIN.out HOC.out ?_; intro w7 f7 o7))
        rw [setAll_all _ _ (by rw [HCL.out]; rfl)] at f7
        exact bodyPost_ret (results_cellB rfl _ _ (w.heap.size + 1 + 1) C _ rfl f7.range Tryd.underlying46 rfl HIN.out) rfl ⟨(below_drewN HVV.out _).trans (o7.bel.mono (by omega)), .inl ⟨d, C, HZ.out, rfl, HDF.out⟩⟩
      | false =>
        have HZ := Lib.hid (HNX.out rfl)
        go_wp2_with fail
        go_quiet (fail)
        go_wp2_with fail
        refine ⟨⟨j + 1, by have := HLT.out; omega, by go_num, HPP.out, HQQ.out, HRR.out, below_drewN HVV.out _, HZ⟩, by have := HLT.out; simp [intOf]; omega⟩
    · obtain rfl : j = n := by omega
      have HZ : Hid (P[fnd P a b c]? = none) := Lib.hid (by
        rw [fnd_none (fun i hi => HNO.out i hi (by rw [← HN.out]; exact hi))]
        exact List.getElem?_eq_none (Nat.le_refl _))
      have HRR := Lib.hid R2
      clear hlt HNO R2
      go_wp2_with (refine wpList_store_arr rfl _ (.tmp 4) (.tmp 27) rfl (w.heap.size + 1 + 1) 0 31 46 _ z31 z31 rfl rfl rfl HRR.out (by decide) (by exact info_def) HOZ.out ?_; intro w7 f7 o7)
      rw [setAll_all _ _ rfl] at f7
      exact bodyPost_ret (results_cellB rfl _ _ (w.heap.size + 1 + 1) z31 _ rfl f7.range Tryd.underlying46 rfl info_def) rfl ⟨V2.trans (o7.bel.mono (by omega)), .inr ⟨HZ.out, rfl⟩⟩
end Go.Proofs.YtkpoiljioadfgaaDoor

namespace Go.Proofs.YtkpoiljioadfgaaDoor
open Go.RowKit
theorem slot_build (k : Int) (nm : ByteArray) (W : World) : (Instr.build 66 #[(0, .agg #[.int .i64 0, .int .i64 1, .int .i64 k]), (1, .string nm)]).run Tryd.prog W = .ok (.agg #[.int .i64 0, .int .i64 1, .int .i64 k, .string nm, .int .i64 0, .int .i64 0, .int .i64 0, .int .i64 0, .slice none 0 0, .int .i64 0, .int .i64 0]) W :=
  run_build W _ _ _ (by kernel_rfl)
theorem slot_build3 (k k2 : Int) (nm : ByteArray) (W : World) : (Instr.build 66 #[(0, .agg #[.int .i64 0, .int .i64 1, .int .i64 k]), (1, .string nm), (2, .agg #[.int .i64 3, .int .i64 0, .int .i64 1, .int .i64 k2, .slice none 0 0])]).run Tryd.prog W = .ok (.agg #[.int .i64 0, .int .i64 1, .int .i64 k, .string nm, .int .i64 3, .int .i64 0, .int .i64 1, .int .i64 k2, .slice none 0 0, .int .i64 0, .int .i64 0]) W :=
  run_build W _ _ _ (by kernel_rfl)
end Go.Proofs.YtkpoiljioadfgaaDoor

