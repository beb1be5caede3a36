import Derived.Test.YtfbookfaodfmdaaDoorLC
set_option linter.unusedVariables false
namespace Go.Proofs.YtfbookfaodfmdaaDoor
open Go.RowKit

theorem str_at (s : ByteArray) (n : Nat) (h : n < s.size) (W : World) : (Instr.index 9 (.string s) (.int .i64 (n : Int))).run Tryd.prog W = .ok (.int .u8 (((sb s)[n]'(by rw [sb_len]; exact h) : Nat) : Int)) W := by
  rw [run_index_string W _ s .i64 (n : Int) Tryd.underlying9, dif_pos ⟨by omega, by omega⟩]
  simp [sb]
  rfl
/-- A byte of a string: what an index reads, and the rest behind it. -/
theorem str_step (s : ByteArray) (n : Nat) (h : n < s.size) : ∃ c, c < 256 ∧ (sb s).drop n = c :: (sb s).drop (n + 1) ∧ ∀ W, (Instr.index 9 (.string s) (.int .i64 (n : Int))).run Tryd.prog W = .ok (.int .u8 (c : Int)) W :=
  ⟨_, sb_lt s _ (List.getElem_mem (by rw [sb_len]; exact h)), List.drop_eq_getElem_cons (by rw [sb_len]; exact h), str_at s n h⟩

set_option maxHeartbeats 1000000 in
set_option maxRecDepth 100000 in
theorem wordSize_any (s : ByteArray) (h1 : 0 < s.size) (h2 : s.size ≤ 140737488355328) (w : World) (hk : Kx w) :
    Calls Tryd.prog 32 #[.string s] w fun e w' => e = .returned (.int .i64 ((wsz (sb s) : Nat) : Int)) ∧ w' = w := by
  have HK := Lib.hid fun (c : Nat) (hc : c < 256) => kindOf_any c hc w hk
  obtain ⟨c0, hb0, hd0, hx0⟩ := str_step s 0 h1
  rw [List.drop_zero, Nat.zero_add] at hd0
  have HX := Lib.hid fun (n : Nat) (h : n < s.size) => str_step s n h
  have HL := Lib.hid (sb_len s)
  generalize sb s = L at hd0 HX HL ⊢
  have HZ' : Hid (wsz L = 1 + run (kd c0) (L.drop 1)) := Lib.hid (by conv => lhs; rw [hd0, wsz_cons]
                                                                     omega)
  generalize wsz L = Z at HZ' ⊢
  clear hd0
  have HC0 := Lib.hid hb0
  have hsz : (s.size : Int) ≤ 140737488355328 := by omega
  have hx0' : ∀ W, (Instr.index 9 (.string s) (.int .i64 0)).run Tryd.prog W = .ok (.int .u8 (c0 : Int)) W := fun W => hx0 W
  have HK0 := Lib.hid (HK.out c0 hb0)
  generalize kd c0 = k0 at HZ' HK0
  clear hk hb0 hx0 h2
  go_enter Tryd.func32, Tryd.ntmps32
  go_wp2_with (go_at_call 30; (with_reducible refine HK0.out.mono ?_); rintro e w' ⟨rfl, hw⟩; rw [hw])
  clear hx0'
  go_loopw [4] (fun i W => ∃ n : Nat, 1 ≤ n ∧ n ≤ s.size ∧ i = .int .i64 (n : Int) ∧ W = w ∧ Hid (Z = n + run k0 (L.drop n))) (fun i _ => s.size - (intOf i).toNat)
  case atStart => exact ⟨1, by omega, by omega, rfl, rfl, HZ'⟩
  case round =>
    obtain ⟨n, hn1, hn, rfl, rfl, hrel⟩ := hrel
    by_cases hlt : n < s.size
    · have hki : (n : Int) < (s.size : Int) := by omega
      have hk0 : (0 : Int) ≤ (n : Int) := by omega
      obtain ⟨c, hc, hd, hx⟩ := HX.out n hlt
      have hr : run k0 (L.drop n) = if kd c = 3 ∨ kd c = k0 then run k0 (L.drop (n + 1)) + 1 else 0 := by rw [hd, run_cons]
      have hcall := Lib.hid (HK.out c hc)
      generalize kd c = K at hr hcall
      clear hc hd
      by_cases h3 : K = 3
      · subst h3
        have hr2 := Lib.hid hr
        clear hr
        go_wp2_with (go_at_call 30; (with_reducible refine hcall.out.mono ?_); rintro e w' ⟨rfl, hw⟩; rw [hw])
        go_roundw
        case rel => exact ⟨n + 1, by omega, by omega, by go_num, trivial, Lib.hid (by have := hrel.out; have h5 : run k0 (L.drop n) = _ := hr2.out; simp at h5; omega)⟩
        case measure => simp [intOf]; omega
      · have h3i : ((K : Nat) : Int) ≠ 3 := by omega
        have h3b : (((K : Nat) : Int) == 3) = false := by simpa using h3i
        by_cases h4 : K = k0
        · subst h4
          have hr2 := Lib.hid hr
          clear hr
          go_wp2_with (go_at_call 30; (with_reducible refine hcall.out.mono ?_); rintro e w' ⟨rfl, hw⟩; rw [hw])
          go_roundw
          case rel => exact ⟨n + 1, by omega, by omega, by go_num, trivial, Lib.hid (by have := hrel.out; have h5 : run K (L.drop n) = _ := hr2.out; simp at h5; omega)⟩
          case measure => simp [intOf]; omega
        · have h4i : ((K : Nat) : Int) ≠ ((k0 : Nat) : Int) := by omega
          have h4b : (((K : Nat) : Int) == ((k0 : Nat) : Int)) = false := by simpa using h4i
          have hr2 := Lib.hid hr
          clear hr
          go_wp2_with (go_at_call 30; (with_reducible refine hcall.out.mono ?_); rintro e w' ⟨rfl, hw⟩; rw [hw])
          go_ret
          refine ⟨?_, rfl⟩
          have := hrel.out; have h5 := hr2.out; rw [if_neg (by omega)] at h5
          rw [this, h5]; rfl
    · obtain rfl : n = s.size := by omega
      go_wp2_with fail
      go_ret
      refine ⟨?_, rfl⟩
      have := hrel.out
      rw [List.drop_of_length_le (by rw [HL.out]; exact Nat.le_refl _)] at this
      rw [this]; rfl

def sgv : List Value := sg.map fun x => Value.string (mkS x)
theorem sgv_len : sgv.length = 18 := rfl
theorem sgn_drop (l : List Nat) (j : Nat) (h : j < 18) : ∃ x, sg[j]? = some x ∧ sgv[j]? = some (.string (mkS x)) ∧ (mkS x).size = x.length ∧ (∀ d ∈ x, d < 256) ∧ sgnIn (sg.drop j) l = if x.isPrefixOf l then x.length else sgnIn (sg.drop (j + 1)) l := by
  have h2 : j < sg.length := h
  refine ⟨sg[j], List.getElem?_eq_getElem h2, by simp [sgv, List.getElem?_eq_getElem h2], mkS_size _, ?_, ?_⟩
  · have h3 : ∀ x ∈ sg, ∀ d ∈ x, d < 256 := by decide
    exact h3 _ (List.getElem_mem h2)
  · rw [List.drop_eq_getElem_cons h2]; rfl
theorem info_sgn : (Tryd.prog.info? 70).map (·.size) = some 18 := by kernel_rfl
theorem Kx.signs {w : World} (h : Kx w) : w.rangeAt 1 0 sgv := by
  intro j v hv
  unfold sgv at hv
  rw [List.getElem?_map] at hv
  obtain ⟨x, hx, rfl⟩ := Option.map_eq_some_iff.1 hv
  rw [Nat.zero_add]
  exact h.2.2 j x hx
theorem run_partS {P : Program} (w : World) (e : TypeId) (he : P.underlying e = some .string) (cs : Array Value) (o : Nat) (v : Value) (hv : cs[o]? = some v) : (Go.part e cs o).run P w = .ok v w := by
  have hagg : (isAgg e).run P w = .ok false w := by
    unfold isAgg
    rw [Sem.run_bind, run_underlying he w]
    rfl
  unfold Go.part
  rw [Sem.run_bind, hagg]
  simp [hv]
/-- 'a[i]' of an array of strings by value. -/
theorem run_index_arrS {P : Program} (w : World) (t e : TypeId) (n : Nat) (k : IntKind) (cs : Array Value) (i : Nat) (v : Value) (ht : P.underlying t = some (.array n e)) (he : P.underlying e = some .string) (hi : (P.info? e).map (·.size) = some 1) (hin : i < n) (hv : cs[i]? = some v) :
    (Instr.index t (.agg cs) (.int k (i : Int))).run P w = .ok v w := by
  have h1 := run_partS w e he cs i v hv
  obtain ⟨i0, hi0, hi1⟩ := Option.map_eq_some_iff.1 hi
  have hn : (0 : Int) ≤ (i : Int) ∧ (i : Int) < (n : Int) := by omega
  simp [Instr.index, run_underlying ht, asIntOf, hn, sizeOf, typeInfo, hi0, hi1, h1]
  intro h; omega
theorem info_str : (Tryd.prog.info? 9).map (·.size) = some 1 := by kernel_rfl
theorem run_index_sgn (W : World) (j : Nat) (v : Value) (h : sgv[j]? = some v) : (Instr.index 70 (.agg sgv.toArray) (.int .i64 (j : Int))).run Tryd.prog W = .ok v W :=
  run_index_arrS W _ 9 18 .i64 _ j v Tryd.underlying70 Tryd.underlying9 info_str ((List.getElem?_eq_some_iff.1 h).1) (by simpa using h)
set_option maxHeartbeats 1000000 in
set_option maxRecDepth 100000 in
theorem signSize_any (s : ByteArray) (w : World) (hk : Kx w) :
    Calls Tryd.prog 33 #[.string s] w fun e w' => e = .returned (.int .i64 ((sgn (sb s) : Nat) : Int)) ∧ w' = w := by
  have HS := Lib.hid hk.signs
  have HP := Lib.hid fun (x : List Nat) (hx : ∀ d ∈ x, d < 256) => HasPrefix_any s x hx w
  have HD := Lib.hid fun (j : Nat) (h : j < 18) => sgn_drop (sb s) j h
  have HI := Lib.hid fun (W : World) (j : Nat) (v : Value) (h : sgv[j]? = some v) => run_index_sgn W j v h
  have HZ : Hid (sgnIn (sg.drop 0) (sb s) = sgn (sb s)) := Lib.hid rfl
  generalize sgn (sb s) = Z at HZ ⊢
  have HL : Hid (sgv.length = 18) := Lib.hid sgv_len
  generalize sgv = V at HS HI HL HD
  clear hk
  go_enter Tryd.func33, Tryd.ntmps33
  go_wp2_with (with_reducible refine wpList_load_mid rfl _ _ rfl 1 0 rfl V _ HS.out Tryd.underlying70 rfl (by rw [HL.out]; exact info_sgn) ?_)
  go_loopw [4, 6] (fun _ i W => ∃ j : Nat, j ≤ 18 ∧ i = .int .i64 (j : Int) ∧ W = w ∧ Hid (sgnIn (sg.drop j) (sb s) = Z)) (fun _ i _ => 18 - (intOf i).toNat)
  case atStart => exact ⟨0, by omega, rfl, rfl, HZ⟩
  case round =>
    obtain ⟨j, hj, rfl, rfl, hrel⟩ := hrel
    clear HZ
    by_cases hlt : j < 18
    · have hki : (j : Int) < 18 := by omega
      obtain ⟨x, hx1, hx2, hx3, hx4, hx5⟩ := HD.out j hlt
      have hix := fun W => HI.out W j _ hx2
      have hcall := Lib.hid (HP.out x hx4)
      generalize mkS x = X at hx2 hx3 hix hcall
      have H5 := Lib.hid hx5
      have H3 := Lib.hid hx3
      clear hx1 hx2 hx3 hx4 hx5
      by_cases hp : x.isPrefixOf (sb s) = true
      · rw [hp] at hcall
        go_wp2_with (go_at_call 44; (with_reducible refine hcall.out.mono ?_); rintro e w' ⟨rfl, hw⟩; rw [hw])
        go_ret
        refine ⟨?_, rfl⟩
        have h1 := hrel.out
        rw [H5.out, if_pos hp] at h1
        rw [H3.out, h1]; rfl
      · have hp' : x.isPrefixOf (sb s) = false := Bool.eq_false_iff.2 hp
        rw [hp'] at hcall
        go_wp2_with (go_at_call 44; (with_reducible refine hcall.out.mono ?_); rintro e w' ⟨rfl, hw⟩; rw [hw])
        go_roundw
        case rel => exact ⟨j + 1, by omega, by go_num, trivial, Lib.hid (by have h1 := hrel.out; rw [H5.out, if_neg hp] at h1; exact h1)⟩
        case measure => simp [intOf]; omega
    · obtain rfl : j = 18 := by omega
      go_wp2_with fail
      go_ret
      refine ⟨?_, rfl⟩
      have h1 : 0 = Z := hrel.out
      rw [← h1]; rfl
end Go.Proofs.YtfbookfaodfmdaaDoor
