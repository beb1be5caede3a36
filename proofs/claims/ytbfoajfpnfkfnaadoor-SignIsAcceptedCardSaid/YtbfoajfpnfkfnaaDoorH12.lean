import Derived.Test.YtbfoajfpnfkfnaaDoorH10
import Derived.Test.YtbfoajfpnfkfnaaDoorShaT
set_option linter.unusedVariables false
namespace Go.Proofs.YtbfoajfpnfkfnaaDoor
open Go.RowKit

/-- A key while it is masked. -/
def xk (K : List Nat) (x k : Nat) : List Nat := xorL (K.take k) x ++ K.drop k
theorem xk_zero (K : List Nat) (x : Nat) : xk K x 0 = K := by simp [xk, xorL]
theorem xk_all (K : List Nat) (x : Nat) : xk K x K.length = xorL K x := by simp [xk]
theorem xk_len (K : List Nat) (x k : Nat) (hk : k ≤ K.length) : (xk K x k).length = K.length := by unfold xk xorL; rw [List.length_append, List.length_map, List.length_take, List.length_drop]; omega
theorem xk_get (K : List Nat) (x k : Nat) (hk : k < K.length) : (xk K x k)[k]? = some (K.getD k 0) := by
  unfold xk xorL
  rw [List.getElem?_append_right (by rw [List.length_map, List.length_take]; omega), List.length_map, List.length_take, List.getElem?_drop, show k + (k - min k K.length) = k by omega, List.getD_eq_getElem?_getD, List.getElem?_eq_getElem hk]; rfl
theorem xk_set (K : List Nat) (x k : Nat) (hk : k < K.length) : (xk K x k).set k (K.getD k 0 ^^^ x) = xk K x (k + 1) := by
  unfold xk xorL
  have hl : ((K.take k).map (· ^^^ x)).length = k := by rw [List.length_map, List.length_take]; omega
  rw [List.set_append_right _ _ (by omega), hl, Nat.sub_self, List.drop_eq_getElem_cons hk, List.set_cons_zero, List.take_succ_eq_append_getElem hk, List.map_append]
  rw [List.getD_eq_getElem?_getD, List.getElem?_eq_getElem hk]
  simp
theorem xorL_all {K : List Nat} {x : Nat} (h : AllB K) (hx : x < 256) : AllB (xorL K x) := by
  intro d hd
  obtain ⟨y, hy, rfl⟩ := List.mem_map.1 hd
  exact Nat.xor_lt_two_pow (n := 8) (h y hy) hx
theorem bs_setN (l : List Nat) (j x : Nat) : (bs l).set j (.int .u8 (x : Int)) = bs (l.set j x) := by simp [bs, U8, List.map_set]

set_option maxHeartbeats 1000000 in
set_option maxRecDepth 100000 in
theorem mask_aux (key : ByteArray) (x : Nat) (K : List Nat) (hx : x < 256) (hk : key.size ≤ 64) (w : World) (HKK : Hid (sb key ++ List.replicate (64 - key.size) 0 = K)) (hKl : Hid (K.length = 64)) (hKB : Hid (AllB K)) :
    Calls Tryd.prog 42 #[.string key, .int .u8 (x : Int)] w fun e w' => e = .returned (.string (mkS (xorL K x))) ∧ Below w.heap.size w w' := by
  have a1 := Arr.new' w 31 #[.int .u8 0, .int .u8 0, .int .u8 0, .int .u8 0, .int .u8 0, .int .u8 0, .int .u8 0, .int .u8 0, .int .u8 0, .int .u8 0, .int .u8 0, .int .u8 0, .int .u8 0, .int .u8 0, .int .u8 0, .int .u8 0, .int .u8 0, .int .u8 0, .int .u8 0, .int .u8 0, .int .u8 0, .int .u8 0, .int .u8 0, .int .u8 0, .int .u8 0, .int .u8 0, .int .u8 0, .int .u8 0, .int .u8 0, .int .u8 0, .int .u8 0, .int .u8 0, .int .u8 0, .int .u8 0, .int .u8 0, .int .u8 0, .int .u8 0, .int .u8 0, .int .u8 0, .int .u8 0, .int .u8 0, .int .u8 0, .int .u8 0, .int .u8 0, .int .u8 0, .int .u8 0, .int .u8 0, .int .u8 0, .int .u8 0, .int .u8 0, .int .u8 0, .int .u8 0, .int .u8 0, .int .u8 0, .int .u8 0, .int .u8 0, .int .u8 0, .int .u8 0, .int .u8 0, .int .u8 0, .int .u8 0, .int .u8 0, .int .u8 0, .int .u8 0] 64 (bs (List.replicate 64 0)) rfl (by simp [bs]) (by decide)
  have hbw := new_later w (.cells #[.int .u8 0, .int .u8 0, .int .u8 0, .int .u8 0, .int .u8 0, .int .u8 0, .int .u8 0, .int .u8 0, .int .u8 0, .int .u8 0, .int .u8 0, .int .u8 0, .int .u8 0, .int .u8 0, .int .u8 0, .int .u8 0, .int .u8 0, .int .u8 0, .int .u8 0, .int .u8 0, .int .u8 0, .int .u8 0, .int .u8 0, .int .u8 0, .int .u8 0, .int .u8 0, .int .u8 0, .int .u8 0, .int .u8 0, .int .u8 0, .int .u8 0, .int .u8 0, .int .u8 0, .int .u8 0, .int .u8 0, .int .u8 0, .int .u8 0, .int .u8 0, .int .u8 0, .int .u8 0, .int .u8 0, .int .u8 0, .int .u8 0, .int .u8 0, .int .u8 0, .int .u8 0, .int .u8 0, .int .u8 0, .int .u8 0, .int .u8 0, .int .u8 0, .int .u8 0, .int .u8 0, .int .u8 0, .int .u8 0, .int .u8 0, .int .u8 0, .int .u8 0, .int .u8 0, .int .u8 0, .int .u8 0, .int .u8 0, .int .u8 0, .int .u8 0] 31)
  have hsl := fun W => slice_all W 31 64 w.heap.size 0 (by kernel_rfl) (by kernel_rfl) Tryd.underlying31 (by decide)
  have hn : Nat.min key.size 64 = key.size := Nat.min_eq_left hk
  have HN := Lib.hid hn
  clear hn
  go_enter Tryd.func42, Tryd.ntmps42
  go_upto_region 2 with fail
  generalize hW : w.alloc (.cells #[.int .u8 0, .int .u8 0, .int .u8 0, .int .u8 0, .int .u8 0, .int .u8 0, .int .u8 0, .int .u8 0, .int .u8 0, .int .u8 0, .int .u8 0, .int .u8 0, .int .u8 0, .int .u8 0, .int .u8 0, .int .u8 0, .int .u8 0, .int .u8 0, .int .u8 0, .int .u8 0, .int .u8 0, .int .u8 0, .int .u8 0, .int .u8 0, .int .u8 0, .int .u8 0, .int .u8 0, .int .u8 0, .int .u8 0, .int .u8 0, .int .u8 0, .int .u8 0, .int .u8 0, .int .u8 0, .int .u8 0, .int .u8 0, .int .u8 0, .int .u8 0, .int .u8 0, .int .u8 0, .int .u8 0, .int .u8 0, .int .u8 0, .int .u8 0, .int .u8 0, .int .u8 0, .int .u8 0, .int .u8 0, .int .u8 0, .int .u8 0, .int .u8 0, .int .u8 0, .int .u8 0, .int .u8 0, .int .u8 0, .int .u8 0, .int .u8 0, .int .u8 0, .int .u8 0, .int .u8 0, .int .u8 0, .int .u8 0, .int .u8 0, .int .u8 0] 31) = wa at a1 hbw ⊢
  clear hW
  have HE : Hid (setAll (bs (List.replicate 64 0)) 0 (bs ((sb key).take key.size)) = bs K) := by
    show setAll (bs (List.replicate 64 0)) 0 (bs ((sb key).take key.size)) = bs K
    have hd : (bs (List.replicate 64 0)).drop (0 + (bs (sb key)).length) = bs (List.replicate (64 - key.size) 0) := by
      rw [bs_len, sb_len, Nat.zero_add]
      unfold bs
      rw [← List.map_drop, List.drop_replicate]
    rw [← HKK.out, List.take_of_length_le (by rw [sb_len]; exact Nat.le_refl _), setAll_eq _ _ _ (by rw [bs_len, bs_len, sb_len, List.length_replicate]; omega), hd, bs_app]
    rfl
  go_wp2_with (refine wpList_copyS rfl (.tmp 7) (.tmp 8) _ _ rfl 5 Tryd.underlying22 info_u8s w.heap.size 0 64 64 key.size 64 31 _ key rfl rfl HN.out a1 (by omega) ?_; intro w3 d1 o3; rw [HE.out] at d1; have hb3 := hbw.trans o3.bel; clear a1 hbw o3)
  go_loopw [10] (fun i W => ∃ k : Nat, k ≤ 64 ∧ i = .int .i64 (k : Int) ∧ Arr W w.heap.size 64 31 (bs (xk K x k)) ∧ Below w.heap.size w W) (fun i _ => 64 - (intOf i).toNat)
  case atStart => exact ⟨0, by omega, rfl, by rw [xk_zero]; exact d1, hb3⟩
  case round =>
    obtain ⟨k, hk, rfl, c1, hb⟩ := hrel
    clear d1 hb3
    by_cases hlt : k < 64
    · have hkl : k < K.length := by have := hKl.out; omega
      have hbg : (bs (xk K x k))[k]? = some (.int .u8 ((K.getD k 0 : Nat) : Int)) := by
        have h := xk_get K x k hkl
        simp [bs, U8, List.getElem?_map, h]
      have hcell := c1.cell hbg
      have hfr := c1.free k
      have hv := getD_lt hKB.out (by decide) k
      have hset := bs_setN (xk K x k) k (K.getD k 0 ^^^ x)
      rw [xk_set K x k hkl] at hset
      generalize K.getD k 0 = O at hcell hv hset
      have hxor := u8_xor_nat O x hv hx
      obtain ⟨E, hE⟩ : ∃ E, O ^^^ x = E := ⟨_, rfl⟩
      rw [hE] at hxor hset
      have d1 := c1.set_ k (.int .u8 (E : Int))
      rw [hset] at d1
      have D1 := Lib.hid d1
      have hki : (k : Int) < 64 := by omega
      clear hbg hset c1 hE d1
      go_wp2_with fail
      go_roundw
      case rel => exact ⟨k + 1, by omega, by go_num, D1.out, hb.setCell (Nat.le_refl _) _⟩
      case measure => simp [intOf]; omega
    · have hk64 : k = 64 := by omega
      subst hk64
      have h64 : xk K x 64 = xorL K x := by have := xk_all K x; rw [hKl.out] at this; exact this
      rw [h64] at c1
      have hxl : (xorL K x).length = 64 := by simp [xorL, hKl.out]
      have hrd : Rd wr wr.heap.size (some ⟨w.heap.size, 0, none⟩) (bs (xorL K x)) := .inr ⟨w.heap.size, 0, rfl, c1.lt, fun j u hu => by rw [Nat.zero_add]; exact c1.cell hu⟩
      have hcv := run_conv _ 64 64 _ (xorL K x) _ hxl.symm hrd
      clear h64 c1 hxl hrd
      go_wp2_with fail
      go_ret
      exact ⟨rfl, hb⟩
theorem mask_any (key : ByteArray) (x : Nat) (hx : x < 256) (hk : key.size ≤ 64) (w : World) :
    Calls Tryd.prog 42 #[.string key, .int .u8 (x : Int)] w fun e w' => e = .returned (.string (mkS (xorL (sb key ++ List.replicate (64 - key.size) 0) x))) ∧ Below w.heap.size w w' :=
  mask_aux key x _ hx hk w (Lib.hid rfl) (Lib.hid (by rw [List.length_append, sb_len, List.length_replicate]; omega)) (Lib.hid (AllB.app (sb_lt key) (fun d hd => by rw [(List.mem_replicate.1 hd).2]; decide)))
end Go.Proofs.YtbfoajfpnfkfnaaDoor
