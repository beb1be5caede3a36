import Derived.Test.YtoopilemlgamkaaDoorG1
import Derived.Test.YtoopilemlgamkaaDoorPack3
set_option linter.unusedVariables false
namespace Go.Proofs.YtoopilemlgamkaaDoor
open Go.RowKit

def lenN : Value → Nat
  | .slice _ n _ => n
  | _ => 0
theorem padZ (zs : List Nat) : zs ++ 128 :: List.replicate (zer zs.length) 0 ++ be64 (8 * zs.length) = pad zs := rfl
theorem rep_succ (zs : List Nat) (k : Nat) : (zs ++ 128 :: List.replicate k 0) ++ [0] = zs ++ 128 :: List.replicate (k + 1) 0 := by
  rw [List.replicate_succ']; simp
theorem padk_len (zs : List Nat) (k : Nat) : (zs ++ 128 :: List.replicate k 0).length = zs.length + 1 + k := by simp; omega
theorem be64_take (n k : Nat) (hk : k < 8) : (be64 n).take (k + 1) = (be64 n).take k ++ [n / 2 ^ (56 - 8 * k) % 256] := by
  have hl : k < (be64 n).length := by rw [be64_len]; exact hk
  rw [List.take_succ_eq_append_getElem hl]
  have hg : (be64 n)[k] = n / 2 ^ (56 - 8 * k) % 256 := by simp [be64]
  rw [hg]

set_option maxHeartbeats 1000000 in
set_option maxRecDepth 100000 in
theorem rpadded_aux (A : Option Addr) (N cap : Nat) (zs : List Nat) (w : World) (HN : Hid (zs.length = N)) (hr : Rd w w.heap.size A (bs zs)) (hsz : N ≤ 1000000) :
    Calls Tryd.prog 37 #[.slice A N cap] w fun e w' => ∃ v', e = .returned v' ∧ OwnB w' w.heap.size v' (pad zs) ∧ Below w.heap.size w w' := by
  have HPZ : Hid (zs ++ 128 :: List.replicate (zer N) 0 ++ be64 (8 * N) = pad zs) := Lib.hid (by rw [← HN.out]; rfl)
  have own0 : OwnB (w.alloc (.cells #[] 5)) w.heap.size (.slice (some ⟨w.heap.size, 0, none⟩) 0 0) [] := arr_new w 5 #[] 0 rfl (by decide)
  have hb0 := new_later w (.cells #[] 5)
  have hs0 : (w.alloc (.cells #[] 5)).heap.size = w.heap.size + 1 := by simp
  go_enter Tryd.func37, Tryd.ntmps37
  go_wp2_with (first
    | (at_builtin; refine wpList_putL own0 (hr.below hb0) HN.out.symm (by omega) (by have := HN.out; simp; omega) rfl _ _ rfl rfl rfl ?_; intro v1 w1 hown1 hbel1; have hz1 := hbel1.size; clear hr own0)
    | (at_builtin; refine wpList_putB (x := 128) hown1 rfl (by omega) (by have := HN.out; simp; omega) rfl _ _ rfl rfl rfl ?_; intro v2 w2 hown2 hbel2; have U := (hb0.trans hbel1).trans hbel2; clear hown1 hbel1 hb0))
  clear hs0 hz1 hbel2
  go_loopw [3] (fun v W => ∃ k : Nat, k ≤ zer N ∧ OwnB W w.heap.size v (zs ++ 128 :: List.replicate k 0) ∧ Below w.heap.size w W) (fun v _ => (120 - lenN v % 64) % 64)
  case atStart => exact ⟨0, Nat.zero_le _, by simpa using hown2, U⟩
  case round =>
    obtain ⟨k, hk, hown, hb⟩ := hrel
    have hbs := hb.size
    clear hown2 U
    obtain ⟨va, vc, rfl, _, _⟩ := hown.shape
    have HSU := Lib.hid (rep_succ zs k)
    have hzd : zer N = (119 - N % 64) % 64 := rfl
    obtain ⟨X, HX, HL⟩ : ∃ X, Hid (zs ++ 128 :: List.replicate k 0 = X) ∧ Hid (X.length = N + 1 + k) := ⟨_, Lib.hid rfl, Lib.hid (by rw [padk_len, HN.out])⟩
    rw [HX.out] at hown HSU ⊢
    obtain ⟨L, HL2⟩ : ∃ L, Hid (X.length = L) := ⟨_, Lib.hid rfl⟩
    rw [HL2.out] at hown ⊢
    have HLK : Hid (L = N + 1 + k) := Lib.hid (by rw [← HL2.out, HL.out])
    obtain ⟨q, HQ⟩ : ∃ q, Hid (L % 64 = q) := ⟨_, Lib.hid rfl⟩
    have hmod : (L : Int).tmod 64 = (q : Int) := by rw [← HQ.out]; rfl
    by_cases hlt : k < zer N
    · have hne : ((q : Int) != 56) = true := by have := HQ.out; have := HLK.out; simp; omega
      have hz : zer N < 64 := by omega
      clear hzd
      go_wp2_with (at_builtin; refine wpList_putB (x := 0) hown rfl hbs (by have := HL2.out; have := HLK.out; omega) rfl _ _ rfl rfl rfl ?_; intro v5 w5 hown5 hbel5)
      go_roundw
      case rel => exact ⟨k + 1, by omega, by rw [← HSU.out]; exact hown5, hb.trans hbel5⟩
      case measure =>
        obtain ⟨va5, vc5, rfl, _, _⟩ := hown5.shape
        have h5 : (X ++ [0]).length = L + 1 := by rw [List.length_append, HL2.out]; rfl
        rw [h5]
        have hne' : q ≠ 56 := by intro h; subst h; simp at hne
        have hq := HQ.out
        simp [lenN]
        omega
    · have hkz : k = zer N := by omega
      have hne : ((q : Int) != 56) = false := by have := HQ.out; have := HLK.out; simp; omega
      subst hkz
      have HP : Hid (X ++ be64 (8 * N) = pad zs) := Lib.hid (by rw [← HX.out]; exact HPZ.out)
      have hXl : L ≤ 1000100 := by have := HLK.out; omega
      clear hzd
      go_wp2_with fail
      clear hk hlt hne hmod
      go_loopw [3, 5] (fun v i W => ∃ j : Nat, j ≤ 8 ∧ i = .int .i64 (j : Int) ∧ OwnB W w.heap.size v (X ++ (be64 (8 * N)).take j) ∧ Below w.heap.size w W) (fun _ i _ => 8 - (intOf i).toNat)
      case atStart => exact ⟨0, by omega, rfl, by rw [List.take_zero, List.append_nil]; unfold OwnB; rw [HL2.out]; exact (by have h := hown; unfold OwnB at h; rw [HL2.out] at h; exact h), hb⟩
      case round =>
        obtain ⟨j, hj, rfl, hown, hb⟩ := hrel
        have hbs := hb.size
        have hbl := be64_len (8 * N)
        by_cases hlt : j < 8
        · have HT := Lib.hid (be64_take (8 * N) j hlt)
          have hl : (X ++ (be64 (8 * N)).take j).length ≤ 1001000 := by rw [List.length_append, List.length_take, HL2.out]; omega
          obtain ⟨I, HI⟩ : ∃ I, Hid (8 * j = I) := ⟨_, Lib.hid rfl⟩
          obtain ⟨S, HS⟩ : ∃ S, Hid (56 - 8 * j = S) := ⟨_, Lib.hid rfl⟩
          rw [HS.out] at HT
          have hI : (8 : Int) * (j : Int) = (I : Int) := by have := HI.out; omega
          have hS : (56 : Int) - (I : Int) = (S : Int) := by have := HI.out; have := HS.out; omega
          have hI2 : I ≤ 56 := by have := HI.out; omega
          have hS2 : S ≤ 56 := by have := HS.out; omega
          have hji : (j : Int) < 8 := by omega
          have he : (8 * (N : Int)) / 2 ^ S % 256 = ((8 * N / 2 ^ S % 256 : Nat) : Int) := by simp
          have HE := Lib.hid he
          clear he hbl
          go_wp2_with (at_builtin; refine wpList_putB (x := 8 * N / 2 ^ S % 256) hown (by first | exact HE.out | (simp; done)) hbs (by omega) rfl _ _ rfl rfl rfl ?_; intro v5 w5 hown5 hbel5)
          go_roundw
          case rel => exact ⟨j + 1, by omega, by go_num, by rw [HT.out, ← List.append_assoc]; exact hown5, hb.trans hbel5⟩
          case measure => simp [intOf]; omega
        · have hj8 : j = 8 := by omega
          subst hj8
          rw [List.take_of_length_le (by omega), HP.out] at hown
          go_wp2_with fail
          go_ret
          exact ⟨_, rfl, hown, hb⟩
theorem rpadded_any (A : Option Addr) (m cap : Nat) (zs : List Nat) (w : World) (hm : m = zs.length) (hr : Rd w w.heap.size A (bs zs)) (hsz : zs.length ≤ 1000000) :
    Calls Tryd.prog 37 #[.slice A m cap] w fun e w' => ∃ v', e = .returned v' ∧ OwnB w' w.heap.size v' (pad zs) ∧ Below w.heap.size w w' := by
  subst hm
  exact rpadded_aux A zs.length cap zs w (Lib.hid rfl) hr hsz
end Go.Proofs.YtoopilemlgamkaaDoor
