import Derived.Test.YtoopilemlgamkaaDoorG5
set_option linter.unusedVariables false
namespace Go.Proofs.YtoopilemlgamkaaDoor
open Go.RowKit

theorem OwnB.shape' {w : World} {base : Nat} {v : Value} {xs : List Nat} (h : OwnB w base v xs) : ∃ A n c, v = .slice A n c ∧ Hid (n = xs.length) := by
  obtain ⟨A, c, hv, _, _⟩ := h.shape
  exact ⟨A, _, c, hv, Lib.hid rfl⟩
set_option maxHeartbeats 1000000 in
set_option maxRecDepth 100000 in
theorem rmac_aux (key text : ByteArray) (X1 X2 S1 S2 : List Nat) (w : World) (hk : Kr w) (hks : key.size ≤ 100000) (hts : text.size ≤ 100000)
    (FP1 : Hid (∀ W, Kr W → Calls Tryd.prog 43 #[.string key, .int .u8 54] W fun e w' => ∃ v', e = .returned v' ∧ OwnB w' W.heap.size v' X1 ∧ Below W.heap.size W w'))
    (FP2 : Hid (∀ W, Kr W → Calls Tryd.prog 43 #[.string key, .int .u8 92] W fun e w' => ∃ v', e = .returned v' ∧ OwnB w' W.heap.size v' X2 ∧ Below W.heap.size W w'))
    (FS1 : Hid (∀ W A c n, Kr W → n = (X1 ++ sb text).length → Rd W W.heap.size A (bs (X1 ++ sb text)) → Calls Tryd.prog 15 #[.slice A n c] W fun e w' => e = .returned (.agg (bs S1).toArray) ∧ Below W.heap.size W w'))
    (FS2 : Hid (∀ W A c n, Kr W → n = (X2 ++ S1).length → Rd W W.heap.size A (bs (X2 ++ S1)) → Calls Tryd.prog 15 #[.slice A n c] W fun e w' => e = .returned (.agg (bs S2).toArray) ∧ Below W.heap.size W w'))
    (FB1 : Hid (∀ W, Calls Tryd.prog 23 #[.agg (bs S1).toArray] W fun e w' => e = .returned (.string (mkS S1)) ∧ Below W.heap.size W w'))
    (FB2 : Hid (∀ W, Calls Tryd.prog 23 #[.agg (bs S2).toArray] W fun e w' => e = .returned (.string (mkS S2)) ∧ Below W.heap.size W w'))
    (h1l : Hid (X1.length = 64)) (h2l : Hid (X2.length = 64)) (hS1 : Hid ((mkS S1).size = 32)) (hS1b : Hid (sb (mkS S1) = S1)) :
    Calls Tryd.prog 22 #[.string key, .string text] w fun e w' => e = .returned (.string (mkS S2)) ∧ Below w.heap.size w w' := by
  have HK := Lib.hid hk
  clear hk
  generalize hM1 : mkS S1 = M1 at FB1 hS1 hS1b
  generalize hM2 : mkS S2 = M2 at FB2 ⊢
  clear hM1 hM2
  generalize bs S1 = B1 at FS1 FB1
  generalize bs S2 = B2 at FS2 FB2
  go_enter Tryd.func22, Tryd.ntmps22
  go_wp2_with (first
    | (go_at_call 43; with_reducible refine (FP1.out _ HK.out).mono ?_; rintro e w1 ⟨v1, rfl, o1, b1⟩; have V1 : Below w.heap.size w w1 := b1; have z1 := b1.size; clear FP1 b1)
    | (at_builtin; refine wpList_putS o1 z1 (by rw [h1l.out]; omega) rfl _ _ rfl rfl rfl ?_; intro v2 w2 o2 b2; have V2 := V1.trans b2; have z2 := V2.size; clear o1 b2)
    | (go_at_call 43; with_reducible refine (FP2.out _ (HK.out.later V2)).mono ?_; rintro e w3 ⟨v3, rfl, o3, b3⟩; have V3 := later V2 b3; have z3 := b3.size; obtain ⟨A2, n2, c2, rfl, HN2⟩ := o2.shape'; have o2' := o2.below b3; clear FP2)
    | (go_at_call 15; with_reducible refine (FS1.out _ A2 c2 _ (HK.out.later V3) HN2.out o2'.rd).mono ?_; rintro e w4 ⟨rfl, b4⟩; have V4 := later V3 b4; have o4 := o3.below b4; have z4 := Nat.le_trans z3 b4.size; clear FS1 o2 o2' b4)
    | (go_at_call 23; with_reducible refine (FB1.out _).mono ?_; rintro e w5 ⟨rfl, b5⟩; have V5 := later V4 b5; have o5 := o4.below b5; have z5 := Nat.le_trans z4 b5.size; clear FB1 b5 o4)
    | (at_builtin; refine wpList_putS o5 z5 (by rw [h2l.out, hS1.out]; omega) rfl _ _ rfl rfl rfl ?_; intro v6 w6 o6 b6; rw [hS1b.out] at o6; obtain ⟨A6, n6, c6, rfl, HN6⟩ := o6.shape'; have V6 := V5.trans (b6.mono z2); clear o5)
    | (go_at_call 15; with_reducible refine (FS2.out _ A6 c6 _ (HK.out.later V6) HN6.out o6.rd).mono ?_; rintro e w7 ⟨rfl, b7⟩; have V7 := later V6 b7; clear FS2 o6 b7)
    | (go_at_call 23; with_reducible refine (FB2.out _).mono ?_; rintro e w8 ⟨rfl, b8⟩; have V8 := later V7 b8; clear FB2 b8))
  go_ret
  exact ⟨rfl, V8⟩
theorem rmac_any (key text : ByteArray) (w : World) (hk : Kr w) (hks : key.size ≤ 100000) (hts : text.size ≤ 100000) :
    Calls Tryd.prog 22 #[.string key, .string text] w fun e w' => e = .returned (.string (mkS (mac (sb key) (sb text)))) ∧ Below w.heap.size w w' := by
  have hKB : AllB (key64 (sb key)) := key64_all (sb_lt key)
  obtain ⟨X1, hX1⟩ : ∃ X, xorL (key64 (sb key)) 54 = X := ⟨_, rfl⟩
  obtain ⟨X2, hX2⟩ : ∃ X, xorL (key64 (sb key)) 92 = X := ⟨_, rfl⟩
  have l1 : X1.length = 64 := by rw [← hX1, xorL_len, key64_len]
  have l2 : X2.length = 64 := by rw [← hX2, xorL_len, key64_len]
  have a1 : AllB X1 := by rw [← hX1]; exact xorL_all hKB (by decide)
  have a2 : AllB X2 := by rw [← hX2]; exact xorL_all hKB (by decide)
  obtain ⟨S1, hS1⟩ : ∃ S, sha (X1 ++ sb text) = S := ⟨_, rfl⟩
  obtain ⟨S2, hS2⟩ : ∃ S, sha (X2 ++ S1) = S := ⟨_, rfl⟩
  have s1l : S1.length = 32 := by rw [← hS1]; exact sha_len _
  have s2l : S2.length = 32 := by rw [← hS2]; exact sha_len _
  have s1a : AllB S1 := by rw [← hS1]; exact sha_all _
  have hm : mac (sb key) (sb text) = S2 := by unfold mac; rw [hX1, hX2, hS1, hS2]
  rw [hm]
  refine rmac_aux key text X1 X2 S1 S2 w hk hks hts ?_ ?_ ?_ ?_ (Lib.hid fun W => bytes32_any S1 s1l W) (Lib.hid fun W => bytes32_any S2 s2l W) (Lib.hid l1) (Lib.hid l2) (Lib.hid (by rw [mkS_size, s1l])) (Lib.hid (sb_mkS S1 s1a))
  · exact Lib.hid fun W hW => by rw [← hX1]; exact rpadKey_any key 54 W (by decide) (by omega) hW
  · exact Lib.hid fun W hW => by rw [← hX2]; exact rpadKey_any key 92 W (by decide) (by omega) hW
  · exact Lib.hid fun W A c n hW hn hr => by rw [← hS1]; exact rsum_any A n c _ W hn hr (AllB.app a1 (sb_lt text)) (by rw [List.length_append, l1, sb_len]; omega) hW
  · exact Lib.hid fun W A c n hW hn hr => by rw [← hS2]; exact rsum_any A n c _ W hn hr (AllB.app a2 s1a) (by rw [List.length_append, l2, s1l]; omega) hW
end Go.Proofs.YtoopilemlgamkaaDoor
