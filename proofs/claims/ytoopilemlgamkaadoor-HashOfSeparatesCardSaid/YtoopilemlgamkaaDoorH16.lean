import Derived.Test.YtoopilemlgamkaaDoorH15
set_option linter.unusedVariables false
set_option linter.unusedSimpArgs false
namespace Go.Proofs.YtoopilemlgamkaaDoor
open Go.RowKit

set_option maxHeartbeats 4000000 in
set_option maxRecDepth 100000 in
theorem sanity_aux (Z1 Z2 Z3 : List Nat) (w : World) (hk : Kc w) (H1 : Hid (sha [97, 98, 99] = Z1)) (H2 : Hid (mac (sb ⟨#[74, 101, 102, 101]⟩) (sb ⟨#[119, 104, 97, 116, 32, 100, 111, 32, 121, 97, 32, 119, 97, 110, 116, 32, 102, 111, 114, 32, 110, 111, 116, 104, 105, 110, 103, 63]⟩) = Z2)) (H3 : Hid ((sha [8, 129, 1, 97, 128]).take 16 = Z3)) :
    Calls Tryd.prog 13 #[] w fun e w' => e = .returned (.bool true) ∧ Below w.heap.size w w' := by
  have CS : Hid (∀ W, Below w.heap.size w W → Calls Tryd.prog 14 #[.slice (some ⟨W.heap.size, 0, none⟩) 3 3] (W.alloc (.cells #[.int .u8 97, .int .u8 98, .int .u8 99] 5 (3, 4))) fun e w' => e = .returned (.agg (bs Z1).toArray) ∧ Below W.heap.size W w') := fun W hW => by
    have h := q_sum W (hk.later hW); rw [H1.out] at h; exact h
  have CA1 : Hid (∀ W, Below w.heap.size w W → Calls Tryd.prog 18 #[.agg (stm []).toArray, .string ⟨#[97]⟩] W fun e w' => e = .returned (.agg (stm [97]).toArray) ∧ Below W.heap.size W w') := fun W hW => add_call [] [97] (by unfold AllB; decide) (by unfold AllB; decide) W (hk.later hW) (by decide)
  have CA2 : Hid (∀ W, Below w.heap.size w W → Calls Tryd.prog 18 #[.agg (stm [97]).toArray, .string ⟨#[98, 99]⟩] W fun e w' => e = .returned (.agg (stm [97, 98, 99]).toArray) ∧ Below W.heap.size W w') := fun W hW => add_call [97] [98, 99] (by unfold AllB; decide) (by unfold AllB; decide) W (hk.later hW) (by decide)
  have CSS : Hid (∀ W, Below w.heap.size w W → Calls Tryd.prog 20 #[.agg (stm [97, 98, 99]).toArray] W fun e w' => e = .returned (.agg (bs Z1).toArray) ∧ Below W.heap.size W w') := fun W hW => by
    have h := ssum_any [97, 98, 99] (by unfold AllB; decide) W (hk.later hW) (by decide); rw [H1.out] at h; exact h
  have CO : Hid (∀ W, Below w.heap.size w W → Calls Tryd.prog 24 #[.int .i64 8, .slice (some ⟨W.heap.size, 0, none⟩) 2 2] (W.alloc (.cells #[.string ⟨#[97]⟩, .string ⟨#[]⟩] 9)) fun e w' => e = .returned (.agg (bs Z3).toArray) ∧ Below W.heap.size W w') := fun W hW => by
    have h := q_of W (hk.later hW); rw [H3.out] at h; exact h
  have CM : Hid (∀ W, Below w.heap.size w W → Calls Tryd.prog 21 #[.string ⟨#[74, 101, 102, 101]⟩, .string ⟨#[119, 104, 97, 116, 32, 100, 111, 32, 121, 97, 32, 119, 97, 110, 116, 32, 102, 111, 114, 32, 110, 111, 116, 104, 105, 110, 103, 63]⟩] W fun e w' => e = .returned (.string (mkS Z2)) ∧ Below W.heap.size W w') := fun W hW => by
    have h := mac_any ⟨#[74, 101, 102, 101]⟩ ⟨#[119, 104, 97, 116, 32, 100, 111, 32, 121, 97, 32, 119, 97, 110, 116, 32, 102, 111, 114, 32, 110, 111, 116, 104, 105, 110, 103, 63]⟩ W (hk.later hW) (by decide) (by decide); rw [H2.out] at h; exact h
  have CE1 : Hid (∀ W, Calls Tryd.prog 27 #[.string ⟨#[97, 98]⟩, .string ⟨#[97, 98]⟩] W fun e w' => e = .returned (.bool true) ∧ Below W.heap.size W w') := fun W => q_eq ⟨#[97, 98]⟩ ⟨#[97, 98]⟩ true W (by decide) (by decide)
  have CE2 : Hid (∀ W, Calls Tryd.prog 27 #[.string ⟨#[97, 98]⟩, .string ⟨#[97, 99]⟩] W fun e w' => e = .returned (.bool false) ∧ Below W.heap.size W w') := fun W => q_eq ⟨#[97, 98]⟩ ⟨#[97, 99]⟩ false W (by decide) (by decide)
  have CE3 : Hid (∀ W, Calls Tryd.prog 27 #[.string ⟨#[]⟩, .string ⟨#[97]⟩] W fun e w' => e = .returned (.bool false) ∧ Below W.heap.size W w') := fun W => q_eq ⟨#[]⟩ ⟨#[97]⟩ false W (by decide) (by decide)
  have hl1 : Z1.length = 32 := by rw [← H1.out, sha_len]
  have hl2 : Z2.length = 32 := by rw [← H2.out]; exact sha_len _
  have hl3 : Z3.length = 16 := by rw [← H3.out, List.length_take, sha_len]; rfl
  have CB1 : Hid (∀ W, Calls Tryd.prog 23 #[.agg (bs Z1).toArray] W fun e w' => e = .returned (.string (mkS Z1)) ∧ Below W.heap.size W w') := fun W => bytes32_any Z1 hl1 W
  have CB3 : Hid (∀ W, Calls Tryd.prog 36 #[.agg (bs Z3).toArray] W fun e w' => e = .returned (.string (mkS Z3)) ∧ Below W.heap.size W w') := fun W => text_any Z3 hl3 W
  have CH1 : Hid (∀ W, Calls Tryd.prog 35 #[.string (mkS Z1)] W fun e w' => e = .returned (.string ⟨#[98, 97, 55, 56, 49, 54, 98, 102, 56, 102, 48, 49, 99, 102, 101, 97, 52, 49, 52, 49, 52, 48, 100, 101, 53, 100, 97, 101, 50, 50, 50, 51, 98, 48, 48, 51, 54, 49, 97, 51, 57, 54, 49, 55, 55, 97, 57, 99, 98, 52, 49, 48, 102, 102, 54, 49, 102, 50, 48, 48, 49, 53, 97, 100]⟩) ∧ Below W.heap.size W w') := fun W => q_hex Z1 [98, 97, 55, 56, 49, 54, 98, 102, 56, 102, 48, 49, 99, 102, 101, 97, 52, 49, 52, 49, 52, 48, 100, 101, 53, 100, 97, 101, 50, 50, 50, 51, 98, 48, 48, 51, 54, 49, 97, 51, 57, 54, 49, 55, 55, 97, 57, 99, 98, 52, 49, 48, 102, 102, 54, 49, 102, 50, 48, 48, 49, 53, 97, 100] _ (by kernel_rfl) (by rw [← H1.out]; exact sha_abc) (by rw [← H1.out]; exact sha_all _) (by omega) W
  have CH2 : Hid (∀ W, Calls Tryd.prog 35 #[.string (mkS Z2)] W fun e w' => e = .returned (.string ⟨#[53, 98, 100, 99, 99, 49, 52, 54, 98, 102, 54, 48, 55, 53, 52, 101, 54, 97, 48, 52, 50, 52, 50, 54, 48, 56, 57, 53, 55, 53, 99, 55, 53, 97, 48, 48, 51, 102, 48, 56, 57, 100, 50, 55, 51, 57, 56, 51, 57, 100, 101, 99, 53, 56, 98, 57, 54, 52, 101, 99, 51, 56, 52, 51]⟩) ∧ Below W.heap.size W w') := fun W => q_hex Z2 [53, 98, 100, 99, 99, 49, 52, 54, 98, 102, 54, 48, 55, 53, 52, 101, 54, 97, 48, 52, 50, 52, 50, 54, 48, 56, 57, 53, 55, 53, 99, 55, 53, 97, 48, 48, 51, 102, 48, 56, 57, 100, 50, 55, 51, 57, 56, 51, 57, 100, 101, 99, 53, 56, 98, 57, 54, 52, 101, 99, 51, 56, 52, 51] _ (by kernel_rfl) (by rw [← H2.out]; exact ex_mac) (by rw [← H2.out]; exact sha_all _) (by omega) W
  have CH3 : Hid (∀ W, Calls Tryd.prog 35 #[.string (mkS Z3)] W fun e w' => e = .returned (.string ⟨#[51, 54, 99, 100, 53, 48, 56, 53, 48, 51, 50, 57, 102, 56, 56, 52, 48, 54, 101, 51, 49, 98, 98, 56, 97, 55, 100, 56, 102, 98, 54, 50]⟩) ∧ Below W.heap.size W w') := fun W => q_hex Z3 [51, 54, 99, 100, 53, 48, 56, 53, 48, 51, 50, 57, 102, 56, 56, 52, 48, 54, 101, 51, 49, 98, 98, 56, 97, 55, 100, 56, 102, 98, 54, 50] _ (by kernel_rfl) (by rw [← H3.out]; exact ex_of) (by rw [← H3.out]; exact fun x hx => sha_all _ x (List.mem_of_mem_take hx)) (by omega) W
  have HQ : ∀ W, (Op.equalIn 10000 24 (.agg (bs Z1).toArray) (.agg (bs Z1).toArray)).run Tryd.prog W = .ok true W := fun W => by
    have h := run_eqSum W Z1 Z1 hl1 hl1
    rw [h]; simp
  have heg := eqg_sum
  have HL1 := Lib.hid (show (bs Z1).length = 32 by rw [bs_len, hl1])
  have HL3 := Lib.hid (show (bs Z3).length = 16 by rw [bs_len, hl3])
  have HR := Lib.hid (Below.refl w.heap.size w)
  clear hk H1 H2 H3 hl1 hl2 hl3
  have CB0 : Hid (∀ W, Calls Tryd.prog 17 #[] W fun e w' => e = .returned (.agg (stm []).toArray) ∧ Below W.heap.size W w') := fun W => begin_stm W
  have hcv := fun (w : World) (C : Array Value) (n c : Nat) => Lib.run_convert_bytes_const (P := Tryd.prog) w 22 5 C n c Tryd.underlying22 Tryd.underlying5
  generalize stm [] = S0 at *
  generalize stm [97] = S1 at *
  generalize stm [97, 98, 99] = S2 at *
  go_enter Tryd.func13, Tryd.ntmps13
  generalize (⟨#[98, 97, 55, 56, 49, 54, 98, 102, 56, 102, 48, 49, 99, 102, 101, 97, 52, 49, 52, 49, 52, 48, 100, 101, 53, 100, 97, 101, 50, 50, 50, 51, 98, 48, 48, 51, 54, 49, 97, 51, 57, 54, 49, 55, 55, 97, 57, 99, 98, 52, 49, 48, 102, 102, 54, 49, 102, 50, 48, 48, 49, 53, 97, 100]⟩ : ByteArray) = X1 at CH1 ⊢
  generalize (⟨#[53, 98, 100, 99, 99, 49, 52, 54, 98, 102, 54, 48, 55, 53, 52, 101, 54, 97, 48, 52, 50, 52, 50, 54, 48, 56, 57, 53, 55, 53, 99, 55, 53, 97, 48, 48, 51, 102, 48, 56, 57, 100, 50, 55, 51, 57, 56, 51, 57, 100, 101, 99, 53, 56, 98, 57, 54, 52, 101, 99, 51, 56, 52, 51]⟩ : ByteArray) = X2 at CH2 ⊢
  generalize (⟨#[51, 54, 99, 100, 53, 48, 56, 53, 48, 51, 50, 57, 102, 56, 56, 52, 48, 54, 101, 51, 49, 98, 98, 56, 97, 55, 100, 56, 102, 98, 54, 50]⟩ : ByteArray) = X3 at CH3 ⊢
  go_wp2_with (first
    | (refine wpList_eqlSum (.tmp 27) (.tmp 28) _ rfl (by rfl) (bs Z1).toArray (bs Z1).toArray (by rfl) (by rfl) true HQ ?_)
    | (go_at_call 14; refine (CS.out _ HR.out).mono ?_; rintro e w1 ⟨rfl, hb1⟩; have U : Below w.heap.size w w1 := hb1; clear hb1 CS)
    | (refine wpList_store_new rfl _ (.tmp 1) (.tmp 9) rfl rfl rfl info_sum HL1.out rfl (all_oneCell_toArray (bs_cell Z1)) ?_; intro w2 hbel2 hrow2 hsz2; have R1 : Arr w2 w1.heap.size 32 24 (bs Z1) := Arr.of_row hrow2 HL1.out (by decide); replace U := later U hbel2; clear hbel2 hrow2)
    | (go_at_call 17; refine (CB0.out _).mono ?_; rintro e w3 ⟨rfl, hb3⟩; replace U := later U hb3; replace R1 := R1.later hb3; clear hb3 CB0)
    | (go_at_call 18; with_reducible refine (CA1.out _ U).mono ?_; rintro e w4 ⟨rfl, hb4⟩; replace U := later U hb4; replace R1 := R1.later hb4; clear hb4 CA1)
    | (go_at_call 18; with_reducible refine (CA2.out _ U).mono ?_; rintro e w5 ⟨rfl, hb5⟩; replace U := later U hb5; replace R1 := R1.later hb5; clear hb5 CA2)
    | (go_at_call 20; with_reducible refine (CSS.out _ U).mono ?_; rintro e w6 ⟨rfl, hb6⟩; replace U := later U hb6; replace R1 := R1.later hb6; clear hb6 CSS)
    | (refine wpList_store_new rfl _ (.tmp 2) (.tmp 13) rfl rfl rfl info_sum HL1.out rfl (all_oneCell_toArray (bs_cell Z1)) ?_; intro w7 hbel7 hrow7 hsz7; have R2 : Arr w7 w6.heap.size 32 24 (bs Z1) := Arr.of_row hrow7 HL1.out (by decide); replace U := later U hbel7; replace R1 := R1.later hbel7; clear hbel7 hrow7)
    | (go_at_call 24; refine (CO.out _ U).mono ?_; rintro e w8 ⟨rfl, hb8⟩; replace U := later U hb8; replace R1 := R1.later hb8; replace R2 := R2.later hb8; clear hb8 CO)
    | (refine wpList_store_new rfl _ (.tmp 3) (.tmp 15) rfl rfl rfl info_dig HL3.out rfl (all_oneCell_toArray (bs_cell Z3)) ?_; intro w9 hbel9 hrow9 hsz9; have R3 : Arr w9 w8.heap.size 16 44 (bs Z3) := Arr.of_row hrow9 HL3.out (by decide); replace U := later U hbel9; replace R1 := R1.later hbel9; replace R2 := R2.later hbel9; clear hbel9 hrow9)
    | (go_at_call 21; refine (CM.out _ U).mono ?_; rintro e w10 ⟨rfl, hb10⟩; replace U := later U hb10; replace R1 := R1.later hb10; replace R2 := R2.later hb10; replace R3 := R3.later hb10; clear hb10 CM)
    | (go_at_call 27; with_reducible refine (CE1.out _).mono ?_; rintro e w11 ⟨rfl, hb11⟩; replace U := later U hb11; replace R1 := R1.later hb11; replace R2 := R2.later hb11; replace R3 := R3.later hb11; clear hb11 CE1)
    | (go_at_call 27; with_reducible refine (CE2.out _).mono ?_; rintro e w12 ⟨rfl, hb12⟩; replace U := later U hb12; replace R1 := R1.later hb12; replace R2 := R2.later hb12; replace R3 := R3.later hb12; clear hb12 CE2)
    | (go_at_call 27; with_reducible refine (CE3.out _).mono ?_; rintro e w13 ⟨rfl, hb13⟩; replace U := later U hb13; replace R1 := R1.later hb13; replace R2 := R2.later hb13; replace R3 := R3.later hb13; clear hb13 CE3)
    | (refine wpList_load_mid rfl _ (.tmp 1) rfl w1.heap.size 0 rfl (bs Z1) _ R1.range Tryd.underlying24 rfl (by rw [HL1.out]; exact info_sum) ?_)
    | (go_at_call 23; refine (CB1.out _).mono ?_; rintro e w14 ⟨rfl, hb14⟩; replace U := later U hb14; replace R1 := R1.later hb14; replace R2 := R2.later hb14; replace R3 := R3.later hb14; clear hb14 CB1)
    | (go_at_call 35; with_reducible refine (CH1.out _).mono ?_; rintro e w15 ⟨rfl, hb15⟩; replace U := later U hb15; replace R1 := R1.later hb15; replace R2 := R2.later hb15; replace R3 := R3.later hb15; clear hb15 CH1)
    | (refine wpList_load_guarded _ (.tmp 1) rfl rfl w1.heap.size 0 rfl (bs Z1) _ R1.range Tryd.underlying24 rfl (by rw [HL1.out]; exact info_sum) ?_)
    | (refine wpList_load_guarded _ (.tmp 2) rfl rfl w6.heap.size 0 rfl (bs Z1) _ R2.range Tryd.underlying24 rfl (by rw [HL1.out]; exact info_sum) ?_)
    | (go_at_call 35; with_reducible refine (CH2.out _).mono ?_; rintro e w16 ⟨rfl, hb16⟩; replace U := later U hb16; replace R3 := R3.later hb16; clear hb16 CH2)
    | (refine wpList_load_guarded _ (.tmp 3) rfl rfl w8.heap.size 0 rfl (bs Z3) _ R3.range Tryd.underlying44 rfl (by rw [HL3.out]; exact info_dig) ?_)
    | (go_at_call 36; refine (CB3.out _).mono ?_; rintro e w17 ⟨rfl, hb17⟩; replace U := later U hb17; clear hb17 CB3)
    | (go_at_call 35; with_reducible refine (CH3.out _).mono ?_; rintro e w18 ⟨rfl, hb18⟩; replace U := later U hb18; clear hb18 CH3))
  go_ret
  exact ⟨rfl, U⟩
theorem sanity_any (w : World) (hk : Kc w) : Calls Tryd.prog 13 #[] w fun e w' => e = .returned (.bool true) ∧ Below w.heap.size w w' :=
  sanity_aux _ _ _ w hk (Lib.hid rfl) (Lib.hid rfl) (Lib.hid rfl)
end Go.Proofs.YtoopilemlgamkaaDoor
