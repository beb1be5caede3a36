import Derived.Test.YtfbookfaodfmdaaDoorLG5
set_option linter.unusedVariables false
set_option linter.unusedSimpArgs false
namespace Go.Proofs.YtfbookfaodfmdaaDoor
open Go.RowKit

def exA : List (List Nat × List Nat) := [([102], []), ([40], []), ([97], []), ([41], [])]
def exB : List (List Nat × List Nat) := [([97], []), ([61, 61], []), ([45], []), ([49], [])]
def exU : List ByteArray := [⟨#[102]⟩, ⟨#[40]⟩, ⟨#[97]⟩, ⟨#[44]⟩, ⟨#[98]⟩, ⟨#[41]⟩, ⟨#[46]⟩, ⟨#[120]⟩]
def exV : List ByteArray := [⟨#[]⟩, ⟨#[32]⟩, ⟨#[]⟩, ⟨#[]⟩, ⟨#[32]⟩, ⟨#[]⟩, ⟨#[]⟩, ⟨#[]⟩, ⟨#[]⟩]
theorem exA_sc : SC (sb ⟨#[102, 40, 97, 41, 32, 35, 32, 120]⟩) = (exA, [32, 35, 32, 120], -1) := by decide +kernel
theorem exB_sc : SC (sb ⟨#[97, 61, 61, 45, 49]⟩) = (exB, [], -1) := by decide +kernel
theorem exC_sc : SC (sb ⟨#[97, 32, 63, 32, 98]⟩) = ([], [], 2) := by decide +kernel
theorem exU_us : usl exU = exV := by decide +kernel
theorem exW1 : wrd ⟨#[97, 49]⟩ = true := by decide +kernel
theorem exW2 : wrd ⟨#[49, 97]⟩ = false := by decide +kernel
theorem exW3 : wrd ⟨#[105, 102]⟩ = false := by decide +kernel
theorem scan_lit {s : ByteArray} {T : List (List Nat × List Nat)} {e : List Nat} {n : Int} {k : Nat} {E : ByteArray} (hs : s.size ≤ 100) (h : SC (sb s) = (T, e, n)) (hk' : T.length = k) (hE : mkS e = E) (w : World) (hk : Kx w) :
    Calls Tryd.prog 11 #[.string s] w fun x w' => ∃ A c, x = .returned (.tuple #[.slice A k c, .string E, .int .i64 n]) ∧ Rd w' w'.heap.size A (tv T) ∧ Below w.heap.size w w' := by
  subst hE
  refine (Scan_any s (by omega) w hk).mono ?_
  rw [h]
  rintro x w' ⟨v, rfl, ho, hb⟩
  obtain ⟨A, c, rfl, _, _, hr⟩ := ho.shape
  rw [hk']
  exact ⟨A, c, rfl, hr, hb⟩

theorem alloc_size1 (w : World) (o : Obj) : (w.alloc o).heap.size = w.heap.size + 1 := by simp
set_option maxHeartbeats 4000000 in
set_option maxRecDepth 100000 in
theorem lives_any (w : World) (hk : Kx w) :
    Calls Tryd.prog 15 #[] w fun e w' => e = .returned (.bool true) ∧ Below w.heap.size w w' := by
  have HS1 : Hid (∀ W, Kx W → Calls Tryd.prog 11 #[.string ⟨#[102, 40, 97, 41, 32, 35, 32, 120]⟩] W fun x w' => ∃ A c, x = .returned (.tuple #[.slice A 4 c, .string ⟨#[32, 35, 32, 120]⟩, .int .i64 (-1)]) ∧ Rd w' w'.heap.size A (tv exA) ∧ Below W.heap.size W w') := Lib.hid fun W hW => scan_lit (by decide) exA_sc rfl rfl W hW
  have HS2 : Hid (∀ W, Kx W → Calls Tryd.prog 11 #[.string ⟨#[97, 61, 61, 45, 49]⟩] W fun x w' => ∃ A c, x = .returned (.tuple #[.slice A 4 c, .string ⟨#[]⟩, .int .i64 (-1)]) ∧ Rd w' w'.heap.size A (tv exB) ∧ Below W.heap.size W w') := Lib.hid fun W hW => scan_lit (by decide) exB_sc rfl rfl W hW
  have HS3 : Hid (∀ W, Kx W → Calls Tryd.prog 11 #[.string ⟨#[97, 32, 63, 32, 98]⟩] W fun x w' => ∃ A c, x = .returned (.tuple #[.slice A 0 c, .string ⟨#[]⟩, .int .i64 2]) ∧ Rd w' w'.heap.size A (tv []) ∧ Below W.heap.size W w') := Lib.hid fun W hW => scan_lit (by decide) exC_sc rfl rfl W hW
  have HU : Hid (∀ W : World, Calls Tryd.prog 25 #[.slice (some ⟨W.heap.size, 0, none⟩) 8 8] (W.alloc (.cells #[.string ⟨#[102]⟩, .string ⟨#[40]⟩, .string ⟨#[97]⟩, .string ⟨#[44]⟩, .string ⟨#[98]⟩, .string ⟨#[41]⟩, .string ⟨#[46]⟩, .string ⟨#[120]⟩] 9)) fun e w' => ∃ A, e = .returned (.slice A 9 9) ∧ Rd w' w'.heap.size A (ss exV) ∧ Below W.heap.size W w') := Lib.hid fun W => by
    have hn := heap_alloc_new W (.cells #[.string ⟨#[102]⟩, .string ⟨#[40]⟩, .string ⟨#[97]⟩, .string ⟨#[44]⟩, .string ⟨#[98]⟩, .string ⟨#[41]⟩, .string ⟨#[46]⟩, .string ⟨#[120]⟩] 9)
    refine (Usual_any 8 8 _ exU _ rfl (by decide) (Rd.row (xs := ss exU) hn)).mono ?_
    rintro e w' ⟨rfl, ho, hb⟩
    rw [exU_us] at ho
    exact ⟨_, rfl, Rd.own ho, later (new_later W _) hb⟩
  have HT : Hid (∀ (W : World) (A : Option Addr) (c : Nat), Rd W W.heap.size A (tv exA) → Calls Tryd.prog 36 #[.slice A 4 c] W fun e w' => ∃ A' c', e = .returned (.slice A' 4 c') ∧ Rd w' w'.heap.size A' (ss [⟨#[102]⟩, ⟨#[40]⟩, ⟨#[97]⟩, ⟨#[41]⟩]) ∧ Below W.heap.size W w') := Lib.hid fun W A c hr => by
    refine (texts_any 4 c 0 A exA W rfl (by decide) hr).mono ?_
    rintro e w' ⟨v, rfl, ho, hb⟩
    obtain ⟨A', c', rfl, _, _, hr'⟩ := ho.shape
    exact ⟨A', c', rfl, hr', hb⟩
  have HT2 : Hid (∀ (W : World) (A : Option Addr) (c : Nat), Rd W W.heap.size A (tv exB) → Calls Tryd.prog 36 #[.slice A 4 c] W fun e w' => ∃ A' c', e = .returned (.slice A' 4 c') ∧ Rd w' w'.heap.size A' (ss [⟨#[97]⟩, ⟨#[61, 61]⟩, ⟨#[45]⟩, ⟨#[49]⟩]) ∧ Below W.heap.size W w') := Lib.hid fun W A c hr => by
    refine (texts_any 4 c 0 A exB W rfl (by decide) hr).mono ?_
    rintro e w' ⟨v, rfl, ho, hb⟩
    obtain ⟨A', c', rfl, _, _, hr'⟩ := ho.shape
    exact ⟨A', c', rfl, hr', hb⟩
  have HM1 : Hid (∀ (W : World) (A : Option Addr) (c : Nat), Rd W W.heap.size A (ss [⟨#[102]⟩, ⟨#[40]⟩, ⟨#[97]⟩, ⟨#[41]⟩]) → Calls Tryd.prog 24 #[.slice A 4 c, .slice (some ⟨W.heap.size, 0, none⟩) 4 4] (W.alloc (.cells #[.string ⟨#[102]⟩, .string ⟨#[40]⟩, .string ⟨#[97]⟩, .string ⟨#[41]⟩] 9)) fun e w' => e = .returned (.bool true) ∧ Below W.heap.size W w') := Lib.hid fun W A c hr => by
    have hn := heap_alloc_new W (.cells #[.string ⟨#[102]⟩, .string ⟨#[40]⟩, .string ⟨#[97]⟩, .string ⟨#[41]⟩] 9)
    refine (SameTexts_any 4 4 _ c 4 A _ [⟨#[102]⟩, ⟨#[40]⟩, ⟨#[97]⟩, ⟨#[41]⟩] [⟨#[102]⟩, ⟨#[40]⟩, ⟨#[97]⟩, ⟨#[41]⟩] _ rfl rfl (hr.later (new_later W _)) (Rd.row hn) (by decide)).mono ?_
    rintro e w' ⟨rfl, k, rfl⟩
    exact ⟨by simp, below_drewN (new_later W _) k⟩
  have HM2 : Hid (∀ (W : World) (A : Option Addr) (c : Nat), Rd W W.heap.size A (ss [⟨#[97]⟩, ⟨#[61, 61]⟩, ⟨#[45]⟩, ⟨#[49]⟩]) → Calls Tryd.prog 24 #[.slice A 4 c, .slice (some ⟨W.heap.size, 0, none⟩) 4 4] (W.alloc (.cells #[.string ⟨#[97]⟩, .string ⟨#[61, 61]⟩, .string ⟨#[45]⟩, .string ⟨#[49]⟩] 9)) fun e w' => e = .returned (.bool true) ∧ Below W.heap.size W w') := Lib.hid fun W A c hr => by
    have hn := heap_alloc_new W (.cells #[.string ⟨#[97]⟩, .string ⟨#[61, 61]⟩, .string ⟨#[45]⟩, .string ⟨#[49]⟩] 9)
    refine (SameTexts_any 4 4 _ c 4 A _ [⟨#[97]⟩, ⟨#[61, 61]⟩, ⟨#[45]⟩, ⟨#[49]⟩] [⟨#[97]⟩, ⟨#[61, 61]⟩, ⟨#[45]⟩, ⟨#[49]⟩] _ rfl rfl (hr.later (new_later W _)) (Rd.row hn) (by decide)).mono ?_
    rintro e w' ⟨rfl, k, rfl⟩
    exact ⟨by simp, below_drewN (new_later W _) k⟩
  have HM3 : Hid (∀ (W : World) (A A' : Option Addr), Rd W W.heap.size A (ss exV) → Rd W W.heap.size A' (ss exV) → Calls Tryd.prog 24 #[.slice A 9 9, .slice A' 9 9] W fun e w' => e = .returned (.bool true) ∧ Below W.heap.size W w') := Lib.hid fun W A A' hr hr' => by
    refine (SameTexts_any 9 9 _ 9 9 A A' exV exV _ rfl rfl hr hr' (by decide)).mono ?_
    rintro e w' ⟨rfl, k, rfl⟩
    exact ⟨by simp, below_drewN (Below.refl _ W) k⟩
  have HW1 : Hid (∀ W, Kx W → Calls Tryd.prog 19 #[.string ⟨#[97, 49]⟩] W fun e w' => e = .returned (.bool true) ∧ w' = W) := Lib.hid fun W hW => by have h := Word_any ⟨#[97, 49]⟩ W hW; rwa [exW1] at h
  have HW2 : Hid (∀ W, Kx W → Calls Tryd.prog 19 #[.string ⟨#[49, 97]⟩] W fun e w' => e = .returned (.bool false) ∧ w' = W) := Lib.hid fun W hW => by have h := Word_any ⟨#[49, 97]⟩ W hW; rwa [exW2] at h
  have HW3 : Hid (∀ W, Kx W → Calls Tryd.prog 19 #[.string ⟨#[105, 102]⟩] W fun e w' => e = .returned (.bool false) ∧ w' = W) := Lib.hid fun W hW => by have h := Word_any ⟨#[105, 102]⟩ W hW; rwa [exW3] at h
  have HK := Lib.hid hk
  have HL : Hid (∀ (W : World) (A : Option Addr), Rd W W.heap.size A (tv exA) → ∃ b o, A = some ⟨b, o, none⟩ ∧ ∀ W', Below W.heap.size W W' → W'.cell? ⟨b, o + 2 + 1, none⟩ = some (.string ⟨#[]⟩)) := Lib.hid fun W A hr => by
    obtain ⟨b, o, h1, h2, _, h3⟩ := tok_at hr 1 (by decide)
    exact ⟨b, o, h1, fun W' hW => (hW.cell h2).trans h3⟩
  have HV : Hid (∀ W : World, Rd (W.alloc (.cells #[.string ⟨#[]⟩, .string ⟨#[32]⟩, .string ⟨#[]⟩, .string ⟨#[]⟩, .string ⟨#[32]⟩, .string ⟨#[]⟩, .string ⟨#[]⟩, .string ⟨#[]⟩, .string ⟨#[]⟩] 9)) (W.heap.size + 1) (some ⟨W.heap.size, 0, none⟩) (ss exV)) := Lib.hid fun W => by
    have h := Rd.row (xs := ss exV) (heap_alloc_new W (.cells #[.string ⟨#[]⟩, .string ⟨#[32]⟩, .string ⟨#[]⟩, .string ⟨#[]⟩, .string ⟨#[32]⟩, .string ⟨#[]⟩, .string ⟨#[]⟩, .string ⟨#[]⟩, .string ⟨#[]⟩] 9))
    simpa using h
  clear hk
  go_enter Tryd.func15, Tryd.ntmps15
  go_upto_region 5 with (first
    | (go_at_call 11; (with_reducible refine (HS1.out _ HK.out).mono ?_); rintro e w1 ⟨A1, c1, rfl, hr1, hb1⟩; have HR1 := Lib.hid hr1; have HV1 := Lib.hid hb1; have HK1 := Lib.hid (HK.out.later hb1); clear hr1 hb1)
    | (go_at_call 11; (with_reducible refine (HS2.out _ HK1.out).mono ?_); rintro e w2 ⟨A2, c2, rfl, hr2, hb2⟩; have HR2 := Lib.hid hr2; have HV2 := Lib.hid (later HV1.out hb2); have HK2 := Lib.hid (HK1.out.later hb2); have HB12 := Lib.hid hb2; clear hr2 hb2)
    | (go_at_call 11; (with_reducible refine (HS3.out _ HK2.out).mono ?_); rintro e w3 ⟨A3, c3, rfl, hr3, hb3⟩; have HV3 := Lib.hid (later HV2.out hb3); have HK3 := Lib.hid (HK2.out.later hb3); have HB23 := Lib.hid hb3; clear hr3 hb3)
    | (go_at_call 25; (with_reducible refine (HU.out _).mono ?_); rintro e w4 ⟨A4, rfl, hr4, hb4⟩; have HR4 := Lib.hid hr4; have HV4 := Lib.hid (later HV3.out hb4); have HK4 := Lib.hid (HK3.out.later hb4); have HB34 := Lib.hid hb4; clear hr4 hb4))
  have hr5 := HV.out w4
  have hV5 := new_later w4 (.cells #[.string ⟨#[]⟩, .string ⟨#[32]⟩, .string ⟨#[]⟩, .string ⟨#[]⟩, .string ⟨#[32]⟩, .string ⟨#[]⟩, .string ⟨#[]⟩, .string ⟨#[]⟩, .string ⟨#[]⟩] 9)
  have hs5 : (w4.alloc (.cells #[.string ⟨#[]⟩, .string ⟨#[32]⟩, .string ⟨#[]⟩, .string ⟨#[]⟩, .string ⟨#[32]⟩, .string ⟨#[]⟩, .string ⟨#[]⟩, .string ⟨#[]⟩, .string ⟨#[]⟩] 9)).heap.size = w4.heap.size + 1 := alloc_size1 _ _
  rw [← hs5] at hr5
  clear hs5
  go_upto_region 6 with fail
  generalize w4.alloc (.cells #[.string ⟨#[]⟩, .string ⟨#[32]⟩, .string ⟨#[]⟩, .string ⟨#[]⟩, .string ⟨#[32]⟩, .string ⟨#[]⟩, .string ⟨#[]⟩, .string ⟨#[]⟩, .string ⟨#[]⟩] 9) = w5 at hr5 hV5 ⊢
  generalize w4.heap.size = g4 at hr5 ⊢
  have HR5 := Lib.hid hr5
  have HB45 := Lib.hid hV5
  obtain ⟨b, o, rfl, hl1⟩ := HL.out w1 A1 HR1.out
  have HL1 := Lib.hid hl1
  have HB15 := Lib.hid (later (later (later HB12.out HB23.out) HB34.out) hV5)
  have HB25 := Lib.hid (later (later HB23.out HB34.out) hV5)
  have HV5 := Lib.hid (later HV4.out hV5)
  have HK5 := Lib.hid (HK4.out.later hV5)
  have HR1' := Lib.hid (HR1.out.later HB15.out)
  clear hr5 hV5 hl1
  go_upto_region 7 with (first
    | (go_at_call 36; (with_reducible refine (HT.out _ _ _ HR1'.out).mono ?_); rintro e w6 ⟨A6, c6, rfl, hr6, hb6⟩; have HR6 := Lib.hid hr6; have HB6 := Lib.hid hb6; clear hr6 hb6)
    | (go_at_call 24; (with_reducible refine (HM1.out _ _ _ HR6.out).mono ?_); rintro e w7 ⟨rfl, hb7⟩; have hcl := HL1.out _ (later (later HB15.out HB6.out) hb7); have HB57 := Lib.hid (later HB6.out hb7); clear hb7))
  clear hcl
  have HR2' := Lib.hid (HR2.out.later (later HB25.out HB57.out))
  go_upto_region 8 with (first
    | (go_at_call 36; (with_reducible refine (HT2.out _ _ _ HR2'.out).mono ?_); rintro e w8 ⟨A8, c8, rfl, hr8, hb8⟩; have HR8 := Lib.hid hr8; have HB8 := Lib.hid hb8; clear hr8 hb8)
    | (go_at_call 24; (with_reducible refine (HM2.out _ _ _ HR8.out).mono ?_); rintro e w9 ⟨rfl, hb9⟩; have HB59 := Lib.hid (later (later HB57.out HB8.out) hb9); clear hb9))
  have HR9 := Lib.hid (HR4.out.later (later HB45.out HB59.out))
  have HR9' := Lib.hid (HR5.out.later HB59.out)
  have HK9 := Lib.hid (HK5.out.later HB59.out)
  have HV9 := Lib.hid (later HV5.out HB59.out)
  go_wp2_with (first
    | (go_at_call 24; (with_reducible refine (HM3.out _ _ _ HR9.out HR9'.out).mono ?_); rintro e w10 ⟨rfl, hb10⟩; have HK10 := Lib.hid (HK9.out.later hb10); have HV10 := Lib.hid (later HV9.out hb10); clear hb10)
    | (go_at_call 19; (with_reducible refine (HW1.out _ HK10.out).mono ?_); rintro e w11 ⟨rfl, hw⟩; rw [hw]; clear hw)
    | (go_at_call 19; (with_reducible refine (HW2.out _ HK10.out).mono ?_); rintro e w11 ⟨rfl, hw⟩; rw [hw]; clear hw)
    | (go_at_call 19; (with_reducible refine (HW3.out _ HK10.out).mono ?_); rintro e w11 ⟨rfl, hw⟩; rw [hw]; clear hw))
  go_ret
  exact ⟨rfl, HV10.out⟩
end Go.Proofs.YtfbookfaodfmdaaDoor
