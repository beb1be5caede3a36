import Derived.Test.YtbfoajfpnfkfnaaDoorHB
import Derived.Test.YtbfoajfpnfkfnaaDoorBase
import Derived.Test.YtbfoajfpnfkfnaaDoorPure
set_option linter.unusedVariables false
namespace Go.Proofs.YtbfoajfpnfkfnaaDoor
open Go.RowKit

theorem Int_any (n : Int) (w : World) (hlo : -9223372036854775808 ≤ n) (hhi : n ≤ 9223372036854775807) :
    Calls Tryd.prog 54 #[.int .i64 n] w fun e w' => ∃ v', e = .returned v' ∧ OwnB w' w.heap.size v' (enc n) ∧ Below w.heap.size w w' := by
  go_enter Tryd.func54, Tryd.ntmps54
  go_wp2_with (go_at_call 70; refine (appendInt_any w.heap.size _ [] n _ (Nat.le_refl _) hlo hhi (by simp) (OwnB.nil _ _)).mono ?_; rintro e w1 ⟨v1, rfl, hown, hbel⟩)
  go_ret
  exact ⟨_, rfl, hown, hbel⟩
/-- Integers as values. -/
def is (l : List Int) : List Value := l.map (Value.int .i64)
theorem is_get (l : List Int) (j : Nat) (h : j < l.length) : (is l)[j]? = some (.int .i64 (l[j]?.getD 0)) := by
  simp [is, List.getElem?_map, List.getElem?_eq_getElem h]

set_option maxHeartbeats 400000 in
set_option maxRecDepth 100000 in
theorem Ints_any (A : Option Addr) (m cap : Nat) (l : List Int) (w : World) (hm : m = l.length) (hr : Rd w w.heap.size A (is l)) (hin : ∀ n ∈ l, InR n) (hl : m ≤ 100000) :
    Calls Tryd.prog 67 #[.slice A m cap] w fun e w' => ∃ v', e = .returned v' ∧ OwnB w' w.heap.size v' (encL enc l) ∧ Below w.heap.size w w' := by
  have hpl : ∀ k, (part enc l k).length ≤ 9 + 9 * m := fun k => by rw [hm]; exact part_len_le enc 9 l k (fun x hx => (enc_len x (hin x hx)).2) (by omega)
  have hp0 := part_zero enc l
  have hpa := part_all enc l
  have hps := part_succ enc l
  rw [← hm] at hp0 hpa
  have HPL := Lib.hid hpl
  have HP0 := Lib.hid hp0
  have HPA := Lib.hid hpa
  have HPS := Lib.hid hps
  have HIN := Lib.hid hin
  have HM := Lib.hid hm
  clear hpl hp0 hpa hps hin hm
  go_enter Tryd.func67, Tryd.ntmps67
  go_wp2_with (go_at_call 54; refine (Int_any _ _ (by omega) (by omega)).mono ?_; rintro e w1 ⟨v1, rfl, hown1, hbel1⟩)
  go_loopw [3, 5, 11] (fun b _ i wr => ∃ k : Nat, k ≤ m ∧ i = .int .i64 (k : Int) ∧ OwnB wr w.heap.size b (part enc l k) ∧ Below w.heap.size w wr) (fun _ _ i _ => m - (intOf i).toNat)
  case atStart => exact ⟨0, Nat.zero_le _, rfl, by rw [HP0.out]; exact hown1, hbel1⟩
  case round =>
    obtain ⟨k, hk, rfl, hown2, hbel2⟩ := hrel
    clear hown1 hbel1
    have hbw := hbel2.size
    by_cases hlt : k < m
    · have hlt' : k < l.length := by have := HM.out; omega
      have hr2 := hr.below hbel2
      obtain ⟨b, o, rfl, _, hc⟩ := hr2.at_ (by intro h; have := congrArg List.length h; simp [is] at this; subst this; simp at hlt')
      have hcell := hc k _ (is_get l k hlt')
      have hin := HIN.out l[k] (List.getElem_mem hlt')
      have hN1 := hin.1
      have hN2 := hin.2
      have hpl := HPL.out k
      have HH := Lib.hid (HPS.out k hlt')
      clear hc hr hr2 hin
      rw [List.getElem?_eq_getElem hlt', Option.getD_some] at hcell
      generalize l[k] = N at hcell hN1 hN2 HH
      go_wp2_with (go_at_call 70; refine (appendInt_any w.heap.size _ _ N _ hbw hN1 hN2 (by omega) hown2).mono ?_; rintro e w3 ⟨v3, rfl, hown3, hbel3⟩)
      go_roundw
      case rel => exact ⟨k + 1, by omega, by go_num, by rw [HH.out]; exact hown3, hbel2.trans hbel3⟩
      case measure => simp [intOf]; omega
    · have hkm : k = m := by omega
      subst hkm
      rw [HPA.out] at hown2
      go_wp2
      go_ret
      exact ⟨_, rfl, hown2, hbel2⟩
theorem shl_or (m d : Nat) (D : Int) (hD : D = (d : Int)) (hm : m < 2 ^ 56) (hd : d < 256) : bits .or .u64 ((m : Int) * 256) D = ((256 * m + d : Nat) : Int) := by
  subst hD
  have e : (m : Int) * 256 = ((m * 256 : Nat) : Int) := by omega
  rw [e, u64_or_nat _ _ (by omega) (by omega), nat_join 8 (m * 256) d (by omega) (by omega)]
  congr 1
  omega

set_option maxHeartbeats 400000 in
set_option maxRecDepth 100000 in
theorem magnitude_any (B cap : Nat) (A : Option Addr) (zs : List Nat) (neg : Bool) (w : World) (hr : Rd w B A (bs zs)) (hb : ∀ d ∈ zs, d < 256) (hl : zs.length ≤ 8) :
    Calls Tryd.prog 72 #[.slice A zs.length cap, .bool neg] w fun e w' => e = .returned (.int .u64 (val (inv neg zs) : Int)) ∧ w = w' := by
  have HB := Lib.hid hb
  clear hb
  go_enter Tryd.func72, Tryd.ntmps72
  go_wp2
  go_loop [5, 7, 10] (fun m _ i => ∃ (k M : Nat), k ≤ zs.length ∧ i = .int .i64 (k : Int) ∧ m = .int .u64 (M : Int) ∧ M = val (inv neg (zs.take k))) (fun _ _ i => zs.length - (intOf i).toNat)
  case atStart => exact ⟨0, 0, Nat.zero_le _, rfl, rfl, by cases neg <;> rfl⟩
  case round =>
    obtain ⟨k, M, hk, rfl, rfl, hM⟩ := hrel
    by_cases hlt : k < zs.length
    · obtain ⟨b, o, rfl, _, hc⟩ := hr.at_ (by simp [bs]; intro h; rw [h] at hlt; simp at hlt)
      have hcell := hc k _ (bs_get zs k hlt)
      have hz : zs[k] < 256 := HB.out _ (List.getElem_mem hlt)
      have hM56 : M < 2 ^ 56 := by
        rw [hM]
        have h1 := inv_val_lt neg (zs.take k) (fun d hd => HB.out d (List.mem_of_mem_take hd))
        have h2 : (zs.take k).length ≤ 7 := by rw [List.length_take]; omega
        exact Nat.lt_of_lt_of_le h1 (by rw [show (2 : Nat) ^ 56 = 256 ^ 7 from by decide]; exact Nat.pow_le_pow_right (by omega) h2)
      have hnext := inv_snoc neg zs k hlt
      rw [← hM] at hnext
      have HN := Lib.hid hnext
      have HM := Lib.hid hM
      clear hc hnext hM hr
      cases neg
      · go_wp2
        go_round
        case rel => exact ⟨k + 1, _, by omega, by go_num, congrArg (Value.int .u64) (shl_or M zs[k] _ rfl hM56 hz), HN.out.symm⟩
        case measure => simp [intOf]; omega
      · go_wp2
        go_round
        case rel => exact ⟨k + 1, _, by omega, by go_num, congrArg (Value.int .u64) (shl_or M (255 - zs[k]) _ (by omega) hM56 (by omega)), HN.out.symm⟩
        case measure => simp [intOf]; omega
    · have hkl : k = zs.length := by omega
      subst hkl
      rw [List.take_length] at hM
      subst hM
      go_wp2
      go_ret
      exact ⟨rfl, rfl⟩
theorem magnitude_call (n B cap : Nat) (A : Option Addr) (zs : List Nat) (neg : Bool) (w : World) (hn : n = zs.length) (hr : Rd w B A (bs zs)) (hb : ∀ d ∈ zs, d < 256) (hl : zs.length ≤ 8) :
    Calls Tryd.prog 72 #[.slice A n cap, .bool neg] w fun e w' => e = .returned (.int .u64 (val (inv neg zs) : Int)) ∧ w = w' := by
  subst hn; exact magnitude_any B cap A zs neg w hr hb hl

def DecRes (w : World) (r : Int × Nat × Nat) (e : Ending) (w' : World) : Prop := e = .returned (.tuple #[.int .i64 r.1, .int .i64 (r.2.1 : Int), .int .i64 (r.2.2 : Int)]) ∧ ∃ k, w' = w.drewN k

theorem DecRes.mk {w : World} {r : Int × Nat × Nat} {a b c : Int} {k : Nat} (h : r = (a, b.toNat, c.toNat)) (hb : 0 ≤ b) (hc : 0 ≤ c) : DecRes w r (.returned (.tuple #[.int .i64 a, .int .i64 b, .int .i64 c])) (w.drewN k) := by
  subst h
  refine ⟨?_, k, rfl⟩
  simp [Int.toNat_of_nonneg hb, Int.toNat_of_nonneg hc]

set_option maxHeartbeats 400000 in
set_option maxRecDepth 100000 in
theorem getInt_pos (B b o cap h : Nat) (t : List Nat) (w : World) (hb : b < B) (hc : ∀ j u, (bs (h :: t))[j]? = some u → w.cell? ⟨b, o + j, none⟩ = some u) (hby : ∀ d ∈ t, d < 256) (hh : h < 256) (hh1 : 128 ≤ h)
    (hcap : t.length + 1 ≤ cap) (hcap2 : cap ≤ maxLen) :
    Calls Tryd.prog 56 #[.slice (some ⟨b, o, none⟩) (t.length + 1) cap] w (DecRes w (dec (h :: t))) := by
  have hc0 : w.cell? ⟨b, o, none⟩ = some (.int .u8 (h : Int)) := hc 0 _ rfl
  have HC := Lib.hid hc
  have HB := Lib.hid hby
  clear hc hby
  obtain ⟨K, hK⟩ : ∃ K : Nat, (h : Int) - 128 = (K : Int) := ⟨h - 128, by omega⟩
  have hKo : kOf h = K := by unfold kOf; rw [if_neg (by omega)]; omega
  have HK := Lib.hid hKo
  clear hKo
  have hle : decide ((h : Int) ≤ 127) = false := by simp; omega
  have hng : decide (h < 128) = false := by simp; omega
  have HNG := Lib.hid hng
  clear hng
  unfold maxLen at hcap2
  have hl0 : (((t.length : Int) + 1) == 0) = false := by simp; omega
  by_cases h8 : 8 < K
  · rw [dec_big HK.out h8]
    go_enter Tryd.func56, Tryd.ntmps56
    go_wp2_with fail
    go_quiet (fail)
    go_wp2_with fail
    go_ret3
    exact DecRes.mk rfl (by decide) (by decide)
  by_cases hlt : t.length < K
  · rw [dec_short HK.out h8 hlt]
    go_enter Tryd.func56, Tryd.ntmps56
    go_wp2_with fail
    go_quiet (fail)
    go_wp2_with fail
    go_ret3
    exact DecRes.mk rfl (by decide) (by decide)
  rw [dec_end HK.out h8 hlt HNG.out]
  have hM64 : val (inv false (t.take K)) < 18446744073709551616 := by
    have h1 := inv_val_lt false (t.take K) (fun d hd => HB.out d (List.mem_of_mem_take hd))
    exact Nat.lt_of_lt_of_le h1 (by rw [show (18446744073709551616 : Nat) = 256 ^ 8 from by decide]; exact Nat.pow_le_pow_right (by omega) (by rw [List.length_take]; omega))
  have hmc : ∀ (A : Option Addr) (c : Nat) (W : World), Rd W B A (bs (t.take K)) → Calls Tryd.prog 72 #[.slice A K c, .bool false] W fun e w' => e = .returned (.int .u64 (val (inv false (t.take K)) : Int)) ∧ W = w' := fun A c W hr =>
    magnitude_call K B c A (t.take K) false W (by rw [List.length_take]; omega) hr (fun d hd => HB.out d (List.mem_of_mem_take hd)) (by rw [List.length_take]; omega)
  have hM0 : K = 0 → val (inv false (t.take K)) = 0 := fun h => by subst h; rfl
  generalize val (inv false (t.take K)) = M at hM64 hmc hM0
  have HM := Lib.hid hmc
  clear hmc
  have hrd : ∀ nq, Rd (w.drewN nq) B (some ⟨b, o + 1, none⟩) (bs (t.take K)) := fun nq => by
    have h1 : Rd w B (some ⟨b, o, none⟩) (bs (h :: t)) := .inr ⟨b, o, rfl, hb, HC.out⟩
    have h2 := (h1.drop 1).take K
    have h3 := h2.drewN nq
    simpa [bs] using h3
  have HR := Lib.hid hrd
  clear hrd
  by_cases hc1 : cap = 1
  · have hK0 : K = 0 := by omega
    have hM00 := hM0 hK0
    subst hK0 hM00 hc1
    have hrd0 : ∀ A nq, Rd (w.drewN nq) B A (bs (t.take 0)) := fun A nq => Rd.nil _ _ _
    have HR0 := Lib.hid hrd0
    clear hrd0 hM0
    have e : decEnd false 0 0 = (0, 1, 0) := rfl
    rw [e]; clear e
    go_enter Tryd.func56, Tryd.ntmps56
    go_wp2_with fail
    go_quiet (fail)
    go_wp2_with (go_at_call 72; refine (HM.out _ _ _ (HR0.out _ _)).mono ?_; rintro e w1 ⟨rfl, rfl⟩)
    go_ret3
    exact DecRes.mk rfl (by decide) (by decide)
  clear hM0
  by_cases hM : 9223372036854775807 < M
  · have e : decEnd false K M = (0, 0, 2) := if_pos (.inl hM)
    rw [e]; clear e
    go_enter Tryd.func56, Tryd.ntmps56
    go_wp2_with fail
    go_quiet (fail)
    go_wp2_with (go_at_call 72; refine (HM.out _ _ _ (HR.out _)).mono ?_; rintro e w1 ⟨rfl, rfl⟩)
    go_ret3
    exact DecRes.mk rfl (by decide) (by decide)
  by_cases hK0 : K = 0
  · subst hK0
    have e : decEnd false 0 M = ((M : Int), 1, 0) := by unfold decEnd; rw [if_neg (by omega)]; simp
    rw [e]; clear e
    go_enter Tryd.func56, Tryd.ntmps56
    go_wp2_with fail
    go_quiet (fail)
    go_wp2_with (go_at_call 72; refine (HM.out _ _ _ (HR.out _)).mono ?_; rintro e w1 ⟨rfl, rfl⟩)
    go_ret3
    exact DecRes.mk rfl (by decide) (by decide)
  by_cases hz : M / 2 ^ (8 * (K - 1)) = 0
  · have hzb : ((M : Int) / 2 ^ (8 * (K - 1)) == 0) = true := by rw [beq_iff_eq]; have := congrArg (Int.ofNat) hz; simpa using this
    have e : decEnd false K M = (0, 0, 2) := if_pos (.inr ⟨by omega, hz⟩)
    rw [e]; clear e hz
    go_enter Tryd.func56, Tryd.ntmps56
    go_wp2_with fail
    go_quiet (fail)
    go_wp2_with (go_at_call 72; refine (HM.out _ _ _ (HR.out _)).mono ?_; rintro e w1 ⟨rfl, rfl⟩)
    go_ret3
    exact DecRes.mk rfl (by decide) (by decide)
  · have hzb : ((M : Int) / 2 ^ (8 * (K - 1)) == 0) = false := by
      rw [beq_eq_false_iff_ne]; intro h; apply hz
      have h2 : ((M / 2 ^ (8 * (K - 1)) : Nat) : Int) = 0 := by simpa using h
      omega
    have e : decEnd false K M = ((M : Int), 1 + K, 0) := by
      unfold decEnd; rw [if_neg]
      · rfl
      · rintro (h | ⟨_, h⟩)
        · omega
        · exact hz h
    rw [e]; clear e hz
    go_enter Tryd.func56, Tryd.ntmps56
    go_wp2_with fail
    go_quiet (fail)
    go_wp2_with (go_at_call 72; refine (HM.out _ _ _ (HR.out _)).mono ?_; rintro e w1 ⟨rfl, rfl⟩)
    go_ret3
    exact DecRes.mk (by congr 2) (by omega) (by decide)
set_option maxHeartbeats 400000 in
set_option maxRecDepth 100000 in
theorem getInt_neg (B b o cap h : Nat) (t : List Nat) (w : World) (hb : b < B) (hc : ∀ j u, (bs (h :: t))[j]? = some u → w.cell? ⟨b, o + j, none⟩ = some u) (hby : ∀ d ∈ t, d < 256) (hh : h < 256) (hh1 : h < 128)
    (hcap : t.length + 1 ≤ cap) (hcap2 : cap ≤ maxLen) :
    Calls Tryd.prog 56 #[.slice (some ⟨b, o, none⟩) (t.length + 1) cap] w (DecRes w (dec (h :: t))) := by
  have hc0 : w.cell? ⟨b, o, none⟩ = some (.int .u8 (h : Int)) := hc 0 _ rfl
  have HC := Lib.hid hc
  have HB := Lib.hid hby
  clear hc hby
  obtain ⟨K, hK⟩ : ∃ K : Nat, 127 - (h : Int) = (K : Int) := ⟨127 - h, by omega⟩
  have hKo : kOf h = K := by unfold kOf; rw [if_pos (by omega)]; omega
  have HK := Lib.hid hKo
  clear hKo
  have hle : decide ((h : Int) ≤ 127) = true := by simp; omega
  have hng : decide (h < 128) = true := by simp; omega
  have HNG := Lib.hid hng
  clear hng
  unfold maxLen at hcap2
  have hl0 : (((t.length : Int) + 1) == 0) = false := by simp; omega
  by_cases h8 : 8 < K
  · rw [dec_big HK.out h8]
    go_enter Tryd.func56, Tryd.ntmps56
    go_wp2_with fail
    go_quiet (fail)
    go_wp2_with fail
    go_ret3
    exact DecRes.mk rfl (by decide) (by decide)
  by_cases hlt : t.length < K
  · rw [dec_short HK.out h8 hlt]
    go_enter Tryd.func56, Tryd.ntmps56
    go_wp2_with fail
    go_quiet (fail)
    go_wp2_with fail
    go_ret3
    exact DecRes.mk rfl (by decide) (by decide)
  rw [dec_end HK.out h8 hlt HNG.out]
  have hM64 : val (inv true (t.take K)) < 18446744073709551616 := by
    have h1 := inv_val_lt true (t.take K) (fun d hd => HB.out d (List.mem_of_mem_take hd))
    exact Nat.lt_of_lt_of_le h1 (by rw [show (18446744073709551616 : Nat) = 256 ^ 8 from by decide]; exact Nat.pow_le_pow_right (by omega) (by rw [List.length_take]; omega))
  have hmc : ∀ (A : Option Addr) (c : Nat) (W : World), Rd W B A (bs (t.take K)) → Calls Tryd.prog 72 #[.slice A K c, .bool true] W fun e w' => e = .returned (.int .u64 (val (inv true (t.take K)) : Int)) ∧ W = w' := fun A c W hr =>
    magnitude_call K B c A (t.take K) true W (by rw [List.length_take]; omega) hr (fun d hd => HB.out d (List.mem_of_mem_take hd)) (by rw [List.length_take]; omega)
  have hM0 : K = 0 → val (inv true (t.take K)) = 0 := fun h => by subst h; rfl
  generalize val (inv true (t.take K)) = M at hM64 hmc hM0
  have HM := Lib.hid hmc
  clear hmc
  have hrd : ∀ nq, Rd (w.drewN nq) B (some ⟨b, o + 1, none⟩) (bs (t.take K)) := fun nq => by
    have h1 : Rd w B (some ⟨b, o, none⟩) (bs (h :: t)) := .inr ⟨b, o, rfl, hb, HC.out⟩
    have h2 := (h1.drop 1).take K
    have h3 := h2.drewN nq
    simpa [bs] using h3
  have HR := Lib.hid hrd
  clear hrd
  by_cases hc1 : cap = 1
  · have hK0 : K = 0 := by omega
    have hM00 := hM0 hK0
    subst hK0 hM00 hc1
    have hrd0 : ∀ A nq, Rd (w.drewN nq) B A (bs (t.take 0)) := fun A nq => Rd.nil _ _ _
    have HR0 := Lib.hid hrd0
    clear hrd0 hM0
    have e : decEnd true 0 0 = (-1, 1, 0) := rfl
    rw [e]; clear e
    go_enter Tryd.func56, Tryd.ntmps56
    go_wp2_with fail
    go_quiet (fail)
    go_wp2_with (go_at_call 72; refine (HM.out _ _ _ (HR0.out _ _)).mono ?_; rintro e w1 ⟨rfl, rfl⟩)
    go_ret3
    exact DecRes.mk rfl (by decide) (by decide)
  clear hM0
  by_cases hM : 9223372036854775807 < M
  · have e : decEnd true K M = (0, 0, 2) := if_pos (.inl hM)
    rw [e]; clear e
    go_enter Tryd.func56, Tryd.ntmps56
    go_wp2_with fail
    go_quiet (fail)
    go_wp2_with (go_at_call 72; refine (HM.out _ _ _ (HR.out _)).mono ?_; rintro e w1 ⟨rfl, rfl⟩)
    go_ret3
    exact DecRes.mk rfl (by decide) (by decide)
  by_cases hK0 : K = 0
  · subst hK0
    have e : decEnd true 0 M = (-1 - (M : Int), 1, 0) := by unfold decEnd; rw [if_neg (by omega)]; simp
    rw [e]; clear e
    go_enter Tryd.func56, Tryd.ntmps56
    go_wp2_with fail
    go_quiet (fail)
    go_wp2_with (go_at_call 72; refine (HM.out _ _ _ (HR.out _)).mono ?_; rintro e w1 ⟨rfl, rfl⟩)
    go_ret3
    exact DecRes.mk rfl (by decide) (by decide)
  by_cases hz : M / 2 ^ (8 * (K - 1)) = 0
  · have hzb : ((M : Int) / 2 ^ (8 * (K - 1)) == 0) = true := by rw [beq_iff_eq]; have := congrArg (Int.ofNat) hz; simpa using this
    have e : decEnd true K M = (0, 0, 2) := if_pos (.inr ⟨by omega, hz⟩)
    rw [e]; clear e hz
    go_enter Tryd.func56, Tryd.ntmps56
    go_wp2_with fail
    go_quiet (fail)
    go_wp2_with (go_at_call 72; refine (HM.out _ _ _ (HR.out _)).mono ?_; rintro e w1 ⟨rfl, rfl⟩)
    go_ret3
    exact DecRes.mk rfl (by decide) (by decide)
  · have hzb : ((M : Int) / 2 ^ (8 * (K - 1)) == 0) = false := by
      rw [beq_eq_false_iff_ne]; intro h; apply hz
      have h2 : ((M / 2 ^ (8 * (K - 1)) : Nat) : Int) = 0 := by simpa using h
      omega
    have e : decEnd true K M = (-1 - (M : Int), 1 + K, 0) := by
      unfold decEnd; rw [if_neg]
      · rfl
      · rintro (h | ⟨_, h⟩)
        · omega
        · exact hz h
    rw [e]; clear e hz
    go_enter Tryd.func56, Tryd.ntmps56
    go_wp2_with fail
    go_quiet (fail)
    go_wp2_with (go_at_call 72; refine (HM.out _ _ _ (HR.out _)).mono ?_; rintro e w1 ⟨rfl, rfl⟩)
    go_ret3
    exact DecRes.mk (by congr 2) (by omega) (by decide)

theorem getInt_any (n B cap : Nat) (A : Option Addr) (zs : List Nat) (w : World) (hn : n = zs.length) (hr : Rd w B A (bs zs)) (hb : ∀ d ∈ zs, d < 256) (hcap : n ≤ cap) (hcap2 : cap ≤ maxLen) :
    Calls Tryd.prog 56 #[.slice A n cap] w (DecRes w (dec zs)) := by
  subst hn
  cases zs with
  | nil =>
    go_enter Tryd.func56, Tryd.ntmps56
    go_wp2_with fail
    go_ret3
    exact DecRes.mk (k := 0) rfl (by decide) (by decide)
  | cons h t =>
    obtain ⟨b, o, rfl, hlt, hc⟩ := hr.at_ (by simp [bs])
    by_cases hh : h < 128
    · exact getInt_neg B b o cap h t w hlt hc (fun d hd => hb d (by simp [hd])) (hb h (by simp)) hh hcap hcap2
    · exact getInt_pos B b o cap h t w hlt hc (fun d hd => hb d (by simp [hd])) (hb h (by simp)) (by omega) hcap hcap2
end Go.Proofs.YtbfoajfpnfkfnaaDoor
