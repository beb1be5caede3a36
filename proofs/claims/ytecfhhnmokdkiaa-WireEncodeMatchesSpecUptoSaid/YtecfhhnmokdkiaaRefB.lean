import Derived.Test.YtecfhhnmokdkiaaRefEnc
import Derived.Test.YtecfhhnmokdkiaaH
import Derived.Lib.ConvBytes
set_option linter.unusedVariables false
namespace Go.Proofs.Ytecfhhnmokdkiaa
open Go.RowKit

theorem below_bytes (w : World) (e : TypeId) (s : ByteArray) : Below w.heap.size w (Lib.bytesWorld w e s) :=
  ⟨rfl, rfl, rfl, by rw [Lib.bytesWorld_size]; omega, fun k hk => Lib.bytesWorld_at_old w e s k hk⟩
theorem rd_bytes (w : World) (e : TypeId) (s : ByteArray) : Rd (Lib.bytesWorld w e s) (Lib.bytesWorld w e s).heap.size (some ⟨w.heap.size, 0, none⟩) (bs (sb s)) := by
  refine .inr ⟨w.heap.size, 0, rfl, by rw [Lib.bytesWorld_size]; omega, fun j u hu => ?_⟩
  have hj : j < s.size := by
    have := (List.getElem?_eq_some_iff.1 hu).1
    rwa [bs_len, sb_len] at this
  have h := bs_get (sb s) j (by rw [sb_len]; exact hj)
  rw [hu] at h
  rw [Option.some.inj h, Nat.zero_add, Lib.bytesWorld_cell w e s j hj]
  have hj2 : j < s.data.toList.length := by simpa using hj
  simp [sb, List.getD, List.getElem?_map, List.getElem?_eq_getElem hj2]

set_option maxHeartbeats 400000 in
set_option maxRecDepth 100000 in
theorem refBytes_any (s : ByteArray) (w : World) (hs : s.size + 32 ≤ 140737488355328) :
    Calls Try.prog 11 #[.string s] w fun e w' => ∃ v', e = .returned v' ∧ OwnB w' w.heap.size v' (encS s) ∧ Below w.heap.size w w' := by
  have he := enc_len s.size (by omega)
  have hcv := fun (W : World) => Lib.run_convert_string_bytes (P := Try.prog) W 9 28 5 s Try.underlying9 Try.underlying28 Try.underlying5
  have HS : Hid (∀ X, X = enc (s.size : Int) → X ++ sb s = encS s) := fun X h => by rw [h]; rfl
  go_enter Try.func11, Try.ntmps11
  go_wp2_with (first
    | (go_at_call 9; refine (refInt_any s.size _ ⟨by omega, by omega⟩).mono ?_; rintro e w1 ⟨v1, rfl, hown1, hbel1⟩)
    | (at_builtin; refine wpList_putL (hown1.below (below_bytes w1 _ s)) (rd_bytes w1 _ s) (sb_len s).symm (Nat.le_trans hbel1.size (below_bytes w1 _ s).size) (by rw [sb_len]; omega) rfl _ _ rfl rfl rfl ?_; intro v2 w2 hown2 hbel2))
  go_ret
  exact ⟨_, rfl, by rw [← HS.out _ rfl]; exact hown2, (hbel1.trans ((below_bytes w1 _ s).mono hbel1.size)).trans hbel2⟩

set_option maxHeartbeats 400000 in
set_option maxRecDepth 100000 in
theorem refStrings_any (A : Option Addr) (m cap : Nat) (l : List ByteArray) (w : World) (hm : m = l.length) (hr : Rd w w.heap.size A (ss l)) (hin : ∀ s ∈ l, s.size ≤ 100000) (hl : m ≤ 100000) :
    Calls Try.prog 15 #[.slice A m cap] w fun e w' => ∃ v', e = .returned v' ∧ OwnB w' w.heap.size v' (encL encS l) ∧ Below w.heap.size w w' := by
  have hpl : ∀ k, (part encS l k).length ≤ 9 + 100009 * m := fun k => by rw [hm]; exact part_len_le encS 100009 l k (fun x hx => encS_len x (hin x hx)) (by omega)
  have hp0 := part_zero encS l
  have hpa := part_all encS l
  have hps := part_succ encS l
  rw [← hm] at hp0 hpa
  have HPL := Lib.hid hpl
  have HP0 := Lib.hid hp0
  have HPA := Lib.hid hpa
  have HPS := Lib.hid hps
  have HIN := Lib.hid hin
  have HM := Lib.hid hm
  clear hpl hp0 hpa hps hin hm
  go_enter Try.func15, Try.ntmps15
  go_wp2_with (go_at_call 9; refine (refInt_any _ _ ⟨by omega, by omega⟩).mono ?_; rintro e w1 ⟨v1, rfl, hown1, hbel1⟩)
  go_loopw [3, 4] (fun b i wr => ∃ k : Nat, k ≤ m ∧ i = .int .i64 (k : Int) ∧ OwnB wr w.heap.size b (part encS l k) ∧ Below w.heap.size w wr) (fun _ i _ => m - (intOf i).toNat)
  case atStart => exact ⟨0, Nat.zero_le _, rfl, by rw [HP0.out]; exact hown1, hbel1⟩
  case round =>
    obtain ⟨k, hk, rfl, hown2, hbel2⟩ := hrel
    clear hown1 hbel1
    have hbw := hbel2.size
    by_cases hlt : k < m
    · have hlt' : k < l.length := by have := HM.out; omega
      have hr2 := hr.below hbel2
      obtain ⟨b, o, rfl, _, hc⟩ := hr2.at_ (by intro h; have := congrArg List.length h; simp [ss] at this; subst this; simp at hlt')
      have hcell := hc k _ (ss_get l k hlt')
      have hin := HIN.out l[k] (List.getElem_mem hlt')
      have hpl := HPL.out k
      have HH := Lib.hid (HPS.out k hlt')
      clear hc hr hr2
      rw [List.getElem?_eq_getElem hlt', Option.getD_some] at hcell
      generalize l[k] = N at hcell hin HH
      have hN := encS_len N hin
      have hkm : (k : Int) < (m : Int) := by omega
      go_wp2_with (first
        | (go_at_call 11; refine (refBytes_any N _ (by omega)).mono ?_; rintro e w3 ⟨v3, rfl, hown3, hbel3⟩; obtain ⟨A3, c3, rfl, hc1, hc2⟩ := hown3.shape; have hown2' := hown2.below hbel3; have hbel4 := hbel2.trans (hbel3.mono hbw))
        | (at_builtin; refine wpList_putL hown2' hown3.rd rfl hbel4.size (by omega) rfl _ _ rfl rfl rfl ?_; intro v5 w5 hown5 hbel5))
      go_roundw
      case rel => exact ⟨k + 1, by omega, by go_num, by rw [HH.out]; exact hown5, hbel4.trans hbel5⟩
      case measure => simp [intOf]; omega
    · have hkm : k = m := by omega
      subst hkm
      rw [HPA.out] at hown2
      go_wp2
      go_ret
      exact ⟨_, rfl, hown2, hbel2⟩

set_option maxHeartbeats 400000 in
set_option maxRecDepth 100000 in
theorem refDigests_any (A : Option Addr) (m cap : Nat) (l : List (List Nat)) (w : World) (hm : m = l.length) (hd : ∀ d ∈ l, d.length = 16) (hr : Rd w w.heap.size A (ds l)) (hl : m ≤ 100000) :
    Calls Try.prog 17 #[.slice A m cap] w fun e w' => ∃ v', e = .returned v' ∧ OwnB w' w.heap.size v' (encL id l) ∧ Below w.heap.size w w' := by
  have hpl : ∀ k, (part id l k).length ≤ 9 + 16 * m := fun k => by rw [hm]; exact part_len_le id 16 l k (fun x hx => by have := hd x hx; simp [this]) (by omega)
  have hp0 := part_zero id l
  have hpa := part_all id l
  have hps := part_succ id l
  rw [← hm] at hp0 hpa
  have HPL := Lib.hid hpl
  have HP0 := Lib.hid hp0
  have HPA := Lib.hid hpa
  have HPS := Lib.hid hps
  have HD := Lib.hid hd
  have HM := Lib.hid hm
  clear hpl hp0 hpa hps hd hm
  go_enter Try.func17, Try.ntmps17
  go_wp2_with (go_at_call 9; refine (refInt_any _ _ ⟨by omega, by omega⟩).mono ?_; rintro e w1 ⟨v1, rfl, hown1, hbel1⟩)
  go_loopw [3, 4] (fun b i wr => ∃ k : Nat, k ≤ m ∧ i = .int .i64 (k : Int) ∧ OwnB wr w.heap.size b (part id l k) ∧ Below w.heap.size w wr) (fun _ i _ => m - (intOf i).toNat)
  case atStart => exact ⟨0, Nat.zero_le _, rfl, by rw [HP0.out]; exact hown1, hbel1⟩
  case round =>
    obtain ⟨k, hk, rfl, hown2, hbel2⟩ := hrel
    clear hown1 hbel1
    obtain ⟨wo, rfl⟩ : ∃ wo : World, wo = wr := ⟨_, rfl⟩
    by_cases hlt : k < m
    · have hlt' : k < l.length := by have := HM.out; omega
      obtain ⟨b, o, rfl, hb, hc⟩ := hr.at_ (by intro h; have := congrArg List.length h; rw [ds, bs_len, flat_len l HD.out] at this; simp at this; omega)
      have hrg := ds_range l HD.out hc k hlt'
      have HRG : Hid (∀ W, Below w.heap.size w W → W.rangeAt b (o + k * 16) (bs l[k])) := fun W hW j v hv => (hW.cell hb).trans (hrg j v hv)
      have hdl := Lib.hid (HD.out _ (List.getElem_mem hlt'))
      have hpl := HPL.out k
      have HH := Lib.hid (HPS.out k hlt')
      clear hc hr hrg
      generalize l[k] = d at HRG hdl HH
      generalize part id l k = P at hown2 hpl HH
      have hkm : (k : Int) < (m : Int) := by omega
      go_wp2_with fail
      go_loopw [3, 5] (fun v i W => ∃ j : Nat, j ≤ 16 ∧ i = .int .i64 (j : Int) ∧ OwnB W w.heap.size v (P ++ d.take j) ∧ Below w.heap.size w W) (fun _ i _ => 16 - (intOf i).toNat)
      case atStart => exact ⟨0, Nat.zero_le _, rfl, by simpa using hown2, hbel2⟩
      case round =>
        obtain ⟨j, hj, rfl, hown3, hbel3⟩ := hrel
        clear hown2 hbel2
        have hbw := hbel3.size
        by_cases hj16 : j < 16
        · have hjl : j < d.length := by have := hdl.out; omega
          have hcell := (HRG.out _ hbel3) j _ (bs_get d j hjl)
          have ht : d.take (j + 1) = d.take j ++ [d[j]] := List.take_succ_eq_append_getElem hjl
          rw [List.getElem?_eq_getElem hjl, Option.getD_some] at hcell
          have HT := Lib.hid ht
          have hlen : (P ++ d.take j).length ≤ 25 + 16 * m := by rw [List.length_append, List.length_take]; omega
          clear ht
          generalize d[j] = X at hcell HT
          generalize hQ : P ++ d.take j = Q at hown3 hlen
          have hji : (j : Int) < 16 := by omega
          go_wp2_with (at_builtin; refine wpList_putB (x := X) hown3 rfl hbw (by omega) rfl _ _ rfl rfl rfl ?_; intro v5 w5 hown5 hbel5)
          go_roundw
          case rel => exact ⟨j + 1, by omega, by go_num, by rw [HT.out, ← List.append_assoc, hQ]; exact hown5, hbel3.trans hbel5⟩
          case measure => simp [intOf]; omega
        · have hj16 : j = 16 := by omega
          subst hj16
          have e : P ++ d.take 16 = part id l (k + 1) := by rw [HH.out, List.take_of_length_le (by rw [hdl.out]; exact Nat.le_refl _)]; rfl
          rw [e] at hown3
          go_wp2_with fail
          go_roundw
          case rel => exact ⟨k + 1, by omega, by go_num, hown3, hbel3⟩
          case measure => simp [intOf]; omega
    · have hkm : k = m := by omega
      subst hkm
      rw [HPA.out] at hown2
      go_wp2
      go_ret
      exact ⟨_, rfl, hown2, hbel2⟩
end Go.Proofs.Ytecfhhnmokdkiaa
