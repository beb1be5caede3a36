import Derived.Test.YtjbleefpafnhhaaDoorX01
import Derived.Test.YtjbleefpafnhhaaDoorX02
import Derived.Test.YtjbleefpafnhhaaDoorX03
import Derived.Test.YtjbleefpafnhhaaDoorX04
import Derived.Test.YtjbleefpafnhhaaDoorX05
import Derived.Test.YtjbleefpafnhhaaDoorX06
import Derived.Test.YtjbleefpafnhhaaDoorX07
import Derived.Test.YtjbleefpafnhhaaDoorX08
import Derived.Test.YtjbleefpafnhhaaDoorX09
import Derived.Test.YtjbleefpafnhhaaDoorX10
import Derived.Test.YtjbleefpafnhhaaDoorX11
import Derived.Test.YtjbleefpafnhhaaDoorX12
import Derived.Test.YtjbleefpafnhhaaDoorX13
import Derived.Test.YtjbleefpafnhhaaDoorX14
import Derived.Test.YtjbleefpafnhhaaDoorX15
import Derived.Test.YtjbleefpafnhhaaDoorX16
import Derived.Test.YtjbleefpafnhhaaDoorX17
import Derived.Test.YtjbleefpafnhhaaDoorX18
import Derived.Test.YtjbleefpafnhhaaDoorX19
import Derived.Test.YtjbleefpafnhhaaDoorX20
import Derived.Test.YtjbleefpafnhhaaDoorX21
import Derived.Test.YtjbleefpafnhhaaDoorX22
import Derived.Test.YtjbleefpafnhhaaDoorX23
import Derived.Test.YtjbleefpafnhhaaDoorX24
import Derived.Test.YtjbleefpafnhhaaDoorX25
import Derived.Test.YtjbleefpafnhhaaDoorX26
import Derived.Test.YtjbleefpafnhhaaDoorX27
import Derived.Test.YtjbleefpafnhhaaDoorX28
import Derived.Test.YtjbleefpafnhhaaDoorX29
import Derived.Test.YtjbleefpafnhhaaDoorX30
import Derived.Test.YtjbleefpafnhhaaDoorX31
import Derived.Test.YtjbleefpafnhhaaDoorX32
import Derived.Test.YtjbleefpafnhhaaDoorX33
import Derived.Test.YtjbleefpafnhhaaDoorU06
import Derived.ProofKit
import Derived.OpenShut
import Derived.ShutString
import Derived.ChangeOld
import Derived.SizedLaws
import Derived.Deep.Slices
set_option linter.unusedVariables false
set_option linter.unusedSimpArgs false
namespace Go.Proofs.YtjbleefpafnhhaaDoor
open Go.RowKit
theorem wtL_ok {P : List Df} (T : Nat → Ty) : ∀ (ks : List Tr) (a : Int) (i : Nat), ftL P ks T i = true → (∀ x ∈ ks, ∀ t, ft P x t = true → 0 ≤ x.wt ∧ x.wt + 1099511627776 ≤ (x.nodes : Int) * 2199023255552) → 0 ≤ a → a + (nodesL ks : Int) * 2199023255552 ≤ 4611686018427387904 →
    0 ≤ wtL a ks ∧ wtL a ks + (ks.length : Int) * 1099511627776 ≤ a + (nodesL ks : Int) * 2199023255552
  | [], a, i, _, _, h0, _ => by rw [wtL, nodesL]; simp; exact h0
  | x :: xs, a, i, hf, hk, h0, hb => by
    rw [ftL, Bool.and_eq_true] at hf
    rw [nodesL] at hb ⊢
    obtain ⟨h1, h2⟩ := hk x (by simp) _ hf.1
    have e : ((x.nodes + nodesL xs : Nat) : Int) * 2199023255552 = (x.nodes : Int) * 2199023255552 + (nodesL xs : Int) * 2199023255552 := by rw [Int.natCast_add, Int.add_mul]
    rw [e] at hb ⊢
    have hp : 0 ≤ (nodesL xs : Int) * 2199023255552 := by omega
    rw [wtL, Go.IntWalk.wrap64_in _ (by omega)]
    obtain ⟨h3, h4⟩ := wtL_ok T xs (a + x.wt) (i + 1) hf.2 (fun y hy => hk y (by simp [hy])) (by omega) (by omega)
    refine ⟨h3, ?_⟩
    have e2 : (((x :: xs).length : Nat) : Int) * 1099511627776 = (xs.length : Int) * 1099511627776 + 1099511627776 := by rw [List.length_cons]; omega
    rw [e2]
    omega
theorem nodesL_len : ∀ (ks : List Tr), ks.length ≤ nodesL ks
  | [] => by simp [nodesL]
  | x :: xs => by have := nodesL_len xs; have := x.nodes_pos; rw [nodesL, List.length_cons]; omega
theorem wt_ok {P : List Df} (hs : ∀ t, (shS P t).length ≤ 3) : ∀ (N : Nat) (x : Tr), x.nodes ≤ N → x.nodes ≤ 256 → ∀ t, ft P x t = true → 0 ≤ x.wt ∧ x.wt + 1099511627776 ≤ (x.nodes : Int) * 2199023255552
  | 0, x, hN, _, _, _ => absurd hN (by have := x.nodes_pos; omega)
  | N + 1, .node k n ks, hN, h256, t, hf => by
    rw [nodes_node] at hN h256 ⊢
    rw [ft_form, Bool.and_eq_true, Bool.and_eq_true, Bool.and_eq_true] at hf
    obtain ⟨-, -, h1, h2⟩ := hf
    have hkk : ∀ x ∈ ks, ∀ t, ft P x t = true → 0 ≤ x.wt ∧ x.wt + 1099511627776 ≤ (x.nodes : Int) * 2199023255552 := by
      intro x hx t ht
      obtain ⟨j, hj⟩ := List.getElem?_of_mem hx
      have := (kid_nodes hj).1
      exact wt_ok hs N x (by omega) (by omega) t ht
    obtain ⟨h3, h4⟩ := wtL_ok _ ks 0 0 h2 hkk (Int.le_refl _) (by omega)
    have hm := hs t
    have hl := nodesL_len ks
    rw [Tr.wt]
    unfold hfit at h1
    unfold wtOf
    generalize wtL 0 ks = W at h3 h4 ⊢
    split
    · rw [if_pos ‹_›] at h1
      simp at h1
      split
      · rw [Go.IntWalk.wrap64_in _ (by omega)]; omega
      · omega
    · rw [if_neg ‹_›] at h1
      split
      · rw [if_pos ‹_›] at h1
        simp at h1
        omega
      · rw [if_neg ‹_›] at h1
        split
        · omega
        · rw [if_neg ‹_›] at h1
          split
          · rw [if_pos ‹_›] at h1
            simp at h1
            rw [Go.IntWalk.wrap64_in _ (by omega)]
            omega
          · split
            · rw [Go.IntWalk.wrap64_in _ (by omega)]
              omega
            · omega
theorem Snd.shS_le {P : List Df} (h : Snd P) (t : Ty) : (shS P t).length ≤ 3 := by
  unfold shS
  split
  · cases hd : dfo P t with
    | none => simp
    | some d =>
      have : d ∈ P := by
        cases t with
        | node k s q i ks => exact List.mem_of_getElem? (show P[_]? = some d from hd)
      obtain ⟨i, hi⟩ := List.getElem?_of_mem this
      simp only [Option.map_some, Option.getD_some]
      exact (h.slt i d hi).2.1
  · simp
theorem Snd.wt_pos {P : List Df} (h : Snd P) {x : Tr} {t : Ty} (hf : ft P x t = true ∧ x.nodes ≤ 256 ∧ x.dep ≤ 10) : 0 ≤ x.wt := (wt_ok (fun t => h.shS_le t) x.nodes x (Nat.le_refl _) hf.2.1 t hf.1).1
theorem Snd.zero24 {P : List Df} (h : Snd P) {i : Nat} (hi : i < P.length) : (zr P 24 (tD i) 0).1 = 0 ∧ (zr P 24 (tD i) 0).2.1.wt = 0 ∧ (pv P (zr P 24 (tD i) 0).2.1 (tD i) 24 0).1 = true := by
  have hl := h.len
  have hz : ZB i ≤ 121 := by
    have : ∀ j, j < 4 → ZB j ≤ 121 := by decide
    exact this i (by omega)
  obtain ⟨h1, h2, h3, h4, h5, h6⟩ := h.zero i hi 24 0 (by omega) (by omega)
  exact ⟨h1, h6, pv_true h2 (by omega) (by omega)⟩
end Go.Proofs.YtjbleefpafnhhaaDoor

namespace Go.Proofs.YtjbleefpafnhhaaDoor
open Go.RowKit
structure ZI (w W : World) (pc tc : List Value) (gx : Nat) (P : List Df) (L : List (List Value)) (mv : Value) (gd0 n cap B : Nat) : Prop where
  hb : Below w.heap.size w W
  hp : Arr W w.heap.size 2 26 pc
  ht : Arr W (w.heap.size + 1) 5 31 tc
  hx : Arr W gx 2 26 [mv, .slice (some ⟨gd0, 0, none⟩) n cap]
  hR : TyR W P L mv gd0 n cap B
  hk : Kv W
theorem ZI.later {w W W' : World} {pc tc : List Value} {gx : Nat} {P : List Df} {L : List (List Value)} {mv : Value} {gd0 n cap B : Nat} (h : ZI w W pc tc gx P L mv gd0 n cap B) (hb : Below W.heap.size W W') : ZI w W' pc tc gx P L mv gd0 n cap B :=
  ⟨h.hb.trans (hb.mono h.hb.size), h.hp.later hb, h.ht.later hb, h.hx.later hb, h.hR.later hb, h.hk.later hb⟩
theorem gs_ne {W : World} {d : Df} {C : List Value} {gd0 gs os sn sc : Nat} (hf : Foot (fun g => g ≠ gd0) (PD d C) W) (h8 : C[8]? = some (.slice (some ⟨gs, os, none⟩) sn sc)) (h0 : 0 < d.slots.length) : gs ≠ gd0 := by
  intro e
  have key : ∀ W', DfAt W' d C → W'.cell? ⟨gs, os + 0 * 11 + 0, none⟩ = some (.int .i64 (d.slots[0]).a) := by
    intro W' h
    obtain ⟨sv, T, E, lv, hCe, _, hS6, _⟩ := h
    have hsv : sv = .slice (some ⟨gs, os, none⟩) sn sc := by
      rw [hCe] at h8
      simpa using h8
    subst hsv
    obtain ⟨A6, c6, e6, _, hel6⟩ := hS6
    obtain ⟨g', o', D', hA', hr', T', rfl, _⟩ := hel6 0 _ (List.getElem?_eq_getElem h0)
    have : some (⟨gs, os, none⟩ : Addr) = A6 := by simp at e6; exact e6.1
    rw [hA'] at this
    cases this
    exact hr' 0 _ rfl
  have h1 := key W hf.now
  have h2 := key (W.setCell ⟨gs, os + 0 * 11 + 0, none⟩ (.bool true)) (hf _ ((Below.refl 0 W).setCell (p := ⟨gs, os + 0 * 11 + 0, none⟩) (Nat.zero_le _) _) (fun b hb _ => Below.heap_setCell _ _ _ _ (by simp only; rw [e]; exact hb)))
  rw [World.cell?_setCell_same' W _ _ (by rw [h1]; rfl)] at h2
  cases h2
theorem tdiv_i64 {n : Int} (m : Int) (hm : 0 < m) (h : i64r n) : i64r (n.tdiv m) := by
  unfold i64r at h ⊢
  rcases Int.le_total 0 n with h0 | h0
  · rw [Int.tdiv_eq_ediv_of_nonneg h0]
    have h1 := Int.ediv_nonneg h0 (Int.le_of_lt hm)
    have h2 := Int.ediv_le_self m h0
    omega
  · have e : n.tdiv m = -((-n).tdiv m) := by rw [Int.neg_tdiv]; simp
    have h0' : 0 ≤ -n := by omega
    rw [e, Int.tdiv_eq_ediv_of_nonneg h0']
    have h1 := Int.ediv_nonneg h0' (Int.le_of_lt hm)
    have h2 := Int.ediv_le_self m h0'
    omega
set_option maxHeartbeats 8000000 in
set_option maxRecDepth 100000 in
theorem ValueZeros_any (l0 c0 l1 c1 : Nat) (A0 A1 : Option Addr) (z0 z1 : List Int) (P2 : List Df) (pv : Value) (t3 : Ty) (tv : Value) (turn : Int) (w : World) (hN0 : Nums w z0 A0 l0) (hN1 : Nums w z1 A1 l1) (hP : PrAt w P2 pv) (hT : TyAt w t3 tv) (hturn : i64r turn) (hK : Kv w) :
    Calls Tryd.prog 6 #[.slice A0 l0 c0, .slice A1 l1 c1, pv, tv, .int .i64 turn] w (BRes true w) := by
  have hP0 := hP
  have hT0 := hT
  obtain ⟨mv2, A2, cap2, rfl, hm2, _⟩ := hP0
  obtain ⟨k3, s3, q3, i3, B3, ln3, cp3, rfl⟩ := hT0.shape
  simp only [t5] at hT ⊢
  obtain ⟨n2, hn2⟩ : ∃ n2, P2.length = n2 := ⟨_, rfl⟩
  rw [hn2] at hP ⊢
  have P8 : Arr ((w.alloc (.cells #[mv2, .slice A2 n2 cap2] 26)).alloc (.cells #[.int .i64 k3, .int .i64 s3, .int .i64 q3, .int .i64 i3, .slice B3 ln3 cp3] 31)) w.heap.size 2 26 [mv2, .slice A2 n2 cap2] := (p2_new w _ _).later (new_later (w.alloc (.cells #[mv2, .slice A2 n2 cap2] 26)) (.cells #[.int .i64 k3, .int .i64 s3, .int .i64 q3, .int .i64 i3, .slice B3 ln3 cp3] 31))
  have P9 : Arr ((w.alloc (.cells #[mv2, .slice A2 n2 cap2] 26)).alloc (.cells #[.int .i64 k3, .int .i64 s3, .int .i64 q3, .int .i64 i3, .slice B3 ln3 cp3] 31)) (w.heap.size + 1) 5 31 [.int .i64 k3, .int .i64 s3, .int .i64 q3, .int .i64 i3, .slice B3 ln3 cp3] := by
    have h := t5_new (w.alloc (.cells #[mv2, .slice A2 n2 cap2] 26)) k3 s3 q3 i3 B3 ln3 cp3
    rw [World.size_alloc] at h; exact h
  have V0 := later (new_later w (.cells #[mv2, .slice A2 n2 cap2] 26)) (new_later (w.alloc (.cells #[mv2, .slice A2 n2 cap2] 26)) (.cells #[.int .i64 k3, .int .i64 s3, .int .i64 q3, .int .i64 i3, .slice B3 ln3 cp3] 31))
  generalize hW : ((w.alloc (.cells #[mv2, .slice A2 n2 cap2] 26)).alloc (.cells #[.int .i64 k3, .int .i64 s3, .int .i64 q3, .int .i64 i3, .slice B3 ln3 cp3] 31)) = wa at P8 P9 V0
  have HTY := Lib.hid (Types_row z0 A0 l0 c0 wa (hN0.later V0))
  have HN1 := Lib.hid hN1
  have HP2 := Lib.hid hP
  have HT3 := Lib.hid hT
  have HR8 := Lib.hid P8
  have HR9 := Lib.hid P9
  have HKV := Lib.hid (hK.later V0)
  have HK0 := Lib.hid hK
  have HV0 := Lib.hid V0
  have HTU := Lib.hid hturn
  have HM2 := Lib.hid hm2
  have HN2 := Lib.hid hn2
  clear hN0 hN1 hP hT hK P8 P9 V0 hturn hm2 hn2 hT0
  go_enter Tryd.func6, Tryd.ntmps6
  go_upto_region 1 with fail
  clear hW
  go_upto_region 2 with (first
    | (go_at_call 10; (with_reducible refine HTY.out.mono ?_); rintro e w1 ⟨P, L, mv, gd0, n, cap, B, rfl, hR, hS, hb, hgd⟩; have HR1 := Lib.hid hR; have HS := Lib.hid hS; have HB1 := Lib.hid hb; have HGD := Lib.hid hgd; clear hR hS hb hgd HTY)
    | (refine wpList_store_arr rfl _ (.tmp 11) (.tmp 28) rfl w1.heap.size 0 2 26 _ [mv, .slice (some ⟨gd0, 0, none⟩) n cap] [.slice none 0 0, .slice none 0 0] rfl rfl rfl (p2_new w1 _ _) (show 0 + 2 ≤ 2 by omega) info_prog (by intro v hv; simp at hv; rcases hv with rfl | rfl; exact HR1.out.hm; rfl) ?_; intro w2 f2 o2; rw [setAll_all [.slice none 0 0, .slice none 0 0] [mv, .slice (some ⟨gd0, 0, none⟩) n cap] rfl] at f2; have HX2 := Lib.hid f2; have HO2 := Lib.hid ((new_later w1 _).trans (o2.bel.mono (Nat.le_refl _))); clear f2 o2))
  have HZ : Hid (ZI w w2 [mv2, .slice A2 n2 cap2] [.int .i64 k3, .int .i64 s3, .int .i64 q3, .int .i64 i3, .slice B3 ln3 cp3] w1.heap.size P L mv gd0 n cap B) := Lib.hid ⟨later HV0.out (later HB1.out HO2.out), HR8.out.later (later HB1.out HO2.out), HR9.out.later (later HB1.out HO2.out), HX2.out, HR1.out.later HO2.out, HKV.out.later (later HB1.out HO2.out)⟩
  have HGX : Hid (gd0 < w1.heap.size ∧ w.heap.size ≤ gd0) := Lib.hid ⟨(HR1.out.hr.lt gd0 rfl).2, Nat.le_trans (by have := HV0.out.size; omega) HGD.out⟩
  generalize w1.heap.size = gx at HZ HGX ⊢
  clear HX2 HO2 HR1 HB1 HKV HV0 HR8 HR9
  obtain ⟨pc, hpc⟩ : ∃ pc, [mv2, .slice A2 n2 cap2] = pc := ⟨_, rfl⟩
  obtain ⟨tc, htc⟩ : ∃ tc, [Value.int .i64 k3, .int .i64 s3, .int .i64 q3, .int .i64 i3, .slice B3 ln3 cp3] = tc := ⟨_, rfl⟩
  rw [hpc, htc] at HZ
  have HPC := Lib.hid hpc
  have HTC := Lib.hid htc
  clear hpc htc
  have hn4 : (n : Int) ≤ 4 := by have := HS.out.len; have := HZ.out.hR.hn; omega
  go_wp2_with fail
  go_loopw [12] (fun iv W' => ∃ j : Nat, j ≤ n ∧ iv = .int .i64 (j : Int) ∧ ZI w W' pc tc gx P L mv gd0 n cap B) (fun iv _ => n - (intOf iv).toNat)
  case atStart => exact ⟨0, Nat.zero_le _, by go_num, HZ.out⟩
  case round =>
    clear HZ
    obtain ⟨j, hj, rfl, hz⟩ := hrel
    have hj0 : (0 : Int) ≤ (j : Int) := by omega
    have x1 := hz.hx.cell (j := 1) (v := .slice (some ⟨gd0, 0, none⟩) n cap) rfl
    by_cases hlt : j < n
    · have hji : (j : Int) < (n : Int) := by omega
      have hjn : j < P.length := by rw [← hz.hR.hn]; exact hlt
      obtain ⟨C, hCr, hCd⟩ := pr_get hz.hR.pr hjn
      obtain ⟨R, hR⟩ := df_id hCd
      have hid3 := HS.out.ids j _ (List.getElem?_eq_getElem hjn)
      rw [hid3.1, hid3.2.1, hid3.2.2] at hR
      have HG0 : Hid (wr.rangeAt gd0 (0 + j * 31) [.int .i64 0, .int .i64 1, .int .i64 (1 + (j : Int))]) := Lib.hid (range_left (ys := R) (by rw [← hR]; exact hCr))
      rw [Nat.zero_add] at HG0
      have HII : Hid ((Tryd.prog.info? 28).map (·.size) = some ([.int .i64 0, .int .i64 1, .int .i64 (1 + (j : Int))] : List Value).length) := Lib.hid info_id
      have HOF : Hid (∀ W, Calls Tryd.prog 14 #[.agg #[.int .i64 0, .int .i64 1, .int .i64 (1 + (j : Int))]] W fun e w' => e = .returned (.agg #[.int .i64 3, .int .i64 0, .int .i64 1, .int .i64 (1 + (j : Int)), .slice none 0 0]) ∧ Below W.heap.size W w') := Lib.hid fun W => Of_any 0 1 (1 + (j : Int)) W
      obtain ⟨z1a, z1b, z1c⟩ := HS.out.zero24 hjn
      have HZA : Hid ((zr P 24 (tD j) 0).1 = 0) := Lib.hid z1a
      have HZB : Hid ((zr P 24 (tD j) 0).2.1.wt = 0) := Lib.hid z1b
      have HZC : Hid ((pv P (zr P 24 (tD j) 0).2.1 (tD j) 24 0).1 = true) := Lib.hid z1c
      have HJN := Lib.hid hjn
      have HZR := Lib.hid hz
      clear hCr hCd hR hid3 z1a z1b z1c hjn hz
      go_upto_region 6 with (first
        | (with_reducible refine wpList_load_mid rfl _ (.tmp 40) rfl gd0 (j * 31) rfl [.int .i64 0, .int .i64 1, .int .i64 (1 + (j : Int))] _ HG0.out Tryd.underlying28 rfl HII.out ?_)
        | (go_at_call 14; (with_reducible refine (HOF.out _).mono ?_); rintro e w3 ⟨rfl, hb⟩; have HB3 := Lib.hid hb; clear hb)
        | (refine wpList_store_arr rfl _ (.tmp 13) (.tmp 42) rfl w3.heap.size 0 5 31 _ [.int .i64 3, .int .i64 0, .int .i64 1, .int .i64 (1 + (j : Int)), .slice none 0 0] [.int .i64 0, .int .i64 0, .int .i64 0, .int .i64 0, .slice none 0 0] rfl rfl rfl (t5_new w3 0 0 0 0 none 0 0) (show 0 + 5 ≤ 5 by omega) info_typesz (List.all_eq_true.mp (by rfl)) ?_; intro w4 f o; rw [setAll_all [.int .i64 0, .int .i64 0, .int .i64 0, .int .i64 0, .slice none 0 0] [.int .i64 3, .int .i64 0, .int .i64 1, .int .i64 (1 + (j : Int)), .slice none 0 0] rfl] at f; have HF4 := Lib.hid f; have HO4 := Lib.hid (later HB3.out ((new_later w3 (.cells #[.int .i64 0, .int .i64 0, .int .i64 0, .int .i64 0, .slice none 0 0] 31)).trans (o.bel.mono (Nat.le_refl _)))); clear f o))
      have HZ4 := Lib.hid (HZR.out.later HO4.out)
      generalize w3.heap.size = gT at HF4 ⊢
      clear HG0 HII HOF HB3 HO4 HZR x1
      have HTD : Hid (∀ W, TyAt W (tD j) (.agg #[.int .i64 3, .int .i64 0, .int .i64 1, .int .i64 (1 + (j : Int)), .slice none 0 0])) := Lib.hid fun W => tD_at W j (by have := HS.out.len; have := HJN.out; omega)
      have HZER : Hid (∀ W, Below w4.heap.size w4 W → Calls Tryd.prog 34 #[.agg #[mv, .slice (some ⟨gd0, 0, none⟩) n cap], .agg #[.int .i64 3, .int .i64 0, .int .i64 1, .int .i64 (1 + (j : Int)), .slice none 0 0]] W (ZeroRes 0 (zr P 24 (tD j) 0).2.1 W)) := Lib.hid fun W h => by
        have := zero_any P (tD j) W _ _ ((HZ4.out.later h).hR.pr) (HTD.out W) (HZ4.out.later h).hk
        rwa [HZA.out] at this
      have HVAL : Hid (∀ W v, Below w4.heap.size w4 W → TrAt W (zr P 24 (tD j) 0).2.1 v → Calls Tryd.prog 25 #[.agg #[mv, .slice (some ⟨gd0, 0, none⟩) n cap], .agg #[.int .i64 3, .int .i64 0, .int .i64 1, .int .i64 (1 + (j : Int)), .slice none 0 0], v] W (BRes true W)) := Lib.hid fun W v h hv => by
        have := valid_any P (tD j) _ W v _ _ ((HZ4.out.later h).hR.pr) (HTD.out W) hv (HZ4.out.later h).hk
        rwa [HZC.out] at this
      have HWT : Hid (∀ W v, TrAt W (zr P 24 (tD j) 0).2.1 v → Calls Tryd.prog 30 #[v] W (NumRes 0 W)) := Lib.hid fun W v hv => by
        have := weight_any _ _ (Nat.le_refl _) W v hv
        rwa [HZB.out] at this
      have HVL : Hid (∀ W, Below w4.heap.size w4 W → Calls Tryd.prog 23 #[.agg #[mv, .slice (some ⟨gd0, 0, none⟩) n cap], .agg #[.int .i64 3, .int .i64 0, .int .i64 1, .int .i64 (1 + (j : Int)), .slice none 0 0], .slice A1 l1 c1] W (VVal P (tD j) W)) := Lib.hid fun W h => Value_any P HS.out z1 j HJN.out W _ _ A1 l1 c1 ((HZ4.out.later h).hR.pr) (HTD.out W) (HN1.out.later (HZ4.out.later h).hb)
      have HXR := Lib.hid HZ4.out.hx.range
      have HFR := Lib.hid HF4.out.range
      have HIP : Hid ((Tryd.prog.info? 26).map (·.size) = some ([mv, .slice (some ⟨gd0, 0, none⟩) n cap] : List Value).length) := Lib.hid info_prog
      have HIT : Hid ((Tryd.prog.info? 31).map (·.size) = some ([.int .i64 3, .int .i64 0, .int .i64 1, .int .i64 (1 + (j : Int)), .slice none 0 0] : List Value).length) := Lib.hid info_typesz
      generalize (zr P 24 (tD j) 0).2.1 = X at HZER HVAL HWT
      clear HZA HZB HZC
      go_upto_region 7 with (first
        | (with_reducible refine wpList_load_mid rfl _ (.tmp 11) rfl gx 0 rfl [mv, .slice (some ⟨gd0, 0, none⟩) n cap] _ HXR.out Tryd.underlying26 rfl HIP.out ?_)
        | (with_reducible refine wpList_load_mid rfl _ (.tmp 13) rfl gT 0 rfl [.int .i64 3, .int .i64 0, .int .i64 1, .int .i64 (1 + (j : Int)), .slice none 0 0] _ HFR.out Tryd.underlying31 rfl HIT.out ?_)
        | (go_at_call 34; (with_reducible refine (HZER.out _ (Below.refl _ _)).mono ?_); rintro e w5 ⟨xk, xn, xA, xl, xc, rfl, hTX, hb⟩; have HTX := Lib.hid hTX.at_; have HB5 := Lib.hid hb; clear hTX hb)
        | (refine wpList_store_arr rfl _ (.tmp 14) (.tmp 47) rfl w5.heap.size 0 3 53 _ [.int .i64 xk, .int .i64 xn, .slice xA xl xc] zc3 rfl rfl rfl (Arr.new' w5 _ _ 3 zc3 rfl rfl (by decide)) (show 0 + 3 ≤ 3 by omega) info_val (List.all_eq_true.mp (by rfl)) ?_; intro w6 f o; rw [setAll_all zc3 [.int .i64 xk, .int .i64 xn, .slice xA xl xc] rfl] at f; have HF6 := Lib.hid f; have HO6 := Lib.hid ((new_later w5 (.cells zc3.toArray 53)).trans (o.bel.mono (Nat.le_refl _))); clear f o))
      have HB6 := Lib.hid (later HB5.out HO6.out)
      have HT6 := Lib.hid (HTX.out.later HO6.out)
      have HV6 := Lib.hid HF6.out.range
      have HA4 := Lib.hid (HF4.out.later HB6.out)
      have HZ6 := Lib.hid (HZ4.out.later HB6.out)
      generalize w5.heap.size = gv at HV6 HF6 ⊢
      clear HXR HFR HF4 HTX HB5 HO6 HZER HV6 HIP HIT
      refine vzreg7 (by kernel_rfl) _ _ gx gT gv gd0 n cap j mv (.slice A1 l1 c1) xk xn xA xl xc rfl rfl rfl rfl rfl rfl HZ6.out.hx HA4.out HF6.out (fun W h => HWT.out W _ (HT6.out.later h)) (fun W h => HVAL.out W _ (later HB6.out h) (HT6.out.later h)) (fun W h => (HVL.out W (later HB6.out h)).mono (by
        rintro e w' ⟨y, yk, yn, yA, yl, yc, rfl, hTy, hfy, hb⟩
        exact ⟨y, yk, yn, yA, yl, yc, rfl, hTy, HS.out.wt_pos hfy, hb⟩)) ?_
      intro vs7 w7 hs7 hb7 a7 ha7
      simp only [vzD7, List.cons_append, List.nil_append, List.foldl_cons, List.foldl_nil, Act.put, List.setIfInBounds_toArray, List.set_cons_succ, List.set_cons_zero, hs7] at ha7
      subst ha7
      have HB10 := Lib.hid (later HB6.out hb7)
      clear hs7 hb7 HVL HVAL HWT
      go_wp2_with fail
      go_roundw
      case rel => exact ⟨j + 1, by omega, by go_num, HZ4.out.later HB10.out⟩
      case measure => simp [intOf]; omega
    · have hji : ¬ (j : Int) < (n : Int) := by omega
      have HZ9 := Lib.hid hz
      have HFW := Lib.hid (few_any P2 wr _ (HP2.out.later hz.hb))
      have HPCR : Hid (wr.rangeAt w.heap.size 0 [mv2, .slice A2 n2 cap2]) := Lib.hid (by have := hz.hp.range; rwa [← HPC.out] at this)
      have HIP2 : Hid ((Tryd.prog.info? 26).map (·.size) = some ([mv2, .slice A2 n2 cap2] : List Value).length) := Lib.hid info_prog
      clear hz
      go_upto_region 10 with (first
        | (with_reducible refine wpList_load_mid rfl _ (.tmp 7) rfl w.heap.size 0 rfl [mv2, .slice A2 n2 cap2] _ HPCR.out Tryd.underlying26 rfl HIP2.out ?_)
        | (go_at_call 11; (with_reducible refine HFW.out.mono ?_); rintro e w1 ⟨P5, v5, rfl, hP5, hb5⟩; have HP5a := Lib.hid hP5; have HB5 := Lib.hid hb5; obtain ⟨mv5, A5, cap5, rfl, hm5, hd5⟩ := hP5; have HM5 := Lib.hid hm5.1; clear hb5 hm5 hd5)
        | (refine wpList_store_arr rfl _ (.tmp 16) (.tmp 72) rfl w1.heap.size 0 2 26 _ [mv5, .slice A5 P5.length cap5] [.slice none 0 0, .slice none 0 0] rfl rfl rfl (p2_new w1 _ _) (show 0 + 2 ≤ 2 by omega) info_prog (by intro v hv; simp at hv; rcases hv with rfl | rfl; exact HM5.out; rfl) ?_; intro w2 f2 o2; rw [setAll_all [.slice none 0 0, .slice none 0 0] [mv5, .slice A5 P5.length cap5] rfl] at f2; have HX2 := Lib.hid f2; have HO2 := Lib.hid ((new_later w1 _).trans (o2.bel.mono (Nat.le_refl _))); clear f2 o2))
      have HB9 := Lib.hid (later HB5.out HO2.out)
      have HZ10 := Lib.hid (HZ9.out.later HB9.out)
      have HP10 := Lib.hid (HP5a.out.later HO2.out)
      obtain ⟨n5, hn5⟩ : ∃ n5, P5.length = n5 := ⟨_, rfl⟩
      rw [hn5] at HX2 HP10 ⊢
      generalize w1.heap.size = g5 at HX2 ⊢
      have HX10 := HX2
      clear HFW HPCR HIP2 HP5a HO2 HB5 HB9 HZ9 HM5 x1 HX2
      have HIP5 : Hid ((Tryd.prog.info? 26).map (·.size) = some ([mv5, .slice A5 n5 cap5] : List Value).length) := Lib.hid info_prog
      have HIT : Hid ((Tryd.prog.info? 31).map (·.size) = some ([.int .i64 k3, .int .i64 s3, .int .i64 q3, .int .i64 i3, .slice B3 ln3 cp3] : List Value).length) := Lib.hid info_typesz
      have HTR10 : Hid (w2.rangeAt (w.heap.size + 1) 0 [.int .i64 k3, .int .i64 s3, .int .i64 q3, .int .i64 i3, .slice B3 ln3 cp3]) := Lib.hid (by have := HZ10.out.ht.range; rwa [← HTC.out] at this)
      obtain ⟨er, X, hEX⟩ : ∃ er X, (zr P5 24 t3 0).1 = er ∧ (zr P5 24 t3 0).2.1 = X := ⟨_, _, rfl, rfl⟩
      have HS10 : Hid (gx ≤ w2.heap.size) := Lib.hid (Nat.le_of_lt HZ10.out.hx.lt)
      have HZE10 : Hid (Calls Tryd.prog 34 #[.agg #[mv5, .slice A5 n5 cap5], .agg #[.int .i64 k3, .int .i64 s3, .int .i64 q3, .int .i64 i3, .slice B3 ln3 cp3]] w2 (ZeroRes er X w2)) := Lib.hid (by
        have := zero_any P5 t3 w2 _ _ HP10.out (HT3.out.later HZ10.out.hb) HZ10.out.hk
        rwa [hEX.1, hEX.2] at this)
      have HEX := Lib.hid hEX
      clear hEX
      go_upto_region 11 with (first
        | (with_reducible refine wpList_load_mid rfl _ (.tmp 16) rfl g5 0 rfl [mv5, .slice A5 n5 cap5] _ HX10.out.range Tryd.underlying26 rfl HIP5.out ?_)
        | (with_reducible refine wpList_load_mid rfl _ (.tmp 8) rfl (w.heap.size + 1) 0 rfl [.int .i64 k3, .int .i64 s3, .int .i64 q3, .int .i64 i3, .slice B3 ln3 cp3] _ HTR10.out Tryd.underlying31 rfl HIT.out ?_)
        | (go_at_call 34; (with_reducible refine (HZE10.out).mono ?_); rintro e w1 ⟨ak, an, aA, al, ac, rfl, hTX, hb⟩; have HTF := Lib.hid hTX; have HB5 := Lib.hid hb; clear hTX hb)
        | (refine wpList_store_arr rfl _ (.tmp 17) (.tmp 77) rfl w1.heap.size 0 3 53 _ [.int .i64 ak, .int .i64 an, .slice aA al ac] zc3 rfl rfl rfl (Arr.new' w1 _ _ 3 zc3 rfl rfl (by decide)) (show 0 + 3 ≤ 3 by omega) info_val (List.all_eq_true.mp (by rfl)) ?_; intro w3 f o; rw [setAll_all zc3 [.int .i64 ak, .int .i64 an, .slice aA al ac] rfl] at f; have HVa := Lib.hid f; have HO6 := Lib.hid ((new_later w1 (.cells zc3.toArray 53)).trans (o.bel.mono (Nat.le_refl _))); clear f o))
      have HB6a := Lib.hid (later HB5.out HO6.out)
      have HTa : Hid (TrF (gx ≤ ·) w3 X (.agg #[.int .i64 ak, .int .i64 an, .slice aA al ac])) := Lib.hid ((TrF.both HTF.out HTF.out.at_.old).keep (fun g h => Nat.le_trans HS10.out h.1) (fun g h _ => HO6.out.block g h.2))
      have HGa : Hid (gx ≤ w1.heap.size) := Lib.hid (Nat.le_trans HS10.out HB5.out.size)
      generalize w1.heap.size = ga at HVa HGa ⊢
      clear HTF HB5 HO6
      have HZ11 := Lib.hid (HZ10.out.later HB6a.out)
      have HX11 := Lib.hid (HX10.out.later HB6a.out)
      have HTR11 := Lib.hid (range_below HTR10.out HB6a.out)
      have HS11 : Hid (gx ≤ w3.heap.size) := Lib.hid (Nat.le_of_lt HZ11.out.hx.lt)
      have HZE11 : Hid (Calls Tryd.prog 35 #[.agg #[mv5, .slice A5 n5 cap5], .agg #[.int .i64 k3, .int .i64 s3, .int .i64 q3, .int .i64 i3, .slice B3 ln3 cp3]] w3 (ZeroRes er X w3)) := Lib.hid (by
        have := rZero_any P5 t3 w3 _ _ (HP10.out.later HB6a.out) (HT3.out.later HZ11.out.hb)
        rwa [HEX.out.1, HEX.out.2] at this)
      clear HZ10 HX10 HTR10 HS10 HZE10 HP10 HEX
      go_upto_region 12 with (first
        | (with_reducible refine wpList_load_mid rfl _ (.tmp 16) rfl g5 0 rfl [mv5, .slice A5 n5 cap5] _ HX11.out.range Tryd.underlying26 rfl HIP5.out ?_)
        | (with_reducible refine wpList_load_mid rfl _ (.tmp 8) rfl (w.heap.size + 1) 0 rfl [.int .i64 k3, .int .i64 s3, .int .i64 q3, .int .i64 i3, .slice B3 ln3 cp3] _ HTR11.out Tryd.underlying31 rfl HIT.out ?_)
        | (go_at_call 35; (with_reducible refine (HZE11.out).mono ?_); rintro e w1 ⟨bk, bn, bA, bl, bc, rfl, hTX, hb⟩; have HTF := Lib.hid hTX; have HB5 := Lib.hid hb; clear hTX hb)
        | (refine wpList_store_arr rfl _ (.tmp 19) (.tmp 83) rfl w1.heap.size 0 3 53 _ [.int .i64 bk, .int .i64 bn, .slice bA bl bc] zc3 rfl rfl rfl (Arr.new' w1 _ _ 3 zc3 rfl rfl (by decide)) (show 0 + 3 ≤ 3 by omega) info_val (List.all_eq_true.mp (by rfl)) ?_; intro w4 f o; rw [setAll_all zc3 [.int .i64 bk, .int .i64 bn, .slice bA bl bc] rfl] at f; have HVb := Lib.hid f; have HO6 := Lib.hid ((new_later w1 (.cells zc3.toArray 53)).trans (o.bel.mono (Nat.le_refl _))); clear f o))
      have HB6b := Lib.hid (later HB5.out HO6.out)
      have HTb : Hid (TrF (gx ≤ ·) w4 X (.agg #[.int .i64 bk, .int .i64 bn, .slice bA bl bc])) := Lib.hid ((TrF.both HTF.out HTF.out.at_.old).keep (fun g h => Nat.le_trans HS11.out h.1) (fun g h _ => HO6.out.block g h.2))
      have HGb : Hid (gx ≤ w1.heap.size) := Lib.hid (Nat.le_trans HS11.out HB5.out.size)
      generalize w1.heap.size = gb at HVb HGb ⊢
      clear HTF HB5 HO6
      have HZ12 := Lib.hid (HZ11.out.later HB6b.out)
      have HTa2 : Hid (TrF (gx ≤ ·) w4 X (.agg #[.int .i64 ak, .int .i64 an, .slice aA al ac])) := Lib.hid ((TrF.both HTa.out HTa.out.at_.old).keep (fun g h => h.1) (fun g h _ => HB6b.out.block g h.2))
      have HVa2 := Lib.hid (HVa.out.later HB6b.out)
      clear HZ11 HX11 HTR11 HS11 HZE11 HB6a HB6b HTa HVa HIP5 HIT
      have x2 := HZ12.out.hx.cell (j := 1) (v := .slice (some ⟨gd0, 0, none⟩) n cap) rfl
      have hn0 : 0 < n := by have := HS.out.len; have := HZ12.out.hR.hn; omega
      have HAR : Hid (∀ W, Calls Tryd.prog 12 #[.int .i64 turn, .int .i64 (n : Int)] W fun e w' => e = .returned (.int .i64 ((ar turn n : Nat) : Int)) ∧ w' = W) := Lib.hid fun W => Around_any turn n hn0 (by omega) HTU.out W
      have hkn := ar_lt turn n hn0
      generalize ar turn n = k at HAR hkn
      go_upto_region 14 with (go_at_call 12; (with_reducible refine (HAR.out _).mono ?_); rintro e w5 ⟨rfl, hw5⟩; rw [hw5]; clear hw5)
      have hkP : k < P.length := by rw [← HZ12.out.hR.hn]; exact hkn
      obtain ⟨d, hd⟩ : ∃ d, P[k]? = some d := ⟨_, List.getElem?_eq_getElem hkP⟩
      obtain ⟨C, hC⟩ : ∃ C, L[k]? = some C := ⟨_, List.getElem?_eq_getElem (by rw [HZ12.out.hR.hl]; exact hkn)⟩
      have hdf : DfAt w4 d C := (HZ12.out.hR.hf k d C hd hC).now
      obtain ⟨sn, hsn⟩ : ∃ sn, d.slots.length = sn := ⟨_, rfl⟩
      have hsl := HS.out.slt k d hd
      rw [hsn] at hsl
      obtain ⟨SA, sc, h8, hS8⟩ := df8 hdf rfl hsn
      obtain ⟨SA', sc', e8, hm8, hel⟩ := hS8
      obtain ⟨rfl, -, rfl⟩ : SA = SA' ∧ sn = d.slots.length ∧ sc = sc' := by simpa using e8
      clear e8
      obtain ⟨gs, os, C0, hA0, -⟩ := hel 0 _ (List.getElem?_eq_getElem (by omega))
      subst hA0
      obtain ⟨Ds, hDl, hDs⟩ := sls_list (w := w4) (g := gs) (o := os) d.slots 0 (fun j x hx => by
        obtain ⟨g', o', C', hA, h1, h2⟩ := hel j x hx
        cases hA
        exact ⟨C', by rw [Nat.zero_add]; exact h1, h2⟩)
      have hD11 : ∀ D ∈ Ds, D.length = 11 := by
        intro D hD
        obtain ⟨i, hi⟩ := List.getElem?_of_mem hD
        have hil : i < d.slots.length := by have := (List.getElem?_eq_some_iff.1 hi).1; omega
        exact (hDs i _ D (List.getElem?_eq_getElem hil) hi).1.len
      have hDlen : Ds.flatten.length = sn * 11 := by
        have : ∀ (M : List (List Value)), (∀ C ∈ M, C.length = 11) → M.flatten.length = M.length * 11 := by
          intro M
          induction M with
          | nil => intro _; simp
          | cons D M ih => intro h; rw [List.flatten_cons, List.length_append, ih (fun C hC => h C (by simp [hC])), h D (by simp), List.length_cons]; omega
        rw [this Ds hD11, hDl, hsn]
      have hDc : ∀ u ∈ Ds.flatten, u.oneCell' = true := by
        intro u hu
        obtain ⟨D, hD, hu⟩ := List.mem_flatten.1 hu
        obtain ⟨i, hi⟩ := List.getElem?_of_mem hD
        have hil : i < d.slots.length := by have := (List.getElem?_eq_some_iff.1 hi).1; omega
        exact (hDs i _ D (List.getElem?_eq_getElem hil) hi).1.cells u hu
      have hrng : w4.rangeAt gs os Ds.flatten := flat_range (by decide) hD11 (fun i D hi => by
        have hil : i < d.slots.length := by have := (List.getElem?_eq_some_iff.1 hi).1; omega
        have := (hDs i _ D (List.getElem?_eq_getElem hil) hi).2
        rwa [Nat.zero_add] at this)
      have hflat : L.flatten[k * 31 + 8]? = some (.slice (some ⟨gs, os, none⟩) sn sc) := flat_at 31 L HZ12.out.hR.hL k C hC 8 _ h8
      have hcc : ∀ (W : World) (R : List Value) (B' : Nat), W.ownsRow B' 46 31 (.slice (some ⟨gd0, 0, none⟩) n cap) n R → ∀ i v, R[i]? = some v → W.cell? ⟨gd0, i, none⟩ = some v := fun W R B' h i v hv => by
        have h2 := h.cells (g := gd0) rfl _ _ hv
        have ha : (⟨gd0, 0, none⟩ : Addr).add i = ⟨gd0, 0 + i, none⟩ := by unfold Addr.add; split <;> simp_all
        rw [ha, Nat.zero_add] at h2
        exact h2
      have hgdw : gd0 < w4.heap.size := (HZ12.out.hR.hr.lt gd0 rfl).2
      have hki : (k : Int) < (n : Int) := by omega
      have hk0 : (0 : Int) ≤ (k : Int) := by omega
      refine vzreg14 (by kernel_rfl) _ _ gx gd0 n cap k gs os sn sc B mv Ds.flatten L.flatten rfl rfl rfl rfl HZ12.out.hx HZ12.out.hR.hr hgdw (hcc _ _ _ HZ12.out.hR.hr _ _ hflat) hrng hDlen hDc ⟨by omega, hsl.2.1⟩ hki hk0 ?_
      intro vs14 w5 gN capN hgN hr5 hs5 hb5 he5 a14 ha14
      simp only [vzD14, List.cons_append, List.nil_append, List.foldl_cons, List.foldl_nil, Act.put, List.setIfInBounds_toArray, List.set_cons_succ, List.set_cons_zero] at ha14
      subst ha14
      have hgx := HGX.out
      have hgxw := HZ12.out.hx.lt
      have hx5 : Arr w5 gx 2 26 [mv, .slice (some ⟨gd0, 0, none⟩) n cap] := arr_same HZ12.out.hx (he5 gx hgxw (by omega))
      have hlf : k * 31 + 8 < L.flatten.length := (List.getElem?_eq_some_iff.1 hflat).1
      have hc5 := hcc _ _ _ hr5 (k * 31 + 8) _ (List.getElem?_set_self hlf)
      have h4r : i64r (turn.tdiv 4) := tdiv_i64 4 (by decide) HTU.out
      have h16r : i64r (turn.tdiv 16) := tdiv_i64 16 (by decide) HTU.out
      have HSN := Lib.hid hsn
      clear hsn
      go_upto_region 15 with fail
      refine vzreg15 (by kernel_rfl) _ _ gx gd0 n cap k gN sn capN _ mv Ds.flatten turn rfl rfl rfl rfl hx5 (Nat.lt_of_lt_of_le hgdw hb5.size) (hs5.lt gN rfl).2 hc5 hs5 ⟨by omega, hsl.2.1⟩ hki hk0 HTU.out h4r h16r ?_
      have hsd : gd0 ≠ gN := by omega
      intro vs15 w6 hr6 hb6 he6 a15 ha15
      simp only [vzD15, List.cons_append, List.nil_append, List.foldl_cons, List.foldl_nil, Act.put, List.setIfInBounds_toArray, List.set_cons_succ, List.set_cons_zero] at ha15
      subst ha15
      have hsz5 := hb5.size
      have hB0 : Below 0 w4 w6 := hb5.trans hb6
      have hsame : ∀ b, b < w4.heap.size → b ≠ gd0 → w6.heap[b]? = w4.heap[b]? := fun b hb hne => (he6 b (Nat.lt_of_lt_of_le hb hsz5) (by omega)).trans (he5 b hb hne)
      have HBW : Hid (Below w.heap.size w w6) := Lib.hid (HZ12.out.hb.trans ⟨hB0.os, hB0.tape, hB0.output, hB0.size, fun b hb => hsame b (Nat.lt_of_lt_of_le hb HZ12.out.hb.size) (by omega)⟩)
      have hrd6 := own_same hr5 (he6 gd0 (Nat.lt_of_lt_of_le hgdw hsz5) hsd)
      have htl := ar_lt (turn.tdiv 4) sn (by omega)
      have hq5 := ar_lt (turn.tdiv 16) 5 (by decide)
      generalize ar (turn.tdiv 4) sn = tt at hr6 htl
      generalize ar (turn.tdiv 16) 5 = q at hr6 hq5
      obtain ⟨x, hx⟩ : ∃ x, d.slots[tt]? = some x := ⟨_, List.getElem?_eq_getElem (by rw [HSN.out]; exact htl)⟩
      have hDf : ∀ (i : Nat) (d : Df) (C : List Value), P[i]? = some d → L[i]? = some C → DfAt w6 d C := fun i d C hd hC => HZ12.out.hR.hf i d C hd hC w6 hB0 (fun b hne hb => hsame b hb hne)
      have hcapN : sn ≤ capN ∧ capN ≤ maxLen := by
        obtain ⟨A', c', e, h1, h2, _⟩ := own_shape hr6
        obtain ⟨_, rfl⟩ : A' = some ⟨gN, 0, none⟩ ∧ capN = c' := by simp at e; exact ⟨e.1.symm, e.2⟩
        exact ⟨h1, h2⟩
      have hsN : SlsAt w6 (.slice (some ⟨gN, 0, none⟩) sn capN) (d.slots.set tt (slTy x (tD q))) := sls_new HSN.out.symm hcapN (by omega) hDl (fun i y D hy hD => by
        obtain ⟨sv, T, E, lv, hCe, _, hS6, _⟩ := hDf k d C hd hC
        have hsv : sv = .slice (some ⟨gs, os, none⟩) sn sc := by
          rw [hCe] at h8
          simpa using h8
        subst hsv
        obtain ⟨A6, c6, e6, _, hel6⟩ := hS6
        obtain ⟨rfl, _⟩ : some (⟨gs, os, none⟩ : Addr) = A6 ∧ True := by simp at e6; exact ⟨e6.1, trivial⟩
        obtain ⟨g', o', D', hA', hr', hs'⟩ := hel6 i y hy
        cases hA'
        have hDD : D' = D := by
          have hne := gs_ne (HZ12.out.hR.hf k d C hd hC) h8 (by have := HSN.out; omega)
          have h4 := (hDs i y D hy hD)
          have h4r := h4.2
          rw [Nat.zero_add] at h4r
          have h6r : w6.rangeAt gs (os + i * 11) D := range_heap h4r (fun hl => hsame gs hl hne)
          have l1 := hs'.len
          have l2 := h4.1.len
          refine List.ext_getElem? fun p => ?_
          by_cases hp : p < 11
          · have q1 := hr' p _ (List.getElem?_eq_getElem (by omega))
            have q2 := h6r p _ (List.getElem?_eq_getElem (by omega))
            rw [q1] at q2
            rw [List.getElem?_eq_getElem (by omega), List.getElem?_eq_getElem (by omega)]
            exact q2
          · rw [List.getElem?_eq_none (by omega), List.getElem?_eq_none (by omega)]
        rw [← hDD]; exact hs') hr6 htl x hx
      have hPN := pr_new HZ12.out.hR.hn HZ12.out.hR.hcap HZ12.out.hR.hm HZ12.out.hR.hl HZ12.out.hR.hL hDf hrd6 d hd _ hsN
      have HPN := Lib.hid hPN
      have HX6 : Hid (Arr w6 gx 2 26 [mv, .slice (some ⟨gd0, 0, none⟩) n cap]) := Lib.hid (arr_same HZ12.out.hx (hsame gx hgxw (by omega)))
      have keepT : ∀ v, TrF (gx ≤ ·) w4 X v → TrAt w6 X v := fun v h => ((TrF.both h h.at_.old).keep (fun g h => h.1) (fun g h _ => hsame g h.2 (by have := h.1; omega))).at_
      have HVa6 : Hid (Arr w6 ga 3 53 [.int .i64 ak, .int .i64 an, .slice aA al ac] ∧ TrAt w6 X (.agg #[.int .i64 ak, .int .i64 an, .slice aA al ac])) := Lib.hid ⟨arr_same HVa2.out (hsame ga HVa2.out.lt (by have := HGa.out; omega)), keepT _ HTa2.out⟩
      have HVb6 : Hid (Arr w6 gb 3 53 [.int .i64 bk, .int .i64 bn, .slice bA bl bc] ∧ TrAt w6 X (.agg #[.int .i64 bk, .int .i64 bn, .slice bA bl bc])) := Lib.hid ⟨arr_same HVb.out (hsame gb HVb.out.lt (by have := HGb.out; omega)), keepT _ HTb.out⟩
      have hidk := HS.out.ids k d hd
      have hkl : k < (P.set k (dfSl d (d.slots.set tt (slTy x (tD q))))).length := by rw [List.length_set]; exact hkP
      obtain ⟨C6, hC6r, hC6d⟩ := pr_get HPN.out hkl
      rw [List.getElem_set_self] at hC6d
      obtain ⟨R6, hR6⟩ := df_id hC6d
      have HI6 : Hid (w6.rangeAt gd0 (k * 31) [.int .i64 0, .int .i64 1, .int .i64 (1 + (k : Int))]) := Lib.hid (by
        rw [Nat.zero_add] at hC6r
        have e1 : (dfSl d (d.slots.set tt (slTy x (tD q)))).a = 0 := hidk.1
        have e2 : (dfSl d (d.slots.set tt (slTy x (tD q)))).b = 1 := hidk.2.1
        have e3 : (dfSl d (d.slots.set tt (slTy x (tD q)))).c = 1 + (k : Int) := hidk.2.2
        rw [e1, e2, e3] at hR6
        exact range_left (ys := R6) (by rw [← hR6]; exact hC6r))
      generalize P.set k (dfSl d (d.slots.set tt (slTy x (tD q)))) = PN at HPN
      have hk10 : k < 10 := by have := HS.out.len; omega
      obtain ⟨er2, Y, hEY⟩ : ∃ er2 Y, (zr PN 24 (tD k) 0).1 = er2 ∧ (zr PN 24 (tD k) 0).2.1 = Y := ⟨_, _, rfl, rfl⟩
      have HK6 := Lib.hid (HK0.out.later HBW.out)
      clear hPN hsN hDf hrd6 hr6 hs5 hr5 hc5 hx5 hcc hrng hDlen hDc hD11 hDs hDl hflat hlf hel h8 hdf hC6r hC6d hR6 hidk keepT hsame hB0 he6 hb6 he5 hb5
      go_upto_region 16 with fail
      refine vzreg16 (by kernel_rfl) _ _ gx gd0 n cap k mv er2 Y rfl rfl rfl HX6.out HI6.out hki hk0 (fun W h => by
        have := zero_any PN (tD k) W _ _ (HPN.out.later h) (tD_at W k hk10) (HK6.out.later h)
        rwa [hEY.1, hEY.2] at this) ?_
      intro vs16 w7 gc ck cn cA cl cc h23 h24 hgc hVc hTc hb7 a16 ha16
      simp only [vzD16, List.cons_append, List.nil_append, List.foldl_cons, List.foldl_nil, Act.put, List.setIfInBounds_toArray, List.set_cons_succ, List.set_cons_zero, h23, h24] at ha16
      subst ha16
      go_upto_region 17 with fail
      refine vzreg17 (by kernel_rfl) _ _ gx gd0 n cap k mv er2 Y rfl rfl rfl (HX6.out.later hb7) (range_below HI6.out hb7) hki hk0 (fun W h => by
        have := rZero_any PN (tD k) W _ _ ((HPN.out.later hb7).later h) (tD_at W k hk10)
        rwa [hEY.1, hEY.2] at this) ?_
      intro vs17 w8 ge dk2 dn2 dA dl2 dc2 h25 h26 hge hVd hTd hb8 a17 ha17
      simp only [vzD17, List.cons_append, List.nil_append, List.foldl_cons, List.foldl_nil, Act.put, List.setIfInBounds_toArray, List.set_cons_succ, List.set_cons_zero, h25, h26] at ha17
      subst ha17
      have hb78 := later hb7 hb8
      go_upto_region 18 with fail
      refine vzreg18 (by kernel_rfl) _ _ ga gb gc ge X Y er er2 ak an bk bn ck cn dk2 dn2 aA bA cA dA al ac bl bc cl cc dl2 dc2 rfl rfl rfl rfl rfl rfl rfl rfl rfl (HVa6.out.1.later hb78) (HVa6.out.2.later hb78) (HVb6.out.1.later hb78) (HVb6.out.2.later hb78) (hVc.later hb8) (hTc.later hb8) hVd hTd (HK6.out.later hb78) ?_
      intro vs18 w9 h10 hb9 a18 ha18
      simp only [vzD18, List.cons_append, List.nil_append, List.foldl_cons, List.foldl_nil, Act.put, List.setIfInBounds_toArray, List.set_cons_succ, List.set_cons_zero, h10] at ha18
      subst ha18
      have HEND := Lib.hid (later HBW.out (later hb78 hb9))
      clear h10 hb9
      go_wp2_with fail
      go_ret
      exact ⟨rfl, HEND.out⟩
end Go.Proofs.YtjbleefpafnhhaaDoor

namespace Go.Proofs.YtjbleefpafnhhaaDoor
open Go.ChangeShapes Go.WideShapes Go.ChangeAt Go.RowKit Go.Deep
theorem Tryd.own : ownKnob Tryd.prog.godebug = none := by kernel_rfl
theorem Tryd.laidOut : laidOutB Tryd.prog = true := by kernel_rfl
theorem rd_of_cells {w : World} {a : Addr} {xs : List Value} (h : ∀ j u, xs[j]? = some u → w.cell? (a.add j) = some u) : Rd w w.heap.size (some a) xs := by
  cases xs with
  | nil => exact Rd.nil _ _ _
  | cons x xs =>
    have h0 : w.cell? a = some x := by have := h 0 x rfl; simpa [Addr.add] using this
    have hlt := World.block_lt_of_cell? w _ h0
    obtain ⟨b, o, s⟩ := a
    have hs := World.cell?_spot h0
    simp at hs
    subst hs
    exact .inr ⟨b, o, rfl, hlt, fun j u hu => by
      have h2 := h j u hu
      have ha : (⟨b, o, none⟩ : Addr).add j = ⟨b, o + j, none⟩ := by unfold Addr.add; split <;> simp_all
      rwa [ha] at h2⟩
section
variable {H : Type} {enc : TypeId × Value → H} {w : World} {sp : Nat → Bool} {d : DataW H} {p : List MemPlace} {A : Option Addr} {len cap : Nat}
end
end Go.Proofs.YtjbleefpafnhhaaDoor

