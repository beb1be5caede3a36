import Derived.Test.YtecfhhnmokdkiaaK
import Derived.Deep.RegionHeld3
import Derived.Deep.RegionWith
import Derived.Deep.DeepCutAuto
set_option linter.unusedVariables false
namespace Go.Proofs.Ytecfhhnmokdkiaa
open Go.RowKit

theorem run_toArr (a : Addr) (n c : Nat) (h : 16 ≤ n) (w : World) : (Instr.arrayAt 51 (.slice (some a) n c)).run Try.prog w = .ok (.pointer (some a)) w := by
  have hn : ¬ n < 16 := by omega
  simp [Instr.arrayAt, run_underlying Try.underlying51, hn]
theorem results_row2 {P : Program} {fn : Func} {p u v : Tmp} {ty : TypeId} (h : fn.results = #[.cell p ty, .tmp u, .tmp v]) (tmps : Array Value) (w : World) (g : Nat) (t : TypeId) (cs : Array Value) (fr : Nat × Nat) (d : TypeDesc)
    (hp : tmps.getD p undef = .pointer (some ⟨g, 0, none⟩)) (hg : w.heap[g]? = some (.cells cs t fr))
    (hu : P.underlying ty = some d) (hd : (match d with | .struct _ | .array _ _ => true | _ => false) = true) (hi : (P.info? ty).map (·.size) = some cs.size) :
    (results fn tmps).run P w = .ok (.tuple #[.agg cs, tmps.getD u undef, tmps.getD v undef]) w := by
  have hp' : tmps[p]?.getD undef = .pointer (some ⟨g, 0, none⟩) := by simpa using hp
  simp [results, h, hp', asAddr, run_loadVar_row w g t ty cs fr d hg hu hd hi]
theorem results_row1 {P : Program} {fn : Func} {p u : Tmp} {ty : TypeId} (h : fn.results = #[.cell p ty, .tmp u]) (tmps : Array Value) (w : World) (g : Nat) (t : TypeId) (cs : Array Value) (fr : Nat × Nat) (d : TypeDesc)
    (hp : tmps.getD p undef = .pointer (some ⟨g, 0, none⟩)) (hg : w.heap[g]? = some (.cells cs t fr))
    (hu : P.underlying ty = some d) (hd : (match d with | .struct _ | .array _ _ => true | _ => false) = true) (hi : (P.info? ty).map (·.size) = some cs.size) :
    (results fn tmps).run P w = .ok (.tuple #[.agg cs, tmps.getD u undef]) w := by
  have hp' : tmps[p]?.getD undef = .pointer (some ⟨g, 0, none⟩) := by simpa using hp
  simp [results, h, hp', asAddr, run_loadVar_row w g t ty cs fr d hg hu hd hi]
theorem bs_take (l : List Nat) (n : Nat) : (bs l).take n = bs (l.take n) := by simp [bs]

set_option maxHeartbeats 400000 in
set_option maxRecDepth 100000 in
theorem takeDig_any (b o n cap : Nat) (zs : List Nat) (w : World) (hb : b < w.heap.size) (hc : ∀ j u, (bs zs)[j]? = some u → w.cell? ⟨b, o + j, none⟩ = some u) (hn : n = zs.length) (hl : 16 ≤ n) (hcap : n ≤ cap) (hcap2 : cap ≤ maxLen) :
    Calls Try.prog 39 #[.slice (some ⟨b, o, none⟩) n cap] w fun e w' => e = .returned (.tuple #[.agg (bs (zs.take 16)).toArray, .int .i64 16, .int .i64 0]) ∧ Below w.heap.size w w' := by
  unfold maxLen at hcap2
  have hta := run_toArr ⟨b, o, none⟩ 16 cap (by omega)
  have hlen : (bs (zs.take 16)).length = 16 := by rw [bs_len, List.length_take]; omega
  have hrg : w.rangeAt b o (bs (zs.take 16)) := fun j v hv => hc j v (by rw [← bs_take, List.getElem?_take] at hv; split at hv <;> simp_all)
  generalize hD : zs.take 16 = D at hlen hrg
  have HRG := Lib.hid (show ∀ W, Below w.heap.size w W → W.rangeAt b o (bs D) from fun W hW j v hv => (hW.cell hb).trans (hrg j v hv))
  have HL := Lib.hid hlen
  clear hc hn hlen hrg hD
  go_enter Try.func39, Try.ntmps39
  go_wp2_with (first
        | (with_reducible refine wpList_load_mid rfl _ (.tmp 7) rfl b _ rfl (bs D) _ (HRG.out _ ((Below.refl _ _).alloc (Nat.le_refl _) _)) Try.underlying51 rfl (by rw [HL.out]; exact info_dig) ?_)
        | (with_reducible refine wpList_store_new rfl _ (.tmp 2) (.tmp 8) rfl rfl rfl info_dig (by simpa using HL.out) rfl (all_oneCell_toArray (bs_cell D)) ?_; intro w5 hbel5 hrow5 hsz5))
  exact bodyPost_ret (results_row2 rfl _ _ w.heap.size _ _ _ _ rfl hrow5 Try.underlying51 rfl (by simpa [bs_len] using info_dig.trans (congrArg some (by rw [← HL.out, bs_len])))) rfl ⟨rfl, hbel5⟩

theorem below_setCells {B b : Nat} {a : World} : ∀ (vs : List Value) (o : Nat) (w : World), Below B a w → B ≤ b → Below B a (w.setCells b o vs)
  | [], _, _, h, _ => h
  | v :: r, o, w, h, hb => below_setCells r (o + 1) _ (h.setCell (p := ⟨b, o, none⟩) hb v) hb
theorem size_setCells (b : Nat) : ∀ (vs : List Value) (o : Nat) (w : World), (w.setCells b o vs).heap.size = w.heap.size
  | [], _, _ => rfl
  | v :: r, o, w => by rw [World.setCells, size_setCells b r]; simp
theorem heap_setCells (b k : Nat) (hk : k ≠ b) : ∀ (vs : List Value) (o : Nat) (w : World), (w.setCells b o vs).heap[k]? = w.heap[k]?
  | [], _, _ => rfl
  | v :: r, o, w => by rw [World.setCells, heap_setCells b k hk r]; exact Below.heap_setCell _ _ _ _ hk
theorem there_row {w : World} {g n : Nat} {cs : Array Value} {t : TypeId} (h : w.heap[g]? = some (.cells cs t (0, 0))) (hn : n ≤ cs.size) : w.there g 0 n := fun j hj => by
  refine ⟨?_, frozen_of_row w g _ cs t h⟩
  rw [cell_of_row w g _ cs t _ h]
  simp; omega
theorem results_mid1 {P : Program} {fn : Func} {p u : Tmp} {ty : TypeId} (h : fn.results = #[.cell p ty, .tmp u]) (tmps : Array Value) (w : World) (g : Nat) (cs : List Value) (d : TypeDesc)
    (hp : tmps.getD p undef = .pointer (some ⟨g, 0, none⟩)) (hg : w.rangeAt g 0 cs)
    (hu : P.underlying ty = some d) (hd : d.isRow = true) (hi : (P.info? ty).map (·.size) = some cs.length) :
    (results fn tmps).run P w = .ok (.tuple #[.agg cs.toArray, tmps.getD u undef]) w := by
  have hp' : tmps[p]?.getD undef = .pointer (some ⟨g, 0, none⟩) := by simpa using hp
  simp [results, h, hp', asAddr, run_loadVar_mid w g 0 ty cs d hg hu hd hi]

theorem there_call {w w3 : World} {cs : Array Value} {t : TypeId} {n : Nat} (h : Below (w.alloc (.cells cs t)).drew.heap.size (w.alloc (.cells cs t)).drew w3) (hn : n ≤ cs.size) : w3.there w.heap.size 0 n :=
  there_row ((h.block _ (by simp)).trans (heap_alloc_new w _)) hn
theorem there_call2 {w w3 : World} {cs cs' : Array Value} {t t' : TypeId} {n : Nat} (h : Below ((w.alloc (.cells cs t)).drew.alloc (.cells cs' t')).heap.size ((w.alloc (.cells cs t)).drew.alloc (.cells cs' t')) w3) (hn : n ≤ cs.size) (hn' : n ≤ cs'.size) :
    w3.there w.heap.size 0 n ∧ w3.there (w.heap.size + 1) 0 n := by
  have hs : (w.alloc (.cells cs t)).drew.heap.size = w.heap.size + 1 := by simp
  refine ⟨there_row ((h.block _ (by simp; omega)).trans ((heap_alloc_old (w.alloc (.cells cs t)).drew _ (by simp)).trans (heap_alloc_new w _))) hn, there_row (t := t') ((h.block _ (by simp)).trans ?_) hn'⟩
  have := heap_alloc_new (w.alloc (.cells cs t)).drew (.cells cs' t')
  rw [hs] at this
  exact this
theorem there_later {w w' : World} {B b n : Nat} (h : w.there b 0 n) (hb : Below B w w') (hl : b < B) : w'.there b 0 n := fun j hj =>
  ⟨by rw [hb.cell (p := ⟨b, 0 + j, none⟩) hl]; exact (h j hj).1, by rw [hb.frozen (p := ⟨b, 0 + j, none⟩) hl]; exact (h j hj).2⟩

theorem dig_end {w wc : World} {gu : Nat} {x v : Value} (vs : List Value) (hbw : Below w.heap.size w wc) (hgu : gu < w.heap.size) (hU : wc.cell? ⟨gu, 0, none⟩ = some x) (hF : wc.frozen? ⟨gu, 0, none⟩ = false) :
    w.grownBy ((wc.setCell ⟨gu, 0, none⟩ v).setCells w.heap.size 0 vs) (some gu) ∧ ((wc.setCell ⟨gu, 0, none⟩ v).setCells w.heap.size 0 vs).cell? ⟨gu, 0, none⟩ = some v ∧ ((wc.setCell ⟨gu, 0, none⟩ v).setCells w.heap.size 0 vs).frozen? ⟨gu, 0, none⟩ = false := by
  have hb2 : Below w.heap.size (wc.setCell ⟨gu, 0, none⟩ v) ((wc.setCell ⟨gu, 0, none⟩ v).setCells w.heap.size 0 vs) := below_setCells vs 0 _ (Below.refl _ _) (Nat.le_refl _)
  refine ⟨⟨hb2.os.trans hbw.os, hb2.tape.trans hbw.tape, hb2.output.trans hbw.output, ?_, fun k hk hne => ?_⟩, ?_, ?_⟩
  · have := hb2.size; have := hbw.size; simp at *; omega
  · rw [hb2.block k hk, Below.heap_setCell _ _ _ _ (by intro e; apply hne; rw [e]), hbw.block k hk]
  · rw [hb2.cell hgu]; exact World.cell?_setCell_same _ _ _ hU
  · rw [hb2.frozen hgu]; exact (World.frozen?_setCell _ _ _ _).trans hF
/-- Behind the call: the array lies in a new variable. -/
def DigMid (w : World) (vs : List Value) (p : Value) (W : World) : Prop :=
  ∃ g, p = .pointer (some ⟨g, 0, none⟩) ∧ Below w.heap.size w W ∧ w.heap.size < g ∧ g < W.heap.size ∧ W.rangeAt g 0 vs ∧ W.there w.heap.size 0 vs.length
theorem DigMid.mk {w W : World} {vs : List Value} {g : Nat} (h1 : Below w.heap.size w W) (h2 : w.heap.size < g) (h3 : g < W.heap.size) (h4 : W.there g 0 vs.length) (h5 : W.there w.heap.size 0 vs.length) : DigMid w vs (.pointer (some ⟨g, 0, none⟩)) (W.setCells g 0 vs) :=
  ⟨g, rfl, below_setCells vs 0 W h1 (by omega), h2, by rw [size_setCells]; exact h3, World.rangeAt_setCells_same W g 0 vs h4, World.there_setCells h5 g 0 vs⟩

set_option maxHeartbeats 400000 in
set_option maxRecDepth 100000 in
theorem nextDig_any (gg gb gu m cap u : Nat) (b o : Nat) (zs : List Nat) (w : World) (hgu : gu < w.heap.size) (hm : m = zs.length) (hb : b < w.heap.size) (hc : ∀ j u, (bs zs)[j]? = some u → w.cell? ⟨b, o + j, none⟩ = some u) (hcap : m ≤ cap) (hcap2 : cap ≤ maxLen) (hu1 : 1 ≤ u) (hu : u + 16 ≤ m)
    (hG : w.cell? ⟨gg, 0, none⟩ = some (.func (.func 39) #[] #[])) (hB : w.cell? ⟨gb, 0, none⟩ = some (.slice (some ⟨b, o, none⟩) m cap)) (hU : w.cell? ⟨gu, 0, none⟩ = some (.int .i64 (u : Int))) (hF : w.frozen? ⟨gu, 0, none⟩ = false) :
    Calls Try.prog 42 #[.pointer (some ⟨gg, 0, none⟩), .pointer (some ⟨gb, 0, none⟩), .pointer (some ⟨gu, 0, none⟩)] w fun e w' => e = .returned (.tuple #[.agg (bs ((zs.drop u).take 16)).toArray, .int .i64 0]) ∧ w.grownBy w' (some gu) ∧ w'.cell? ⟨gu, 0, none⟩ = some (.int .i64 ((u : Int) + 16)) ∧ w'.frozen? ⟨gu, 0, none⟩ = false := by
  unfold maxLen at hcap2
  have hgg := World.block_lt_of_cell? w _ hG
  have hgb := World.block_lt_of_cell? w _ hB
  have htd : ∀ W, Below w.heap.size w W → Calls Try.prog 39 #[.slice (some ⟨b, o + u, none⟩) (m - u) (cap - u)] W fun e w' => e = .returned (.tuple #[.agg (bs ((zs.drop u).take 16)).toArray, .int .i64 16, .int .i64 0]) ∧ Below W.heap.size W w' := fun W hW =>
    takeDig_any b (o + u) (m - u) (cap - u) (zs.drop u) W (Nat.lt_of_lt_of_le hb hW.size) (fun j v hj => by
      rw [Nat.add_assoc]
      refine (hW.cell hb).trans (hc _ v ?_)
      rw [← hj]; simp [bs]) (by rw [List.length_drop, hm]) (by omega) (by omega) (by unfold maxLen; omega)
  generalize hD : (zs.drop u).take 16 = D at htd
  have HL : Hid ((bs D).length = 16) := by
    show (bs D).length = 16
    rw [← hD, bs_len, List.length_take, List.length_drop]; omega
  have HTD := Lib.hid htd
  have hg : ∀ W, Below w.heap.size w W → W.cell? ⟨gg, 0, none⟩ = some (.func (.func 39) #[] #[]) ∧ W.cell? ⟨gb, 0, none⟩ = some (.slice (some ⟨b, o, none⟩) m cap) ∧ W.cell? ⟨gu, 0, none⟩ = some (.int .i64 (u : Int)) ∧ W.frozen? ⟨gu, 0, none⟩ = false := fun W hW =>
    ⟨(hW.cell hgg).trans hG, (hW.cell hgb).trans hB, (hW.cell hgu).trans hU, (hW.frozen hgu).trans hF⟩
  have HGG := Lib.hid hg
  have hs := fun W hW => (⟨(hg W hW).1, (hg W hW).2.1, (hg W hW).2.2.1⟩ : W.cell? ⟨gg, 0, none⟩ = some (.func (.func 39) #[] #[]) ∧ W.cell? ⟨gb, 0, none⟩ = some (.slice (some ⟨b, o, none⟩) m cap) ∧ W.cell? ⟨gu, 0, none⟩ = some (.int .i64 (u : Int)))
  have HS := Lib.hid hs
  clear htd hg hD hc hm hs
  have hi1 : (0 : Int) ≤ (u : Int) := by omega
  have hi2 : (u : Int) ≤ (m : Int) := by omega
  have hi3 : (m : Int) ≤ (cap : Int) := by omega
  have hi4 : ¬ cap = u := by omega
  have hone := bs_cell D
  have hinf : (Try.prog.info? 51).map (·.size) = some (bs D).toArray.size := by rw [List.size_toArray, HL.out]; exact info_dig
  go_enter Try.func42, Try.ntmps42
  go_upto_region 1 with fail
  go_cut [5, 6, 7] (fun p k e W => DigMid w (bs D) p W ∧ k = .int .i64 16 ∧ e = .int .i64 0)
  case first =>
    go_region_held3 (fun W => W.cell? ⟨gg, 0, none⟩ = some (.func (.func 39) #[] #[]) ∧ W.cell? ⟨gb, 0, none⟩ = some (.slice (some ⟨b, o, none⟩) m cap) ∧ W.cell? ⟨gu, 0, none⟩ = some (.int .i64 (u : Int)))
      (first | (refine HS.out _ ?_; first | exact hbw3 | exact hbw3.alloc hsz3 _ | exact below_setCells _ _ _ (hbw3.alloc hsz3 _) hsz3 | exact below_setCells _ _ _ hbw3 (by omega) | exact (Below.refl _ _).alloc (Nat.le_refl _) _ | exact ((Below.refl _ _).alloc (Nat.le_refl _) _).drew | exact (((Below.refl _ _).alloc (Nat.le_refl _) _).drew).alloc (by simp) _))
      (first | (go_at_call 39; refine (HTD.out _ ?_).mono ?_; (first | exact ((Below.refl _ _).alloc (Nat.le_refl _) _).drew | exact (((Below.refl _ _).alloc (Nat.le_refl _) _).drew).alloc (by simp) _); rintro e w3 ⟨rfl, hbel3⟩; have hbw3 : Below w.heap.size w w3 := (by first | exact (((Below.refl _ _).alloc (Nat.le_refl _) _).drew).trans (hbel3.mono (by simp)) | exact ((((Below.refl _ _).alloc (Nat.le_refl _) _).drew).alloc (by simp) _).trans (hbel3.mono (by simp; omega))); have hsz3 := hbw3.size; (first | (have hth := there_call2 (n := (bs D).length) hbel3 (by rw [HL.out]; decide) (by rw [HL.out]; decide); have hth1 := hth.1; have hth2 := hth.2; have hsz4 : w.heap.size + 1 < w3.heap.size := (by have := hbel3.size; simp at this; omega)) | (have hth1 := there_call (n := (bs D).length) hbel3 (by rw [HL.out]; decide); have hsz4 : w.heap.size < w3.heap.size := (by have := hbel3.size; simp at this; omega); have hth2 : (w3.alloc (.cells #[.int .u8 0, .int .u8 0, .int .u8 0, .int .u8 0, .int .u8 0, .int .u8 0, .int .u8 0, .int .u8 0, .int .u8 0, .int .u8 0, .int .u8 0, .int .u8 0, .int .u8 0, .int .u8 0, .int .u8 0, .int .u8 0] 51)).there w3.heap.size 0 (bs D).length := there_row (heap_alloc_new w3 _) (by rw [HL.out]; decide))); clear hbel3))
    all_goals (go_wp2_with fail; go_meet)
    · exact ⟨DigMid.mk (hbw3.alloc hsz3 _) hsz4 (by simp) hth2 (there_later hth1 ((Below.refl _ _).alloc (Nat.le_refl _) _) hsz4), rfl, rfl⟩
    · exact ⟨DigMid.mk hbw3 (by omega) hsz4 hth2 hth1, rfl, rfl⟩
  case rest =>
    obtain ⟨⟨g, rfl, hbw, hg1, hg2, hrg, hth⟩, rfl, rfl⟩ := hcut
    have hgu3 := (HGG.out wc hbw).2.2
    have hU3 := hgu3.1
    have hF3 := hgu3.2
    have hrg2 := Lib.hid (show (wc.setCell ⟨gu, 0, none⟩ (.int .i64 ((u : Int) + 16))).rangeAt g 0 (bs D) from fun j v hv => (World.cell?_setCell_other _ _ _ _ (by intro e; have := congrArg Addr.block e; simp at this; omega)).trans (hrg j v hv))
    have hth2 := Lib.hid (show (wc.setCell ⟨gu, 0, none⟩ (.int .i64 ((u : Int) + 16))).there w.heap.size 0 (bs D).toArray.size from fun j hj => by
      have := hth j (by simpa using hj)
      refine ⟨?_, by rw [World.frozen?_setCell]; exact this.2⟩
      rw [World.cell?_setCell_other _ _ _ _ (by intro e; have := congrArg Addr.block e; simp at this; omega)]; exact this.1)
    clear hgu3 hrg hth
    go_wp2_with (first
      | (with_reducible refine wpList_load_mid rfl _ (.tmp 5) rfl g _ rfl (bs D) _ hrg2.out Try.underlying51 rfl (by rw [HL.out]; exact info_dig) ?_)
      | (with_reducible refine wpList_store_mid rfl _ (.tmp 3) (.tmp 20) rfl w.heap.size 0 _ rfl rfl hth2.out hinf (all_oneCell_toArray hone) ?_))
    refine bodyPost_ret (results_mid1 rfl _ _ w.heap.size (bs D) _ rfl ?_ Try.underlying51 rfl (by rw [HL.out]; exact info_dig)) rfl ⟨rfl, dig_end _ hbw hgu hU3 hF3⟩
    have h7 := World.rangeAt_setCells_same _ _ _ _ (show World.there _ w.heap.size 0 (bs D).length from fun j hj => hth2.out j (by simpa using hj))
    exact h7
end Go.Proofs.Ytecfhhnmokdkiaa
