/-
  What the machine does not run itself: as the machine has it.
-/
import Derived.Test.YtjgkocijmbepmaaGreatDoorX2
import Derived.Test.YtjgkocijmbepmaaGreatDoorE12
set_option linter.unusedVariables false
section
set_option linter.unusedVariables false
set_option linter.unusedSimpArgs false
namespace Go.Eng
open Go.RowKit Go.Proofs Go.Shelf
section
variable {GL : Nat → Option (List Dt)} {G : Gh} {Z : Zn} {w : World} {hp : List Ob}
theorem res_cells {id g : Nat} {e : TypeId} {cs cs' : List TV} {vs vs' : List Value} {r : TV} {v : Value} (hI : Inv GL G Z w (HPl hp)) (hid : hp[id]? = some (.vr e cs)) (hG : G id = some (.pointer (some ⟨g, 0, none⟩))) (hg : w.heap[g]? = some (.cells vs.toArray e (0, 0))) (hr : RepL G Z w cs' vs') (h1 : ∀ u ∈ vs', u.oneCell' = true) (hv : ∀ w', Kp Z Z w w' → Rep G Z w' r v) :
    Res G Z w hp.length (hp.set id (.vr e cs')) (2 ^ id) r G Z (w.setRow g vs'.toArray) v := by
  have hob : HPl hp id (.vr e cs) := hid
  have hnz := hI.free id _ hob
  have hlt := (List.getElem?_eq_some_iff.1 hid).1
  have hoth : ∀ b, b ≠ g → (w.setRow g vs'.toArray).heap[b]? = w.heap[b]? := fun b hb => setRow_other w g b _ hb
  have hkp : Kp Z Z w (w.setRow g vs'.toArray) := ⟨fun _ _ h => h, fun b x hz => by
    by_cases e : b = g
    · subst e
      exact absurd hz (hnz _ _ hG rfl x)
    · exact World.cell?_of_block (a := ⟨b, x, none⟩) (hoth b e)⟩
  have hlen' : (hp.set id (.vr e cs')).length = hp.length := by simp
  have hget : (hp.set id (.vr e cs'))[id]? = some (.vr e cs') := by rw [List.getElem?_set_self hlt]
  refine ⟨⟨Gle.refl G, fun _ _ h => h, hkp, below_setRow (Below.refl 0 w) (Nat.zero_le _) _, fun b hb hT => hoth b (fun e => hT id _ tt_self hG (by rw [e]; rfl)), fun id i b h1 h2 => .inr ⟨id, i, .inr rfl, h1, h2⟩, fun _ _ h => .inl h, fun b x hz => by simpa using hI.zlt b x hz⟩, hv _ hkp, ?_, ?_, ?_, ?_⟩
  · intro id' ob'' hT hob'
    have hid' := tt_one hlen' hT
    subst hid'
    rw [hget] at hob'; cases hob'
    exact ⟨g, vs', hG, setRow_heap w g _ _ e _ hg, hr.keep (Gle.refl G) hkp, h1⟩
  · intro id' ob'' hT hob'
    have hid' := tt_one hlen' hT
    subst hid'
    rw [hget] at hob'; cases hob'
    exact hnz
  · intro id1 id2 _ _ i i' b hT hT' _ _ _ _ _ _ _ _
    rw [tt_one hlen' hT, tt_one hlen' hT']
  · intro id' i' hT _
    have hid' := tt_one hlen' hT
    subst hid'
    exact ⟨_, hget⟩
theorem inv_dead {w' : World} {n : Nat} (hI : Inv GL G Z w (HPl hp)) (hn : hp.length = n) (hk : Kp Z Z w w') (hs : w.heap.size ≤ w'.heap.size) : Inv GL G Z w' (HPl (List.replicate n (.ot none))) where
  good := fun id ob h => by
    have : ob = .ot none := by
      have h : (List.replicate n (Ob.ot none))[id]? = some ob := h
      rw [List.getElem?_replicate] at h
      split at h
      · cases h; rfl
      · cases h
    subst this
    exact fun x hx => (by cases hx)
  free := fun id ob h => by
    have : ob = .ot none := by
      have h : (List.replicate n (Ob.ot none))[id]? = some ob := h
      rw [List.getElem?_replicate] at h
      split at h
      · cases h; rfl
      · cases h
    subst this
    exact fun h => (by cases h)
  dist := fun id id' ob ob' i i' b h hl => by
    have : ob = .ot none := by
      have h : (List.replicate n (Ob.ot none))[id]? = some ob := h
      rw [List.getElem?_replicate] at h
      split at h
      · cases h; rfl
      · cases h
    subst this
    cases hl
  dom := fun id i h => by
    obtain ⟨ob, ho⟩ := hI.dom id i h
    have ho : hp[id]? = some ob := ho
    have hlt := (List.getElem?_eq_some_iff.1 ho).1
    exact ⟨.ot none, show (List.replicate n (Ob.ot none))[id]? = _ by rw [List.getElem?_replicate, if_pos (by omega)]⟩
  zlt := fun g o h => Nat.lt_of_lt_of_le (hI.zlt g o h) hs
  glo := hI.glo.keep hk
theorem stp_all {w' : World} {L : List Nat} (hz : ∀ g o, Z g o → g < w.heap.size) (hk : Kp Z Z w w') (hb : Below 0 w w') (hf : ∀ b, b < w.heap.size → (∀ id i, G id = some i → blk i ≠ some b) → w'.heap[b]? = w.heap[b]?) : Stp G G Z Z w w' (TB 0) :=
  ⟨Gle.refl G, fun _ _ h => h, hk, hb, fun b hb' hn => hf b hb' fun id i h => hn id i (Nat.zero_testBit _) h, fun id i b h1 h2 => .inr ⟨id, i, .inr rfl, h1, h2⟩, fun _ _ h => .inl h, fun g o h => Nat.lt_of_lt_of_le (hz g o h) hb.size⟩
end
def isP0 : TV → Bool
  | .lf (.pointer none) => true
  | .pt 0 0 => true
  | _ => false
def b37 (args : List TV) (objs : List Ob) : Option (TV × List Ob) := match args, objs with
  | [.pt 0 0], [.vr 75 [_, .lf (.slice none 0 0)]] => some (.lf (.string ⟨⟨[]⟩⟩), [.ot none])
  | [.pt 0 0], [.vr 75 [_, .vw 1 1 0 n false], .ro 5 1 n' cs _] => if n = n' then (match u8s cs with
    | some (b :: l) => some (.lf (.string ⟨⟨b :: l⟩⟩), [.ot none, .ot none])
    | _ => none) else none
  | _, _ => none
def b59 (args : List TV) (objs : List Ob) : Option (TV × List Ob) := match args, objs with
  | [.pt 0 0], .vr 75 [a, b] :: rest => if isP0 a = true then some (.tu [], .vr 75 [.pt 0 0, b] :: rest) else none
  | _, _ => none
def b85 (args : List TV) (objs : List Ob) : Option (TV × List Ob) := match args with
  | [.lf (.string s), .lf (.int .u8 c)] => some (.lf (.int .i64 (Lib.indexByte s.data.toList c.toNat.toUInt8)), objs)
  | _ => none
set_option maxHeartbeats 400000 in
set_option maxRecDepth 100000 in
theorem slite_any (s : ByteArray) (c : Int) (w : World) :
    Calls Tryz.prog 85 #[.string s, .int .u8 c] w fun e w' => e = .returned (.int .i64 (Lib.indexByte s.data.toList c.toNat.toUInt8)) ∧ w' = w := by
  go_enter Tryz.func85, Tryz.ntmps85
  go_wp2
  rw [run_callFunc_extern Tryz.func111 (by kernel_rfl) (by kernel_rfl) (by kernel_rfl) (e := Extern.BytealgIndexByte.indexByte) (by kernel_rfl), Lib.run_indexByteString]
  simp only [Result.andThen]
  rw [Oper.upon_value]
  go_wp2
  go_ret
  exact ⟨rfl, rfl⟩
section
variable {GL : Nat → Option (List Dt)} {G : Gh} {Z : Zn} {w : World} {args : List TV} {hp hp' : List Ob} {r : TV} {vs : List Value}
theorem es85 {bn : Nat} (h : b85 args hp = some (r, hp')) (hI : Inv GL G Z w (HPl hp)) (hr : RepL G Z w args vs) : Calls Tryz.prog 85 vs.toArray w fun e w' => ∃ v G' Z', e = .returned v ∧ Stp G G' Z Z' w w' (TB bn) ∧ Inv GL G' Z' w' (HPl hp') ∧ Rep G' Z' w' r v := by
  unfold b85 at h
  split at h
  · rename_i s c
    cases h
    obtain ⟨v1, vs1, rfl, h1, h2⟩ := repl_cons.1 hr
    obtain ⟨v2, vs2, rfl, h3, h4⟩ := repl_cons.1 h2
    rw [repl_nil.1 h4, rep_lf.1 h1, rep_lf.1 h3]
    refine es_quiet hI ((slite_any s c w).mono ?_)
    rintro e w' ⟨rfl, rfl⟩
    exact ⟨_, rfl, Below.refl _ _, rep_lf.2 rfl⟩
  · cases h
theorem es59 (h : b59 args hp = some (r, hp')) (hI : Inv GL G Z w (HPl hp)) (hr : RepL G Z w args vs) : Calls Tryz.prog 59 vs.toArray w fun e w' => ∃ v G' Z', e = .returned v ∧ Stp G G' Z Z' w w' (TB 0) ∧ Inv GL G' Z' w' (HPl hp') ∧ Rep G' Z' w' r v := by
  unfold b59 at h
  split at h
  · rename_i a b rest
    split at h
    · rename_i hp0
      cases h
      obtain ⟨v1, vs1, rfl, h1, h2⟩ := repl_cons.1 hr
      rw [repl_nil.1 h2]
      rw [Rep] at h1
      obtain ⟨g, ⟨v0, hG, hb⟩, rfl⟩ := h1
      obtain ⟨g', us, k1, k2, k3, k4⟩ := hI.good 0 _ (show (Ob.vr 75 [a, b] :: rest)[0]? = _ from rfl)
      rw [hG] at k1
      cases k1
      cases hb
      obtain ⟨ua, us1, rfl, r1, r2⟩ := repl_cons.1 k3
      obtain ⟨ub, us2, rfl, r3, r4⟩ := repl_cons.1 r2
      obtain rfl := repl_nil.1 r4
      have c0 : w.cell? ⟨g', 0, none⟩ = some ua := by rw [Lib.cell_of_heap k2]; rfl
      have hpt : Rep G Z w (.pt 0 0) (.pointer (some ⟨g', 0, none⟩)) := by rw [Rep]; exact ⟨g', ⟨_, hG, rfl⟩, rfl⟩
      unfold isP0 at hp0
      split at hp0
      · obtain rfl := rep_lf.1 r1
        refine (Any.Builder_copyCheck_fresh (P := Tryz.prog) (ρ := Tryz.lays166_ren) { Tryz.lays166 with } Tryz.Builder_Extra_166.toX72 g' w c0 (by simp [World.shape?, k2]; rfl) (by simp [World.frozen?, k2])).mono ?_
        rintro e w' ⟨rfl, rfl⟩
        have e1 : w.setCell ⟨g', 0, none⟩ (.pointer (some ⟨g', 0, none⟩)) = w.setRow g' [.pointer (some ⟨g', 0, none⟩), ub].toArray := by
          rw [setCell_eq_setRow w g' 0 _ _ _ _ k2]
          rfl
        rw [e1]
        have res := res_cells (r := .tu []) (v := .tuple #[]) (cs' := [.pt 0 0, b]) (vs' := [.pointer (some ⟨g', 0, none⟩), ub]) hI (show (Ob.vr 75 [.lf (.pointer none), b] :: rest)[0]? = _ from rfl) hG k2 (repl_cons.2 ⟨_, _, rfl, hpt, repl_cons.2 ⟨_, _, rfl, r3, repl_nil.2 rfl⟩⟩) (fun u hu => by
          simp only [List.mem_cons, List.not_mem_nil, or_false] at hu
          rcases hu with rfl | rfl
          · rfl
          · exact k4 _ (by simp)) (fun w' _ => by rw [Rep]; exact ⟨[], rfl, repl_nil.2 rfl⟩)
        have hlv : Liv (HPl (Ob.vr 75 [.lf (.pointer none), b] :: rest)) G (TT (2 ^ 0) (Ob.vr 75 [.lf (.pointer none), b] :: rest).length (Ob.vr 75 [.lf (.pointer none), b] :: rest).length) := fun id i hT hi => by
          have := tt_one rfl hT
          subst this
          exact ⟨_, rfl, rfl⟩
        exact ⟨_, G, Z, rfl, res.stp.mono fun id h => Nat.zero_testBit _, inv_full (R := 0) (W := 2 ^ 0) hI (ext_set (hp := Ob.vr 75 [.lf (.pointer none), b] :: rest) (id := 0) (ob := .vr 75 [.pt 0 0, b]) (R := 0)) hlv res, res.rep⟩
      · rw [Rep] at r1
        obtain ⟨g2, ⟨v2, hG2, hb2⟩, rfl⟩ := r1
        rw [hG] at hG2
        cases hG2
        cases hb2
        refine es_quiet hI ((Any.Builder_copyCheck_used (P := Tryz.prog) (ρ := Tryz.lays166_ren) { Tryz.lays166 with } Tryz.Builder_Extra_166.toX72 g' w c0).mono ?_)
        rintro e w' ⟨rfl, rfl⟩
        exact ⟨_, rfl, Below.refl _ _, by rw [Rep]; exact ⟨[], rfl, repl_nil.2 rfl⟩⟩
      · cases hp0
    · cases h
  · cases h
theorem es37 (h : b37 args hp = some (r, hp')) (hI : Inv GL G Z w (HPl hp)) (hr : RepL G Z w args vs) : Calls Tryz.prog 37 vs.toArray w fun e w' => ∃ v G' Z', e = .returned v ∧ Stp G G' Z Z' w w' (TB 0) ∧ Inv GL G' Z' w' (HPl hp') ∧ Rep G' Z' w' r v := by
  unfold b37 at h
  split at h
  · rename_i a
    cases h
    obtain ⟨v1, vs1, rfl, h1, h2⟩ := repl_cons.1 hr
    rw [repl_nil.1 h2]
    rw [Rep] at h1
    obtain ⟨g, ⟨v0, hG, hb⟩, rfl⟩ := h1
    obtain ⟨g', us, k1, k2, k3, k4⟩ := hI.good 0 _ (show [Ob.vr 75 [a, .lf (.slice none 0 0)]][0]? = _ from rfl)
    rw [hG] at k1
    cases k1
    cases hb
    obtain ⟨ua, us1, rfl, r1, r2⟩ := repl_cons.1 k3
    obtain ⟨ub, us2, rfl, r3, r4⟩ := repl_cons.1 r2
    obtain rfl := repl_nil.1 r4
    obtain rfl := rep_lf.1 r3
    refine (bs_nil g' ua w k2).mono ?_
    rintro e w' ⟨rfl, rfl⟩
    have hk : Kp Z Z w w.drew := ⟨fun _ _ h => h, fun _ _ _ => rfl⟩
    exact ⟨_, G, Z, rfl, stp_all (L := []) hI.zlt hk (Below.drew (Below.refl 0 w)) (fun _ _ _ => rfl), inv_dead (n := 1) hI rfl hk (Nat.le_refl _), rep_lf.2 rfl⟩
  · rename_i a n n' cs fz
    split at h
    · rename_i hn
      subst hn
      split at h
      · rename_i b l hu
        cases h
        obtain ⟨v1, vs1, rfl, h1, h2⟩ := repl_cons.1 hr
        rw [repl_nil.1 h2]
        rw [Rep] at h1
        obtain ⟨g, ⟨v0, hG, hb⟩, rfl⟩ := h1
        obtain ⟨g', us, k1, k2, k3, k4⟩ := hI.good 0 _ (show [Ob.vr 75 [a, .vw 1 1 0 n false], .ro 5 1 n cs fz][0]? = _ from rfl)
        rw [hG] at k1
        cases k1
        cases hb
        obtain ⟨ua, us1, rfl, r1, r2⟩ := repl_cons.1 k3
        obtain ⟨ub, us2, rfl, r3, r4⟩ := repl_cons.1 r2
        obtain rfl := repl_nil.1 r4
        have hob : HPl [Ob.vr 75 [a, .vw 1 1 0 n false], .ro 5 1 n cs fz] 1 (.ro 5 1 n cs fz) := rfl
        obtain ⟨A', cap', v1, cells, e1, hG1, hsl, hown, hrc, hone, hc1, hc2, _, _, hz⟩ := vw_at hI hob r3 (by omega)
        obtain ⟨hown2, hbk⟩ := hz rfl rfl
        have hcl : cells.length = n * 1 := hown.1
        have hcb := u8s_rep hu hrc
        have htk : cells.take (n * 1) = cells := List.take_of_length_le (by omega)
        rw [htk] at hown2
        have hn0 : (b :: l).length = n := by
          have : cells.length = (b :: l).length := by rw [hcb]; simp [Lib.byteCells]
          omega
        subst e1
        obtain ⟨gr, rfl⟩ : ∃ gr, A' = some ⟨gr, 0, none⟩ := by
          rcases hown2.2 with ⟨h1, h0⟩ | ⟨gr, cap2, cur, h1, _⟩
          · simp only [List.length_cons] at hn0; omega
          · cases h1; exact ⟨gr, rfl⟩
        rw [hcb] at hown2
        refine (bs_row g' gr cap' n ua (b :: l) (by simp) hn0 w k2 hown2).mono ?_
        rintro e w' ⟨rfl, rfl⟩
        have hk : Kp Z Z w (w.drew.freeze ⟨gr, 0, none⟩ n) := ⟨fun _ _ h => h, fun b x _ => cell_freeze w.drew _ _ _⟩
        have hbl : blk v1 = some gr := by rw [isSl_blk hsl, ← hbk]; rfl
        refine ⟨_, G, Z, rfl, stp_all (L := []) hI.zlt hk ?_ (fun b hb hf => ?_), inv_dead (n := 2) hI rfl hk (by rw [size_freeze]; exact Nat.le_refl _), rep_lf.2 rfl⟩
        · exact Lib.below_freeze (Below.drew (Below.refl 0 w)) (p := ⟨gr, 0, none⟩) (Nat.zero_le _) _
        · rw [heap_freeze _ _ _ _ (fun e => hf 1 v1 hG1 (by rw [hbl]; exact congrArg some e.symm))]
          rfl
      · cases h
    · cases h
  · cases h
end
end Go.Eng
end
